package url_test

import (
	"fmt"
	"math/big"
	"regexp"
	"strings"

	"anagnost/api"
)

// The models are the words of P1201 to P1204, as forms.
var (
	ends       = regexp.MustCompile(`^[\x00-\x20]*|[\x00-\x20]*$`)
	anywhere   = regexp.MustCompile(`[\x09\x0A\x0D]`)
	schemeForm = regexp.MustCompile(`^([A-Za-z][A-Za-z0-9+.\-]*):`)
	webForm    = regexp.MustCompile(`(?s)^[/\\]*([^/\\?#:]*)(:([^/\\?#]*))?([^?#]*)(\?[^#]*)?(#.*)?$`)
	otherForm  = regexp.MustCompile(`(?s)^([^?#]*)(\?[^#]*)?(#.*)?$`)
	hostForm   = regexp.MustCompile(`^[a-z0-9\-._]{1,255}$`)
	numberEnd  = regexp.MustCompile(`(^|\.)[0-9]+$`)
	fourForm   = regexp.MustCompile(`^((\d|[1-9]\d|1\d\d|2[0-4]\d|25[0-5])(\.|$)){4}$`)
	portForm   = regexp.MustCompile(`^[0-9]*$`)
	onePoint   = regexp.MustCompile(`^(\.|%2[eE])$`)
	twoPoints  = regexp.MustCompile(`^(\.|%2[eE])(\.|%2[eE])$`)
	imageForm  = regexp.MustCompile(`^(?i:image/(gif|jpeg|png|webp))[;,]`)
)

func trimModel(s string) string {
	return anywhere.ReplaceAllLiteralString(ends.ReplaceAllLiteralString(s, ""), "")
}

func schemeModel(s string) (string, string) {
	m := schemeForm.FindStringSubmatch(s)
	if m == nil {
		return "", s
	}
	return lower(m[1]), s[len(m[0]):]
}

// lower is Folded (W1), by bytes.
func lower(s string) string {
	b := []byte(s)
	for i, c := range b {
		if strings.IndexByte("ABCDEFGHIJKLMNOPQRSTUVWXYZ", c) >= 0 {
			b[i] = c | 32
		}
	}
	return string(b)
}

func parseModel(s string) (api.Url, api.Errno) {
	u, e := api.Url{}, api.OK
	scheme, rest := schemeModel(trimModel(s))
	switch scheme {
	case "":
		return api.Url{}, api.ErrScheme
	case "http", "https":
		u, e = webModel(scheme, rest)
	default:
		m := otherForm.FindStringSubmatch(rest)
		u = api.Url{Scheme: scheme, Path: hide(m[1], ""), Query: hide(m[2], ""), Frag: hide(m[3], "")}
	}
	if e == api.OK && len(textModel(u)) > 2000 {
		e = api.ErrLong
	}
	if e != api.OK {
		return api.Url{}, e
	}
	return u, api.OK
}

func webModel(scheme, rest string) (api.Url, api.Errno) {
	m := webForm.FindStringSubmatch(rest)
	host, port := lower(m[1]), m[3]
	if !hostForm.MatchString(host) || numberEnd.MatchString(host) && !(fourForm.MatchString(host) && !strings.HasSuffix(host, ".")) {
		return api.Url{}, api.ErrHost
	}
	n, _ := new(big.Int).SetString("0"+port, 10)
	if !portForm.MatchString(port) || n.Cmp(big.NewInt(65535)) > 0 {
		return api.Url{}, api.ErrPort
	}
	u := api.Url{Scheme: scheme, Host: host, Path: hide(pathModel(m[4]), "{}"), Query: hide(m[5], "'"), Frag: hide(m[6], "")}
	u.Port = int(n.Int64())
	if scheme == "http" && u.Port == 80 || scheme == "https" && u.Port == 443 {
		u.Port = 0
	}
	return u, api.OK
}

// pathModel drops one part after the other, always the first one that is to be dropped.
func pathModel(path string) string {
	parts := strings.Split(strings.ReplaceAll(path, "\\", "/"), "/")
	if len(parts) > 1 {
		parts = parts[1:]
	}
	for i := 0; i < len(parts); i++ {
		two := twoPoints.MatchString(parts[i])
		if !two && !onePoint.MatchString(parts[i]) {
			continue
		}
		var next []string
		next = append(next, parts[:i]...)
		if two && len(next) > 0 {
			next = next[:len(next)-1]
		}
		if i == len(parts)-1 {
			next = append(next, "")
		} else {
			next = append(next, parts[i+1:]...)
		}
		parts, i = next, -1
	}
	return "/" + strings.Join(parts, "/")
}

// hide writes the bytes that the chapter names, and those of more, by their numbers.
func hide(s, more string) string {
	out := ""
	for _, c := range []byte(s) {
		if c < 33 || c > 126 || c == 34 || c == 60 || c == 62 || c == 96 || strings.IndexByte(more, c) >= 0 {
			out += fmt.Sprintf("%%%02X", c)
		} else {
			out += string(rune(c))
		}
	}
	return out
}

func textModel(u api.Url) string {
	switch {
	case u.Scheme != "http" && u.Scheme != "https":
		return fmt.Sprint(u.Scheme, ":", u.Path, u.Query, u.Frag)
	case u.Port == 0:
		return fmt.Sprint(u.Scheme, "://", u.Host, u.Path, u.Query, u.Frag)
	}
	return fmt.Sprintf("%s://%s:%d%s%s%s", u.Scheme, u.Host, u.Port, u.Path, u.Query, u.Frag)
}

func fitModel(u api.Url, use int) bool {
	switch use {
	case 1:
		return u.Scheme == "http" || u.Scheme == "https" || u.Scheme == "mailto"
	case 2:
		return u.Scheme == "http" || u.Scheme == "https" || u.Scheme == "data" && imageForm.MatchString(u.Path)
	}
	return false
}
