package url_test

import (
	"fmt"
	"math"
	"math/rand"
	"strings"
	"testing"

	"anagnost/api"
	"anagnost/url"
)

// built tells all texts of at most n of the pieces.
func built(n int, pieces ...string) []string {
	out := []string{""}
	for from := 0; n > 0; n-- {
		to := len(out)
		for _, s := range out[from:to] {
			for _, p := range pieces {
				out = append(out, s+p)
			}
		}
		from = to
	}
	return out
}

// eachByte tells the texts with each byte where form has an @.
func eachByte(form string) []string {
	var out []string
	for c := range 256 {
		out = append(out, strings.ReplaceAll(form, "@", string([]byte{byte(c)})))
	}
	return out
}

func checkTrim(t *testing.T, s string) {
	t.Helper()
	if got, want := url.Trim(s), trimModel(s); got != want {
		t.Fatalf("P1201: Trim(%.99q): %.99q, not %.99q", s, got, want)
	}
}

func checkScheme(t *testing.T, s string) {
	t.Helper()
	scheme, rest := url.Scheme(s)
	if x, y := schemeModel(s); scheme != x || rest != y {
		t.Fatalf("P1201: Scheme(%.99q): %.99q, %.99q, not %.99q, %.99q", s, scheme, rest, x, y)
	}
}

// checkParse holds Parse of s, and what follows from it, against the chapter's words.
func checkParse(t *testing.T, s string) {
	t.Helper()
	u, e := url.Parse(s)
	v, f := parseModel(s)
	if u != v || e != f {
		t.Fatalf("P1202: Parse(%.300q): %.300q, %d, not %.300q, %d", s, fmt.Sprint(u), e, fmt.Sprint(v), f)
	}
	if e != api.OK {
		if u != (api.Url{}) {
			t.Fatalf("P4: Parse(%.300q): %.300q beside %d", s, fmt.Sprint(u), e)
		}
		return
	}
	full := url.Text(u)
	if want := textModel(u); full != want {
		t.Fatalf("P1203: Text(%.300q): %.300q, not %.300q", fmt.Sprint(u), full, want)
	}
	if back, e := url.Parse(full); back != u || e != api.OK {
		t.Fatalf("P1205: Parse(%.300q): %.300q, %d, not %.300q", full, fmt.Sprint(back), e, fmt.Sprint(u))
	}
	if url.Trim(full) != full || len(full) > api.MaxUrl {
		t.Fatalf("P1202: Parse(%.300q): %.300q", s, full)
	}
}

func checkFit(t *testing.T, u api.Url) {
	t.Helper()
	for _, use := range []int{math.MinInt, -1, 0, api.UseLink, api.UseImage, 3, math.MaxInt} {
		if got, want := url.Fit(u, use), fitModel(u, use); got != want {
			t.Fatalf("P1204: Fit(%.300q, %d): %v", fmt.Sprint(u), use, got)
		}
	}
}

// known holds what Parse of s tells against want: scheme, host, port, path, query, frag.
func known(t *testing.T, s, want string) {
	t.Helper()
	u, e := url.Parse(s)
	got := fmt.Sprint(u.Scheme, " ", u.Host, " ", u.Port, " ", u.Path, " ", u.Query, " ", u.Frag)
	if got != want || e != api.OK {
		t.Errorf("P1202: Parse(%.300q): %.300q, %d, not %.300q", s, got, e, want)
	}
	checkParse(t, s)
}

// wrong holds that Parse of s tells that error, and nothing beside it.
func wrong(t *testing.T, s string, want api.Errno) {
	t.Helper()
	if u, e := url.Parse(s); e != want || u != (api.Url{}) {
		t.Errorf("P1202: Parse(%.300q): %.300q, %d, not %d", s, fmt.Sprint(u), e, want)
	}
	checkParse(t, s)
}

func TestExamples(t *testing.T) {
	u, e := url.Parse("HTTP:\\\\A.b:080/x/../y")
	if got := url.Text(u); got != "http://a.b/y" || e != api.OK {
		t.Errorf("example 1: %q, %d", got, e)
	}
	wrong(t, "http://1.2/", api.ErrHost)
}

func TestP1201TrimKnown(t *testing.T) {
	for s, want := range map[string]string{
		"": "", "\x20": "", "\x00\x01\x1F\x20": "", "a": "a",
		"\x20\x00a\x0B\x1F": "a", "a b": "a b", "a\x00\x20\x0B\x0Cb": "a\x00\x20\x0B\x0Cb",
		"a\tb\nc\rd": "abcd", "\x20\ta\x20\n\x20b\r\x20": "a\x20\x20b", "\x7Fa\x7F": "\x7Fa\x7F",
		"\xC2\xA0a\xC2\xA0": "\xC2\xA0a\xC2\xA0", "\xFF\na\n\xFF": "\xFFa\xFF", "\x80\x20\x80": "\x80\x20\x80",
		"\xE2\x80\n\xA8": "\xE2\x80\xA8",
	} {
		if got := url.Trim(s); got != want {
			t.Errorf("P1201: Trim(%q): %q, not %q", s, got, want)
		}
	}
}

func TestP1201TrimAll(t *testing.T) {
	for _, form := range []string{"@", "@a", "a@", "a@a", "@@a@@a@@", "\x20@\x20", "\n@\n", "a@\x20", "\x20@a"} {
		for _, s := range eachByte(form) {
			checkTrim(t, s)
		}
	}
	for _, s := range built(6, "a", "\x20", "\n", "\x00", "\xFF") {
		checkTrim(t, s)
	}
	for _, s := range built(4, "a", "\x20", "\t", "\r", "\x1F", "!", "\x7F", "\x80", "\xEF\xBF\xBD", "\xC2\x85") {
		checkTrim(t, s)
	}
}

func TestP1201SchemeKnown(t *testing.T) {
	for _, x := range []struct{ s, scheme, rest string }{
		{"", "", ""}, {":", "", ":"}, {"a", "", "a"}, {"a:", "a", ""}, {":a", "", ":a"}, {"aZ:b:c", "az", "b:c"}, {"a1+.-:\xFFB", "a1+.-", "\xFFB"},
		{"1a:b", "", "1a:b"}, {"+a:b", "", "+a:b"}, {".:b", "", ".:b"}, {"-a:b", "", "-a:b"}, {"a b:c", "", "a b:c"}, {"a_b:c", "", "a_b:c"}, {"a/b:c", "", "a/b:c"},
		{"\x20a:b", "", "\x20a:b"}, {"a\n:b", "", "a\n:b"}, {"a:\nB ", "a", "\nB "}, {"\u00E4:b", "", "\u00E4:b"}, {"a\u212A:b", "", "a\u212A:b"}, {"a::b", "a", ":b"},
	} {
		if scheme, rest := url.Scheme(x.s); scheme != x.scheme || rest != x.rest {
			t.Errorf("P1201: Scheme(%q): %q, %q, not %q, %q", x.s, scheme, rest, x.scheme, x.rest)
		}
	}
}

func TestP1201SchemeAll(t *testing.T) {
	for _, form := range []string{"@", "@:", "@a:", "a@", "a@:", "a@b:c", "a:@", "@:@:", "a1+@"} {
		for _, s := range eachByte(form) {
			checkScheme(t, s)
		}
	}
	for _, s := range built(5, "a", "Z", "1", "+", ".", "-", ":", "/") {
		checkScheme(t, s)
	}
}

func TestP1202Schemes(t *testing.T) {
	for _, s := range []string{"", "\x20", "a", ":", ":a", "1:a", "//a", "/a:b", "?a:b", "#a:b", "a b:c", "http", "http//a", "\u00E4:b", "a\x00:b", "\x7Fa:b"} {
		wrong(t, s, api.ErrScheme)
	}
	known(t, "\x00\x20hT\ntP:a\x1F", "http a 0 /  ")
	known(t, "h\rttps://a\tb\n/c\r", "https ab 0 /c  ")
	known(t, "http+x://a/../b", "http+x  0 //a/../b  ")
	known(t, "HTTPSS:a", "httpss  0 a  ")
	known(t, "ftp://A:1/./{b}?'#c", "ftp  0 //A:1/./{b} ?' #c")
	known(t, "x:", "x  0   ")
	known(t, "x:#", "x  0   #")
	known(t, "x:?", "x  0  ? ")
	known(t, "mailto:A@b.c?subject=d e", "mailto  0 A@b.c ?subject=d%20e ")
}

func TestP1202Authority(t *testing.T) {
	for _, slashes := range []string{"", "/", "//", "\\", "\\\\", "/\\/\\/", "//////"} {
		known(t, "http:"+slashes+"a", "http a 0 /  ")
		wrong(t, "http:"+slashes, api.ErrHost)
		for _, ahead := range []string{"?", "#", ":", ":1", " /", "@"} {
			wrong(t, "https:"+slashes+ahead+"a", api.ErrHost)
		}
	}
	for _, end := range []string{"/b", "\\b", "?b", "#b", ""} {
		u, e := url.Parse("http:a" + end)
		v, f := url.Parse("http:a:1" + end)
		if e != api.OK || f != api.OK || u.Host != "a" || v.Host != "a" || v.Port != 1 {
			t.Errorf("P1202: %q: %q, %q", end, fmt.Sprint(u, e), fmt.Sprint(v, f))
		}
	}
	known(t, "http:a?b:c/d", "http a 0 / ?b:c/d ")
	known(t, "http:a#b:c/d", "http a 0 /  #b:c/d")
	wrong(t, "http://u@a/", api.ErrHost)
	wrong(t, "http://u:p@a/", api.ErrPort)
	wrong(t, "http://[::1]/", api.ErrHost)
}

func TestP1202Host(t *testing.T) {
	known(t, "http://A-z_0.9Z/", "http a-z_0.9z 0 /  ")
	known(t, "http://"+strings.Repeat("A", 255), "http "+strings.Repeat("a", 255)+" 0 /  ")
	wrong(t, "http://"+strings.Repeat("a", 256), api.ErrHost)
	for _, host := range []string{".", "..", "-", "_", "a.", "1.", "1.2.3.", "256.", "1.2.3.4.", "1.a", "0x1", "1.2.3.4a", "1-", "a.1b"} {
		known(t, "http://"+host, "http "+host+" 0 /  ")
	}
	for _, host := range []string{"a%41", "\u00E4", "a b", "a,b", "a@b", "a\x00b", "a\x7F", "a~", "a+b", "a\xFF"} {
		wrong(t, "http://"+host, api.ErrHost)
	}
	for _, form := range []string{"http://@/", "http://a@/", "http://a@b", "https://@a:1", "http:a.@"} {
		for _, s := range eachByte(form) {
			checkParse(t, s)
		}
	}
}

func TestP1202HostsByNumber(t *testing.T) {
	for _, host := range []string{"0.0.0.0", "1.2.3.4", "255.255.255.255", "10.20.30.40", "249.250.199.200", "99.100.9.10"} {
		known(t, "http://"+host+":5/", "http "+host+" 5 /  ")
	}
	for _, host := range []string{
		"0", "1", "1.2", "1.2.3", "1.2.3.4.5", "00.0.0.0", "0.0.0.00", "01.2.3.4", "1.2.3.04", "256.1.1.1", "1.1.1.256", "1.1.1.300", "1.1.1.1000",
		"1..3.4", ".1", "..1", ".1.2.3", "1...4", ".1.2.3.4", "a.1", "a.b.c.1", "1.2.3.4.5.6", "a1.2.3.4", "1.2.a.4", "1.2._.4", "1.-2.3.4", "a.0", "-.00", "99999999999999999999", "1.2.3.18446744073709551617",
		"4294967297.1.1.1",
	} {
		wrong(t, "http://"+host+"/", api.ErrHost)
	}
	for n := range 1100 {
		for _, form := range []string{"%d.0.0.1", "1.%d.2.3", "1.2.%d.3", "1.2.3.%d", "1.2.3.0%d", "%03d.1.1.1", "%d", "a.%d"} {
			checkParse(t, "http://"+fmt.Sprintf(form, n))
		}
	}
	for _, host := range built(5, "0", "1.", "25", "5", ".", "a") {
		checkParse(t, "https://"+host)
	}
}

func TestP1202Port(t *testing.T) {
	for n := range 70000 {
		for _, scheme := range []string{"http", "https"} {
			s := fmt.Sprint(scheme, "://a:", n)
			u, e := url.Parse(s)
			switch port := u.Port; {
			case n > 65535:
				if e != api.ErrPort || u != (api.Url{}) {
					t.Fatalf("P1202: Parse(%q): %d, %d", s, port, e)
				}
			case e != api.OK:
				t.Fatalf("P1202: Parse(%q): %d", s, e)
			case n == 80 && scheme == "http", n == 443 && scheme == "https":
				if port != 0 {
					t.Fatalf("P1202: Parse(%q): %d", s, port)
				}
			case port != n:
				t.Fatalf("P1202: Parse(%q): %d", s, port)
			}
		}
	}
	noughts := strings.Repeat("0", 3000)
	known(t, "http://a:"+noughts+"81/", "http a 81 /  ")
	known(t, "http://a:"+noughts+"80/", "http a 0 /  ")
	known(t, "http://a:"+noughts+"/", "http a 0 /  ")
	known(t, "http://a:/", "http a 0 /  ")
	known(t, "https://a:?:9", "https a 0 / ?:9 ")
	for _, port := range []string{
		"65536", "99999", "100000", "4294967376", "18446744073709551616", "18446744073709551696", noughts + "65536", "1" + noughts, strings.Repeat("9", 3000),
		"a", "8a", "a8", "8 8", " 8", "+8", "-1", ":", "8:", ":8", "8:8", "0x8", "8.0", "\u0668", "8\xFF", "8\x00",
	} {
		wrong(t, "http://a:"+port+"/", api.ErrPort)
	}
	for _, form := range []string{"http://a:@", "http://a:8@/", "https://a:@8", "https://a:44@3"} {
		for _, s := range eachByte(form) {
			checkParse(t, s)
		}
	}
}

func TestP1202PathKnown(t *testing.T) {
	for path, want := range map[string]string{
		"": "/", "/": "/", "//": "//", "\\": "/", "/a": "/a", "/a/": "/a/", "/a\\b/c\\": "/a/b/c/",
		"/.": "/", "/..": "/", "/./": "/", "/../": "/", "/../..": "/", "/../../a": "/a",
		"/a/.": "/a/", "/a/./": "/a/", "/a/..": "/", "/a/../": "/", "/a/b/..": "/a/", "/a/b/../": "/a/", "/a/b/.": "/a/b/",
		"/./a": "/a", "/a/./b": "/a/b", "/a/../b": "/b", "/a/b/../../c": "/c", "/a/../../b": "/b",
		"//.": "//", "//..": "/", "//../a": "/a", "/a//..": "/a/", "/a//../b": "/a/b", "/a/../..//b": "//b", "/a/b//.": "/a/b//",
		"/...": "/...", "/a.": "/a.", "/.a": "/.a", "/..a/b../..": "/..a/", "/a/. /b": "/a/.%20/b", "/a/.. /": "/a/..%20/", "/.\x00/": "/.%00/",
		"/%2e": "/", "/%2E": "/", "/a/%2e": "/a/", "/a/.%2e": "/", "/a/%2E.": "/", "/a/%2e%2E/b": "/b", "/a/%2e/b": "/a/b",
		"/%2e%2e%2e": "/%2e%2e%2e", "/a/%2": "/a/%2", "/%252e": "/%252e", "/%2f": "/%2f", "/a/%2f..": "/a/%2f..", "/a/..%2f": "/a/..%2f", "/%%2e2e": "/%%2e2e",
		"/.\n.": "/", "/a/%\t2\re": "/a/", "\\a\\..\\b\\.\\": "/b/", "/{a}'|^~": "/%7Ba%7D'|^~",
	} {
		known(t, "http://h"+path, "http h 0 "+want+"  ")
		known(t, "https://h:1"+path+"?q#f", "https h 1 "+want+" ?q #f")
	}
	// What stands at the end of all is gone before there are parts.
	known(t, "http://h/a/..\x20", "http h 0 /  ")
	known(t, "http://h/a/.\x00", "http h 0 /a/  ")
}

func TestP1202PathAll(t *testing.T) {
	for _, path := range built(5, "/", "\\", ".", "..", "%2e", "%2E", "a") {
		checkParse(t, "http://h/"+path)
	}
	for _, path := range built(6, "/", "/.", "/..", "/a") {
		checkParse(t, "http:h"+path)
		checkParse(t, "x:"+path)
	}
	for _, form := range []string{"http://h/@", "http://h/a@", "http://h/a/.@/b", "http://h/a/%2@/b", "http://h/a/%@e/b", "http://h/a/@2e", "http://h@", "x:@", "x:a@b"} {
		for _, s := range eachByte(form) {
			checkParse(t, s)
		}
	}
}

func TestP1202QueryAndFrag(t *testing.T) {
	known(t, "http:h?", "http h 0 / ? ")
	known(t, "http:h#", "http h 0 /  #")
	known(t, "http:h?#", "http h 0 / ? #")
	known(t, "http:h#?", "http h 0 /  #?")
	known(t, "http:h/a?b?c#d#e?f", "http h 0 /a ?b?c #d#e?f")
	known(t, "http:h?a\\b/../c#a\\b/../c", "http h 0 / ?a\\b/../c #a\\b/../c")
	known(t, "http:h?{'}\"<>`|#{'}\"<>`|", "http h 0 / ?{%27}%22%3C%3E%60| #{'}%22%3C%3E%60|")
	known(t, "x:{'}\"<>`|?{'}\"<>`|#{'}\"<>`|", "x  0 {'}%22%3C%3E%60| ?{'}%22%3C%3E%60| #{'}%22%3C%3E%60|")
	known(t, "http:h?a b\x00\x7F\u00E9\xFF%zz%", "http h 0 / ?a%20b%00%7F%C3%A9%FF%zz% ")
	for _, form := range []string{"http:h?@", "http:h?a@b", "http:h#@", "https:h#a@b", "x:?@", "x:?a@b", "x:#@", "x:#a@b"} {
		for _, s := range eachByte(form) {
			checkParse(t, s)
		}
	}
	for _, s := range built(5, "?", "#", "/", "a", "'", "}") {
		checkParse(t, "http:h"+s)
		checkParse(t, "x:"+s)
	}
}

func TestP1202Long(t *testing.T) {
	for _, head := range []string{"x:", "x:?", "x:#", "http://h/", "https://h:1/?", "http://h/#", "https://h/a/?b#"} {
		most := 2000 - len(head)
		if _, e := url.Parse(head + strings.Repeat("a", most)); e != api.OK {
			t.Errorf("P1202: %q and %d bytes: %d", head, most, e)
		}
		wrong(t, head+strings.Repeat("a", most+1), api.ErrLong)
		if _, e := url.Parse(head + strings.Repeat("\xFF", most/3) + strings.Repeat("a", most%3)); e != api.OK {
			t.Errorf("P1202: %q and %d bytes by their numbers: %d", head, most/3, e)
		}
		wrong(t, head+strings.Repeat("\xFF", most/3)+strings.Repeat("a", most%3+1), api.ErrLong)
	}
	// What counts is the text that is told, not what was handed in.
	host := strings.Repeat("h", 255)
	known(t, strings.Repeat("\x20", 3000)+"http:"+strings.Repeat("/", 3000)+host+":"+strings.Repeat("0", 3000)+strings.Repeat("/.", 3000)+strings.Repeat("\n", 3000)+"/a", "http "+host+" 0 /a  ")
	known(t, "http:"+host+strings.Repeat("/a", 3000)+strings.Repeat("/..", 3000), "http "+host+" 0 /  ")
	known(t, "http://h?"+strings.Repeat("a", 2000-len("http://h/?")), "http h 0 / ?"+strings.Repeat("a", 2000-len("http://h/?"))+" ")
	wrong(t, "http://h?"+strings.Repeat("a", 2001-len("http://h/?")), api.ErrLong)
	known(t, "http:h:00080/"+strings.Repeat("a", 2000-len("http://h/")), "http h 0 /"+strings.Repeat("a", 2000-len("http://h/"))+"  ")
}

func TestP6TheFirstErrorNamed(t *testing.T) {
	long := strings.Repeat("a", 3000)
	wrong(t, "1http://?:x/"+long, api.ErrScheme)
	wrong(t, "http://:x/"+long, api.ErrHost)
	wrong(t, "http://a@:99999/"+long, api.ErrHost)
	wrong(t, "http://"+long+":x/"+long, api.ErrHost)
	wrong(t, "http://a:x/"+long, api.ErrPort)
	wrong(t, "http://a:65536/"+long, api.ErrPort)
	wrong(t, "http://a:65535/"+long, api.ErrLong)
}

func TestP1202Short(t *testing.T) {
	for _, s := range built(4, "http:", "x:", "HTTPS", ":", "/", "\\", "?", "#", ".", "..", "%2e", "8", "80", "a", "\x20", "\n", "'", "{") {
		checkParse(t, s)
	}
}

// thrown tells a text of some pieces, mostly with a scheme and a host ahead.
func thrown(r *rand.Rand) string {
	heads := []string{"", "http:", "https:", "HTTP://a", "https://b.c", "http:\\\\1.2.3.4:8", "x:", "data:", "mailto:", "\x20https://a:443/", "http://a/b/c"}
	pieces := []string{"http:", "x:", "://", "/", "/", "\\", "a", "B.c", ":", "80", "443", "0", "256", "?", "#", ".", "..", "/../", "/./", "%2e", "%2E", "%", "\x20", "\"", "'", "{", "}", "<", ">", "`", "\u00E9", "\xFF", "\x00", "\n", "\t", "\r", "-", "_", "@", ",", ";", "~", "\x7F", "image/png,"}
	s := heads[r.Intn(len(heads))]
	for n := r.Intn(12); n > 0; n-- {
		s += pieces[r.Intn(len(pieces))]
	}
	return s
}

func TestP1202Thrown(t *testing.T) {
	r := rand.New(rand.NewSource(1202))
	for range 40000 {
		s := thrown(r)
		checkTrim(t, s)
		checkScheme(t, s)
		checkParse(t, s)
		if u, e := url.Parse(s); e == api.OK {
			checkFit(t, u)
		}
	}
	for range 20000 {
		b := make([]byte, r.Intn(20))
		for i := range b {
			b[i] = byte(r.Intn(256))
		}
		s := []string{"", "http:", "https://a", "http:a/", "x:"}[r.Intn(5)] + string(b)
		checkTrim(t, s)
		checkScheme(t, s)
		checkParse(t, s)
	}
}

func TestP1203Known(t *testing.T) {
	for _, x := range []struct {
		u    api.Url
		want string
	}{
		{api.Url{Scheme: "http", Host: "a", Path: "/"}, "http://a/"},
		{api.Url{Scheme: "https", Host: "a.b", Port: 80, Path: "/c", Query: "?d", Frag: "#e"}, "https://a.b:80/c?d#e"},
		{api.Url{Scheme: "http", Host: "a", Port: 65535, Path: "//", Query: "?", Frag: "#"}, "http://a:65535//?#"},
		{api.Url{Scheme: "x"}, "x:"},
		{api.Url{Scheme: "x", Path: "//a/../b", Query: "?c", Frag: "#d"}, "x://a/../b?c#d"},
		{api.Url{Scheme: "httpx", Path: "a", Frag: "#"}, "httpx:a#"},
	} {
		if got := url.Text(x.u); got != x.want {
			t.Errorf("P1203: Text(%q): %q, not %q", fmt.Sprint(x.u), got, x.want)
		}
		if u, e := url.Parse(x.want); u != x.u || e != api.OK {
			t.Errorf("P1205: Parse(%q): %q, %d", x.want, fmt.Sprint(u), e)
		}
	}
}

func TestP1204Known(t *testing.T) {
	for _, x := range []struct {
		u           api.Url
		link, image bool
	}{
		{api.Url{}, false, false}, {api.Url{Scheme: "http"}, true, true}, {api.Url{Scheme: "https", Host: "a", Path: "/"}, true, true}, {api.Url{Scheme: "mailto", Path: "a@b"}, true, false},
		{api.Url{Scheme: "mailto", Path: "image/png,"}, true, false}, {api.Url{Scheme: "ftp", Path: "image/png,"}, false, false}, {api.Url{Scheme: "javascript"}, false, false},
		{api.Url{Scheme: "httpx"}, false, false}, {api.Url{Scheme: "xhttp"}, false, false}, {api.Url{Scheme: "Http"}, false, false}, {api.Url{Scheme: "MAILTO"}, false, false}, {api.Url{Scheme: "Data", Path: "image/png,"}, false, false},
		{api.Url{Scheme: "data"}, false, false}, {api.Url{Scheme: "data", Path: "image/gif,"}, false, true}, {api.Url{Scheme: "data", Path: "image/jpeg;base64,AA"}, false, true}, {api.Url{Scheme: "data", Path: "ImaGE/pNg;"}, false, true}, {api.Url{Scheme: "data", Path: "IMAGE/WEBP,;"}, false, true},
		{api.Url{Scheme: "data", Path: "image/png"}, false, false}, {api.Url{Scheme: "data", Path: "image/png", Query: ","}, false, false}, {api.Url{Scheme: "data", Path: "image/pngx,"}, false, false}, {api.Url{Scheme: "data", Path: "image/pn,g"}, false, false}, {api.Url{Scheme: "data", Path: "image/jpg,"}, false, false},
		{api.Url{Scheme: "data", Path: "image/svg+xml,"}, false, false}, {api.Url{Scheme: "data", Path: "text/html,"}, false, false}, {api.Url{Scheme: "data", Path: "%20image/png,"}, false, false}, {api.Url{Scheme: "data", Path: ",image/png,"}, false, false}, {api.Url{Scheme: "data", Path: "image/png%20,"}, false, false}, {api.Url{Scheme: "data", Path: "image,png,"}, false, false},
	} {
		if url.Fit(x.u, api.UseLink) != x.link || url.Fit(x.u, api.UseImage) != x.image {
			t.Errorf("P1204: Fit(%q): %v, %v", fmt.Sprint(x.u), url.Fit(x.u, api.UseLink), url.Fit(x.u, api.UseImage))
		}
		checkFit(t, x.u)
	}
}

func TestP1204All(t *testing.T) {
	for _, image := range []string{"image/gif", "image/jpeg", "image/png", "image/webp"} {
		for i := range len(image) + 1 {
			for c := range 256 {
				at := string([]byte{byte(c)})
				checkFit(t, api.Url{Scheme: "data", Path: image[:i] + at + image[i:] + ";"})
				checkFit(t, api.Url{Scheme: "data", Path: image[:i] + at + image[min(i+1, len(image)):] + ","})
				checkFit(t, api.Url{Scheme: "data", Path: image[:i] + at})
			}
			checkFit(t, api.Url{Scheme: "data", Path: image[:i]})
			checkFit(t, api.Url{Scheme: "data", Path: image[:i] + ","})
		}
	}
	for _, kind := range []string{"image/svg", "image/bmp", "image/avif", "image/x-icon", "image/jpe", "image/jp2", "image/tiff", "image/*", "image/", "video/gif", "audio/webp", "png", "*/*", ""} {
		for _, behind := range []string{"", ";", ","} {
			checkFit(t, api.Url{Scheme: "data", Path: kind + behind})
		}
	}
	for _, s := range built(4, "image", "/", "png", "PNG", "gif", "webp", ";", ",") {
		checkFit(t, api.Url{Scheme: "data", Path: s})
		checkFit(t, api.Url{Scheme: "data", Path: "image/" + s})
	}
	for _, s := range built(4, "http", "s", "mail", "to", "data", "T", "x", ":") {
		checkFit(t, api.Url{Scheme: s, Path: "image/png,"})
	}
}

func TestP1AnyAddress(t *testing.T) {
	r := rand.New(rand.NewSource(1))
	pieces := []string{"", "http", "https", "data", "x", ":", "//", "\xFF", "\x00", "?", "#", "image/png"}
	some := func() string { return pieces[r.Intn(len(pieces))] + pieces[r.Intn(len(pieces))] }
	for range 20000 {
		u := api.Url{Scheme: some(), Host: some(), Port: []int{0, 1, -1, 65536, math.MinInt, math.MaxInt}[r.Intn(6)], Path: some(), Query: some(), Frag: some()}
		if a, b := url.Text(u), url.Text(u); a != b {
			t.Fatalf("P3: Text(%q): %q, %q", fmt.Sprint(u), a, b)
		}
		checkFit(t, u)
	}
}

func TestP1VeryLong(t *testing.T) {
	const n = 1 << 18
	for _, piece := range []string{"/", "/.", "/..", "/a/..", "/%2e%2e", "\\", ":", "0", "a.", "1.", "?", "#", "\n", "\x20", "\xFF", "a", "/a", "{'"} {
		for _, head := range []string{"", "http:", "http://h", "http://h/", "http://h:", "http://h/?", "http://h/#", "x:"} {
			s := head + strings.Repeat(piece, n)
			_, e := url.Parse(s)
			if _, f := url.Parse(s); e != f {
				t.Fatalf("P3: Parse of %q and %q, again and again: %d, %d", head, piece, e, f)
			}
			url.Trim(s)
			url.Scheme(s)
		}
	}
	for path, want := range map[string]string{
		"/b" + strings.Repeat("/..", n):                          "/",
		strings.Repeat("/.", n):                                  "/",
		strings.Repeat("/a", n) + strings.Repeat("/..", n-1):     "/a/",
		strings.Repeat("/a", n) + strings.Repeat("/..", n) + "b": "/a/..b",
	} {
		if u, e := url.Parse("http://h" + path); u.Path != want || e != api.OK {
			t.Errorf("P1202: %d parts, told as %q: %.99q, %d", n, want, u.Path, e)
		}
	}
}
