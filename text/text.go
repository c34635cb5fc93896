// Package text: bytes as signs. See doc/01-text.md.
package text

import "strings"

const (
	// mark is what may stand ahead of a page to tell that it is UTF-8.
	mark = "\xEF\xBB\xBF"
	// lost is the number, and lostForm the form, of the sign that stands for bytes that are none.
	lost     rune = 0xFFFD
	lostForm      = "\xEF\xBF\xBD"
)

// Decode tells b as whole signs, without the mark ahead.
func Decode(b []byte) string {
	s := strings.TrimPrefix(string(b), mark)
	var out strings.Builder
	out.Grow(len(s))
	passed := 0
	for i, r := range s {
		// Bytes behind the first of a broken sign never begin one, so range stops at each of them.
		if i < passed {
			continue
		}
		if broken(s[i:], r) {
			passed = i + begun(s[i:])
		}
		out.WriteRune(r)
	}
	return out.String()
}

// Whole tells whether s is made of whole signs alone.
func Whole(s string) bool {
	for i, r := range s {
		if broken(s[i:], r) {
			return false
		}
	}
	return true
}

// broken tells whether no whole sign stands at the beginning of s, where range found r.
// The page may have a lost sign of its own: only its form tells it from what range makes of other bytes.
func broken(s string, r rune) bool {
	return r == lost && !strings.HasPrefix(s, lostForm)
}

// begun counts the bytes of s, which begins with no whole sign, that begin one: one at least.
func begun(s string) int {
	low, high, most := behind(s[0])
	n := 1
	for n < most && n < len(s) && low <= s[n] && s[n] <= high {
		n++
		low, high = 0x80, 0xBF
	}
	return n
}

// behind tells from where to where the second byte of a sign goes whose first is c,
// and how many bytes the sign has ahead of its last.
// The second byte is where forms that are too long, halves of pairs and numbers above U+10FFFF show.
func behind(c byte) (low, high byte, most int) {
	switch {
	case c == 0xE0:
		return 0xA0, 0xBF, 2
	case c == 0xED:
		return 0x80, 0x9F, 2
	case 0xE1 <= c && c <= 0xEF:
		return 0x80, 0xBF, 2
	case c == 0xF0:
		return 0x90, 0xBF, 3
	case c == 0xF4:
		return 0x80, 0x8F, 3
	case 0xF1 <= c && c <= 0xF3:
		return 0x80, 0xBF, 3
	}
	return 0, 0, 1
}

// Lines tells s with each end of a line as one 10.
func Lines(s string) string {
	return strings.ReplaceAll(strings.ReplaceAll(s, "\r\n", "\n"), "\r", "\n")
}

// Fold tells s with A to Z as a to z.
// It goes by bytes: s may be no whole signs, and those bytes stay too.
func Fold(s string) string {
	out := []byte(s)
	for i, c := range out {
		if 'A' <= c && c <= 'Z' {
			out[i] = c - 'A' + 'a'
		}
	}
	return string(out)
}

// Blank tells whether c is a blank.
func Blank(c byte) bool {
	switch c {
	case 9, 10, 12, 13, 32:
		return true
	}
	return false
}

// Trim tells s without the blanks at both ends.
func Trim(s string) string {
	for len(s) > 0 && Blank(s[0]) {
		s = s[1:]
	}
	for len(s) > 0 && Blank(s[len(s)-1]) {
		s = s[:len(s)-1]
	}
	return s
}

// Words tells what stands between blanks.
func Words(s string) []string {
	var out []string
	from := 0
	for i := 0; i <= len(s); i++ {
		if i < len(s) && !Blank(s[i]) {
			continue
		}
		if from < i {
			out = append(out, s[from:i])
		}
		from = i + 1
	}
	return out
}

// Plain tells the Words of s, one blank between.
func Plain(s string) string {
	return strings.Join(Words(s), " ")
}
