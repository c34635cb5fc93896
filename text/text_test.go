package text

import (
	"bytes"
	"slices"
	"strings"
	"testing"
)

// near are bytes at the edges of what may stand where in a sign, the mark's three among them.
var near = []byte{0x00, 0x0A, 0x0D, 0x20, 'A', 0x7F, 0x80, 0x8F, 0x90, 0x9F, 0xA0, 0xBB, 0xBF, 0xC0, 0xC1, 0xC2, 0xDF, 0xE0, 0xE1, 0xEC, 0xED, 0xEE, 0xEF, 0xF0, 0xF1, 0xF3, 0xF4, 0xF5, 0xFF}

// form is the UTF-8 form of n in the fewest bytes, by arithmetic.
func form(n int) string {
	tail := func(shift int) byte { return byte(0x80 | n>>shift&0x3F) }
	switch {
	case n < 0x80:
		return string([]byte{byte(n)})
	case n < 0x800:
		return string([]byte{byte(0xC0 | n>>6), tail(0)})
	case n < 0x10000:
		return string([]byte{byte(0xE0 | n>>12), tail(6), tail(0)})
	}
	return string([]byte{byte(0xF0 | n>>18), tail(12), tail(6), tail(0)})
}

// signs are the forms of all numbers that have one, and all that begins one without ending it.
func signs() (whole, part map[string]bool) {
	whole, part = map[string]bool{}, map[string]bool{}
	for n := 0; n <= 0x10FFFF; n++ {
		if 0xD800 <= n && n <= 0xDFFF {
			continue
		}
		f := form(n)
		whole[f] = true
		for k := 1; k < len(f); k++ {
			part[f[:k]] = true
		}
	}
	return whole, part
}

// model is Decode and Whole by P101's words, word for word.
type model struct{ whole, part map[string]bool }

// longest is the length of the longest beginning of s, of at most four bytes, that is in set.
func longest(s string, set map[string]bool) int {
	for k := min(4, len(s)); k > 0; k-- {
		if set[s[:k]] {
			return k
		}
	}
	return 0
}

func (m model) decode(s string) (out string, all bool) {
	all = true
	for s != "" {
		if k := longest(s, m.whole); k > 0 {
			out += s[:k]
			s = s[k:]
			continue
		}
		out += "\xEF\xBF\xBD"
		all = false
		s = s[max(1, longest(s, m.part)):]
	}
	return out, all
}

func (m model) check(t *testing.T, s string) {
	t.Helper()
	want, _ := m.decode(strings.TrimPrefix(s, "\xEF\xBB\xBF"))
	_, all := m.decode(s)
	got := Decode([]byte(s))
	if got != want {
		t.Fatalf("P101: Decode(%q): %q, not %q", s, got, want)
	}
	if Whole(s) != all {
		t.Fatalf("P101: Whole(%q): %v", s, !all)
	}
	if !Whole(got) {
		t.Fatalf("P103: Decode(%q) is not Whole: %q", s, got)
	}
	if again := Decode([]byte(got)); again != strings.TrimPrefix(got, "\xEF\xBB\xBF") {
		t.Fatalf("P103: Decode of the Whole %q: %q", got, again)
	}
}

// each calls f with every text of at most most bytes of some.
func each(some []byte, most int, f func(s string)) {
	var grow func(s []byte)
	grow = func(s []byte) {
		f(string(s))
		if len(s) == most {
			return
		}
		for _, c := range some {
			grow(append(s[:len(s):len(s)], c))
		}
	}
	grow(nil)
}

func TestDecodeKnown(t *testing.T) {
	for _, x := range []struct{ in, want string }{
		{"", ""},
		{"page", "page"},
		{"\x00\x7f", "\x00\x7f"},
		{"\u00e4\u20ac\U0001F4A9", "\u00e4\u20ac\U0001F4A9"},
		{"\xe2\x82A", "\ufffdA"},
		{"\xef\xbb\xbfa", "a"},
		{"\xef\xbb\xbf", ""},
		{"\xef\xbb\xbf\xef\xbb\xbfa", "\ufeffa"},
		{" \xef\xbb\xbf", " \ufeff"},
		{"\xef\xbb", "\ufffd"},
		{"\xef", "\ufffd"},
		{"\xef\xbb\xbf\xe2\x82", "\ufffd"},
		{"\xef\xbf\xbd", "\ufffd"},
		{"\xef\xbf\xbd\xef\xbf", "\ufffd\ufffd"},
		{"\xed\x9f\xbf\xee\x80\x80", "\ud7ff\ue000"},
		{"\xed\xa0\x80", "\ufffd\ufffd\ufffd"},
		{"\xf4\x8f\xbf\xbf", "\U0010ffff"},
		{"\xf4\x90\x80\x80", "\ufffd\ufffd\ufffd\ufffd"},
		{"\xc1\xbf", "\ufffd\ufffd"},
		{"\xe0\x9f\xbf", "\ufffd\ufffd\ufffd"},
		{"\xf0\x8f\xbf\xbf", "\ufffd\ufffd\ufffd\ufffd"},
		{"\xf0\x9f\x92\xf0\x9f\x92\xa9", "\ufffd\U0001F4A9"},
		{"\xc3", "\ufffd"},
		{"\xc3(", "\ufffd("},
		{"\x80\x80", "\ufffd\ufffd"},
		{"\xff\xfe<", "\ufffd\ufffd<"},
	} {
		if got := Decode([]byte(x.in)); got != x.want {
			t.Errorf("P101: Decode(%q): %q, not %q", x.in, got, x.want)
		}
	}
	if Decode(nil) != "" {
		t.Error("P2: Decode of no list")
	}
}

func TestWholeKnown(t *testing.T) {
	for _, x := range []struct {
		in   string
		want bool
	}{
		{"", true}, {"a\x00\x7f", true}, {"\ufeff", true}, {"\ufffd", true}, {"\ud7ff\ue000\U0010ffff", true},
		{"\xef\xbf", false}, {"\ufffd\xbd", false}, {"\xed\xa0\x80", false}, {"\xed\xbf\xbf", false}, {"\xc0\x80", false},
		{"\xe0\x80\x80", false}, {"\xf0\x80\x80\x80", false}, {"\xf4\x90\x80\x80", false}, {"a\x80", false}, {"\xffa", false},
	} {
		if Whole(x.in) != x.want {
			t.Errorf("P101: Whole(%q): %v", x.in, !x.want)
		}
	}
}

func TestDecodeByItsWords(t *testing.T) {
	whole, part := signs()
	m := model{whole, part}
	for f := range whole {
		if !Whole(f) || f != "\xEF\xBB\xBF" && Decode([]byte(f)) != f {
			t.Fatalf("P101: the whole sign %q", f)
		}
	}
	every := make([]byte, 256)
	for i := range every {
		every[i] = byte(i)
	}
	each(every, 2, func(s string) { m.check(t, s) })
	each(near, 4, func(s string) { m.check(t, s) })
	each([]byte{'a', 0x80, 0x9F, 0xE2, 0xF0, 0xBF}, 6, func(s string) { m.check(t, s) })
	for _, s := range []string{"\xEF\xBB\xBF", "\xF0\x9F\x92", "\xE2\x82"} {
		each(near, 2, func(end string) {
			m.check(t, s+end)
			m.check(t, end+s)
			m.check(t, s+end+s)
		})
	}
}

func TestDecodeLeavesItsBytes(t *testing.T) {
	room := []byte("\xEF\xBB\xBFa\xE2\x82\r\nZ#spare")
	kept := bytes.Clone(room)
	in := room[:len(room)-6]
	got := Decode(in)
	if !bytes.Equal(room, kept) {
		t.Error("P2: Decode changed what it was handed")
	}
	clear(room)
	if got != "a\ufffd\r\nZ" {
		t.Errorf("P2: Decode kept what it was handed: %q", got)
	}
}

func TestLines(t *testing.T) {
	for _, x := range []struct{ in, want string }{
		{"", ""}, {"a", "a"}, {"\n", "\n"}, {"\r", "\n"}, {"\r\n", "\n"}, {"\r\r\n", "\n\n"}, {"\n\r", "\n\n"}, {"\r\n\r\n", "\n\n"},
		{"\r\n\n", "\n\n"}, {"\r\r\r", "\n\n\n"}, {"a\rb\r\nc\nd\r", "a\nb\nc\nd\n"}, {"\x80\r\xff\r\n\f", "\x80\n\xff\n\f"}, {"\u2028\u0085\v", "\u2028\u0085\v"},
	} {
		if got := Lines(x.in); got != x.want {
			t.Errorf("P102: Lines(%q): %q, not %q", x.in, got, x.want)
		}
	}
	each([]byte{13, 10, 'a', 0xFF}, 6, func(s string) {
		want := ""
		for i := range len(s) {
			switch {
			case s[i] == 13 && i+1 < len(s) && s[i+1] == 10:
			case s[i] == 13:
				want += "\n"
			default:
				want += s[i : i+1]
			}
		}
		if got := Lines(s); got != want {
			t.Fatalf("P102: Lines(%q): %q, not %q", s, got, want)
		}
		if Lines(want) != want {
			t.Fatalf("P103: Lines of Lines of %q: %q", s, Lines(want))
		}
	})
}

func TestFold(t *testing.T) {
	for c := range 256 {
		want := string([]byte{'Q' + 32, byte(c), 'z'})
		if 65 <= c && c <= 90 {
			want = string([]byte{'q', byte(c + 32), 'z'})
		}
		if got := Fold(string([]byte{'Q', byte(c), 'Z'})); got != want {
			t.Errorf("P102: Fold with %d: %q, not %q", c, got, want)
		}
		if got := Fold(want); got != want {
			t.Errorf("P103: Fold of Fold: %q, not %q", got, want)
		}
	}
	for _, x := range []struct{ in, want string }{
		{"", ""}, {"DOCType", "doctype"}, {"\u00c4\u0130\u212aK", "\u00c4\u0130\u212ak"}, {"\xffA\xe2\x82B", "\xffa\xe2\x82b"}, {"@[`{", "@[`{"},
	} {
		if got := Fold(x.in); got != x.want {
			t.Errorf("P102: Fold(%q): %q, not %q", x.in, got, x.want)
		}
	}
}

func TestBlank(t *testing.T) {
	for c := range 256 {
		want := c == 9 || c == 10 || c == 12 || c == 13 || c == 32
		if Blank(byte(c)) != want {
			t.Errorf("P102: Blank(%d): %v", c, !want)
		}
	}
}

func TestTrimWordsPlain(t *testing.T) {
	for _, x := range []struct {
		in, trim string
		words    []string
	}{
		{"", "", nil},
		{" \t\n\f\r", "", nil},
		{"a", "a", []string{"a"}},
		{"  a b\t\tc\r\n", "a b\t\tc", []string{"a", "b", "c"}},
		{"a\fb\rc\nd", "a\fb\rc\nd", []string{"a", "b", "c", "d"}},
		{" \v ", "\v", []string{"\v"}},
		{"\x00 \x00", "\x00 \x00", []string{"\x00", "\x00"}},
		{"\u00a0 \u2003x\u0085 ", "\u00a0 \u2003x\u0085", []string{"\u00a0", "\u2003x\u0085"}},
		{" \xff\xe2 \x82 ", "\xff\xe2 \x82", []string{"\xff\xe2", "\x82"}},
		{"a a a", "a a a", []string{"a", "a", "a"}},
	} {
		if got := Trim(x.in); got != x.trim {
			t.Errorf("P102: Trim(%q): %q, not %q", x.in, got, x.trim)
		}
		if got := Words(x.in); !slices.Equal(got, x.words) {
			t.Errorf("P102: Words(%q): %q, not %q", x.in, got, x.words)
		}
		if got, want := Plain(x.in), strings.Join(x.words, " "); got != want {
			t.Errorf("P102: Plain(%q): %q, not %q", x.in, got, want)
		}
	}
}

func TestTrimWordsPlainByTheirWords(t *testing.T) {
	blank := func(r rune) bool { return strings.ContainsRune("\t\n\f\r ", r) }
	each([]byte{9, 10, 12, 13, 32, 'a', 0xA0, 11}, 5, func(s string) {
		if got, want := Trim(s), strings.TrimFunc(s, blank); got != want {
			t.Fatalf("P102: Trim(%q): %q, not %q", s, got, want)
		}
		want := strings.FieldsFunc(s, blank)
		if got := Words(s); !slices.Equal(got, want) {
			t.Fatalf("P102: Words(%q): %q, not %q", s, got, want)
		}
		plain := Plain(s)
		if plain != strings.Join(want, " ") {
			t.Fatalf("P102: Plain(%q): %q", s, plain)
		}
		if Plain(plain) != plain {
			t.Fatalf("P103: Plain of Plain of %q: %q", s, Plain(plain))
		}
	})
}

func TestWordsAreNew(t *testing.T) {
	first := Words("a b c")
	full := first[:cap(first)]
	for i := range full {
		full[i] = "x"
	}
	if got := Words("a b c"); !slices.Equal(got, []string{"a", "b", "c"}) {
		t.Errorf("P2: Words shares its list: %q", got)
	}
}

// A page may be as long as the limits let it: work that grows with the square of it would not end here.
func TestLong(t *testing.T) {
	const n = 1 << 22
	if got := Decode(bytes.Repeat([]byte{0xF0, 0x9F, 0x92}, n)); got != strings.Repeat("\ufffd", n) {
		t.Error("P101: Decode of a long one")
	}
	if !Whole(strings.Repeat("\u20ac", n)) || Whole(strings.Repeat("\u20ac", n)+"\xe2") {
		t.Error("P101: Whole of a long one")
	}
	if Lines(strings.Repeat("\r\n", n)) != strings.Repeat("\n", n) || Fold(strings.Repeat("A", n)) != strings.Repeat("a", n) {
		t.Error("P102: Lines, Fold of a long one")
	}
	if Trim(strings.Repeat(" ", n)+"a"+strings.Repeat(" ", n)) != "a" || len(Words(strings.Repeat("a ", n))) != n || Plain(strings.Repeat(" a\n", n)) != strings.Repeat("a ", n-1)+"a" {
		t.Error("P102: Trim, Words, Plain of a long one")
	}
}
