package tag_test

import (
	"fmt"
	"math"
	"reflect"
	"regexp"
	"slices"
	"strconv"
	"strings"
	"testing"

	"anagnost/api"
	"anagnost/refs"
	"anagnost/tag"
	"anagnost/text"
)

const (
	blanks = "\t\n\f\r "
	lost   = "\xEF\xBF\xBD"
)

// built tells all texts of at most n of the pieces.
func built(pieces []string, n int) []string {
	out := []string{""}
	for from := 0; n > 0; n-- {
		to := len(out)
		for _, s := range out[from:to] {
			for _, p := range pieces {
				out = append(out, s+p)
			}
		}
		from = to
	}
	return out
}

// answer is what Read tells; its lists are nil where they are empty.
type answer struct {
	t api.Token
	n int
}

func (x answer) String() string {
	return fmt.Sprintf("kind %d, %q, %q, self %v, behind it %d", x.t.Kind, x.t.Name, x.t.Attrs, x.t.Self, x.n)
}

func read(s string, at int) answer {
	t, n := tag.Read(s, at)
	if len(t.Attrs) == 0 {
		t.Attrs = nil
	}
	return answer{t, n}
}

func start(n int, self bool, name string, namesAndValues ...string) answer {
	return answer{api.Token{Kind: api.TStart, Name: name, Self: self, Attrs: attrs(namesAndValues...)}, n}
}

func end(n int, name string) answer {
	return answer{api.Token{Kind: api.TEnd, Name: name}, n}
}

func cut(n int) answer {
	return answer{n: n}
}

func attrs(namesAndValues ...string) []api.Attr {
	var out []api.Attr
	for i := 0; i < len(namesAndValues); i += 2 {
		out = append(out, api.Attr{Name: namesAndValues[i], Value: namesAndValues[i+1]})
	}
	return out
}

func TestP301AgainstItsWords(t *testing.T) {
	begins := regexp.MustCompile(`^</?[A-Za-z]`)
	for _, s := range built([]string{"<", "/", "a", "z", "A", "Z", "@", "[", "`", "{", "1", " ", "!", "\x00", "\u00E9", "\xFF"}, 4) {
		for at := -2; at <= len(s)+2; at++ {
			want := at >= 0 && at <= len(s) && begins.MatchString(s[at:])
			if got := tag.At(s, at); got != want {
				t.Fatalf("At(%q, %d): %v", s, at, got)
			}
		}
	}
}

func TestP301EachByteBehind(t *testing.T) {
	for c := range 256 {
		is := c >= 'a' && c <= 'z' || c >= 'A' && c <= 'Z'
		for _, ahead := range []string{"<", "</"} {
			if got := tag.At(ahead+string([]byte{byte(c)}), 0); got != is {
				t.Errorf("At(%q and the byte %d): %v", ahead, c, got)
			}
		}
	}
}

func TestP301PlacesThatAreNone(t *testing.T) {
	for _, s := range []string{"", "<a>", "</a>", "<", "</"} {
		for _, at := range []int{-1, len(s), len(s) + 1, math.MinInt, math.MaxInt, math.MaxInt - 1} {
			if tag.At(s, at) {
				t.Errorf("At(%q, %d)", s, at)
			}
		}
	}
}

func TestP302KnownTags(t *testing.T) {
	for s, want := range map[string]answer{
		"<A b=/>":    start(7, false, "a", "b", "/"),
		"<br/>":      start(5, true, "br"),
		"<a>":        start(3, false, "a"),
		"<a>b>":      start(3, false, "a"),
		"</A>":       end(4, "a"),
		"</a b=c d>": end(10, "a"),
		"</a/>":      end(5, "a"),
		"</a b='>'>": end(10, "a"),
		"</a b='>":   cut(8),

		"<a b c>":              start(7, false, "a", "b", "", "c", ""),
		"<a b = c>":            start(9, false, "a", "b", "c"),
		"<a b\t\n\f\r =\t\nc>": start(14, false, "a", "b", "c"),
		"<a b=\"c d\">":        start(11, false, "a", "b", "c d"),
		"<a b='c\"d'>":         start(11, false, "a", "b", "c\"d"),
		"<a b=\"c'd\">":        start(11, false, "a", "b", "c'd"),
		"<a b=\"\">":           start(8, false, "a", "b", ""),
		"<a b=''c=''>":         start(12, false, "a", "b", "", "c", ""),
		"<a b='>'>":            start(9, false, "a", "b", ">"),
		"<a b=c\"d'e=f>":       start(13, false, "a", "b", "c\"d'e=f"),
		"<a b=>c>":             start(6, false, "a", "b", ""),
		"<a b=   >":            start(9, false, "a", "b", ""),
		"<a b= /c>":            start(9, false, "a", "b", "/c"),
		"<a b/c=d>":            start(9, false, "a", "b", "", "c", "d"),
		"<a b/=c>":             start(8, false, "a", "b", "", "=c", ""),
		"<a b =c =d>":          start(11, false, "a", "b", "c", "=d", ""),
		"<a =>":                start(5, false, "a", "=", ""),
		"<a =b=c>":             start(8, false, "a", "=b", "c"),
		"<a ===>":              start(7, false, "a", "=", "="),
		"<a <b>":               start(6, false, "a", "<b", ""),
		"<a 'b' \"c\">":        start(11, false, "a", "'b'", "", "\"c\"", ""),
		"<a\"b=c d>":           start(9, false, "a\"b=c", "d", ""),

		"<A-B:C.1\u00C4\u212A D\u00C4=E>": start(20, false, "a-b:c.1\u00C4\u212A", "d\u00C4", "E"),
		"<a\x00\x00 \x00B\x00=\x00c\x00>": start(13, false, "a"+lost+lost, lost+"b"+lost, lost+"c"+lost),
		"<a b=\"\x00\" c='\x00'>":         start(15, false, "a", "b", lost, "c", lost),
		"<a\xFF \xC3=\xE2\x82>":           start(9, false, "a\xFF", "\xC3", "\xE2\x82"),

		"<a b=&lt;&gt>":            start(13, false, "a", "b", "<>"),
		"<a b=\"&quot;'&notit;\">": start(22, false, "a", "b", "\"'&notit;"),
		"<a b='?x&copy=1&amp;y'>":  start(23, false, "a", "b", "?x&copy=1&y"),
		"<a b=&#0;&#x80>":          start(15, false, "a", "b", lost+"\u20AC"),
		"<a&lt; b&lt;=c>":          start(15, false, "a&lt;", "b&lt;", "c"),
		"<a b=&Tab;&NewLine;c>":    start(21, false, "a", "b", "\t\nc"),
	} {
		if got := read(s, 0); !reflect.DeepEqual(got, want) {
			t.Errorf("Read(%q): %v, not %v", s, got, want)
		}
	}
}

func TestP302EarlierOnesStay(t *testing.T) {
	for s, want := range map[string]answer{
		"<a b=1 b=2>":                   start(11, false, "a", "b", "1"),
		"<a b b=2>":                     start(9, false, "a", "b", ""),
		"<a B=1 c=2 b=3 C=4 d>":         start(21, false, "a", "b", "1", "c", "2", "d", ""),
		"<a \x00=1 " + lost + "=2>":     start(13, false, "a", lost, "1"),
		"<a \u00C4=1 \u00E4=2>":         start(13, false, "a", "\u00C4", "1", "\u00E4", "2"),
		"<a b=1 b/>":                    start(10, true, "a", "b", "1"),
		"<a b=1 b='>' c>":               start(15, false, "a", "b", "1", "c", ""),
		"<a a=1>":                       start(7, false, "a", "a", "1"),
		"<a &lt;=1 <=2>":                start(14, false, "a", "&lt;", "1", "<", "2"),
		"<a b=" + lost + " c=1 b=\x00>": start(17, false, "a", "b", lost, "c", "1"),
	} {
		if got := read(s, 0); !reflect.DeepEqual(got, want) {
			t.Errorf("Read(%q): %v, not %v", s, got, want)
		}
	}
}

func TestP302Self(t *testing.T) {
	for s, want := range map[string]bool{
		"<a/>": true, "<a />": true, "<a//>": true, "<a / />": true, "<a b/>": true, "<a b />": true, "<a b=c />": true, "<a b='c'/>": true, "<a b=\"/\"/>": true, "<a =/>": true, "<a ='c'/>": true,
		"<a>": false, "<a/ >": false, "<a / >": false, "<a/b>": false, "<a b=c/>": false, "<a b=/>": false, "<a b= />": false, "<a b='/'>": false, "<a b=\"/\" >": false, "<a/\n>": false, "<a ==/>": false,
		"</a/>": false, "</a />": false, "</a b/>": false,
	} {
		if got := read(s, 0); got.t.Self != want || got.n != len(s) {
			t.Errorf("Read(%q): Self %v, %d", s, got.t.Self, got.n)
		}
	}
}

func TestP302CutShort(t *testing.T) {
	for _, s := range []string{
		"<abc>", "</abc>", "<a / b = c/d e='f\"g' h=\"i'j\"k / l/>", "</a / b = c/d e='f\"g' h=\"i'j\"k / l/>", "<a\x00 b=&amp;>", "<a b = 'c'>", "<a =>",
	} {
		if got := read(s, 0); got.n != len(s) || got.t.Kind == 0 {
			t.Errorf("Read(%q): %v", s, got)
		}
		for n := 2; n < len(s); n++ {
			if !tag.At(s[:n], 0) {
				continue
			}
			if got := read(s[:n], 0); !reflect.DeepEqual(got, cut(n)) {
				t.Errorf("Read(%q): %v", s[:n], got)
			}
		}
	}
	for _, s := range []string{"<a b=\"c>d", "<a b='c\">d", "<a b=\">", "<a b='>", "</a b='>", "<a b=c d='e\" />"} {
		if got := read(s, 0); !reflect.DeepEqual(got, cut(len(s))) {
			t.Errorf("Read(%q): %v", s, got)
		}
	}
}

// model is P302, word by word.
func model(s string, at int) answer {
	rest := s[at:]
	passed := func(n int) string {
		out := rest[:n]
		rest = rest[n:]
		return out
	}
	pass := func(these string) string { return passed(len(rest) - len(strings.TrimLeft(rest, these))) }
	upTo := func(those string) string {
		// By bytes: what stands there may be no whole signs.
		if n := slices.IndexFunc([]byte(rest), func(c byte) bool { return strings.IndexByte(those, c) >= 0 }); n >= 0 {
			return passed(n)
		}
		return passed(len(rest))
	}
	zeros := func(s string) string { return strings.Join(strings.Split(s, "\x00"), lost) }
	var out api.Token
	out.Kind = api.TStart
	passed(1)
	if rest[0] == '/' {
		out.Kind = api.TEnd
		passed(1)
	}
	out.Name = zeros(text.Fold(upTo(blanks + "/>")))
	for {
		between := pass(blanks + "/")
		if rest == "" {
			return cut(len(s))
		}
		if rest[0] == '>' {
			passed(1)
			out.Self = out.Kind == api.TStart && strings.HasSuffix(between, "/")
			return answer{out, len(s) - len(rest)}
		}
		a := api.Attr{Name: zeros(text.Fold(passed(1) + upTo(blanks+"/>=")))}
		pass(blanks)
		if rest != "" && rest[0] == '=' {
			passed(1)
			pass(blanks)
			if rest == "" {
				return cut(len(s))
			}
			switch c := rest[:1]; c {
			case ">":
			case "\"", "'":
				passed(1)
				a.Value = upTo(c)
				if rest == "" {
					return cut(len(s))
				}
				passed(1)
			default:
				a.Value = upTo(blanks + ">")
			}
		}
		a.Value = zeros(refs.Expand(a.Value, true))
		dropped := slices.ContainsFunc(out.Attrs, func(b api.Attr) bool { return a.Name == b.Name })
		if out.Kind == api.TStart && !dropped {
			out.Attrs = append(out.Attrs, a)
		}
	}
}

func same(t *testing.T, s string, at int) {
	t.Helper()
	got, want := read(s, at), model(s, at)
	if got.n != want.n || got.t.Kind != want.t.Kind || got.t.Name != want.t.Name || got.t.Self != want.t.Self || got.t.Text != "" || !slices.Equal(got.t.Attrs, want.t.Attrs) {
		t.Fatalf("Read(%q, %d): %v, not %v", s, at, got, want)
	}
	if got.n <= at || got.n > len(s) {
		t.Fatalf("P304: Read(%q, %d): %d", s, at, got.n)
	}
}

func TestP302AgainstItsWords(t *testing.T) {
	for _, s := range built([]string{"a", "B", " ", "/", ">", "=", "\"", "'", "\x00", "&lt"}, 5) {
		same(t, "<a"+s, 0)
		same(t, "x<b></P"+s+">", 4)
		same(t, "<p b"+s+">", 0)
	}
	for _, s := range built([]string{" ", "/", ">", "=", "\"", "'", "b"}, 6) {
		same(t, "<a b="+s+">", 0)
	}
	for _, s := range built([]string{" a", " a=1", " A='2'", "/b", "=", "\xFF", "\xC3\x84", "&amp", ";", "<", "\n"}, 5) {
		same(t, "<a"+s+"/>", 0)
	}
}

func TestP302EachByteInEachPlace(t *testing.T) {
	for c := range 256 {
		x := string([]byte{byte(c)})
		for _, s := range []string{
			"<a" + x + "b c>", "</a" + x + "b>", "<a b" + x + "c=d>", "<a b" + x + "=c>", "<a b" + x + " =c>", "<a b=" + x + "c d>", "<a b=c" + x + "d>", "<a b=c" + x + ">", "<a b='c" + x + "d'>", "<a b=\"" + x + "\">", "<a b='c'" + x + ">", "<a " + x + "b>", "<a " + x + "=b>", "<a b=" + x + "/>", "<a/" + x + ">", "<a b=" + x + "c" + x + ">", "<a b" + x, "<a b=" + x,
		} {
			same(t, s, 0)
			same(t, "ab"+s+s, 2)
		}
	}
}

func TestP302ManyAttributes(t *testing.T) {
	const many = 200000
	var s strings.Builder
	s.WriteString("<a")
	for i := range many {
		s.WriteString(" n" + strconv.Itoa(i%(many/2)) + "=" + strconv.Itoa(i))
	}
	s.WriteString(" />")
	got := read(s.String(), 0)
	if got.n != s.Len() || !got.t.Self || len(got.t.Attrs) != many/2 {
		t.Fatalf("Read of many attributes: %d of them, %d, %v", len(got.t.Attrs), got.n, got.t.Self)
	}
	for i, a := range got.t.Attrs {
		if a.Name != "n"+strconv.Itoa(i) || a.Value != strconv.Itoa(i) {
			t.Fatalf("Read of many attributes: %q at %d", a, i)
		}
	}
	if l := got.t.Attrs; !tag.Same(l, l) || tag.Same(l, append(slices.Clone(l[1:]), api.Attr{Name: "n0"})) {
		t.Error("Same of many attributes")
	}
}

func TestP302LongParts(t *testing.T) {
	const n = 300000
	long := strings.Repeat("x", n)
	for s, want := range map[string]answer{
		"<a" + long + ">":                             start(n+3, false, "a"+long),
		"<a " + long + "=" + long + ">":               start(2*n+5, false, "a", long, long),
		"<a b='" + strings.Repeat("&amp;", n) + "'>":  start(5*n+8, false, "a", "b", strings.Repeat("&", n)),
		"<a" + strings.Repeat(" /", n) + ">":          start(2*n+3, true, "a"),
		"<a b" + strings.Repeat("\n", n) + "=1>":      start(n+7, false, "a", "b", "1"),
		"<a b='" + long:                               cut(n + 6),
		"</a" + strings.Repeat(" b='c' d=\"\"", n/10): cut(3 + n/10*11),
	} {
		if got := read(s, 0); !reflect.DeepEqual(got, want) {
			t.Errorf("Read of %.9q and so on: %d attributes, %d", s, len(got.t.Attrs), got.n)
		}
	}
}

func TestP1PlacesWhereNoTagBegins(t *testing.T) {
	for _, s := range built([]string{"<", "/", "a", ">", "=", "'", "\xFF"}, 4) {
		for at := -2; at <= len(s)+2; at++ {
			tag.Read(s, at)
		}
		tag.Read(s, math.MinInt)
		tag.Read(s, math.MaxInt)
	}
}

func TestP2ReadAnswersNewMemory(t *testing.T) {
	const s = "<a b=1 c='2' d>"
	first, second := read(s, 0), read(s, 0)
	for i := range first.t.Attrs[:cap(first.t.Attrs)] {
		first.t.Attrs[:cap(first.t.Attrs)][i] = api.Attr{Name: "spoilt"}
	}
	want := start(len(s), false, "a", "b", "1", "c", "2", "d", "")
	if !reflect.DeepEqual(second, want) || !reflect.DeepEqual(read(s, 0), want) {
		t.Errorf("Read, behind a change of its answer: %v", second)
	}
}

func TestP303Find(t *testing.T) {
	l := attrs("a", "1", "b", "", "a", "2", "", "3", "A", "4", "c\x00", "5", "d", "6", "", "7")
	for name, want := range map[string]string{"a": "1", "b": "", "": "3", "A": "4", "c\x00": "5", "d": "6"} {
		if got, is := tag.Find(l, name); !is || got != want {
			t.Errorf("Find(%q): %q, %v", name, got, is)
		}
	}
	for _, name := range []string{"B", "c", "a ", "aa", "1", "D", "\x00"} {
		if got, is := tag.Find(l, name); is || got != "" {
			t.Errorf("Find(%q): %q, %v", name, got, is)
		}
	}
	for _, none := range [][]api.Attr{nil, {}, l[:0], l[1:2]} {
		if got, is := tag.Find(none, "a"); is || got != "" {
			t.Errorf("Find in %q: %q, %v", none, got, is)
		}
	}
	if got, is := tag.Find(attrs("a", "1"), ""); is || got != "" {
		t.Errorf("Find of no name: %q, %v", got, is)
	}
}

// lists tells all lists of at most n of some attributes.
func lists(n int) [][]api.Attr {
	some := attrs("a", "1", "a", "2", "b", "1", "", "", "A", "1", "a1", "")
	out := [][]api.Attr{nil}
	for from := 0; n > 0; n-- {
		to := len(out)
		for _, l := range out[from:to] {
			for _, a := range some {
				out = append(out, append(slices.Clone(l), a))
			}
		}
		from = to
	}
	return out
}

func TestP303SameAgainstItsWords(t *testing.T) {
	all := lists(3)
	for _, a := range all {
		for _, b := range all {
			want := len(a) == len(b)
			for _, x := range a {
				want = want && slices.Contains(b, x)
			}
			if got := tag.Same(a, b); got != want {
				t.Fatalf("Same(%q, %q): %v", a, b, got)
			}
		}
	}
}

func TestP303KnownSame(t *testing.T) {
	for _, x := range []struct {
		a, b []api.Attr
		want bool
	}{
		{nil, []api.Attr{}, true},
		{[]api.Attr{}, nil, true},
		{attrs("a", "1", "b", "2"), attrs("b", "2", "a", "1"), true},
		{attrs("a", "1", "b", "2"), attrs("a", "2", "b", "1"), false},
		{attrs("a", "1"), attrs("a", "1", "b", "2"), false},
		{attrs("a", "1", "b", "2"), attrs("a", "1"), false},
		{attrs("a", "1"), attrs("A", "1"), false},
		{attrs("ab", "c"), attrs("a", "bc"), false},
		{attrs("a", "1", "a", "1"), attrs("a", "1", "b", "2"), true},
		{attrs("a", "1", "b", "2"), attrs("a", "1", "a", "1"), false},
		{nil, attrs("", ""), false},
	} {
		if got := tag.Same(x.a, x.b); got != x.want {
			t.Errorf("Same(%q, %q): %v", x.a, x.b, got)
		}
	}
}

func TestP2ListsStayAsTheyAre(t *testing.T) {
	all := attrs("c", "3", "a", "1", "b", "2", "x", "spare")
	a, b := slices.Clone(all)[:3], slices.Clone(all)[:3]
	slices.Reverse(b)
	kept := slices.Clone(b[:4])
	tag.Same(a, b)
	tag.Find(a, "b")
	tag.Find(b, "no such")
	if !slices.Equal(a[:4], all) || !slices.Equal(b[:4], kept) {
		t.Errorf("changed: %q, %q", a[:4], b[:4])
	}
}

func TestP304AnyBytes(t *testing.T) {
	n := uint32(7)
	for range 20000 {
		b := []byte("<a")
		for range 40 {
			n = n*1664525 + 1013904223
			b = append(b, "ab /=>\"'&;\x00\n<\xC3\xFFZ"[n>>28])
		}
		s := string(b)
		for at := range s {
			if tag.At(s, at) {
				same(t, s, at)
			}
		}
	}
}
