package refs_test

import (
	"fmt"
	"math/big"
	"os"
	"os/exec"
	"runtime"
	"slices"
	"sort"
	"strconv"
	"strings"
	"sync"
	"sync/atomic"
	"testing"
	"unicode/utf8"

	"anagnost/refs"
	"anagnost/text"
)

// begun is what was seen ahead of all tests, when nobody had needed the table yet.
var begun struct {
	first, unneeded, read, after int
	wrong                        []string
}

// asked names, where a test runs this program anew, what it is to call first of all.
const asked = "REFS_FIRST_CALL"

func TestMain(m *testing.M) {
	if name := os.Getenv(asked); name != "" {
		fmt.Print(madeBehind(name))
		os.Exit(0)
	}
	begun.first = refs.Made()
	refs.Number(65)
	begun.unneeded = refs.Made()
	begun.wrong = append(begun.wrong, needed(2), needed(3))
	begun.read = refs.Made()
	begun.wrong = append(begun.wrong, needAtOnce()...)
	begun.after = refs.Made()
	os.Exit(m.Run())
}

// madeBehind tells how often the table was made ahead of one call and behind it.
func madeBehind(name string) string {
	ahead := refs.Made()
	switch name {
	case "Names":
		refs.Names()
	case "Name":
		refs.Name("amp")
	case "Name of none":
		refs.Name("no such")
	case "Number":
		refs.Number(38)
	case "Ref":
		refs.Ref("&amp;", false)
	case "Expand":
		refs.Expand("&amp;", true)
	case "many at once":
		for _, w := range needAtOnce() {
			if w != "" {
				return w
			}
		}
	}
	return strconv.Itoa(ahead) + " " + strconv.Itoa(refs.Made())
}

// needAtOnce has many ask at a time, and tells whose answer was wrong.
// They wait by turning: who is woken one by one would come too late to meet the others.
func needAtOnce() []string {
	wrong := make([]string, max(4, runtime.GOMAXPROCS(0)))
	var ready atomic.Int64
	var all sync.WaitGroup
	for i := range wrong {
		all.Go(func() {
			for ready.Add(1); ready.Load() < int64(len(wrong)); {
				runtime.Gosched()
			}
			wrong[i] = needed(i)
		})
	}
	all.Wait()
	return wrong
}

// needed asks what may need the table, and tells what was wrong.
func needed(i int) string {
	least := 1
	switch i % 4 {
	case 0:
		if s, is := refs.Name("nvlt;"); !is || s != "<\u20D2" {
			return "Name " + s
		}
	case 1:
		if names := refs.Names(); len(names) != 46 {
			return "Names " + strings.Join(names, " ")
		}
	case 2:
		least = 0
		if s, n := refs.Ref("&amp;", false); s != "&" || n != 5 {
			return "Ref " + s
		}
	default:
		least = 0
		if s := refs.Expand("&lt;p&gt;", true); s != "<p>" {
			return "Expand " + s
		}
	}
	if made := refs.Made(); made < least || made > 1 {
		return "Made " + strconv.Itoa(made)
	}
	return ""
}

func TestP204MadeOnceWhenNeeded(t *testing.T) {
	if begun.first != 0 || begun.unneeded != 0 {
		t.Errorf("made ahead of any need: %d, %d", begun.first, begun.unneeded)
	}
	if begun.read != 0 && begun.read != 1 {
		t.Errorf("made %d times by Ref and Expand", begun.read)
	}
	for _, w := range begun.wrong {
		if w != "" {
			t.Errorf("ahead of the table, or by many at a time: %s", w)
		}
	}
	if begun.after != 1 {
		t.Errorf("made %d times by many at a time", begun.after)
	}
	refs.Names()
	refs.Name("amp")
	refs.Name("no such")
	refs.Expand("&copy;", false)
	if got := refs.Made(); got != 1 {
		t.Errorf("made %d times", got)
	}
}

func TestP204TheFirstCallOfAll(t *testing.T) {
	for name, want := range map[string]string{
		"Names": "0 1", "Name": "0 1", "Name of none": "0 1", "Number": "0 0", "Ref": "0 0 or 0 1", "Expand": "0 0 or 0 1",
	} {
		if got := anew(t, name); !slices.Contains(strings.Split(want, " or "), got) {
			t.Errorf("made ahead of %s and behind it: %s, not %s", name, got, want)
		}
	}
}

func TestP204ManyAtOnce(t *testing.T) {
	for range 40 {
		if got := anew(t, "many at once"); got != "0 1" {
			t.Fatalf("made ahead of many at once and behind them: %s", got)
		}
	}
}

// anew runs this program anew, for the table is made once in each, and tells madeBehind of name.
func anew(t *testing.T, name string) string {
	t.Helper()
	c := exec.Command(os.Args[0])
	c.Env = append(os.Environ(), asked+"="+name)
	out, err := c.Output()
	if err != nil {
		t.Fatal(err)
	}
	return string(out)
}

func TestP204RefsTellWhatNameTells(t *testing.T) {
	for _, name := range refs.Names() {
		want, is := refs.Name(name)
		if !is || want == "" {
			t.Errorf("Name(%q): %q, %v", name, want, is)
		}
		for _, attr := range []bool{false, true} {
			for _, behind := range []string{"", " ", "&", "-a=1"} {
				s := "&" + name + behind
				if got := refOf(s, attr); got != (answer{want, 1 + len(name)}) {
					t.Errorf("Ref(%q, %v): %q, %d, but Name tells %q", s, attr, got.s, got.n, want)
				}
				if got := refs.Expand("a"+s, attr); got != "a"+want+behind {
					t.Errorf("Expand(%q, %v): %q, but Name tells %q", "a"+s, attr, got, want)
				}
			}
		}
	}
}

func TestP204RefsKnowNoOtherNames(t *testing.T) {
	for _, s := range built([]string{"amp", "not", "in", "sup", "1", "Tab", "times", "b", "ne", "q", ";"}, 3) {
		text, n := refs.Ref("&"+s, false)
		if n == 0 {
			if got, is := refs.Name(s); is {
				t.Errorf("Ref(%q): none, but Name tells %q", "&"+s, got)
			}
			continue
		}
		if got, is := refs.Name(s[:n-1]); !is || got != text {
			t.Errorf("Ref(%q): %q, %d, but Name tells %q, %v", "&"+s, text, n, got, is)
		}
	}
}

// form is the whole sign of a number, by its bits.
func form(n int) string {
	b := func(lead, shift int) byte { return byte(lead | n>>shift&0x3F) }
	switch {
	case n < 0x80:
		return string([]byte{byte(n)})
	case n < 0x800:
		return string([]byte{b(0xC0, 6), b(0x80, 0)})
	case n < 0x10000:
		return string([]byte{byte(0xE0 | n>>12), b(0x80, 6), b(0x80, 0)})
	}
	return string([]byte{byte(0xF0 | n>>18), b(0x80, 12), b(0x80, 6), b(0x80, 0)})
}

const lost = "\xEF\xBF\xBD"

// shifted is what P201 tells of U+80 to U+9F.
var shifted = strings.Fields("20AC 81 201A 192 201E 2026 2020 2021 2C6 2030 160 2039 152 8D 17D 8F 90 2018 2019 201C 201D 2022 2013 2014 2DC 2122 161 203A 153 9D 17E 178")

// number is P201, word by word.
func number(n int) string {
	if n <= 0 || n > 0x10FFFF || n >= 0xD800 && n <= 0xDFFF {
		return lost
	}
	if n >= 0x80 && n <= 0x9F {
		k, _ := strconv.ParseInt(shifted[n-0x80], 16, 32)
		return form(int(k))
	}
	return form(n)
}

func TestP201EachNumber(t *testing.T) {
	if len(shifted) != 32 {
		t.Fatal("the table has 32 signs")
	}
	for n := -300; n <= 0x110300; n++ {
		if got := refs.Number(n); got != number(n) {
			t.Fatalf("Number(%X): %q, not %q", n, got, number(n))
		}
	}
}

func TestP201NumbersThatAreNone(t *testing.T) {
	least := -1 << 63
	for _, n := range []int{0, -1, -65, least, 1<<63 - 1, 1 << 32, 1<<32 + 65, 1<<31 + 65, -1<<32 + 65, 0x110000, 0xD800, 0xDABC, 0xDFFF} {
		if got := refs.Number(n); got != lost {
			t.Errorf("Number(%d): %q", n, got)
		}
	}
}

// These are P202's list: the names that stand with and without `;`, and those with it alone.
const (
	listedOpen   = "amp 26 copy A9 gt 3E lt 3C nbsp A0 not AC para B6 quot 22 reg AE shy AD sup1 B9 sup2 B2 times D7"
	listedClosed = "Tab; 9 NewLine; A apos; 27 lpar; 28 colon; 3A part; 2202 notin; 2209 sub; 2282 sup; 2283 timesb; 22A0 hellip; 2026 mdash; 2014 ndash; 2013 lsquo; 2018 rsquo; 2019 ldquo; 201C rdquo; 201D euro; 20AC bne; 3D+20E5 nvlt; 3C+20D2"
)

// standing is P202, word by word.
var standing = standsFor()

func standsFor() map[string]string {
	out := map[string]string{}
	pairs := func(list string, ends ...string) {
		words := strings.Fields(list)
		for i := 0; i < len(words); i += 2 {
			s := ""
			for _, hex := range strings.Split(words[i+1], "+") {
				n, _ := strconv.ParseInt(hex, 16, 32)
				s += form(int(n))
			}
			for _, end := range ends {
				out[words[i]+end] = s
			}
		}
	}
	pairs(listedOpen, "", ";")
	pairs(listedClosed, "")
	return out
}

func TestP202NamesAreThoseListed(t *testing.T) {
	var want []string
	for name := range standing {
		want = append(want, name)
	}
	sort.Strings(want)
	if got := refs.Names(); !slices.Equal(got, want) {
		t.Errorf("Names: %q, not %q", got, want)
	}
}

func TestP202NamesRiseByBytes(t *testing.T) {
	names := refs.Names()
	if names[0] != "NewLine;" || names[1] != "Tab;" || names[len(names)-1] != "timesb;" {
		t.Errorf("Names: %q", names)
	}
	for i := 1; i < len(names); i++ {
		if names[i-1] >= names[i] {
			t.Errorf("%q ahead of %q", names[i-1], names[i])
		}
	}
}

func TestP202NameTellsWhatItStandsFor(t *testing.T) {
	for name, want := range standing {
		if got, is := refs.Name(name); !is || got != want {
			t.Errorf("Name(%q): %q, %v, not %q", name, got, is, want)
		}
	}
}

func TestP202OthersAreNoNames(t *testing.T) {
	all := standing
	others := []string{"", ";", "&", "&amp;", "AMP", "Amp;", "amp;;", "amp ", " amp", "tab;", "Tab", "apos", "newline;", "NewLine", "sup", "sup3", "sub", "hellip", "lt\x00", "#65", "\xFF"}
	for name := range all {
		others = append(others, name+"x", name[1:], name[:len(name)-1], strings.ToUpper(name), "\x00"+name)
	}
	for _, name := range others {
		if _, listed := all[name]; listed {
			continue
		}
		if got, is := refs.Name(name); is || got != "" {
			t.Errorf("Name(%q): %q, %v", name, got, is)
		}
	}
}

func TestP2NamesAreNewMemory(t *testing.T) {
	first := refs.Names()
	want := slices.Clone(first)
	for i := range first[:cap(first)] {
		first[:cap(first)][i] = "spoilt"
	}
	if got := refs.Names(); !slices.Equal(got, want) {
		t.Errorf("Names, behind a change of its answer: %q", got)
	}
	if s, is := refs.Name("amp"); !is || s != "&" {
		t.Errorf("Name, behind a change of Names: %q, %v", s, is)
	}
}

type answer struct {
	s string
	n int
}

func refOf(s string, attr bool) answer {
	got, n := refs.Ref(s, attr)
	return answer{got, n}
}

func TestP203KnownRefs(t *testing.T) {
	none := answer{}
	for _, x := range []struct {
		s        string
		text, at answer
	}{
		{"&notit;", answer{"\u00AC", 4}, none},
		{"&#x80", answer{"\u20AC", 5}, answer{"\u20AC", 5}},
		{"&#X80;", answer{"\u20AC", 6}, answer{"\u20AC", 6}},
		{"&#128x", answer{"\u20AC", 5}, answer{"\u20AC", 5}},
		{"&#65=", answer{"A", 4}, answer{"A", 4}},
		{"&#65;;", answer{"A", 5}, answer{"A", 5}},
		{"&#6a", answer{"\x06", 3}, answer{"\x06", 3}},
		{"&#xaBg", answer{"\u00AB", 5}, answer{"\u00AB", 5}},
		{"&#x-1;", none, none},
		{"&#-1;", none, none},
		{"&# 65;", none, none},
		{"&#xx41;", none, none},
		{"&#0x41;", answer{lost, 3}, answer{lost, 3}},
		{"&#xD800;", answer{lost, 8}, answer{lost, 8}},
		{"&#x110000", answer{lost, 9}, answer{lost, 9}},
		{"&#x10FFFF", answer{"\U0010FFFF", 9}, answer{"\U0010FFFF", 9}},
		{"&#18446744073709551681;", answer{lost, 23}, answer{lost, 23}},
		{"&#x10000000000000041;", answer{lost, 21}, answer{lost, 21}},
		{"&#", none, none}, {"&#;", none, none}, {"&#x", none, none}, {"&#X;", none, none}, {"&#amp;", none, none},
		{"&NewLine;", answer{"\n", 9}, answer{"\n", 9}},
		{"&NewLine", none, none},
		{"&newline;", none, none},
		{"&sup1", answer{"\u00B9", 5}, answer{"\u00B9", 5}},
		{"&sup1;2", answer{"\u00B9", 6}, answer{"\u00B9", 6}},
		{"&sup2=", answer{"\u00B2", 5}, none},
		{"&sup3", none, none},
		{"&subs;", none, none},
		{"&nvlt;", answer{"<\u20D2", 6}, answer{"<\u20D2", 6}},
		{"&bne", none, none},
		{"&ampZ", answer{"&", 4}, none},
		{"&amp0", answer{"&", 4}, none},
		{"&amp&", answer{"&", 4}, answer{"&", 4}},
		{"&amp\u00E4", answer{"&", 4}, answer{"&", 4}},
		{"&amp@", answer{"&", 4}, answer{"&", 4}},
		{"&amp", answer{"&", 4}, answer{"&", 4}},
		{"&amp;=", answer{"&", 5}, answer{"&", 5}},
		{"&am", none, none}, {"&", none, none}, {"", none, none}, {"amp;", none, none}, {" &amp;", none, none}, {"\xFF", none, none}, {"&\xFF", none, none},
	} {
		if got := refOf(x.s, false); got != x.text {
			t.Errorf("Ref(%q, false): %q, %d", x.s, got.s, got.n)
		}
		if got := refOf(x.s, true); got != x.at {
			t.Errorf("Ref(%q, true): %q, %d", x.s, got.s, got.n)
		}
	}
}

func TestP203OneByteBehindAnOpenName(t *testing.T) {
	for c := range 256 {
		s := "&gt" + string([]byte{byte(c)}) + ";"
		text, at := answer{">", 3}, answer{">", 3}
		switch {
		case c == ';':
			text, at = answer{">", 4}, answer{">", 4}
		case strings.IndexByte("=0123456789ABCDEFGHIJKLMNOPQRSTUVWXYZabcdefghijklmnopqrstuvwxyz", byte(c)) >= 0:
			at = answer{}
		}
		if got := refOf(s, false); got != text {
			t.Errorf("Ref(%q, false): %q, %d", s, got.s, got.n)
		}
		if got := refOf(s, true); got != at {
			t.Errorf("Ref(%q, true): %q, %d", s, got.s, got.n)
		}
	}
}

// model is P203's Ref, word by word.
func model(s string, attr bool) answer {
	for _, x := range []struct {
		head, digits string
		base         int
	}{{"&#", "0123456789", 10}, {"&#x", "0123456789abcdefABCDEF", 16}, {"&#X", "0123456789abcdefABCDEF", 16}} {
		behind, is := strings.CutPrefix(s, x.head)
		digits := behind[:len(behind)-len(strings.TrimLeft(behind, x.digits))]
		if !is || digits == "" {
			continue
		}
		n, _ := new(big.Int).SetString(digits, x.base)
		if n.BitLen() > 40 {
			n.SetInt64(1 << 40)
		}
		length := len(x.head) + len(digits)
		if strings.HasPrefix(s[length:], ";") {
			length++
		}
		return answer{number(int(n.Int64())), length}
	}
	best := ""
	for name := range standing {
		if strings.HasPrefix(s, "&"+name) && len(name) > len(best) {
			best = name
		}
	}
	if best == "" {
		return answer{}
	}
	behind := s[1+len(best):]
	if attr && !strings.HasSuffix(best, ";") && behind != "" && (behind[0] == '=' || isAlnum(behind[0])) {
		return answer{}
	}
	return answer{standing[best], 1 + len(best)}
}

func isAlnum(c byte) bool {
	return c >= '0' && c <= '9' || c|32 >= 'a' && c|32 <= 'z'
}

// modelExpand is P203's Expand, word by word.
func modelExpand(s string, attr bool) string {
	out := ""
	for s != "" {
		x := model(s, attr)
		if x.n == 0 {
			x = answer{s[:1], 1}
		}
		out += x.s
		s = s[x.n:]
	}
	return out
}

// built tells all texts of at most n of the pieces.
func built(pieces []string, n int) []string {
	out := []string{""}
	for from := 0; n > 0; n-- {
		to := len(out)
		for _, s := range out[from:to] {
			for _, p := range pieces {
				out = append(out, s+p)
			}
		}
		from = to
	}
	return out
}

func TestP203AgainstItsWords(t *testing.T) {
	pieces := []string{"&", "#", "x", "X", ";", "=", "not", "in", "sup", "1", "D8", "00", "\xC3", "times", "b"}
	for _, s := range built(pieces, 4) {
		s = "&" + s
		for _, attr := range []bool{false, true} {
			if got, want := refOf(s, attr), model(s, attr); got != want {
				t.Fatalf("Ref(%q, %v): %q, %d, not %q, %d", s, attr, got.s, got.n, want.s, want.n)
			}
			if got, want := refs.Expand(s, attr), modelExpand(s, attr); got != want {
				t.Fatalf("Expand(%q, %v): %q, not %q", s, attr, got, want)
			}
		}
	}
}

func TestP203EachNameInEachPlace(t *testing.T) {
	for _, name := range append(refs.Names(), "zz", "zz;", "amp;;") {
		for _, end := range []string{"", ";", "=", "a", "Z", "5", " ", "&", "-", "\x00", "\x80"} {
			s := "&" + name + end
			for _, attr := range []bool{false, true} {
				if got, want := refOf(s, attr), model(s, attr); got != want {
					t.Errorf("Ref(%q, %v): %q, %d, not %q, %d", s, attr, got.s, got.n, want.s, want.n)
				}
			}
		}
	}
}

func TestP203HoweverManyDigits(t *testing.T) {
	for _, x := range []struct{ head, digits, want string }{
		{"&#", strings.Repeat("0", 100000) + "65", "A"},
		{"&#x", strings.Repeat("0", 100000) + "4a", "J"},
		{"&#", strings.Repeat("9", 100000), lost},
		{"&#X", strings.Repeat("F", 100000), lost},
		{"&#x", "1" + strings.Repeat("0", 1000), lost},
		{"&#", "1" + strings.Repeat("0", 1000), lost},
	} {
		for _, end := range []string{"", ";", "g"} {
			want := answer{x.want, len(x.head) + len(x.digits) + len(strings.TrimSuffix(end, "g"))}
			if got := refOf(x.head+x.digits+end, true); got != want {
				t.Errorf("Ref of %s and %d digits: %q, %d", x.head, len(x.digits), got.s, got.n)
			}
		}
	}
}

func TestP203KnownExpansions(t *testing.T) {
	for _, x := range []struct{ s, text, at string }{
		{"", "", ""},
		{"a &lt; b &amp;&amp c", "a < b && c", "a < b && c"},
		{"/?a=1&copy=2&reg;&notin", "/?a=1\u00A9=2\u00AE\u00ACin", "/?a=1&copy=2\u00AE&notin"},
		{"&amp;lt;", "&lt;", "&lt;"},
		{"&&lt;&", "&<&", "&<&"},
		{"&#38;#65;", "&#65;", "&#65;"},
		{"&#&#x&#65", "&#&#xA", "&#&#xA"},
		{"\xFF&gt;\xC3", "\xFF>\xC3", "\xFF>\xC3"},
		{"&am&amp;p;", "&am&p;", "&am&p;"},
	} {
		if got := refs.Expand(x.s, false); got != x.text {
			t.Errorf("Expand(%q, false): %q", x.s, got)
		}
		if got := refs.Expand(x.s, true); got != x.at {
			t.Errorf("Expand(%q, true): %q", x.s, got)
		}
	}
}

func TestP203LongTexts(t *testing.T) {
	const n = 200000
	for _, x := range []struct{ s, want string }{
		{"&amp;", "&"}, {"&", "&"}, {"&#", "&#"}, {"&zz", "&zz"}, {"abc", "abc"}, {"&#x41;", "A"},
	} {
		if got := refs.Expand(strings.Repeat(x.s, n), true); got != strings.Repeat(x.want, n) {
			t.Errorf("Expand of many %q: %d bytes", x.s, len(got))
		}
	}
}

func TestP205WithoutRefsItStays(t *testing.T) {
	for _, s := range append(built([]string{"amp", ";", "#", "x41", "\xFF", "\u00E4", "\r\n", "\x00", "="}, 3), "amp;", "#65;") {
		for _, attr := range []bool{false, true} {
			if got := refs.Expand(s, attr); got != s {
				t.Errorf("Expand(%q, %v): %q", s, attr, got)
			}
		}
	}
}

func TestP205WholeStaysWhole(t *testing.T) {
	for _, s := range built([]string{"&", "\u20AC", "\U0001F600", "lt", ";", "#", "x", "D8", "00", "80", "bne;"}, 4) {
		for _, attr := range []bool{false, true} {
			if got := refs.Expand(s, attr); !text.Whole(got) || !utf8.ValidString(got) {
				t.Fatalf("Expand(%q, %v): %q", s, attr, got)
			}
		}
	}
}
