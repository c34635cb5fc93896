package parse_test

import (
	"slices"
	"strings"
	"testing"

	"anagnost/api"
	"anagnost/dom"
	"anagnost/parse"
)

// checkThrown holds Parse against the model, and looks at what P1010 says of all trees.
func checkThrown(t *testing.T, s string) []api.Node {
	t.Helper()
	l, e := parse.Parse(s)
	want := modelTree(s)
	if e != api.OK || !dom.Same(l, want) {
		t.Fatalf("%q: %v\n%s, not\n%s", s, e, shown(l), shown(want))
	}
	checkTold(t, s, l)
	return l
}

// checkTold looks whether l is Sound, and has no From and no byte 0.
func checkTold(t *testing.T, s string, l []api.Node) {
	t.Helper()
	if !dom.Sound(l) {
		t.Fatalf("P1010: %q: %s is not sound", s, shown(l))
	}
	if !eachNode(l, isClean) {
		t.Fatalf("P1010: %q: %s has a From, or a byte 0", s, shown(l))
	}
}

func eachNode(l []api.Node, is func(n api.Node) bool) bool {
	return !slices.ContainsFunc(l, func(n api.Node) bool { return !is(n) || !eachNode(n.Kids, is) })
}

func isClean(n api.Node) bool {
	all := n.Name + n.Text
	for _, a := range n.Attrs {
		all += a.Name + a.Value
	}
	return n.From == 0 && !strings.Contains(all, "\x00")
}

func TestThrown(t *testing.T) {
	all := allTags()
	for seed := range 12000 {
		d := newDie(seed)
		tags := all
		if k := seed % (2 * len(someTags())); k < len(someTags()) {
			tags = someTags()[k]
		} else if seed%3 == 0 {
			tags = []string{d.of(all), d.of(all), d.of(all), d.of(all), "table", "p"}
		}
		checkThrown(t, d.page(40, tags))
	}
}

// TestPairs looks at each two tags one behind the other, in all places that read tags in their own way.
func TestPairs(t *testing.T) {
	around := []string{"", "<table>", "<table><tr>", "<table><td>", "<svg>", "<math><mi>", "<template>", "<p><b>", "<table><caption>", "<table><tbody>"}
	all := allTags()
	for _, before := range around {
		for _, first := range all {
			checkThrown(t, before+"A<"+first+" id=1>B<b>C</"+first+">D")
			checkThrown(t, before+"A</"+first+">B<"+first+"/>C<p>D</table>E")
		}
	}
	for _, first := range all {
		for _, second := range all {
			checkThrown(t, "<"+first+">A<"+second+">B</"+first+">C</"+second+">D")
		}
	}
}

// TestP1010Order looks whether each text stands in the tree in the order of the page, where nothing is fostered.
func TestP1010Order(t *testing.T) {
	mute := strings.Fields("col colgroup caption iframe noembed noframes plaintext script style tbody td tfoot th thead title tr table textarea xmp")
	tags := slices.DeleteFunc(allTags(), func(s string) bool { return slices.Contains(mute, s) })
	for seed := range 4000 {
		d := newDie(50000 + seed)
		var page, typed strings.Builder
		some := []string{d.of(tags), d.of(tags), d.of(tags), d.of(tags), d.of(tags), "p", "b"}
		for range d.below(60) {
			page.WriteString(d.of([]string{"<", "<", "</"}) + d.of(some) + ">")
			if d.below(2) == 0 {
				sign := string(rune(0x4E00 + typed.Len()))
				page.WriteString(sign)
				typed.WriteString(sign)
			}
		}
		l, e := parse.Parse(page.String())
		if got := strings.Join(dom.Texts(l), ""); e != api.OK || got != typed.String() {
			t.Fatalf("%q: %v, %q, not %q", page.String(), e, got, typed.String())
		}
		checkTold(t, page.String(), l)
	}
}

// TestP1010Fostered looks whether in a page with tables, too, no text is lost or doubled.
func TestP1010Fostered(t *testing.T) {
	moved := 0
	tags := strings.Fields("table table tr td td th tbody caption p b i a div span object nobr br li ul h1 button")
	for seed := range 4000 {
		d := newDie(90000 + seed)
		var page strings.Builder
		var typed []rune
		for range d.below(60) {
			page.WriteString(d.of([]string{"<", "<", "</"}) + d.of(tags) + ">")
			if d.below(2) == 0 {
				typed = append(typed, rune(0x4E00+len(typed)))
				page.WriteRune(typed[len(typed)-1])
			}
		}
		l, _ := parse.Parse(page.String())
		got := []rune(strings.Join(dom.Texts(l), ""))
		if !slices.Equal(got, typed) {
			moved++
		}
		slices.Sort(got)
		if !slices.Equal(got, typed) {
			t.Fatalf("%q: of %q there is %q", page.String(), string(typed), string(got))
		}
		checkTold(t, page.String(), l)
	}
	if moved == 0 {
		t.Error("nothing was fostered")
	}
}

// TestP1010Bytes looks at pages of any bytes.
func TestP1010Bytes(t *testing.T) {
	signs := []string{"<", ">", "/", "!", "-", "--", "b", "p", "td", "table", "svg", "\x00", "\xFF", "\r\n", "&", "#0;", " ", "=", "\"", "x\x00", "desc", "<p", "</", "<table><", "[CDATA["}
	for seed := range 6000 {
		d := newDie(130000 + seed)
		var page strings.Builder
		for range d.below(60) {
			page.WriteString(d.of(signs))
		}
		s := page.String()
		checkThrown(t, s)
		l, e := parse.Page([]byte(s))
		if e != api.OK {
			t.Fatalf("Page of %q: %v", s, e)
		}
		checkTold(t, s, l)
	}
}
