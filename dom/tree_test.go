package dom_test

import (
	"fmt"
	"reflect"
	"slices"
	"strconv"
	"strings"
	"testing"

	"anagnost/api"
	"anagnost/dom"
)

func text(s string) api.Node {
	return api.Node{Kind: api.Text, Text: s}
}

func note(s string) api.Node {
	return api.Node{Kind: api.Note, Text: s}
}

func elem(name string, kids ...api.Node) api.Node {
	return api.Node{Kind: api.Elem, Space: api.Html, Name: name, Kids: kids}
}

// attrLists are lists with names that are there once, or twice.
func attrLists() [][]api.Attr {
	return [][]api.Attr{
		nil, {}, {{Name: "a"}}, {{}}, {{}, {}}, {{Name: "a"}, {}},
		{{Name: "a", Value: "1"}, {Name: "b", Value: "1"}},
		{{Name: "b", Value: "1"}, {Name: "a", Value: "1"}},
		{{Name: "a", Value: "1"}, {Name: "A", Value: "1"}},
		{{Name: "a", Value: "1"}, {Name: "a", Value: "2"}},
		{{Name: "a"}, {Name: "b"}, {Name: "c"}, {Name: "a"}},
		{{Name: "a"}, {Name: "b"}, {Name: "c"}, {Name: "d"}},
	}
}

// kinds are nodes of all fields that matter for Sound, combined.
func kinds() []api.Node {
	var out []api.Node
	for _, attrs := range attrLists() {
		for _, kids := range [][]api.Node{nil, {}, {text("k")}, {elem("k")}, {note("")}, {{}}, {text("")}, {text("k"), text("l")}, {text("k"), note("n"), text("l")}} {
			for i := range 6 * 6 * 2 * 2 * 4 {
				out = append(out, api.Node{
					Kind: i%6 - 1, Space: i/6%6 - 1, Name: []string{"", "p"}[i/36%2], Text: []string{"", "t"}[i/72%2],
					From: []int{-1, 0, 1, 9}[i/144], Attrs: attrs, Kids: kids,
				})
			}
		}
	}
	return out
}

// sound is P603's words.
func sound(l []api.Node) bool {
	for i, n := range l {
		names := []string{}
		for _, a := range n.Attrs {
			if slices.Contains(names, a.Name) && n.Kind == api.Elem {
				return false
			}
			names = append(names, a.Name)
		}
		isElem := n.Kind == api.Elem && slices.Contains([]int{api.Html, api.Svg, api.Math}, n.Space) && n.Name != "" && n.Text == "" && n.From == 0
		isText := n.Kind == api.Text && n.Text != "" && n.Space == 0 && n.Name == "" && len(n.Attrs) == 0 && len(n.Kids) == 0 && n.From >= 0
		isNote := n.Kind == api.Note && n.Space == 0 && n.Name == "" && len(n.Attrs) == 0 && len(n.Kids) == 0 && n.From == 0
		if !isElem && !isText && !isNote || !sound(n.Kids) {
			return false
		}
		if i > 0 && n.Kind == api.Text && l[i-1].Kind == api.Text {
			return false
		}
	}
	return true
}

func TestP603SoundAgainstItsWords(t *testing.T) {
	many := 0
	for _, n := range kinds() {
		for _, l := range [][]api.Node{{n}, {elem("p"), n}, {n, elem("p")}, {text("a"), n}, {n, text("a")}, {elem("p", note(""), elem("q", n))}} {
			want := sound(l)
			if want {
				many++
			}
			if got := dom.Sound(l); got != want {
				t.Fatalf("Sound(%s): %v", shown(l), got)
			}
		}
	}
	if many == 0 {
		t.Error("none was sound")
	}
}

func TestP603KnownSound(t *testing.T) {
	for _, x := range []struct {
		l    []api.Node
		want bool
	}{
		{nil, true},
		{[]api.Node{}, true},
		{[]api.Node{elem("p", text("a"), elem("b"), text("c"))}, true},
		{[]api.Node{text("a"), note("n"), text("b")}, true},
		{[]api.Node{note("n"), note(""), note("n")}, true},
		{[]api.Node{text("a"), text("b")}, false},
		{[]api.Node{elem("p", text("a")), text("b")}, true},
		{[]api.Node{elem("p", elem("q", text("a"), text("b")))}, false},
		{[]api.Node{text("a"), elem("p"), text("b"), text("c")}, false},
		{[]api.Node{elem("")}, false},
		{[]api.Node{{Kind: api.Elem, Space: api.Svg, Name: "g"}, {Kind: api.Elem, Space: api.Math, Name: "mi"}}, true},
		{[]api.Node{{Kind: api.Elem, Space: api.Math + 1, Name: "mi"}}, false},
		{[]api.Node{{}}, false},
		{[]api.Node{elem("p"), {Kind: 4, Name: "p", Space: 1}}, false},
	} {
		if got := dom.Sound(x.l); got != x.want {
			t.Errorf("Sound(%s): %v", shown(x.l), got)
		}
	}
}

func TestP603SoundOfManyAttributes(t *testing.T) {
	n := elem("p")
	for i := range 200000 {
		n.Attrs = append(n.Attrs, api.Attr{Name: "n" + strconv.Itoa(i)})
	}
	if !dom.Sound([]api.Node{n}) {
		t.Error("very many attributes, each once: not sound")
	}
	n.Attrs = append(n.Attrs, api.Attr{Name: "n0", Value: "1"})
	if dom.Sound([]api.Node{n}) {
		t.Error("very many attributes, one twice: sound")
	}
}

func TestP603Deep(t *testing.T) {
	for _, x := range []struct {
		l    []api.Node
		want int
	}{
		{nil, 0},
		{[]api.Node{}, 0},
		{[]api.Node{{}}, 1},
		{[]api.Node{text("a"), elem("p"), note("")}, 1},
		{[]api.Node{elem("p", text("a"))}, 2},
		{[]api.Node{elem("p", elem("q", elem("r"))), elem("p", elem("q"))}, 3},
		{[]api.Node{elem("p"), elem("p", elem("q")), elem("p", elem("q", text(""), elem("r", elem("s"))))}, 4},
		{[]api.Node{{Kind: api.Text, Kids: []api.Node{{Kids: []api.Node{{}}}}}}, 3},
	} {
		if got := dom.Deep(x.l); got != x.want {
			t.Errorf("Deep(%s): %d, not %d", shown(x.l), got, x.want)
		}
	}
}

// rows are lists of which each is unlike all others.
func rows() [][]api.Node {
	whole := api.Node{Kind: 1, Space: 2, Name: "n", Attrs: []api.Attr{{Name: "a", Value: "1"}, {Name: "b", Value: "2"}}, Text: "t", From: 3, Kids: []api.Node{text("k"), elem("p")}}
	out := [][]api.Node{nil, {{}}, {{}, {}}, {whole}, {whole, whole}, {whole, {}}, {{}, whole}}
	for _, turn := range []func(n *api.Node){
		func(n *api.Node) { n.Kind = 2 },
		func(n *api.Node) { n.Space = 1 },
		func(n *api.Node) { n.Name = "N" },
		func(n *api.Node) { n.Name = "" },
		func(n *api.Node) { n.Text = "" },
		func(n *api.Node) { n.Text = "tt" },
		func(n *api.Node) { n.From = 0 },
		func(n *api.Node) { n.From = -3 },
		func(n *api.Node) { n.Attrs = nil },
		func(n *api.Node) { n.Attrs = n.Attrs[:1] },
		func(n *api.Node) { n.Attrs = n.Attrs[1:] },
		func(n *api.Node) { n.Attrs = []api.Attr{n.Attrs[1], n.Attrs[0]} },
		func(n *api.Node) { n.Attrs = []api.Attr{n.Attrs[0], n.Attrs[0]} },
		func(n *api.Node) { n.Attrs = []api.Attr{n.Attrs[0], {Name: "b"}} },
		func(n *api.Node) { n.Attrs = []api.Attr{n.Attrs[0], {Name: "B", Value: "2"}} },
		func(n *api.Node) { n.Kids = nil },
		func(n *api.Node) { n.Kids = n.Kids[:1] },
		func(n *api.Node) { n.Kids = []api.Node{n.Kids[1], n.Kids[0]} },
		func(n *api.Node) { n.Kids = []api.Node{n.Kids[0], elem("p", text("deep"))} },
		func(n *api.Node) { n.Kids = []api.Node{n.Kids[0], elem("p", elem("deep"))} },
	} {
		n := whole
		turn(&n)
		out = append(out, []api.Node{n}, []api.Node{elem("up", n)}, []api.Node{whole, n}, []api.Node{text("a"), elem("up", elem("up", n))})
	}
	return out
}

func TestP603Same(t *testing.T) {
	all, again := rows(), rows()
	for i, a := range all {
		for k, b := range again {
			if got := dom.Same(a, b); got != (i == k) {
				t.Errorf("Same(%s, %s): %v", shown(a), shown(b), got)
			}
		}
		if !dom.Same(a, a) {
			t.Errorf("not the Same as itself: %s", shown(a))
		}
	}
}

func TestP603NoListIsAnEmptyOne(t *testing.T) {
	full := api.Node{Kind: api.Elem, Space: 1, Name: "p", Attrs: []api.Attr{}, Kids: []api.Node{}}
	if !dom.Same(nil, []api.Node{}) || !dom.Same([]api.Node{}, nil) || !dom.Same([]api.Node{full}, []api.Node{elem("p")}) || !dom.Same([]api.Node{elem("p")}, []api.Node{full}) {
		t.Error("no list and an empty one are not the same")
	}
	blank := api.Node{Kind: api.Note, Attrs: []api.Attr{}, Kids: []api.Node{}}
	if !dom.Sound([]api.Node{full, blank}) || dom.Deep([]api.Node{full}) != 1 {
		t.Error("empty lists are something")
	}
}

// numbered is P604's words: next is the number of the next text.
func numbered(l []api.Node, next *int) []api.Node {
	out := []api.Node{}
	for _, n := range l {
		if n.Kind == api.Text {
			n.From = *next
			*next++
		}
		n.Kids = numbered(n.Kids, next)
		out = append(out, n)
	}
	return out
}

func TestP604AgainstItsWords(t *testing.T) {
	all := append(rows(), nil, []api.Node{}, kinds()[:2000], []api.Node{text("a"), elem("p", text(""), elem("q", text("c")), text("d")), note("n"), text("e")})
	for _, l := range all {
		next := 1
		want := numbered(l, &next)
		was := shown(l)
		got := dom.Number(l)
		if shown(got) != shown(want) {
			t.Errorf("Number(%s): %s", was, shown(got))
		}
		if shown(l) != was {
			t.Errorf("Number changed %s to %s", was, shown(l))
		}
		texts := dom.Texts(l)
		if len(texts) != next-1 || !slices.Equal(texts, dom.Texts(got)) {
			t.Errorf("Texts(%s): %q", was, texts)
		}
	}
}

func TestP604Known(t *testing.T) {
	l := []api.Node{
		{Kind: api.Text, Text: "a", From: 7},
		elem("p", text("b"), elem("q", text("c"), note("x")), text("d")),
		{Kind: api.Elem, From: 5, Text: "e"},
		{Kind: api.Note, From: 6, Text: "n"},
		text(""),
		{Kind: api.Text, Text: "f", From: -1, Kids: []api.Node{text("g")}},
		text("h"),
	}
	if got := dom.Texts(l); !slices.Equal(got, []string{"a", "b", "c", "d", "", "f", "g", "h"}) {
		t.Errorf("Texts: %q", got)
	}
	got := dom.Number(l)
	from := []int{got[0].From, got[1].From, got[1].Kids[0].From, got[1].Kids[1].From, got[1].Kids[1].Kids[0].From, got[1].Kids[1].Kids[1].From, got[1].Kids[2].From,
		got[2].From, got[3].From, got[4].From, got[5].From, got[5].Kids[0].From, got[6].From}
	if !slices.Equal(from, []int{1, 0, 2, 0, 3, 0, 4, 5, 6, 5, 6, 7, 8}) {
		t.Errorf("Number: %v", from)
	}
	if again := dom.Number(got); !dom.Same(again, got) {
		t.Errorf("Number twice: %s", shown(again))
	}
}

func TestP2TreesStayAsTheyAre(t *testing.T) {
	build := func() []api.Node {
		attrs := []api.Attr{{Name: "b"}, {Name: "a"}, {Name: "spare"}}
		kids := []api.Node{text("a"), elem("p"), text("c"), {Kind: api.Text, Text: "spare"}}
		return []api.Node{{Kind: api.Elem, Space: 1, Name: "p", Attrs: attrs[:2], Kids: kids[:3]}, text("x"), {Kind: api.Text, Name: "spare"}}
	}
	l, want := build()[:2], build()
	dom.Deep(l)
	dom.Sound(l)
	dom.Same(l, l)
	texts := dom.Texts(l)
	number := dom.Number(l)
	for i := range texts[:cap(texts)] {
		texts[:cap(texts)][i] = "spoilt"
	}
	spoil(number)
	if !reflect.DeepEqual(l[:3], want) || !slices.Equal(l[0].Attrs[:3], want[0].Attrs[:3]) || shown(l[0].Kids[:4]) != shown(want[0].Kids[:4]) {
		t.Errorf("changed: %s", shown(l[:3]))
	}
	number = dom.Number(l)
	was := shown(number)
	spoil(l)
	if shown(number) != was {
		t.Errorf("Number keeps what it was given: %s, not %s", shown(number), was)
	}
}

func TestP605SoundByWriting(t *testing.T) {
	d := die(9)
	x := dom.New()
	elems := []int{0}
	for i := range 400 {
		up := elems[d.below(len(elems))]
		switch d.below(3) {
		case 0:
			n := x.Elem(1+d.below(3), "e"+strconv.Itoa(i), nil)
			x.Put(n, up, -1)
			elems = append(elems, n)
		case 1:
			x.Put(x.Note(""), up, -1)
		default:
			x.Write(fmt.Sprint("t", i, ";"), up, -1)
		}
	}
	l := x.Tree(0)
	if !dom.Sound(l) {
		t.Errorf("not sound: %s", shown(l))
	}
	if got := strings.Count(strings.Join(dom.Texts(l), ""), ";"); got == 0 || got != strings.Count(shown(l), ";") {
		t.Errorf("%d texts", got)
	}
}
