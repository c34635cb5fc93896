package dom_test

import (
	"fmt"
	"math"
	"slices"
	"strings"
	"testing"

	"anagnost/api"
	"anagnost/dom"
)

// thing is a node of a model: P601's words, by lists.
type thing struct {
	node api.Node
	up   int
	kids []int
}

type model struct {
	things []thing
}

func newModel() *model {
	return &model{[]thing{{node: api.Node{Kind: api.Elem, Space: api.Html}, up: -1}}}
}

func (m *model) add(n api.Node) int {
	m.things = append(m.things, thing{node: n, up: -1})
	return len(m.things) - 1
}

func (m *model) is(n int) bool {
	return n >= 0 && n < len(m.things)
}

func (m *model) elem(n int) bool {
	return m.is(n) && m.things[n].node.Kind == api.Elem
}

// below tells whether n is below top.
func (m *model) below(n, top int) bool {
	for _, k := range m.things[top].kids {
		if k == n || m.below(n, k) {
			return true
		}
	}
	return false
}

// place tells at which of up's kids that place is.
func (m *model) place(up, ahead int) (int, bool) {
	if !m.elem(up) {
		return 0, false
	}
	if ahead == -1 {
		return len(m.things[up].kids), true
	}
	at := slices.Index(m.things[up].kids, ahead)
	return at, at >= 0
}

func (m *model) lay(n, up, at int) {
	m.things[up].kids = slices.Insert(m.things[up].kids, at, n)
	m.things[n].up = up
}

func (m *model) put(n, up, ahead int) bool {
	at, is := m.place(up, ahead)
	if !m.is(n) || n == 0 || m.things[n].up != -1 || !is || up == n || m.below(up, n) {
		return false
	}
	m.lay(n, up, at)
	return true
}

func (m *model) write(s string, up, ahead int) bool {
	at, is := m.place(up, ahead)
	if !is || s == "" {
		return is
	}
	if at > 0 {
		if k := m.things[up].kids[at-1]; m.things[k].node.Kind == api.Text {
			m.things[k].node.Text += s
			return true
		}
	}
	m.lay(m.add(api.Node{Kind: api.Text, Text: s}), up, at)
	return true
}

func (m *model) take(n int) bool {
	if !m.is(n) || m.things[n].up == -1 {
		return false
	}
	x := &m.things[m.things[n].up]
	x.kids = slices.DeleteFunc(x.kids, func(k int) bool { return k == n })
	m.things[n].up = -1
	return true
}

func (m *model) move(from, to int) bool {
	if !m.elem(from) || !m.elem(to) || from == to || m.below(to, from) {
		return false
	}
	for _, k := range m.things[from].kids {
		m.things[k].up = to
	}
	m.things[to].kids = append(m.things[to].kids, m.things[from].kids...)
	m.things[from].kids = nil
	return true
}

func (m *model) tree(n int) []api.Node {
	var out []api.Node
	for _, k := range m.things[n].kids {
		x := m.things[k].node
		x.Kids = m.tree(k)
		out = append(out, x)
	}
	return out
}

// odd are numbers that are of no node.
func odd() []int {
	return []int{math.MinInt, math.MinInt32, -3, -2, 1 << 20, math.MaxInt32, math.MaxInt}
}

// shown tells all of l as text: no list and an empty one are the same there.
func shown(l []api.Node) string {
	var s strings.Builder
	for _, n := range l {
		fmt.Fprintf(&s, "{%d %d %q %q %q %d [%s]}", n.Kind, n.Space, n.Name, n.Attrs, n.Text, n.From, shown(n.Kids))
	}
	return s.String()
}

// told tells all that a Doc tells, as text.
func told(d *dom.Doc) string {
	var s strings.Builder
	fmt.Fprintln(&s, d.Size())
	for n := range d.Size() {
		fmt.Fprintln(&s, d.Up(n), d.Kids(n), shown([]api.Node{d.Node(n)}), shown(d.Tree(n)))
	}
	return s.String()
}

// toldOf is told of a model.
func toldOf(m *model) string {
	var s strings.Builder
	fmt.Fprintln(&s, len(m.things))
	for n, x := range m.things {
		fmt.Fprintln(&s, x.up, x.kids, shown([]api.Node{x.node}), shown(m.tree(n)))
	}
	return s.String()
}

// die throws numbers, the same ones each time.
type die uint64

func (d *die) below(n int) int {
	*d = *d*6364136223846793005 + 1442695040888963407
	return int(uint64(*d) >> 33 % uint64(n))
}

// number tells a node's number of a Doc of that size, or now and then another number.
func (d *die) number(size int) int {
	if l := odd(); d.below(12) == 0 {
		return l[d.below(len(l))]
	}
	return d.below(size+2) - 1
}

// kid tells one of up's kids, where it has any, or a number.
func (d *die) kid(m *model, up int) int {
	if m.is(up) && len(m.things[up].kids) > 0 && d.below(4) > 0 {
		return m.things[up].kids[d.below(len(m.things[up].kids))]
	}
	if d.below(3) > 0 {
		return -1
	}
	return d.number(len(m.things))
}

// step does one call of a Doc and of its model, and tells it, and what both answered.
func (d *die) step(x *dom.Doc, m *model) (call string, got, want any) {
	n, up := d.number(len(m.things)), d.number(len(m.things))
	ahead := d.kid(m, up)
	s := []string{"", "a", "bc", "\x00", "\xFF<"}[d.below(5)]
	switch d.below(9) {
	case 0, 1:
		space := d.below(6) - 1
		attrs := []api.Attr{{Name: s, Value: "1"}, {Name: "b"}, {Name: s}}[:d.below(4)]
		got = x.Elem(space, s, attrs)
		return "Elem", got, m.add(api.Node{Kind: api.Elem, Space: space, Name: s, Attrs: slices.Clone(attrs)})
	case 2:
		return "Note", x.Note(s), m.add(api.Node{Kind: api.Note, Text: s})
	case 3, 4, 5:
		return fmt.Sprint("Put ", n, up, ahead), x.Put(n, up, ahead), m.put(n, up, ahead)
	case 6:
		return fmt.Sprint("Write ", s, up, ahead), x.Write(s, up, ahead), m.write(s, up, ahead)
	case 7:
		return fmt.Sprint("Take ", n), x.Take(n), m.take(n)
	}
	return fmt.Sprint("Move ", n, up), x.Move(n, up), m.move(n, up)
}

func TestP601AgainstItsWords(t *testing.T) {
	for seed := range 150 {
		d := die(seed)
		x, m := dom.New(), newModel()
		for range 100 {
			before := told(x)
			call, got, want := d.step(x, m)
			if got != want {
				t.Fatalf("seed %d: %s: %v, not %v", seed, call, got, want)
			}
			after := told(x)
			if wish := toldOf(m); after != wish {
				t.Fatalf("seed %d: behind %s:\n%s, not\n%s", seed, call, after, wish)
			}
			if got == false && after != before {
				t.Fatalf("seed %d: %s was false, and changed\n%s to\n%s", seed, call, before, after)
			}
		}
	}
}

func TestP601Examples(t *testing.T) {
	d := dom.New()
	if !d.Write("a", 0, -1) || !d.Write("b", 0, -1) {
		t.Error("Write at the root: false")
	}
	if got := d.Tree(0); len(got) != 1 || got[0].Kind != api.Text || got[0].Text != "ab" {
		t.Errorf("a and b written: %s", shown(got))
	}
	if d.Put(0, 0, -1) {
		t.Error("Put(0, 0, -1): true")
	}
}

func TestP601Root(t *testing.T) {
	d := dom.New()
	if got, want := told(d), "1\n-1 [] {1 1 \"\" [] \"\" 0 []} \n"; got != want {
		t.Errorf("a new Doc: %q, not %q", got, want)
	}
	if d.Take(0) || d.Put(0, d.Elem(api.Html, "p", nil), -1) {
		t.Error("the root has a place")
	}
}

func TestP601NumbersAsTheyAreMade(t *testing.T) {
	d := dom.New()
	if n := d.Elem(api.Svg, "g", nil); n != 1 {
		t.Errorf("Elem: %d", n)
	}
	if n := d.Note(""); n != 2 {
		t.Errorf("Note: %d", n)
	}
	d.Write("a", 1, -1)
	if n := d.Note("n"); n != 4 || d.Node(3).Text != "a" || d.Up(3) != 1 {
		t.Errorf("Note behind a text: %d", n)
	}
	d.Write("b", 1, -1)
	d.Write("", 0, -1)
	d.Write("c", 2, -1)
	if n := d.Elem(api.Html, "p", nil); n != 5 || d.Size() != 6 {
		t.Errorf("Elem behind Writes that made nothing: %d", n)
	}
	for _, n := range []int{1, 2, 4, 5} {
		if d.Up(n) != -1 {
			t.Errorf("%d has a place from the beginning on", n)
		}
	}
}

// family is a Doc: 0 has 1 (an element), 5 (a text) and 4 (a note); 1 has 2; 2 has 3; 6 has no place and has 7; 8 has none.
func family() *dom.Doc {
	d := dom.New()
	for _, name := range []string{"a", "b", "c"} {
		d.Put(d.Elem(api.Html, name, nil), d.Size()-2, -1)
	}
	d.Put(d.Note("n"), 0, -1)
	d.Write("t", 0, 4)
	d.Elem(api.Math, "mi", nil)
	d.Put(d.Elem(api.Math, "mn", nil), 6, -1)
	d.Elem(api.Svg, "g", nil)
	return d
}

func TestP601WhatIsFalse(t *testing.T) {
	calls := map[string]func(d *dom.Doc) bool{
		"Put: n is no node":              func(d *dom.Doc) bool { return d.Put(9, 0, -1) },
		"Put: up is no node":             func(d *dom.Doc) bool { return d.Put(8, 9, -1) },
		"Put: up is none":                func(d *dom.Doc) bool { return d.Put(8, -1, -1) },
		"Put: n is 0":                    func(d *dom.Doc) bool { return d.Put(0, 6, -1) },
		"Put: n has that place":          func(d *dom.Doc) bool { return d.Put(4, 0, -1) },
		"Put: n has a place":             func(d *dom.Doc) bool { return d.Put(4, 8, -1) },
		"Put: n, without place above":    func(d *dom.Doc) bool { return d.Put(7, 0, -1) },
		"Put: up is a text":              func(d *dom.Doc) bool { return d.Put(8, 5, -1) },
		"Put: up is a note":              func(d *dom.Doc) bool { return d.Put(8, 4, -1) },
		"Put: up is n":                   func(d *dom.Doc) bool { return d.Put(8, 8, -1) },
		"Put: up is n, with kids":        func(d *dom.Doc) bool { return d.Put(6, 6, -1) },
		"Put: up is below n":             func(d *dom.Doc) bool { return d.Put(6, 7, -1) },
		"Put: ahead is up":               func(d *dom.Doc) bool { return d.Put(8, 0, 0) },
		"Put: ahead is n":                func(d *dom.Doc) bool { return d.Put(8, 0, 8) },
		"Put: ahead is further below":    func(d *dom.Doc) bool { return d.Put(8, 0, 2) },
		"Put: ahead is another one's":    func(d *dom.Doc) bool { return d.Put(8, 0, 7) },
		"Put: ahead is no node":          func(d *dom.Doc) bool { return d.Put(8, 0, 9) },
		"Put: ahead is -2":               func(d *dom.Doc) bool { return d.Put(8, 0, -2) },
		"Write: up is no node":           func(d *dom.Doc) bool { return d.Write("x", 9, -1) },
		"Write: up is a text":            func(d *dom.Doc) bool { return d.Write("x", 5, -1) },
		"Write: up is a note":            func(d *dom.Doc) bool { return d.Write("x", 4, -1) },
		"Write: ahead is another one's":  func(d *dom.Doc) bool { return d.Write("x", 0, 3) },
		"Write: ahead has no place":      func(d *dom.Doc) bool { return d.Write("x", 0, 8) },
		"Write: ahead is no node":        func(d *dom.Doc) bool { return d.Write("x", 0, 9) },
		"Write: ahead is -2":             func(d *dom.Doc) bool { return d.Write("x", 0, -2) },
		"Write of nothing: up":           func(d *dom.Doc) bool { return d.Write("", 4, -1) },
		"Write of nothing: ahead":        func(d *dom.Doc) bool { return d.Write("", 0, 2) },
		"Take: it has no place":          func(d *dom.Doc) bool { return d.Take(6) },
		"Take: the root":                 func(d *dom.Doc) bool { return d.Take(0) },
		"Take: it is none":               func(d *dom.Doc) bool { return d.Take(9) },
		"Take: -1":                       func(d *dom.Doc) bool { return d.Take(-1) },
		"Move: from is a text":           func(d *dom.Doc) bool { return d.Move(5, 0) },
		"Move: from is a note":           func(d *dom.Doc) bool { return d.Move(4, 0) },
		"Move: to is a text":             func(d *dom.Doc) bool { return d.Move(1, 5) },
		"Move: to is a note":             func(d *dom.Doc) bool { return d.Move(1, 4) },
		"Move: from is none":             func(d *dom.Doc) bool { return d.Move(9, 0) },
		"Move: to is none":               func(d *dom.Doc) bool { return d.Move(1, -1) },
		"Move: they are one":             func(d *dom.Doc) bool { return d.Move(1, 1) },
		"Move: they are one, and empty":  func(d *dom.Doc) bool { return d.Move(8, 8) },
		"Move: to is from's kid":         func(d *dom.Doc) bool { return d.Move(1, 2) },
		"Move: to is further below from": func(d *dom.Doc) bool { return d.Move(0, 3) },
	}
	for name, call := range calls {
		d := family()
		before := told(d)
		if call(d) {
			t.Errorf("%s: true", name)
		}
		if after := told(d); after != before {
			t.Errorf("%s: changed\n%s to\n%s", name, before, after)
		}
	}
}

func TestP601PutWhere(t *testing.T) {
	for ahead, want := range map[int]string{-1: "[1 5 4 8]", 1: "[8 1 5 4]", 5: "[1 8 5 4]", 4: "[1 5 8 4]"} {
		d := family()
		if !d.Put(8, 0, ahead) || fmt.Sprint(d.Kids(0)) != want || d.Up(8) != 0 {
			t.Errorf("Put(8, 0, %d): %v", ahead, d.Kids(0))
		}
	}
	d := family()
	if !d.Put(6, 3, -1) || fmt.Sprint(d.Kids(3), d.Kids(6), d.Up(6), d.Up(7)) != "[6] [7] 3 6" {
		t.Error("Put of one with kids, deep below")
	}
}

func TestP601WriteWhere(t *testing.T) {
	for _, x := range []struct {
		up, ahead, size int
		want            string
	}{
		{0, -1, 10, `<a>tnX`}, // behind the note
		{0, 4, 9, `<a>tXn`},   // behind the text, ahead of the note
		{0, 5, 10, `<a>Xtn`},  // ahead of the text: that one stays alone
		{0, 1, 10, `X<a>tn`},
	} {
		d := family()
		if !d.Write("X", x.up, x.ahead) || d.Size() != x.size {
			t.Errorf("Write at %d, %d: not so, or %d nodes", x.up, x.ahead, d.Size())
		}
		got := ""
		for _, n := range d.Tree(0) {
			if n.Kind == api.Elem {
				got += "<" + n.Name + ">"
			}
			got += n.Text
		}
		if got != x.want {
			t.Errorf("Write at %d, %d: %s, not %s", x.up, x.ahead, got, x.want)
		}
		before := told(d)
		if !d.Write("", x.up, x.ahead) || told(d) != before {
			t.Errorf("Write of nothing at %d, %d", x.up, x.ahead)
		}
	}
}

func TestP601TextsThatMeetStayTwo(t *testing.T) {
	d := dom.New()
	d.Write("a", 0, -1)
	p := d.Elem(api.Html, "p", nil)
	d.Put(p, 0, -1)
	d.Write("b", 0, -1)
	if !d.Take(p) || strings.Join(dom.Texts(d.Tree(0)), "|") != "a|b" {
		t.Error("texts that meet by Take are one")
	}
	if !d.Write("c", 0, 3) || !d.Write("d", 0, -1) || strings.Join(dom.Texts(d.Tree(0)), "|") != "ac|bd" {
		t.Errorf("Write between texts, and last: %q", dom.Texts(d.Tree(0)))
	}
	d.Write("e", p, -1)
	d.Put(p, 0, 1)
	if !d.Move(p, 0) || strings.Join(dom.Texts(d.Tree(0)), "|") != "ac|bd|e" {
		t.Errorf("texts that meet by Move: %q", dom.Texts(d.Tree(0)))
	}
	if !d.Take(1) || !d.Put(1, p, -1) || !d.Write("f", p, -1) || d.Node(1).Text != "acf" {
		t.Errorf("a text that was put elsewhere: %q", d.Node(1).Text)
	}
}

func TestP601TakeAndPutAgain(t *testing.T) {
	d := family()
	if !d.Take(1) || d.Take(1) || fmt.Sprint(d.Up(1), d.Kids(0), d.Kids(1), d.Up(2), d.Kids(2)) != "-1 [5 4] [2] 1 [3]" {
		t.Error("Take of one with kids")
	}
	if d.Put(1, 3, -1) || d.Put(1, 2, 3) || !d.Put(1, 6, 7) || fmt.Sprint(d.Kids(6), d.Up(1)) != "[1 7] 6" {
		t.Error("Put again")
	}
	for _, n := range []int{5, 4} {
		if !d.Take(n) {
			t.Errorf("Take(%d)", n)
		}
	}
	if len(d.Kids(0)) != 0 || len(d.Tree(0)) != 0 || !d.Put(4, 0, -1) || fmt.Sprint(d.Kids(0)) != "[4]" {
		t.Error("Put where all were taken")
	}
}

func TestP601Move(t *testing.T) {
	d := family()
	if !d.Move(0, 6) || fmt.Sprint(d.Kids(0), d.Kids(6), d.Up(1), d.Up(5), d.Up(4), d.Up(2)) != "[] [7 1 5 4] 6 6 6 1" {
		t.Error("Move to one that has kids")
	}
	if !d.Move(0, 6) || fmt.Sprint(d.Kids(6)) != "[7 1 5 4]" {
		t.Error("Move of no kids")
	}
	if !d.Move(6, 0) || fmt.Sprint(d.Kids(0), d.Kids(6)) != "[7 1 5 4] []" {
		t.Error("Move back")
	}
	if !d.Move(2, 0) || fmt.Sprint(d.Kids(0), d.Kids(2), d.Up(3)) != "[7 1 5 4 3] [] 0" {
		t.Error("Move to one above")
	}
	if !d.Move(2, 3) || !d.Move(3, 2) {
		t.Error("Move of no kids to one elsewhere")
	}
}

func TestP602OfNone(t *testing.T) {
	d := family()
	for _, n := range append(odd(), -1, 9) {
		if d.Up(n) != -1 || len(d.Kids(n)) != 0 || len(d.Tree(n)) != 0 || shown([]api.Node{d.Node(n)}) != shown(make([]api.Node, 1)) {
			t.Errorf("%d is no node, and is told of", n)
		}
	}
	if d.Up(6) != -1 || d.Up(7) != 6 || d.Up(0) != -1 {
		t.Error("Up of those without a place")
	}
}

func TestP602Node(t *testing.T) {
	d := dom.New()
	attrs := []api.Attr{{Name: "b", Value: "1"}, {Name: "a", Value: "\x00"}, {Name: "b", Value: "2"}}
	p := d.Elem(api.Svg, "foreignObject", attrs)
	n := d.Note("<n>")
	d.Write("t", p, -1)
	d.Put(n, p, -1)
	for k, want := range map[int]api.Node{
		p:     {Kind: api.Elem, Space: api.Svg, Name: "foreignObject", Attrs: attrs},
		n:     {Kind: api.Note, Text: "<n>"},
		n + 1: {Kind: api.Text, Text: "t"},
	} {
		got := d.Node(k)
		if shown([]api.Node{got}) != shown([]api.Node{want}) || got.Kids != nil {
			t.Errorf("Node(%d): %s", k, shown([]api.Node{got}))
		}
	}
	if got := d.Tree(p); len(got) != 2 || got[0].Attrs != nil || got[0].Kids != nil || got[1].Kids != nil {
		t.Errorf("Tree: %s", shown(got))
	}
}

func TestP605DeepAsItsNodesStand(t *testing.T) {
	d := family()
	for n, want := range []int{3, 2, 1, 0, 0, 0, 1, 0, 0} {
		if got := dom.Deep(d.Tree(n)); got != want {
			t.Errorf("Tree(%d): %d levels, not %d", n, got, want)
		}
	}
}

func TestP605TextsAreWhole(t *testing.T) {
	d := die(5)
	x := dom.New()
	var all strings.Builder
	for range 3000 {
		b := make([]byte, d.below(9))
		for i := range b {
			b[i] = byte(d.below(256))
		}
		all.Write(b)
		x.Write("lost", 7777, -1)
		if !x.Write(string(b), 0, -1) {
			t.Fatal("Write: false")
		}
	}
	if got := x.Tree(0); len(got) != 1 || got[0].Text != all.String() || x.Node(1).Text != all.String() {
		t.Error("a text that was written is not whole")
	}
}

func TestLimitsVeryDeep(t *testing.T) {
	const levels = 1 << 16
	d := dom.New()
	for n := range levels {
		if !d.Put(d.Elem(api.Html, "b", nil), n, -1) {
			t.Fatalf("Put at level %d", n)
		}
	}
	l := d.Tree(0)
	if got := dom.Deep(l); got != levels {
		t.Errorf("Deep: %d", got)
	}
	if !dom.Sound(l) || !dom.Same(l, d.Tree(0)) || dom.Same(l, d.Tree(1)) || dom.Deep(dom.Number(l)) != levels || len(dom.Texts(l)) != 0 {
		t.Error("a very deep tree")
	}
	if d.Move(0, levels) || !d.Take(1) || d.Put(1, levels, -1) || !d.Put(1, 0, -1) {
		t.Error("the first and the last of a very deep tree")
	}
}

func TestLimitsVeryMany(t *testing.T) {
	const many = 200000
	d := dom.New()
	p := d.Elem(api.Html, "p", nil)
	d.Put(p, 0, -1)
	ahead := -1
	for range many {
		n := d.Note("")
		if !d.Put(n, p, ahead) {
			t.Fatal("Put: false")
		}
		ahead = n
	}
	kids := d.Kids(p)
	if len(kids) != many || kids[0] != many+1 || kids[many-1] != 2 {
		t.Fatalf("%d kids", len(kids))
	}
	for i := 1; i < many; i += 2 {
		if !d.Take(kids[i]) || !d.Write("x", p, kids[i-1]) {
			t.Fatal("Take, Write: false")
		}
	}
	if !d.Move(p, 0) || len(d.Kids(p)) != 0 || len(d.Tree(0)) != 1+many {
		t.Errorf("%d kids behind Move", len(d.Tree(0)))
	}
}

func TestLimitsVeryLongText(t *testing.T) {
	const many = 400000
	d := dom.New()
	for range many {
		d.Write("abc", 0, -1)
	}
	if got := d.Tree(0); len(got) != 1 || got[0].Text != strings.Repeat("abc", many) {
		t.Error("a text of very many pieces")
	}
}

func TestP2WhatIsHandedIn(t *testing.T) {
	d := dom.New()
	attrs := []api.Attr{{Name: "a", Value: "1"}, {Name: "b", Value: "2"}, {Name: "spare"}}
	p := d.Elem(api.Html, "p", attrs[:2])
	d.Put(p, 0, -1)
	if attrs[2].Name != "spare" || attrs[0].Value != "1" {
		t.Errorf("changed: %q", attrs)
	}
	before := told(d)
	for i := range attrs {
		attrs[i] = api.Attr{Name: "spoilt"}
	}
	if after := told(d); after != before {
		t.Errorf("kept:\n%s, and\n%s", before, after)
	}
	if q := d.Elem(api.Html, "q", attrs[:0]); len(d.Node(q).Attrs) != 0 {
		t.Error("an empty list has attributes")
	}
}

// spoil writes all over a list, its spare room and what is below it.
func spoil(l []api.Node) {
	l = l[:cap(l)]
	for i := range l {
		spoil(l[i].Kids)
		a := l[i].Attrs[:cap(l[i].Attrs)]
		for j := range a {
			a[j] = api.Attr{Name: "spoilt", Value: "spoilt"}
		}
		l[i] = api.Node{Kind: 9, Name: "spoilt", Text: "spoilt", From: 9}
	}
}

func TestP2WhatADocTells(t *testing.T) {
	d := family()
	d.Put(d.Elem(api.Html, "p", []api.Attr{{Name: "a", Value: "1"}, {Name: "b"}, {Name: "c"}}), 2, -1)
	before := told(d)
	for n := range d.Size() {
		kids := d.Kids(n)
		for i := range kids[:cap(kids)] {
			kids[:cap(kids)][i] = 99
		}
		spoil([]api.Node{d.Node(n)})
		spoil(d.Tree(n))
		if after := told(d); after != before {
			t.Fatalf("changed by who has what is told of %d:\n%s, not\n%s", n, after, before)
		}
	}
	tree := d.Tree(0)
	was := shown(tree)
	d.Write("more", 0, 4)
	d.Write("more", 2, -1)
	d.Move(1, 8)
	d.Take(4)
	if shown(tree) != was {
		t.Errorf("a Tree that was told is changed by later calls: %s, not %s", shown(tree), was)
	}
}

// lists tells all lists of nodes, and of attributes, in l.
func lists(l []api.Node) (nodes [][]api.Node, attrs [][]api.Attr) {
	nodes = append(nodes, l)
	for _, n := range l {
		attrs = append(attrs, n.Attrs)
		below, of := lists(n.Kids)
		nodes, attrs = append(nodes, below...), append(attrs, of...)
	}
	return nodes, attrs
}

// apart sees that no two lists of what built tells share memory: each is written to and appended to, alone.
func apart(t *testing.T, name string, built func() []api.Node) {
	t.Helper()
	nodes, attrs := lists(built())
	for i := range nodes {
		l, _ := lists(built())
		for k := range l {
			if k != i && len(l[k]) > 0 {
				l[k][0].From = 100 + k
			}
		}
		spare := append(l[i], api.Node{Name: "spoilt"}, api.Node{Name: "spoilt"})
		for j := range spare[len(l[i]):cap(spare)] {
			spare[len(l[i]):cap(spare)][j] = api.Node{Name: "spoilt"}
		}
		for k := range l {
			if k != i && len(l[k]) > 0 && (l[k][0].From != 100+k || l[k][0].Name == "spoilt") {
				t.Fatalf("%s: lists %d and %d share memory", name, i, k)
			}
		}
	}
	for i := range attrs {
		_, l := lists(built())
		for j := range l[i][:cap(l[i])] {
			l[i][:cap(l[i])][j].Value = "spoilt"
		}
		for k := range l {
			if k != i && slices.ContainsFunc(l[k], func(a api.Attr) bool { return a.Value == "spoilt" }) {
				t.Fatalf("%s: attributes %d and %d share memory", name, i, k)
			}
		}
	}
}

func TestP2ListsOfOneAnswer(t *testing.T) {
	d := dom.New()
	attrs := []api.Attr{{Name: "a", Value: "1"}, {Name: "b", Value: "2"}, {Name: "c", Value: "3"}}
	for n := range 30 {
		d.Put(d.Elem(api.Html, "p", attrs[:n%4]), n/3, -1)
		d.Write("t", n, -1)
	}
	apart(t, "Tree", func() []api.Node { return d.Tree(0) })
	apart(t, "Number", func() []api.Node { return dom.Number(d.Tree(0)) })
	same := []api.Node{{Kind: api.Text, Text: "a", Attrs: attrs}, {Kind: api.Elem, Attrs: attrs}}
	same[1].Kids = same[:1]
	apart(t, "Number of lists that share memory", func() []api.Node { return dom.Number(same) })
}

func TestP3TheSameAgain(t *testing.T) {
	run := func() string {
		d := die(77)
		x, m := dom.New(), newModel()
		for range 300 {
			d.step(x, m)
		}
		return told(x) + told(x)
	}
	if first := run(); first != run() {
		t.Error("the same calls told other things")
	}
}

func TestP7SideBySide(t *testing.T) {
	var docs []*dom.Doc
	var models []*model
	for range 5 {
		docs, models = append(docs, dom.New()), append(models, newModel())
	}
	d := die(3)
	for range 600 {
		i := d.below(len(docs))
		if call, got, want := d.step(docs[i], models[i]); got != want {
			t.Fatalf("%s of %d: %v, not %v", call, i, got, want)
		}
	}
	for i := range docs {
		if got, want := told(docs[i]), toldOf(models[i]); got != want {
			t.Errorf("Doc %d:\n%s, not\n%s", i, got, want)
		}
	}
}
