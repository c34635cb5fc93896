package dom

import (
	"slices"

	"anagnost/api"
)

// Deep tells how many levels l has.
func Deep(l []api.Node) int {
	deep := 0
	for i := range l {
		deep = max(deep, 1+Deep(l[i].Kids))
	}
	return deep
}

// Sound tells whether each node of l is one that may be, and no text stands right behind a text.
func Sound(l []api.Node) bool {
	for i := range l {
		if i > 0 && l[i-1].Kind == api.Text && l[i].Kind == api.Text {
			return false
		}
		if !soundAlone(&l[i]) || !Sound(l[i].Kids) {
			return false
		}
	}
	return true
}

// soundAlone tells whether n, whatever its kids are, is one that may be.
func soundAlone(n *api.Node) bool {
	switch n.Kind {
	case api.Elem:
		return api.Html <= n.Space && n.Space <= api.Math && n.Name != "" && n.Text == "" && n.From == 0 && eachOnce(n.Attrs)
	case api.Text:
		return bare(n) && n.Text != "" && n.From >= 0
	case api.Note:
		return bare(n) && n.From == 0
	}
	return false
}

// bare tells whether n has nothing that elements alone have.
func bare(n *api.Node) bool {
	return n.Space == 0 && n.Name == "" && len(n.Attrs) == 0 && len(n.Kids) == 0
}

// eachOnce tells whether no two have one Name.
func eachOnce(attrs []api.Attr) bool {
	seen := map[string]struct{}{}
	for _, a := range attrs {
		seen[a.Name] = struct{}{}
	}
	return len(seen) == len(attrs)
}

// Same tells whether a and b are the same in all fields, in order.
func Same(a, b []api.Node) bool {
	if len(a) != len(b) {
		return false
	}
	for i := range a {
		if !sameAlone(&a[i], &b[i]) || !Same(a[i].Kids, b[i].Kids) {
			return false
		}
	}
	return true
}

// sameAlone tells whether a and b are the same, whatever their kids are.
func sameAlone(a, b *api.Node) bool {
	return a.Kind == b.Kind && a.Space == b.Space && a.Name == b.Name && slices.Equal(a.Attrs, b.Attrs) &&
		a.Text == b.Text && a.From == b.From
}

// Number tells l with its texts numbered in order.
func Number(l []api.Node) []api.Node {
	out := copiedTree(l)
	var c counter
	eachText(out, c.number)
	return out
}

// Texts tells the Text of each text of l, in order.
func Texts(l []api.Node) []string {
	var g gatherer
	eachText(l, g.add)
	return g.texts
}

// counter numbers what it is shown.
type counter struct {
	last int
}

func (c *counter) number(n *api.Node) {
	c.last++
	n.From = c.last
}

// gatherer keeps the texts of what it is shown.
type gatherer struct {
	texts []string
}

func (g *gatherer) add(n *api.Node) {
	g.texts = append(g.texts, n.Text)
}

// eachText shows each text of l, in order.
func eachText(l []api.Node, show func(*api.Node)) {
	for i := range l {
		if l[i].Kind == api.Text {
			show(&l[i])
		}
		eachText(l[i].Kids, show)
	}
}

// copiedTree tells new memory with the same in it, of Attrs and Kids too.
func copiedTree(l []api.Node) []api.Node {
	out := copied(l)
	for i := range out {
		out[i].Attrs = copied(out[i].Attrs)
		out[i].Kids = copiedTree(out[i].Kids)
	}
	return out
}
