package adopt_test

import (
	"fmt"
	"math"
	"slices"
	"strings"

	"anagnost/api"
	"anagnost/kind"
	"anagnost/site"
)

// thing is a node of a model, entry a mark; which one it is, its address says.
type thing struct {
	n    int
	node api.Node
	up   *thing
	kids []*thing
}

// entry is a mark; the bookmark is one too, of the Node held.
type entry struct {
	mark api.Mark
}

const held = -2

// model is a Site read out: the chapter's words are done to it by addresses, not by places.
type model struct {
	things []*thing
	row    []*thing
	marks  []*entry
	foster bool
}

// read tells a model of s, in which fostering is on or off.
func read(s *site.Site, foster bool) *model {
	m := &model{foster: foster}
	for n := range s.Doc().Size() {
		m.things = append(m.things, &thing{n: n, node: s.Doc().Node(n)})
	}
	for n, x := range m.things {
		for _, k := range s.Doc().Kids(n) {
			x.kids = append(x.kids, m.things[k])
			m.things[k].up = x
		}
	}
	for _, n := range s.Open() {
		m.row = append(m.row, m.things[n])
	}
	for _, x := range s.Marks().All() {
		m.marks = append(m.marks, &entry{x})
	}
	return m
}

func (m *model) top() *thing {
	return m.row[len(m.row)-1]
}

func (m *model) pop() {
	m.row = m.row[:len(m.row)-1]
}

// of tells the first mark that is x's.
func (m *model) of(x *thing) *entry {
	for _, e := range m.marks {
		if e.mark.Node == x.n {
			return e
		}
	}
	return nil
}

// find tells the last mark of that name behind the last wall.
func (m *model) find(name string) *entry {
	var last *entry
	for _, e := range m.marks {
		switch {
		case e.mark.Node == -1:
			last = nil
		case e.mark.Node != held && e.mark.Name == name:
			last = e
		}
	}
	return last
}

func (m *model) dropMark(e *entry) {
	m.marks = slices.DeleteFunc(m.marks, func(x *entry) bool { return x == e })
}

func (m *model) putMark(i int, e *entry) {
	m.marks = slices.Insert(m.marks, i, e)
}

func isHtml(x *thing) bool {
	return x.n != 0 && x.node.Space == api.Html
}

func isWall(x *thing) bool {
	return kind.Wall(api.ScopeAny, x.node.Space, x.node.Name)
}

// block and above tell places in the row; -1 of none.
func (m *model) block(x *thing) int {
	at := slices.Index(m.row, x)
	for i := at + 1; at >= 0 && i < len(m.row); i++ {
		if isHtml(m.row[i]) && slices.Contains(kind.Set(api.Special), m.row[i].node.Name) {
			return i
		}
	}
	return -1
}

func (m *model) above(x *thing) int {
	return max(slices.Index(m.row, x)-1, -1)
}

// elem is a new element of Space Html as that mark has it.
func (m *model) elem(x api.Mark) *thing {
	e := &thing{n: len(m.things), node: api.Node{Kind: api.Elem, Space: api.Html, Name: x.Name, Attrs: x.Attrs}}
	m.things = append(m.things, e)
	return e
}

func take(x *thing) {
	if x.up == nil {
		return
	}
	x.up.kids = slices.DeleteFunc(x.up.kids, func(k *thing) bool { return k == x })
	x.up = nil
}

// put gives x a place, where it may have that one.
func put(x, up, ahead *thing) {
	for y := up; y != nil; y = y.up {
		if y == x {
			return
		}
	}
	at := len(up.kids)
	if ahead != nil {
		at = slices.Index(up.kids, ahead)
	}
	x.up = up
	up.kids = slices.Insert(up.kids, at, x)
}

// lastOf tells the place of the last open one of that name; 0 of none.
func (m *model) lastOf(name string) int {
	at := 0
	for i, x := range m.row {
		if isHtml(x) && x.node.Name == name {
			at = i
		}
	}
	return at
}

func (m *model) spot(x *thing) (*thing, *thing) {
	if !m.foster || !isHtml(x) || !slices.Contains(strings.Fields("table tbody tfoot thead tr"), x.node.Name) {
		return x, nil
	}
	table, template := m.lastOf("table"), m.lastOf("template")
	switch {
	case template > table:
		return m.row[template], nil
	case table == 0:
		return m.row[0], nil
	case m.row[table].up != nil:
		return m.row[table].up, m.row[table]
	}
	return m.row[table-1], nil
}

// close is P902.
func (m *model) close(name string) bool {
	if x := m.top(); isHtml(x) && x.node.Name == name && m.of(x) == nil {
		m.pop()
		return true
	}
	for i := range 8 {
		e := m.find(name)
		if e == nil {
			return i > 0
		}
		at := slices.IndexFunc(m.row, func(x *thing) bool { return x.n == e.mark.Node })
		if at < 0 {
			m.dropMark(e)
			return true
		}
		if slices.ContainsFunc(m.row[at+1:], isWall) {
			return true
		}
		f := m.row[at]
		if m.block(f) < 0 {
			m.row = m.row[:max(at, 1)]
			m.dropMark(e)
			return true
		}
		m.cross(e, f, m.row[m.block(f)])
	}
	return true
}

// cross is its steps 4 to 6.
func (m *model) cross(e *entry, f, b *thing) {
	home, bookmark := m.row[m.above(f)], &entry{api.Mark{Node: held}}
	m.putMark(slices.Index(m.marks, e), bookmark)
	node, last := b, b
	next := m.row[m.above(node)]
	for count := 1; next != f; count++ {
		node = next
		next = m.row[m.above(node)]
		if x := m.of(node); count > 3 && x != nil {
			m.dropMark(x)
		}
		at, x := slices.Index(m.row, node), m.of(node)
		if x == nil {
			m.row = slices.Delete(m.row, at, at+1)
			continue
		}
		node = m.elem(x.mark)
		m.row[at] = node
		x.mark.Node = node.n
		if last == b {
			m.dropMark(bookmark)
			m.putMark(slices.Index(m.marks, x)+1, bookmark)
		}
		take(last)
		put(last, node, nil)
		last = node
	}
	take(last)
	up, ahead := m.spot(home)
	put(last, up, ahead)
	anew := m.elem(e.mark)
	for _, k := range slices.Clone(b.kids) {
		take(k)
		put(k, anew, nil)
	}
	put(anew, b, nil)
	m.dropMark(e)
	bookmark.mark = api.Mark{Node: anew.n, Name: e.mark.Name, Attrs: e.mark.Attrs}
	at := slices.Index(m.row, f)
	m.row = slices.Delete(m.row, at, at+1)
	m.row = slices.Insert(m.row, slices.Index(m.row, b)+1, anew)
}

// nodeTold tells a node without what is below it.
func nodeTold(x api.Node) string {
	return fmt.Sprintf("%d %d %q %q %q", x.Kind, x.Space, x.Name, x.Attrs, x.Text)
}

// told tells all that there is of a Site, what has no place too; toldOf: of a model.
func told(s *site.Site) string {
	var out strings.Builder
	for n := range s.Doc().Size() {
		fmt.Fprintln(&out, n, s.Doc().Up(n), s.Doc().Kids(n), nodeTold(s.Doc().Node(n)))
	}
	fmt.Fprintln(&out, s.Open(), s.Top())
	for _, x := range s.Marks().All() {
		fmt.Fprintf(&out, "%d %q %q\n", x.Node, x.Name, x.Attrs)
	}
	return out.String()
}

func toldOf(m *model) string {
	var out strings.Builder
	for _, x := range m.things {
		up := -1
		if x.up != nil {
			up = x.up.n
		}
		fmt.Fprintln(&out, x.n, up, numbers(x.kids), nodeTold(x.node))
	}
	fmt.Fprintln(&out, numbers(m.row), m.top().n)
	for _, e := range m.marks {
		fmt.Fprintf(&out, "%d %q %q\n", e.mark.Node, e.mark.Name, e.mark.Attrs)
	}
	return out.String()
}

func numbers(l []*thing) []int {
	var out []int
	for _, x := range l {
		out = append(out, x.n)
	}
	return out
}

// odd are numbers that are of no node.
func odd() []int {
	return []int{math.MinInt, math.MinInt32, -3, -2, -1, 1 << 20, math.MaxInt32, math.MaxInt}
}

// die throws numbers, the same ones each time.
type die uint64

func (d *die) below(n int) int {
	*d = *d*6364136223846793005 + 1442695040888963407
	return int(uint64(*d) >> 33 % uint64(n))
}

func (d *die) text(l ...string) string {
	return l[d.below(len(l))]
}

func (d *die) attrs() []api.Attr {
	return []api.Attr{{Name: "k", Value: "1"}, {Name: "l"}}[:d.below(3)]
}

// formatting and other tell names that a thrown page has.
func (d *die) formatting() string {
	return d.text("b", "i", "u", "a", "em")
}

func (d *die) other() string {
	return d.text("p", "div", "p", "div", "li", "span", "q", "ruby", "table", "tr", "td", "object", "template", "svg:p", "svg:g", "svg:desc", "math:mi", "b", "i")
}

// number tells the number of an element but the root, where there is one.
func (d *die) number(s *site.Site) int {
	n := d.below(s.Doc().Size())
	for range 20 {
		if n > 0 && s.Doc().Node(n).Kind == api.Elem {
			return n
		}
		n = d.below(s.Doc().Size())
	}
	return s.Doc().Elem(api.Html, "q", nil)
}

// grow does something to s as pages do it; it tells whether fostering is on then.
func (d *die) grow(s *site.Site, foster bool) bool {
	switch d.below(16) {
	case 0, 1, 2, 3, 4:
		marked(s, d.formatting(), d.attrs()...)
	case 5, 6, 7, 8:
		opened(s, d.other())
	case 9:
		s.Type(d.text("x", "yz"))
	case 10:
		s.Pop()
	case 11:
		s.Rebuild()
	case 12:
		s.PopTo(d.other())
	case 13:
		if d.below(4) == 0 {
			s.Marks().Wall()
		}
	case 14:
		s.Marks().Drop(d.below(8))
	case 15:
		foster = d.below(2) > 0
		s.Foster(foster)
	}
	return foster
}

// shake does something to s that pages never do.
func (d *die) shake(s *site.Site) {
	switch d.below(9) {
	case 0:
		s.Push(d.number(s))
	case 1:
		s.Drop(d.number(s))
	case 2:
		s.Swap(d.number(s), d.number(s))
	case 3:
		s.Put(1+d.below(len(s.Open())), d.number(s))
	case 4:
		s.Doc().Take(d.number(s))
	case 5:
		s.Doc().Put(d.number(s), d.below(s.Doc().Size()), -1)
	case 6:
		s.Doc().Move(d.number(s), d.number(s))
	case 7:
		s.Marks().Push(api.Mark{Node: d.number(s), Name: d.text("b", "i", "table", "p", ""), Attrs: d.attrs()})
	case 8:
		s.Marks().Put(d.below(4), api.Mark{Node: d.number(s) + d.below(2)*50, Name: d.formatting()})
	}
}
