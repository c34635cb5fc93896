package site_test

import (
	"fmt"
	"math"
	"slices"
	"strings"

	"anagnost/api"
	"anagnost/dom"
	"anagnost/kind"
	"anagnost/marks"
	"anagnost/site"
)

// model is the chapter's words: a row of numbers, gone through anew at each call.
type model struct {
	doc    *dom.Doc
	marks  *marks.Marks
	row    []int
	foster bool
}

func newModel() *model {
	return &model{doc: dom.New(), marks: marks.New(), row: []int{0}}
}

func (m *model) top() int {
	return m.row[len(m.row)-1]
}

// may tells whether n may come in.
func (m *model) may(n int) bool {
	return m.doc.Node(n).Kind == api.Elem && !slices.Contains(m.row, n)
}

func (m *model) put(i, n int) bool {
	if !m.may(n) || i < 1 || i > len(m.row) {
		return false
	}
	m.row = slices.Concat(m.row[:i], []int{n}, m.row[i:])
	return true
}

func (m *model) drop(n int) bool {
	i := slices.Index(m.row, n)
	if i < 1 {
		return false
	}
	m.row = slices.Concat(m.row[:i], m.row[i+1:])
	return true
}

func (m *model) swap(n, with int) bool {
	i := slices.Index(m.row, n)
	if i < 1 || !m.may(with) {
		return false
	}
	m.row[i] = with
	return true
}

func (m *model) is(n int, names ...string) bool {
	x := m.doc.Node(n)
	return n != 0 && x.Kind == api.Elem && x.Space == api.Html && slices.Contains(names, x.Name)
}

func (m *model) has(scope int, names ...string) bool {
	for i := len(m.row) - 1; m.row[i] != 0; i-- {
		x := m.doc.Node(m.row[i])
		switch {
		case m.is(m.row[i], names...):
			return true
		case kind.Wall(scope, x.Space, x.Name):
			return false
		}
	}
	return false
}

func (m *model) imply(but string) {
	for m.is(m.top(), kind.Set(api.Imply)...) && !m.is(m.top(), but) {
		m.row = m.row[:len(m.row)-1]
	}
}

// lastOf tells the place of the last open one of these names, 0 of none.
func (m *model) lastOf(names ...string) int {
	at := 0
	for i, n := range m.row {
		if m.is(n, names...) {
			at = i
		}
	}
	return at
}

func (m *model) popTo(names ...string) bool {
	at := m.lastOf(names...)
	if at > 0 {
		m.row = m.row[:at]
	}
	return at > 0
}

func (m *model) spot(n int) (int, int) {
	if !m.foster || !m.is(n, "table", "tbody", "tfoot", "thead", "tr") {
		return n, -1
	}
	table, template := m.lastOf("table"), m.lastOf("template")
	if template > 0 && !m.tableBehind(template) {
		return m.row[template], -1
	}
	if table == 0 {
		return 0, -1
	}
	if up := m.doc.Up(m.row[table]); up != -1 {
		return up, m.row[table]
	}
	return m.row[table-1], -1
}

func (m *model) tableBehind(i int) bool {
	return slices.ContainsFunc(m.row[i+1:], func(n int) bool { return m.is(n, "table") })
}

func (m *model) add(space int, name string, attrs []api.Attr) int {
	n := m.doc.Elem(space, name, attrs)
	up, ahead := m.spot(m.top())
	m.doc.Put(n, up, ahead)
	m.row = append(slices.Clone(m.row), n)
	return n
}

func (m *model) typed(t string) {
	up, ahead := m.spot(m.top())
	m.doc.Write(t, up, ahead)
}

// stands tells whether a mark is a wall, or its Node is open.
func (m *model) stands(x api.Mark) bool {
	return x.Node == -1 || slices.Contains(m.row, x.Node)
}

func (m *model) rebuild() {
	l := m.marks.All()
	from := 0
	for i, x := range l {
		if m.stands(x) {
			from = i + 1
		}
	}
	for i := from; i < len(l); i++ {
		l[i].Node = m.add(api.Html, l[i].Name, l[i].Attrs)
		m.marks.Set(i, l[i])
	}
}

// names, scopes and odd are what is asked for.
func names() []string {
	return []string{"", "p", "P", "b", "table", "template", "tr", "li", "td", "nobody"}
}

func scopes() []int {
	return []int{-1, 0, api.ScopeAny, api.ScopeList, api.ScopeButton, api.ScopeTable, 5}
}

// odd are numbers that are of no node, and no places.
func odd() []int {
	return []int{math.MinInt, math.MinInt32, -3, -2, -1, 1 << 20, math.MaxInt32, math.MaxInt}
}

// shown tells nodes as text, and what is below them.
func shown(l []api.Node) string {
	var s strings.Builder
	for _, n := range l {
		switch n.Kind {
		case api.Text:
			s.WriteString(n.Text)
		case api.Note:
			fmt.Fprintf(&s, "<!%s>", n.Text)
		default:
			fmt.Fprintf(&s, "<%s", n.Name)
			if n.Space != api.Html {
				fmt.Fprintf(&s, "/%d", n.Space)
			}
			for _, a := range n.Attrs {
				fmt.Fprintf(&s, " %s=%s", a.Name, a.Value)
			}
			fmt.Fprintf(&s, ">%s</>", shown(n.Kids))
		}
	}
	return s.String()
}

// docTold tells all of a Doc, what has no place too.
func docTold(d *dom.Doc) string {
	var s strings.Builder
	for n := range d.Size() {
		fmt.Fprint(&s, d.Up(n), d.Kids(n), shown([]api.Node{d.Node(n)}), " ")
	}
	return s.String()
}

func marksTold(m *marks.Marks) string {
	var s strings.Builder
	for _, x := range m.All() {
		fmt.Fprintf(&s, "{%d %q %q}", x.Node, x.Name, x.Attrs)
	}
	return s.String()
}

// teller is what a Site, or a model, tells.
type teller struct {
	open  []int
	top   int
	doc   *dom.Doc
	marks *marks.Marks
	is    func(n int, names ...string) bool
	has   func(scope int, names ...string) bool
	spot  func(n int) (int, int)
}

// told tells all that a Site tells, as text; toldOf: a model.
func told(s *site.Site) string {
	return teller{s.Open(), s.Top(), s.Doc(), s.Marks(), s.Is, s.Has, s.Spot}.text()
}

func toldOf(m *model) string {
	return teller{m.row, m.top(), m.doc, m.marks, m.is, m.has, m.spot}.text()
}

func (t teller) text() string {
	var out strings.Builder
	fmt.Fprintln(&out, t.open, t.top, docTold(t.doc), marksTold(t.marks))
	for _, name := range names() {
		for n := -1; n <= t.doc.Size(); n++ {
			out.WriteString(bit(t.is(n, name)))
		}
		for _, scope := range scopes() {
			out.WriteString(bit(t.has(scope, name)))
		}
	}
	for _, n := range t.open {
		up, ahead := t.spot(n)
		fmt.Fprint(&out, " ", up, ":", ahead)
	}
	return out.String()
}

func bit(is bool) string {
	if is {
		return "1"
	}
	return "0"
}

// die throws numbers, the same ones each time.
type die uint64

func (d *die) below(n int) int {
	*d = *d*6364136223846793005 + 1442695040888963407
	return int(uint64(*d) >> 33 % uint64(n))
}

func (d *die) text(l ...string) string {
	return l[d.below(len(l))]
}

// name tells one of those of which a chapter says anything, now and then another.
func (d *die) name() string {
	return d.text("p", "p", "b", "table", "table", "template", "tbody", "tr", "td", "li", "dd", "ul", "button", "object", "title", "desc", "mi", "P", "")
}

func (d *die) space() int {
	if d.below(5) > 0 {
		return api.Html
	}
	return d.below(6) - 1
}

func (d *die) attrs() []api.Attr {
	var l []api.Attr
	for range d.below(3) {
		l = append(l, api.Attr{Name: d.text("k", "l", ""), Value: d.text("", "1")})
	}
	return l
}

// number tells a node's number of a Doc of that size, or now and then another one.
func (d *die) number(size int) int {
	if l := odd(); d.below(12) == 0 {
		return l[d.below(len(l))]
	}
	return d.below(size+2) - 1
}

// step does one call of a Site and of its model, and tells it, and what both answered.
func (d *die) step(s *site.Site, m *model) (call string, got, want any) {
	size := m.doc.Size()
	n, with, i := d.number(size), d.number(size), d.number(len(m.row)+1)
	x := fmt.Sprint(" ", n, " ", with, " ", i)
	switch d.below(20) {
	case 0, 1, 2, 3:
		space, name, attrs := d.space(), d.name(), d.attrs()
		return fmt.Sprint("Add ", space, name, attrs), s.Add(space, name, attrs), m.add(space, name, attrs)
	case 4, 5:
		t := d.text("", "x", "yz", "\x00\xFF")
		s.Type(t)
		m.typed(t)
		return "Type " + t, nil, nil
	case 6:
		return "Push" + x, s.Push(n), m.put(len(m.row), n)
	case 7:
		return "Pop", s.Pop(), m.drop(m.top())
	case 8, 9:
		return "Put" + x, s.Put(i, n), m.put(i, n)
	case 10:
		return "Drop" + x, s.Drop(n), m.drop(n)
	case 11, 12:
		return "Swap" + x, s.Swap(n, with), m.swap(n, with)
	case 13:
		m.foster = d.below(3) > 0
		s.Foster(m.foster)
		return fmt.Sprint("Foster ", m.foster), nil, nil
	case 14:
		but := d.text("", "p", "li", "dd", "b")
		s.Imply(but)
		m.imply(but)
		return "Imply " + but, nil, nil
	case 15:
		to := []string{d.name(), d.name()}[:d.below(3)]
		return fmt.Sprint("PopTo ", to), s.PopTo(to...), m.popTo(to...)
	case 16, 17:
		s.Rebuild()
		m.rebuild()
		return "Rebuild", nil, nil
	case 18:
		return d.stepMarks(s.Marks(), m.marks, size)
	}
	return d.stepDoc(s.Doc(), m.doc, n, with)
}

// stepDoc does one call of both Docs: what has an element's number may be anywhere, or have no place.
func (d *die) stepDoc(x, y *dom.Doc, n, with int) (call string, got, want any) {
	switch d.below(5) {
	case 0:
		space, name := d.space(), d.name()
		return "Doc's Elem", x.Elem(space, name, nil), y.Elem(space, name, nil)
	case 1:
		return "Doc's Note", x.Note("n"), y.Note("n")
	case 2:
		return fmt.Sprint("Doc's Put ", n, with), x.Put(n, with, -1), y.Put(n, with, -1)
	case 3:
		return fmt.Sprint("Doc's Move ", n, with), x.Move(n, with), y.Move(n, with)
	}
	return fmt.Sprint("Doc's Take ", n), x.Take(n), y.Take(n)
}

// stepMarks does some calls of both Marks.
func (d *die) stepMarks(x, y *marks.Marks, size int) (call string, got, want any) {
	switch d.below(5) {
	case 0:
		x.Wall()
		y.Wall()
		return "Marks' Wall", nil, nil
	case 1:
		x.Clear()
		y.Clear()
		return "Marks' Clear", nil, nil
	case 2:
		i := d.below(5)
		return "Marks' Drop", x.Drop(i), y.Drop(i)
	}
	for range 1 + d.below(3) {
		z := api.Mark{Node: d.below(size + 3), Name: d.text("b", "i", "p", "table"), Attrs: d.attrs()}
		x.Push(z)
		y.Push(z)
	}
	return "Marks' Push", nil, nil
}
