package parse_test

import (
	"slices"
	"strings"

	"anagnost/adopt"
	"anagnost/api"
	"anagnost/kind"
	"anagnost/lex"
	"anagnost/site"
	"anagnost/tag"
	"anagnost/text"
)

// rule is a line of the chapter: of which tokens it is, and what is done, word by word.
// A word has its operands behind colons; `it` is the tag's name, `-` is none.
type rule struct {
	kind  int
	names string // empty: all
	do    string
}

// rules are the chapter's, by ground; the first one that fits holds. No ground is "".
func rules() map[string][]rule {
	const (
		parts    = "caption col colgroup tbody td tfoot th thead tr"
		sections = "tbody tfoot thead"
		blocks   = "address article aside blockquote center details dialog dir div dl fieldset figcaption figure footer form header hgroup main menu nav ol section search summary ul"
		heads    = "h1 h2 h3 h4 h5 h6"
	)
	const s, e, x = api.TStart, api.TEnd, api.TText
	cell := []rule{
		{e, "td th", "had:table:it imply:- popto:it clear"},
		{s, parts, "imply:- popto:td,th clear again"},
		{e, "table tbody tfoot thead tr", "had:table:it imply:- popto:td,th clear again"},
		{e, "body caption col colgroup html", ""},
		{0, "", "by:"},
	}
	section := []rule{
		{s, "tr", "back:tbody,tfoot,thead enter"},
		{s, "td th", "back:tbody,tfoot,thead add:tr again"},
		{e, sections, "had:table:it back:tbody,tfoot,thead pop"},
		{s, "caption col colgroup tbody tfoot thead", "back:tbody,tfoot,thead pop again"},
		{e, "table", "back:tbody,tfoot,thead pop again"},
		{e, "body caption col colgroup html td th tr", ""},
		{0, "", "by:table"},
	}
	return map[string][]rule{
		"td": cell, "th": cell, "tbody": section, "tfoot": section, "thead": section,
		"template": {{0, "", "by:"}},
		"caption": {
			{e, "caption", "imply:- popto:caption clear"},
			{s, parts, "imply:- popto:caption clear again"},
			{e, "table", "imply:- popto:caption clear again"},
			{e, "body col colgroup html tbody td tfoot th thead tr", ""},
			{0, "", "by:"},
		},
		"tr": {
			{s, "td th", "back:tr enter wall"},
			{e, "tr", "back:tr pop"},
			{s, "caption col colgroup tbody tfoot thead tr", "back:tr pop again"},
			{e, "table", "back:tr pop again"},
			{e, sections, "had:table:it back:tr pop again"},
			{e, "body caption col colgroup html td th", ""},
			{0, "", "by:table"},
		},
		"table": {
			{x, "", "blanks"},
			{s, "caption", "back:table wall enter"},
			{s, "col colgroup", ""},
			{s, sections, "back:table enter"},
			{s, "td th tr", "back:table add:tbody again"},
			{s, "table", "had:table:table popto:table again"},
			{e, "table", "had:table:table popto:table"},
			{e, "body " + parts + " html", ""},
			{s, "script style template", "by:"},
			{e, "template", "by:"},
			{0, "", "foster"},
		},
		"": {
			{x, "", "text"},
			{s, "body frame frameset head html " + parts, ""},
			{s, "base basefont bgsound link meta param source track", "enter pop"},
			{s, "hr", "in:button:p:p enter pop"},
			{s, "area br embed img input keygen wbr", "rebuild enter pop"},
			{s, "image", "rebuild enter:img pop"},
			{s, "iframe noembed noframes script style title", "enter state"},
			{s, "textarea", "enter state skip"},
			{s, "xmp", "in:button:p:p rebuild enter state"},
			{s, "plaintext", "in:button:p:p enter state"},
			{s, "template", "enter wall"},
			{s, "applet marquee object", "rebuild enter wall"},
			{s, "p table " + blocks, "in:button:p:p enter"},
			{s, heads, "in:button:p:p popif:" + strings.ReplaceAll(heads, " ", ",") + " enter"},
			{s, "pre listing", "in:button:p:p enter skip"},
			{s, "li", "item:li in:button:p:p enter"},
			{s, "dd dt", "item:dd,dt in:button:p:p enter"},
			{s, "button", "in:any:-:button rebuild enter"},
			{s, "a", "link rebuild enter mark"},
			{s, "b big code em font i s small strike strong tt u", "rebuild enter mark"},
			{s, "nobr", "rebuild nobr enter mark"},
			{s, "optgroup option", "popif:option rebuild enter"},
			{s, "rb rtc", "ruby:- enter"},
			{s, "rp rt", "ruby:rtc enter"},
			{s, "math", "rebuild space:3"},
			{s, "svg", "rebuild space:2"},
			{s, "", "rebuild enter"},
			{e, "body html", ""},
			{e, "br", "rebuild add:br pop"},
			{e, blocks + " button listing pre", "in:any:-:it"},
			{e, "applet marquee object", "had:any:it imply:- popto:it clear"},
			{e, "dd dt", "in:any:it:it"},
			{e, "li", "in:list:li:li"},
			{e, heads, "in:any:-:" + strings.ReplaceAll(heads, " ", ",")},
			{e, "p", "p imply:p popto:p"},
			{e, "template", "had:none:template popto:template clear"},
			{e, "a b big code em font i nobr s small strike strong tt u", "adopt others"},
			{e, "", "others"},
		},
	}
}

// model is the chapter read as a list of rules; nothing is kept but what a Site keeps.
type model struct {
	*site.Site
	rules map[string][]rule
	state int
	last  string
	skip  bool
}

// modelTree tells the tree of s, however deep it is.
func modelTree(s string) []api.Node {
	m := &model{Site: site.New(), rules: rules()}
	for at := 0; ; {
		state := m.state
		if state == api.InData && m.node(m.Top()).Space != api.Html {
			state = api.InDeep
		}
		t, behind := lex.Next(s, at, state, m.last)
		if t.Kind == api.TStop {
			return m.Doc().Tree(0)
		}
		at = behind
		if m.skip && t.Kind == api.TText && t.Text != "" && t.Text[0] == 10 {
			t.Text = t.Text[1:]
		}
		m.skip = false
		m.token(t)
	}
}

func (m *model) node(n int) api.Node {
	return m.Doc().Node(n)
}

func (m *model) token(t api.Token) {
	top := m.node(m.Top())
	switch {
	case m.state != api.InData && t.Kind == api.TText:
		m.Type(t.Text)
	case m.state != api.InData:
		m.Pop()
		m.state, m.last = api.InData, ""
	case t.Kind == api.TNote:
		m.Doc().Put(m.Doc().Note(t.Text), m.Top(), -1)
	case top.Space != api.Html && !inlet(top, t):
		m.deep(t)
	default:
		m.by(m.ground(), t)
	}
}

// inlets are the elements of P1003.
func inlets(x api.Node) bool {
	return x.Space == api.Math && slices.Contains([]string{"mi", "mn", "mo", "ms", "mtext"}, x.Name) ||
		x.Space == api.Svg && slices.Contains([]string{"desc", "foreignObject", "title"}, x.Name)
}

func inlet(x api.Node, t api.Token) bool {
	if t.Kind == api.TEnd || x.Space == api.Math && t.Kind == api.TStart && (t.Name == "mglyph" || t.Name == "malignmark") {
		return false
	}
	return inlets(x)
}

func (m *model) ground() string {
	for _, n := range slices.Backward(m.Open()) {
		if m.Is(n, "caption", "table", "tbody", "td", "template", "tfoot", "th", "thead", "tr") {
			return m.node(n).Name
		}
	}
	return ""
}

func (m *model) deep(t api.Token) {
	_, color := tag.Find(t.Attrs, "color")
	_, face := tag.Find(t.Attrs, "face")
	_, size := tag.Find(t.Attrs, "size")
	switch {
	case t.Kind == api.TText:
		m.Type(strings.ReplaceAll(t.Text, "\x00", "\uFFFD"))
	case t.Kind == api.TStart && kind.Has(api.Breaks, t.Name), t.Kind == api.TStart && t.Name == "font" && (color || face || size),
		t.Kind == api.TEnd && (t.Name == "br" || t.Name == "p"):
		for m.node(m.Top()).Space != api.Html && !inlets(m.node(m.Top())) {
			m.Pop()
		}
		m.by(m.ground(), t)
	case t.Kind == api.TStart:
		space := m.node(m.Top()).Space
		if space == api.Svg && t.Name == "foreignobject" {
			t.Name = "foreignObject"
		}
		m.Add(space, t.Name, t.Attrs)
		if t.Self {
			m.Pop()
		}
	default:
		m.deepEnd(t)
	}
}

func (m *model) deepEnd(t api.Token) {
	for i, l := len(m.Open())-1, m.Open(); ; i-- {
		x := m.node(l[i])
		if x.Space == api.Html {
			m.by(m.ground(), t)
			return
		}
		if text.Fold(x.Name) == t.Name {
			m.popAll(l[i:])
			return
		}
	}
}

func (m *model) popAll(l []int) {
	for range l {
		m.Pop()
	}
}

// by does t by the rules of a ground.
func (m *model) by(ground string, t api.Token) {
	for _, r := range m.rules[ground] {
		if (r.kind == 0 || r.kind == t.Kind) && (r.names == "" || slices.Contains(strings.Fields(r.names), t.Name)) {
			for _, word := range strings.Fields(r.do) {
				if !m.do(strings.Split(word, ":"), t) {
					return
				}
			}
			return
		}
	}
	panic("no rule of " + ground + " fits")
}

// do does one word; false: the words behind it are not done.
func (m *model) do(word []string, t api.Token) bool {
	of := func(i int) []string {
		switch {
		case i >= len(word) || word[i] == "-":
			return []string{""}
		case word[i] == "it":
			return []string{t.Name}
		}
		return strings.Split(word[i], ",")
	}
	scope := func() int {
		return map[string]int{"any": api.ScopeAny, "list": api.ScopeList, "button": api.ScopeButton, "table": api.ScopeTable}[word[1]]
	}
	switch word[0] {
	case "had":
		return m.Has(scope(), of(2)...)
	case "imply":
		m.Imply(of(1)[0])
	case "popto":
		m.PopTo(of(1)...)
	case "in":
		if m.Has(scope(), of(3)...) {
			m.Imply(of(2)[0])
			m.PopTo(of(3)...)
		}
	case "clear":
		m.Marks().Clear()
	case "wall":
		m.Marks().Wall()
	case "back":
		for m.Top() != 0 && !m.Is(m.Top(), "template") && !m.Is(m.Top(), of(1)...) {
			m.Pop()
		}
	case "pop":
		m.Pop()
	case "popif":
		if m.Is(m.Top(), of(1)...) {
			m.Pop()
		}
	case "enter":
		if len(word) > 1 {
			t.Name = word[1]
		}
		m.Add(api.Html, t.Name, t.Attrs)
	case "add":
		m.Add(api.Html, word[1], nil)
	case "again":
		m.by(m.ground(), t)
	case "by":
		m.by(word[1], t)
	case "rebuild":
		m.Rebuild()
	case "skip":
		m.skip = true
	case "state":
		m.state, m.last = kind.State(t.Name), t.Name
	case "mark":
		m.Marks().Push(api.Mark{Node: m.Top(), Name: t.Name, Attrs: t.Attrs})
	default:
		return m.doMore(word[0], of(1), t)
	}
	return true
}

func (m *model) doMore(word string, of []string, t api.Token) bool {
	switch word {
	case "blanks":
		s := strings.ReplaceAll(t.Text, "\x00", "")
		if strings.Trim(s, "\t\n\f\r ") == "" && m.Is(m.Top(), "table", "tbody", "tfoot", "thead", "tr") {
			m.Type(s)
			return true
		}
		fallthrough
	case "foster":
		m.Foster(true)
		m.by("", t)
		m.Foster(false)
	case "text":
		if s := strings.ReplaceAll(t.Text, "\x00", ""); s != "" {
			m.Rebuild()
			m.Type(s)
		}
	case "item":
		m.item(of)
	case "link":
		m.link()
	case "nobr":
		if m.Has(api.ScopeAny, "nobr") {
			adopt.Close(m.Site, "nobr")
			m.Rebuild()
		}
	case "ruby":
		if m.Has(api.ScopeAny, "ruby") {
			m.Imply(of[0])
		}
	case "space":
		m.Add(int(of[0][0]-'0'), t.Name, t.Attrs)
		if t.Self {
			m.Pop()
		}
	case "p":
		if !m.Has(api.ScopeButton, "p") {
			m.Add(api.Html, "p", nil)
		}
	case "adopt":
		return !adopt.Close(m.Site, t.Name)
	case "others":
		m.others(t.Name)
	default:
		panic("no word " + word)
	}
	return true
}

func (m *model) isWall(n int) bool {
	x := m.node(n)
	return kind.Wall(api.ScopeAny, x.Space, x.Name)
}

func (m *model) item(names []string) {
	for _, n := range slices.Backward(m.Open()[1:]) {
		if m.Is(n, names...) {
			m.Imply(m.node(n).Name)
			m.PopTo(m.node(n).Name)
			return
		}
		if m.isWall(n) || m.Is(n, kind.Set(api.Special)...) && !m.Is(n, "address", "div", "p") {
			return
		}
	}
}

func (m *model) link() {
	i := m.Marks().Find("a")
	if i < 0 {
		return
	}
	mark, _ := m.Marks().At(i)
	adopt.Close(m.Site, "a")
	if i := m.Marks().Of(mark.Node); i >= 0 {
		m.Marks().Drop(i)
	}
	if slices.Contains(m.Open(), mark.Node) {
		m.Drop(mark.Node)
	}
}

func (m *model) others(name string) {
	l := m.Open()
	for i := len(l) - 1; i > 0; i-- {
		if m.Is(l[i], name) {
			m.popAll(l[i:])
			return
		}
		if m.isWall(l[i]) || m.Is(l[i], kind.Set(api.Special)...) {
			return
		}
	}
}

// die throws.
type die struct{ n uint64 }

func newDie(seed int) *die {
	return &die{uint64(seed)*2862933555777941757 + 3037000493}
}

func (d *die) below(k int) int {
	d.n = d.n*6364136223846793005 + 1442695040888963407
	return int(d.n>>33) % k
}

func (d *die) of(l []string) string {
	return l[d.below(len(l))]
}

// page throws a page of some tags, which come often, and of all kinds of other things, which come seldom.
func (d *die) page(long int, tags []string) string {
	odd := []string{" ", "\n", "\x00", "&amp;", "&lt", "<![CDATA[c<b>]]>", "<!--n-->", "<!doctype x>", "</>", "<?q>", "\x00 ", "<", "<a", "\t "}
	var s strings.Builder
	for n := d.below(long); n > 0; n-- {
		name := d.of(tags)
		switch d.below(16) {
		case 0, 1, 2, 3, 4:
			s.WriteString("</" + name + ">")
		case 5:
			s.WriteString("<" + name + "/>")
		case 6:
			s.WriteString("<" + name + " " + d.of([]string{"color", "face", "size", "id=1", "id=2"}) + ">")
		case 7:
			s.WriteString(d.of(odd))
		default:
			s.WriteString("<" + name + ">")
		}
		if d.below(2) == 0 {
			s.WriteByte(byte('A' + d.below(26)))
		}
	}
	return s.String()
}

// allTags are those that the chapter names, and some that it does not.
func allTags() []string {
	l := strings.Fields("font foreignobject desc mi mn mo ms mtext mglyph malignmark annotation-xml math svg image x y-z span select tt g path" +
		" ruby rt rp rb rtc option optgroup video noscript html body head frameset nobr a b i u object marquee applet")
	for set := api.Void; set <= api.Gone; set++ {
		l = append(l, kind.Set(set)...)
	}
	slices.Sort(l)
	return slices.Compact(l)
}

// someTags are groups that bear on one another.
func someTags() [][]string {
	return [][]string{
		strings.Fields("table tbody tfoot thead tr td th caption table tr td b p"),
		strings.Fields("table tr td a b nobr div template object col input script title"),
		strings.Fields("a b i nobr p div span code object td table"),
		strings.Fields("svg math desc foreignobject title mi g p b br font table td x"),
		strings.Fields("li ul ol dd dt dl p div address section b h1 h2 button"),
		strings.Fields("ruby rt rp rb rtc p span option optgroup select b"),
		strings.Fields("template table tr td caption tbody b p div svg desc"),
		strings.Fields("textarea title script style xmp pre listing p b table plaintext"),
	}
}
