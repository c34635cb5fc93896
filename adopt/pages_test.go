package adopt_test

import (
	"slices"
	"strings"
	"testing"

	"anagnost/adopt"
	"anagnost/api"
	"anagnost/dom"
	"anagnost/kind"
	"anagnost/site"
)

// paper is a Site to which tags and texts are done as chapter 10 does them, as far as formatting bears on it.
type paper struct {
	s      *site.Site
	typed  []rune
	closed int // how often Close was called
}

// text Types a sign that is in no other text.
func (p *paper) text() {
	p.typed = append(p.typed, rune(0x4E00+len(p.typed)))
	p.s.Rebuild()
	p.s.Type(string(p.typed[len(p.typed)-1:]))
}

func (p *paper) close(name string) bool {
	p.closed++
	return adopt.Close(p.s, name)
}

func (p *paper) closeP() {
	if p.s.Has(api.ScopeButton, "p") {
		p.s.Imply("p")
		p.s.PopTo("p")
	}
}

func (p *paper) start(name string) {
	switch {
	case name == "a":
		p.startA()
	case name == "nobr":
		p.s.Rebuild()
		if p.s.Has(api.ScopeAny, name) {
			p.close(name)
			p.s.Rebuild()
		}
		marked(p.s, name)
	case kind.Has(api.Format, name):
		p.s.Rebuild()
		marked(p.s, name)
	case name == "object":
		p.s.Rebuild()
		opened(p.s, name)
		p.s.Marks().Wall()
	case kind.Has(api.Blocks, name) || name == "table":
		p.closeP()
		opened(p.s, name)
	case name == "tr":
		p.backTo("table")
		opened(p.s, name)
	case name == "td":
		p.backTo("tr")
		opened(p.s, name)
		p.s.Marks().Wall()
	default:
		p.s.Rebuild()
		opened(p.s, name)
	}
}

func (p *paper) backTo(name string) {
	for !p.s.Is(p.s.Top(), name) && p.s.Pop() {
	}
}

func (p *paper) startA() {
	if at := p.s.Marks().Find("a"); at >= 0 {
		x, _ := p.s.Marks().At(at)
		p.close("a")
		p.s.Marks().Drop(p.s.Marks().Of(x.Node))
		p.s.Drop(x.Node)
	}
	p.s.Rebuild()
	marked(p.s, "a")
}

func (p *paper) end(name string) {
	switch {
	case kind.Has(api.Format, name):
		if !p.close(name) {
			p.endOther(name)
		}
	case name == "p" && !p.s.Has(api.ScopeButton, name):
		opened(p.s, name)
		p.s.Pop()
	case name == "object" || name == "td":
		if p.s.Has(api.ScopeAny, name) {
			p.s.PopTo(name)
			p.s.Marks().Clear()
		}
	case name == "table" || name == "tr":
		if p.s.Has(api.ScopeTable, name) {
			p.s.PopTo(name)
		}
	case kind.Has(api.Blocks, name):
		if p.s.Has(api.ScopeAny, name) {
			p.s.Imply("")
			p.s.PopTo(name)
		}
	default:
		p.endOther(name)
	}
}

func (p *paper) endOther(name string) {
	l := p.s.Open()
	for i := len(l) - 1; i > 0; i-- {
		x := p.s.Doc().Node(l[i])
		if p.s.Is(l[i], name) {
			for range l[i:] {
				p.s.Pop()
			}
			return
		}
		if kind.Wall(api.ScopeAny, x.Space, x.Name) || x.Space == api.Html && kind.Has(api.Special, x.Name) {
			return
		}
	}
}

// token tells the next token of a thrown page; what a table may have comes where it may.
func (d *die) token(p *paper) string {
	of := strings.Fields("t t t b i u em a nobr p div span object /b /b /i /i /u /em /a /nobr /p /div /span /object")
	switch p.ground() {
	case "table":
		of = append(of, "tr", "tr", "tr", "tr")
	case "tr":
		of = append(of, "td", "td", "td", "td", "td", "td", "/tr")
	case "td":
		of = append(of, "/td", "/td")
	}
	return of[d.below(len(of))]
}

// ground tells the last open one of those names.
func (p *paper) ground() string {
	l := p.s.Open()
	for i := len(l) - 1; i > 0; i-- {
		if name := p.s.Doc().Node(l[i]).Name; slices.Contains([]string{"table", "tr", "td"}, name) {
			return name
		}
	}
	return ""
}

func (p *paper) do(token string) {
	ground := p.ground()
	inTable := (ground == "table" || ground == "tr") && !slices.Contains([]string{"tr", "td", "/tr", "/table"}, token)
	p.s.Foster(inTable)
	switch {
	case token == "t":
		p.text()
	case token[0] == '/':
		p.end(token[1:])
	default:
		p.start(token)
	}
	p.s.Foster(false)
}

func (p *paper) texts() []rune {
	return []rune(strings.Join(dom.Texts(p.s.Doc().Tree(0)), ""))
}

func TestP903InOrder(t *testing.T) {
	closed := 0
	for seed := range 2000 {
		d, p, page := die(seed), &paper{s: site.New()}, ""
		for range 60 {
			token := d.token(p)
			page += " " + token
			p.do(token)
			if got := p.texts(); string(got) != string(p.typed) {
				t.Fatalf("%s: %q, not %q", page, string(got), string(p.typed))
			}
		}
		checkWhole(t, p, page)
		closed += p.closed
	}
	if closed < 10000 {
		t.Errorf("Close was called %d times only", closed)
	}
}

func TestP903Fostered(t *testing.T) {
	moved := 0
	for seed := range 2000 {
		d, p, page := die(5000+seed), &paper{s: site.New()}, ""
		for range 80 {
			token := d.token(p)
			if d.below(20) == 0 {
				token = d.text("table", "/table")
			}
			page += " " + token
			p.do(token)
			got := p.texts()
			if string(got) != string(p.typed) {
				moved++
			}
			slices.Sort(got)
			if string(got) != string(p.typed) {
				t.Fatalf("%s: of %q there is %q", page, string(p.typed), string(got))
			}
		}
		checkWhole(t, p, page)
	}
	if moved == 0 {
		t.Error("nothing was fostered")
	}
}

// checkWhole looks whether all that is open has a place, and the tree is sound.
func checkWhole(t *testing.T, p *paper, page string) {
	t.Helper()
	for _, n := range p.s.Open()[1:] {
		if p.s.Doc().Up(n) < 0 {
			t.Fatalf("%s: %d is open without a place", page, n)
		}
	}
	if !dom.Sound(p.s.Doc().Tree(0)) {
		t.Fatalf("%s: %s is not sound", page, short(p.s))
	}
}

func TestP903Pages(t *testing.T) {
	for page, want := range map[string]string{
		"b t p t /b t":                "b(1)p(b(2)3); p; ",
		"b t div t p t /b t":          "b(1)div(b(2)p(b(3)4)); div p; ",
		"a t div t a t /div t":        "a(1)div(a(2)a(3))a(4); a; a",
		"b i t /b t /i t":             "b(i(1))i(2)3; ; ",
		"b t i t p t /b t /i t":       "b(1i(2))i()p(i(b(3)4)5); p; ",
		"nobr t nobr t":               "nobr(1)nobr(2); nobr; nobr",
		"b t object t /b t /object t": "b(1object(23)4); b; b",
		"table b t p t /b t tr td t":  "b(1)p(b(2)3)table(tr(td(4))); table tr td; |",
		"b table t /b t tr td t":      "b(12table(tr(td(3)))); b table tr td; b |",
	} {
		p := &paper{s: site.New()}
		for _, token := range strings.Fields(page) {
			p.do(token)
		}
		got := strings.Map(func(r rune) rune {
			if r >= 0x4E00 {
				return '1' + r - 0x4E00
			}
			return r
		}, short(p.s))
		if got != want {
			t.Errorf("%s: %s, not %s", page, got, want)
		}
	}
}
