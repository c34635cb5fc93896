package adopt_test

import (
	"fmt"
	"slices"
	"strings"
	"testing"

	"anagnost/adopt"
	"anagnost/api"
	"anagnost/kind"
	"anagnost/site"
)

// opened Adds an element; one written as svg:x, math:x is of that space.
func opened(s *site.Site, name string) int {
	before, bare, has := strings.Cut(name, ":")
	switch {
	case has && before == "svg":
		return s.Add(api.Svg, bare, nil)
	case has && before == "math":
		return s.Add(api.Math, bare, nil)
	}
	return s.Add(api.Html, name, nil)
}

// marked Adds an element, and Pushes its mark.
func marked(s *site.Site, name string, attrs ...api.Attr) int {
	n := s.Add(api.Html, name, attrs)
	s.Marks().Push(api.Mark{Node: n, Name: name, Attrs: attrs})
	return n
}

// grown tells a Site of a script: x opens an x, x* one with a mark, x*1 one with an attribute k=1 and a mark;
// "x" is a text, | a wall among the marks, /x PopTo of x.
func grown(script string) *site.Site {
	s := site.New()
	for _, w := range strings.Fields(script) {
		name, value, isMarked := strings.Cut(w, "*")
		switch {
		case w == "|":
			s.Marks().Wall()
		case w[0] == '"':
			s.Type(strings.Trim(w, `"`))
		case w[0] == '/':
			s.PopTo(w[1:])
		case isMarked && value != "":
			marked(s, name, api.Attr{Name: "k", Value: value})
		case isMarked:
			marked(s, name)
		default:
			opened(s, name)
		}
	}
	return s
}

// shown tells nodes as text, and what is below them.
func shown(l []api.Node) string {
	var s strings.Builder
	for _, n := range l {
		if n.Kind != api.Elem {
			s.WriteString(n.Text)
			continue
		}
		s.WriteString(n.Name)
		for _, a := range n.Attrs {
			s.WriteString("*" + a.Value)
		}
		s.WriteString("(" + shown(n.Kids) + ")")
	}
	return s.String()
}

// short tells a Site's tree, the names of its open elements but the root, and its marks.
func short(s *site.Site) string {
	var open, marks []string
	for _, n := range s.Open()[1:] {
		open = append(open, s.Doc().Node(n).Name)
	}
	for _, x := range s.Marks().All() {
		w := x.Name
		for _, a := range x.Attrs {
			w += "*" + a.Value
		}
		if x.Node < 0 {
			w = "|"
		} else if !slices.Contains(s.Open(), x.Node) {
			w += "?"
		}
		marks = append(marks, w)
	}
	return shown(s.Doc().Tree(0)) + "; " + strings.Join(open, " ") + "; " + strings.Join(marks, " ")
}

// scripts tells all scripts of these words, up to that length.
func scripts(long int, words ...string) []string {
	all, of := []string{""}, []string{""}
	for range long {
		var longer []string
		for _, l := range of {
			for _, w := range words {
				longer = append(longer, l+" "+w)
			}
		}
		all, of = append(all, longer...), longer
	}
	return all
}

// closeBoth does Close to s, and P902's words to a model of it.
func closeBoth(t *testing.T, s *site.Site, foster bool, name, where string) {
	t.Helper()
	before, m := told(s), read(s, foster)
	got, want := adopt.Close(s, name), m.close(name)
	after := told(s)
	if got != want || after != toldOf(m) {
		t.Fatalf("%s: Close of %s to\n%s: %v,\n%s, not %v,\n%s", where, name, before, got, after, want, toldOf(m))
	}
	if !got && after != before {
		t.Fatalf("%s: Close of %s was false, and changed\n%s to\n%s", where, name, before, after)
	}
}

func TestP902AgainstItsWords(t *testing.T) {
	for seed := range 1500 {
		d := die(seed)
		s, foster := site.New(), false
		for range 60 {
			foster = d.grow(s, foster)
			if d.below(5) == 0 {
				closeBoth(t, s, foster, d.formatting(), fmt.Sprint("seed ", seed))
			}
		}
	}
}

func TestP902AgainstItsWordsShaken(t *testing.T) {
	for seed := range 3000 {
		d := die(70000 + seed)
		s, foster := site.New(), false
		for range 60 {
			foster = d.grow(s, foster)
			if d.below(3) == 0 {
				d.shake(s)
			}
			if d.below(5) == 0 {
				closeBoth(t, s, foster, d.text("b", "i", "table", "p", ""), fmt.Sprint("seed ", seed))
			}
		}
	}
}

func TestP902OfAllShortScripts(t *testing.T) {
	for _, script := range scripts(6, "b*", "i*", "p", "q", `"x"`) {
		closeBoth(t, grown(script), false, "b", script)
	}
	for _, script := range scripts(4, "b*", "b", "i*", "p", "/p", "td", "svg:desc", "|") {
		closeBoth(t, grown(script+` "x"`), false, "b", script)
	}
	for _, script := range scripts(5, "b*", "i*", "p", "table", "tr") {
		s := site.New()
		s.Foster(true)
		for _, w := range strings.Fields(script) {
			if name, _, isMarked := strings.Cut(w, "*"); isMarked {
				marked(s, name)
			} else {
				opened(s, name)
			}
			s.Type("x")
		}
		closeBoth(t, s, true, "b", script)
	}
}

func TestExamples(t *testing.T) {
	s := grown("p b i")
	before := told(s)
	if adopt.Close(s, "b") || told(s) != before || adopt.Close(site.New(), "b") {
		t.Error("Close of a name without a mark")
	}
	s = grown("b* i*")
	if !adopt.Close(s, "b") || short(s) != "b(i()); ; i?" {
		t.Errorf("b, i opened, b closed: %s", short(s))
	}
}

func TestP902Each(t *testing.T) {
	for _, x := range []struct {
		script, name string
		is           bool
		want         string
	}{
		// what stands ahead of the steps
		{"", "b", false, "; ; "},
		{"", "", false, "; ; "},
		{"b", "b", true, "b(); ; "},
		{"p b b", "b", true, "p(b(b())); p b; "},
		{"b* b", "b", true, "b(b()); b; b"},
		{"b", "i", false, "b(); b; "},
		{"b p", "b", false, "b(p()); b p; "},
		{"svg:b", "b", false, "b(); b; "},
		// 1
		{"b* |", "b", false, "b(); b; b |"},
		{"b* | p", "b", false, "b(p()); b p; b |"},
		{"b* B*", "b", true, "b(B()); ; B?"},
		{"i* | b* p", "b", true, "i(b()p(b())); i p; i |"},
		// 2
		{"p b* /p", "b", true, "p(b()); ; "},
		{"b* b* /b i", "b", true, "b(b()i()); b i; b"},
		{"p b* i* /p q", "b", true, "p(b(i()))q(); q; i?"},
		{"b* td", "b", true, "b(td()); b td; b"},
		{"b* q svg:title p", "b", true, "b(q(title(p()))); b q title p; b"},
		{"b* p object i*", "b", true, "b(p(object(i()))); b p object i; b i"},
		{"td b* p", "b", true, "td(b()p(b())); td p; "},
		// 3
		{"b*", "b", true, "b(); ; "},
		{"q b* i* svg:p q", "b", true, "q(b(i(p(q())))); q; i?"},
		{"p b* i* b*", "b", true, "p(b(i(b()))); p b i; b i"},
		{"div b*1 b*2", "b", true, "div(b*1(b*2())); div b; b*1"},
		// 4 to 6
		{`b* "1" p "2"`, "b", true, "b(1)p(b(2)); p; "},
		{`q b*7 "1" div "2" i* "3"`, "b", true, "q(b*7(1)div(b*7(2i(3)))); q div; i?"},
		{`b* "1" i* "2" p "3"`, "b", true, "b(1i(2))i(p(b(3))); i p; i"},
		{`b* "1" q "2" p "3"`, "b", true, "b(1q(2))p(b(3)); p; "},
		{`b* i* q u* p "x"`, "b", true, "b(i(q(u())))i(u(p(b(x)))); i u p; i u"},
		{`i* b* u*1 p "x"`, "b", true, "i(b(u*1())u*1(p(b(x)))); i u p; i u*1"},
		{`b* p q div "x"`, "b", true, "b()p(b(q())div(b(x))); p div; "},
		{`p b* div "1" i* "2"`, "b", true, "p(b()div(b(1i(2)))); p div; i?"},
	} {
		s := grown(x.script)
		if is := adopt.Close(s, x.name); is != x.is || short(s) != x.want {
			t.Errorf("%s, %s closed: %v, %s, not %s", x.script, x.name, is, short(s), x.want)
		}
	}
}

func TestP902EightTimes(t *testing.T) {
	for _, x := range []struct{ divs, times int }{{1, 1}, {6, 6}, {7, 7}, {8, 8}, {9, 8}, {30, 8}} {
		s := grown("b*" + strings.Repeat(" div", x.divs))
		s.Type("x")
		want := "b()" + strings.Repeat("div(b()", x.times-1) + "div(b(" + strings.Repeat("div(", x.divs-x.times) + "x" + strings.Repeat(")", x.divs+2-1) + "; "
		open := strings.Repeat("div ", x.divs)
		mark := ""
		// the eighth b is open: there is no ninth time, which would close it
		if x.divs >= 8 {
			open = strings.Repeat("div ", 8) + "b " + strings.Repeat("div ", x.divs-8)
			mark = "b"
		}
		want += strings.TrimSpace(open) + "; " + mark
		if !adopt.Close(s, "b") || short(s) != want {
			t.Errorf("%d: %s, not %s", x.divs, short(s), want)
		}
	}
}

func TestP902MarksFarFromTheBlock(t *testing.T) {
	for _, x := range []struct{ script, want string }{
		// three stay; those further off go, with their marks
		{"b*0 i*1 i*2 i*3 p", "b*0(i*1(i*2(i*3())))i*1(i*2(i*3(p(b*0())))); i i i p; i*1 i*2 i*3"},
		{"b*0 i*1 i*2 i*3 i*4 p", "b*0(i*1(i*2(i*3(i*4()))))i*2(i*3(i*4(p(b*0())))); i i i p; i*2 i*3 i*4"},
		{"b*0 i*1 i*2 i*3 i*4 i*5 p", "b*0(i*1(i*2(i*3(i*4(i*5())))))i*3(i*4(i*5(p(b*0())))); i i i p; i*3 i*4 i*5"},
		// those without a mark are counted
		{"b*0 i*1 i*2 q i*3 p", "b*0(i*1(i*2(q(i*3()))))i*2(i*3(p(b*0()))); i i p; i*2 i*3"},
		{"b*0 i*1 q q q p", "b*0(i*1(q(q(q()))))p(b*0()); p; "},
		{"b*0 i*1 q q p", "b*0(i*1(q(q())))i*1(p(b*0())); i p; i*1"},
	} {
		s := grown(x.script)
		if adopt.Close(s, "b"); short(s) != x.want {
			t.Errorf("%s: %s, not %s", x.script, short(s), x.want)
		}
	}
}

// TestP902Bookmark closes a b eight times, so that the last one's mark is there still.
func TestP902Bookmark(t *testing.T) {
	for _, x := range []struct{ ahead, between, behind, want string }{
		{"", "", "", "b*0"},
		{"u*7", "", "", "u*7 b*0"},
		{"", "i*1", "", "i*1 b*0"},
		{"", "i*1 i*2", "", "i*1 i*2 b*0"},
		{"", "i*1 q i*2", "", "i*1 i*2 b*0"},
		{"", "i*1 q i*2 q", "", "i*2 b*0"},
		{"", "i*1 i*2 i*3 i*4 i*5", "", "i*3 i*4 i*5 b*0"},
		{"u*7", "i*1 i*2 i*3 i*4 i*5", "", "u*7 i*3 i*4 i*5 b*0"},
		{"", "", "u*8", "b*0 u*8"},
		{"", "i*1", "u*8", "i*1 b*0 u*8"},
		{"u*7 | em*6", "i*1 i*2 i*3 i*4 i*5 i*6", "u*8 u*9", "u*7 | em*6 i*4 i*5 i*6 b*0 u*8 u*9"},
	} {
		script := x.ahead + " b*0 " + x.between + strings.Repeat(" div", 8) + " " + x.behind
		s := grown(script)
		adopt.Close(s, "b")
		if _, got, _ := strings.Cut(short(s), "; "); !strings.HasSuffix(got, "; "+x.want) {
			t.Errorf("%s: %s, not %s", script, got, x.want)
		}
	}
}

func TestP902MarksStandAnyhow(t *testing.T) {
	// i's mark stands ahead of b's: it is dropped there, and the bookmark is one less
	s := grown("b*0 i*1 q q q p")
	b, _ := s.Marks().At(0)
	s.Marks().Drop(0)
	s.Marks().Put(1, b)
	s.Marks().Put(2, api.Mark{Node: 99, Name: "u"})
	closeBoth(t, s, false, "b", "i's mark ahead of b's")
	if short(s) != "b*0(i*1(q(q(q()))))p(b*0()); p; u?" {
		t.Error(short(s))
	}
	// a mark of another name, and other attributes, than its element's
	s = grown("b*0 i*1 p")
	s.Marks().Set(0, api.Mark{Node: 1, Name: "em", Attrs: []api.Attr{{Name: "k", Value: "5"}}})
	s.Marks().Set(1, api.Mark{Node: 2, Name: "u"})
	closeBoth(t, s, false, "b", "other names")
	closeBoth(t, s, false, "em", "other names")
	if short(s) != "b*0(i*1())u(p(em*5())); u p; u" {
		t.Error(short(s))
	}
	// two marks of one element: the first is its, the last of the name is the one
	s = grown("b*0 i*1 p")
	s.Marks().Put(2, api.Mark{Node: 2, Name: "u"})
	s.Marks().Push(api.Mark{Node: 1, Name: "b"})
	closeBoth(t, s, false, "b", "two marks each")
	if short(s) != "b*0(i*1())i*1(p(b())); i p; b*0? i*1 u?" {
		t.Error(short(s))
	}
	// Top has a mark, of another name
	s = grown("b")
	s.Marks().Push(api.Mark{Node: 1, Name: "i"})
	if adopt.Close(s, "b") || short(s) != "b(); b; i" {
		t.Error(short(s))
	}
}

func TestP902EachWall(t *testing.T) {
	for _, space := range []int{api.Html, api.Svg, api.Math, 0} {
		for _, name := range slices.Concat(kind.Set(api.Special), strings.Fields("annotation-xml mi mn mo ms mtext desc foreignObject title foreignobject q mark ol button")) {
			for _, at := range []string{"", "p", "p q"} {
				s := grown("b* " + at)
				s.Add(space, name, nil)
				if at == "p q" {
					opened(s, "q")
				}
				before := told(s)
				is := adopt.Close(s, "b")
				if wall := kind.Wall(api.ScopeAny, space, name); !is || (told(s) == before) != wall {
					t.Errorf("space %d: a %s in b %s: %s", space, name, at, short(s))
				}
			}
		}
	}
	s := grown("table b* p")
	if adopt.Close(s, "b"); short(s) != "table(b()p(b())); table p; " {
		t.Errorf("a wall ahead of it: %s", short(s))
	}
	s = grown("b* object p")
	s.Drop(2)
	if adopt.Close(s, "b"); short(s) != "b(object())p(b()); p; " {
		t.Errorf("a wall that is open no more: %s", short(s))
	}
}

func TestP902Fostered(t *testing.T) {
	for _, x := range []struct {
		script string
		on     bool
		want   string
	}{
		{`div table b* "1" p "2"`, true, "div(b(1)p(b(2))table()); div table p; "},
		{`div table b* "1" p "2"`, false, "div(table(b(1)p(b(2)))); div table p; "},
		{`div table tr b* i* p "2"`, true, "div(b(i())i(p(b(2)))table(tr())); div table tr i p; i"},
		{`template tr b* p`, true, "template(tr()b()p(b())); template tr p; "},
		{`div b* p`, true, "div(b()p(b())); div p; "},
	} {
		s := site.New()
		for _, w := range strings.Fields(x.script) {
			s.Foster(x.on && s.Is(s.Top(), "table", "tr"))
			switch {
			case w == "b*" || w == "i*":
				marked(s, w[:1])
			case w[0] == '"':
				s.Type(w[1:2])
			case w == "tr":
				s.Foster(false)
				opened(s, w)
			default:
				opened(s, w)
			}
		}
		s.Foster(x.on)
		if !adopt.Close(s, "b") || short(s) != x.want {
			t.Errorf("%s, fostering %v: %s, not %s", x.script, x.on, short(s), x.want)
		}
	}
}

func TestP901EachName(t *testing.T) {
	special := kind.Set(api.Special)
	for _, name := range slices.Concat(special, kind.Set(api.Format), strings.Fields("q span ruby rt mark P DIV svg math x")) {
		for space := -1; space <= 4; space++ {
			s := grown("b q")
			n := s.Add(space, name, nil)
			s.Add(api.Html, "u", nil)
			want := -1
			if space == api.Html && slices.Contains(special, name) {
				want = n
			}
			if got := adopt.Block(s, 1); got != want {
				t.Errorf("space %d: Block ahead of a %s: %d, not %d", space, name, got, want)
			}
			if got := adopt.Block(s, n); got != -1 {
				t.Errorf("space %d: Block of a %s: %d", space, name, got)
			}
		}
	}
}

func TestP901InTheRow(t *testing.T) {
	s := grown("p b div q p u")
	s.Doc().Elem(api.Html, "p", nil)
	s.Doc().Note("n")
	for _, x := range []struct{ n, block, above int }{
		{0, 1, -1}, {1, 3, 0}, {2, 3, 1}, {3, 5, 2}, {4, 5, 3}, {5, -1, 4}, {6, -1, 5}, {7, -1, -1}, {8, -1, -1}, {9, -1, -1},
	} {
		if b, a := adopt.Block(s, x.n), adopt.Above(s, x.n); b != x.block || a != x.above {
			t.Errorf("%d: Block %d, Above %d, not %d and %d", x.n, b, a, x.block, x.above)
		}
	}
	for _, n := range odd() {
		if adopt.Block(s, n) != -1 || adopt.Above(s, n) != -1 {
			t.Errorf("%d is not open", n)
		}
	}
	// the row says it, not the tree
	s.Drop(3)
	s.Put(1, 7)
	if adopt.Block(s, 2) != 5 || adopt.Block(s, 0) != 7 || adopt.Block(s, 3) != -1 || adopt.Above(s, 1) != 7 || adopt.Above(s, 4) != 2 || adopt.Above(s, 3) != -1 {
		t.Errorf("of %v", s.Open())
	}
	s = site.New()
	if adopt.Block(s, 0) != -1 || adopt.Above(s, 0) != -1 {
		t.Error("of the root alone")
	}
}

func TestP901AgainstItsWords(t *testing.T) {
	for seed := range 150 {
		d := die(9000 + seed)
		s := site.New()
		for range 50 {
			d.grow(s, false)
			d.shake(s)
		}
		before, m := told(s), read(s, false)
		for _, x := range m.things {
			block, above := -1, -1
			if i := m.block(x); i >= 0 {
				block = m.row[i].n
			}
			if i := m.above(x); i >= 0 {
				above = m.row[i].n
			}
			if b, a := adopt.Block(s, x.n), adopt.Above(s, x.n); b != block || a != above {
				t.Fatalf("seed %d: %d: Block %d, Above %d, not %d and %d", seed, x.n, b, a, block, above)
			}
		}
		if told(s) != before {
			t.Fatalf("seed %d: Block or Above changed something", seed)
		}
	}
}

// TestP1 is of marks that nobody should have: Close ends, and does not panic.
func TestP1(t *testing.T) {
	for seed := range 1000 {
		d := die(200 + seed)
		s, foster := site.New(), false
		for range 40 {
			foster = d.grow(s, foster)
			d.shake(s)
			n := append(odd(), 0, 0, 0, s.Top(), s.Doc().Size())[d.below(13)]
			s.Marks().Put(d.below(3), api.Mark{Node: n, Name: d.text("b", "", "i")})
			adopt.Close(s, d.text("b", "", "i", "\x00\xFF"))
			if l := s.Open(); l[0] != 0 || l[len(l)-1] != s.Top() {
				t.Fatalf("seed %d: %v", seed, l)
			}
			for _, n := range odd() {
				adopt.Block(s, n)
				adopt.Above(s, n)
			}
		}
	}
}

func TestP1VeryMany(t *testing.T) {
	const many = 1 << 15
	s := grown("b*")
	for i := range many {
		opened(s, []string{"div", "q", "span", "p"}[i%4])
	}
	for range 50 {
		if !adopt.Close(s, "b") {
			t.Fatal("there is a mark")
		}
	}
	if b := s.Marks().Find("b"); b != 0 || s.Marks().Len() != 1 {
		t.Errorf("mark %d of %d", b, s.Marks().Len())
	}
	s = grown("b*")
	for i := range many / 4 {
		marked(s, "i", api.Attr{Name: "k", Value: fmt.Sprint(i)})
	}
	opened(s, "p")
	if !adopt.Close(s, "b") || s.Marks().Len() != 3 || len(s.Open()) != 5 {
		t.Errorf("%d marks, %d open", s.Marks().Len(), len(s.Open()))
	}
	s = site.New()
	for range many / 4 {
		adopt.Close(s, "a")
		s.Rebuild()
		marked(s, "a")
		opened(s, "div")
	}
	if len(s.Open()) != many/4+2 || s.Marks().Len() != 1 {
		t.Errorf("%d marks, %d open", s.Marks().Len(), len(s.Open()))
	}
}

func spoil[T any](l []T, with T) {
	l = l[:cap(l)]
	for i := range l {
		l[i] = with
	}
}

func TestP2(t *testing.T) {
	attrs := []api.Attr{{Name: "k", Value: "1"}, {Name: "spare"}}
	s := site.New()
	marked(s, "b", attrs[:1]...)
	marked(s, "i", attrs[:1]...)
	for range 9 {
		opened(s, "div")
	}
	open, all, tree := s.Open(), s.Marks().All(), s.Doc().Tree(0)
	was := fmt.Sprint(open, all, tree)
	adopt.Close(s, "b")
	if fmt.Sprint(open, all, tree) != was || fmt.Sprint(attrs) != "[{k 1} {spare }]" {
		t.Error("Close changed what was told before it, or was handed in")
	}
	before := told(s)
	for _, n := range s.Open() {
		spoil(s.Doc().Node(n).Attrs, api.Attr{Name: "spoilt"})
	}
	for _, x := range s.Marks().All() {
		spoil(x.Attrs, api.Attr{Name: "spoilt"})
	}
	spoil(s.Open(), 77)
	spoil(attrs, api.Attr{Name: "spoilt"})
	if told(s) != before {
		t.Errorf("changed by who has what is told:\n%s, not\n%s", told(s), before)
	}
}

func TestP3P7SideBySide(t *testing.T) {
	run := func(beside func()) string {
		var out strings.Builder
		d, s, foster := die(77), site.New(), false
		for range 150 {
			foster = d.grow(s, foster)
			is := adopt.Close(s, d.formatting())
			fmt.Fprintln(&out, is, adopt.Block(s, 1), adopt.Above(s, 1), told(s))
			beside()
		}
		return out.String()
	}
	alone := run(func() {})
	if run(func() {}) != alone {
		t.Error("the same calls answer otherwise")
	}
	d, other := die(5), site.New()
	if run(func() { d.grow(other, false); d.shake(other); adopt.Close(other, "b") }) != alone {
		t.Error("another Site beside it changes what is answered")
	}
}

func TestP5(t *testing.T) {
	for seed := range 300 {
		d, s := die(400+seed), site.New()
		for range 30 {
			d.grow(s, false)
			d.shake(s)
		}
		before := told(s)
		if adopt.Close(s, "nobody") || told(s) != before {
			t.Fatalf("seed %d: Close of a name without a mark:\n%s, not\n%s", seed, told(s), before)
		}
	}
}
