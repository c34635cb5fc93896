package site_test

import (
	"fmt"
	"math"
	"slices"
	"strings"
	"testing"

	"anagnost/api"
	"anagnost/kind"
	"anagnost/site"
)

// grown tells a Site in which elements of these names were Added; one written as svg:x, math:x is of that space.
func grown(names ...string) *site.Site {
	s := site.New()
	for _, name := range names {
		space, name := spaced(name)
		s.Add(space, name, nil)
	}
	return s
}

// spaced tells the space and the name of one that is written as grown has it.
func spaced(s string) (int, string) {
	before, name, has := strings.Cut(s, ":")
	switch {
	case has && before == "svg":
		return api.Svg, name
	case has && before == "math":
		return api.Math, name
	}
	return api.Html, s
}

// row tells the names of the open elements, the root's too.
func row(s *site.Site) string {
	var l []string
	for _, n := range s.Open() {
		l = append(l, s.Doc().Node(n).Name)
	}
	return strings.Join(l, ".")
}

func tree(s *site.Site) string {
	return shown(s.Doc().Tree(0))
}

// alongside tells a Site and its model, grown alike.
func alongside(names []string) (*site.Site, *model) {
	m := newModel()
	for _, name := range names {
		space, name := spaced(name)
		m.add(space, name, nil)
	}
	return grown(names...), m
}

// rows tells all rows of these names, up to that length.
func rows(long int, names ...string) [][]string {
	all, of := [][]string{nil}, [][]string{nil}
	for range long {
		var longer [][]string
		for _, l := range of {
			for _, name := range names {
				longer = append(longer, append(slices.Clone(l), name))
			}
		}
		all, of = append(all, longer...), longer
	}
	return all
}

func TestAgainstTheWords(t *testing.T) {
	for seed := range 150 {
		d := die(seed)
		s, m := site.New(), newModel()
		for range 100 {
			before := told(s)
			call, got, want := d.step(s, m)
			if got != want {
				t.Fatalf("seed %d: %s: %v, not %v", seed, call, got, want)
			}
			after, wish := told(s), toldOf(m)
			if after != wish {
				t.Fatalf("seed %d: behind %s:\n%s, not\n%s", seed, call, after, wish)
			}
			if got == false && after != before {
				t.Fatalf("seed %d: %s was false, and changed\n%s to\n%s", seed, call, before, after)
			}
			checkP806(t, s)
		}
	}
}

// checkP806 looks at what P801 and P806 say of any Site's row.
func checkP806(t *testing.T, s *site.Site) {
	t.Helper()
	l := s.Open()
	if l[0] != 0 || l[len(l)-1] != s.Top() {
		t.Fatalf("the root, and %d as the last one: %v", s.Top(), l)
	}
	slices.Sort(l)
	if len(slices.Compact(l)) != len(s.Open()) {
		t.Fatalf("one is open twice: %v", s.Open())
	}
}

// checkRebuilt does Rebuild, and looks at what P806 says of it:
// of the marks behind the last wall, each behind the last one that was open (all, if none was) is open now.
func checkRebuilt(t *testing.T, s *site.Site) {
	t.Helper()
	was := s.Open()
	s.Rebuild()
	l := s.Marks().All()
	for i := len(l) - 1; i >= 0 && l[i].Node != -1 && !slices.Contains(was, l[i].Node); i-- {
		if !slices.Contains(s.Open(), l[i].Node) {
			t.Fatalf("mark %d is not open behind Rebuild: %v, %v", i, l, s.Open())
		}
	}
	if n := len(l); n > 0 && l[n-1].Node != -1 && !slices.Contains(s.Open(), l[n-1].Node) {
		t.Fatalf("the last mark is not open behind Rebuild: %v, %v", l, s.Open())
	}
}

func TestExamples(t *testing.T) {
	s := site.New()
	if s.Pop() {
		t.Error("Pop of a new Site")
	}
	for _, scope := range scopes() {
		if s.Has(scope, "nobody") || grown("p", "b").Has(scope, "nobody") {
			t.Error("Has of an unknown name")
		}
	}
}

func TestP801NewSite(t *testing.T) {
	s := site.New()
	if fmt.Sprint(s.Open(), s.Top(), s.Doc().Size(), s.Marks().Len()) != "[0] 0 1 0" {
		t.Errorf("%v %d", s.Open(), s.Top())
	}
	doc, list := s.Doc(), s.Marks()
	s.Add(api.Html, "p", nil)
	if s.Doc() != doc || s.Marks() != list || doc.Size() != 2 {
		t.Error("the Doc and the Marks are others now")
	}
}

// fixed tells a Site whose row is 0, 1, 2, 3; 4 and 5 are elements that are not open, 6 is a note, 7 a text, 8 is none.
func fixed() *site.Site {
	s := grown("div", "p", "b")
	s.Doc().Elem(api.Html, "i", nil)
	s.Doc().Elem(api.Svg, "g", nil)
	s.Doc().Note("n")
	s.Doc().Write("t", 0, -1)
	return s
}

func TestP801WhereItMay(t *testing.T) {
	for _, x := range []struct {
		call string
		do   func(s *site.Site) bool
		want string
	}{
		{"Push(4)", func(s *site.Site) bool { return s.Push(4) }, "[0 1 2 3 4]"},
		{"Push(5)", func(s *site.Site) bool { return s.Push(5) }, "[0 1 2 3 5]"},
		{"Put(1, 4)", func(s *site.Site) bool { return s.Put(1, 4) }, "[0 4 1 2 3]"},
		{"Put(2, 4)", func(s *site.Site) bool { return s.Put(2, 4) }, "[0 1 4 2 3]"},
		{"Put(3, 5)", func(s *site.Site) bool { return s.Put(3, 5) }, "[0 1 2 5 3]"},
		{"Put(4, 4)", func(s *site.Site) bool { return s.Put(4, 4) }, "[0 1 2 3 4]"},
		{"Drop(1)", func(s *site.Site) bool { return s.Drop(1) }, "[0 2 3]"},
		{"Drop(2)", func(s *site.Site) bool { return s.Drop(2) }, "[0 1 3]"},
		{"Drop(3)", func(s *site.Site) bool { return s.Drop(3) }, "[0 1 2]"},
		{"Swap(1, 4)", func(s *site.Site) bool { return s.Swap(1, 4) }, "[0 4 2 3]"},
		{"Swap(2, 5)", func(s *site.Site) bool { return s.Swap(2, 5) }, "[0 1 5 3]"},
		{"Swap(3, 4)", func(s *site.Site) bool { return s.Swap(3, 4) }, "[0 1 2 4]"},
		{"Pop()", func(s *site.Site) bool { return s.Pop() }, "[0 1 2]"},
		{"Drop(2), Push(2)", func(s *site.Site) bool { return s.Drop(2) && s.Push(2) }, "[0 1 3 2]"},
		{"Swap(2, 4), Push(2)", func(s *site.Site) bool { return s.Swap(2, 4) && s.Push(2) }, "[0 1 4 3 2]"},
		{"Pop(), Put(1, 3)", func(s *site.Site) bool { return s.Pop() && s.Put(1, 3) }, "[0 3 1 2]"},
		{"Pop() three times", func(s *site.Site) bool { return s.Pop() && s.Pop() && s.Pop() }, "[0]"},
	} {
		s := fixed()
		tree := docTold(s.Doc())
		if !x.do(s) || fmt.Sprint(s.Open()) != x.want {
			t.Errorf("%s: %v, not %s", x.call, s.Open(), x.want)
		}
		if l := s.Open(); s.Top() != l[len(l)-1] {
			t.Errorf("%s: Top is %d", x.call, s.Top())
		}
		if docTold(s.Doc()) != tree {
			t.Errorf("%s changed the Doc", x.call)
		}
	}
}

func TestP801WhereItMayNot(t *testing.T) {
	s := fixed()
	before := told(s)
	mayNot := append(odd(), 0, 1, 2, 3, 6, 7, 8)
	for _, n := range mayNot {
		if s.Push(n) || s.Put(1, n) || s.Put(4, n) || s.Swap(1, n) || s.Swap(3, n) {
			t.Errorf("%d came in", n)
		}
	}
	for _, i := range append(odd(), 0, 5, 6) {
		if s.Put(i, 4) || s.Put(i, 5) {
			t.Errorf("place %d", i)
		}
	}
	for _, n := range append(odd(), 0, 4, 5, 6, 7, 8) {
		if s.Drop(n) || s.Swap(n, 4) || s.Swap(n, n) {
			t.Errorf("%d went", n)
		}
	}
	if after := told(s); after != before {
		t.Errorf("calls that were false changed\n%s to\n%s", before, after)
	}
	for range 3 {
		s.Pop()
	}
	if s.Pop() || s.Drop(0) || fmt.Sprint(s.Open()) != "[0]" {
		t.Error("the root does not stay")
	}
}

func TestP801ElementsWithoutAPlaceOrTaken(t *testing.T) {
	s := fixed()
	if !s.Doc().Take(2) || fmt.Sprint(s.Open()) != "[0 1 2 3]" || !s.Is(2, "p") || !s.Has(api.ScopeAny, "p") {
		t.Error("an element that was taken is open still")
	}
	if !s.Drop(2) || !s.Push(2) || s.Top() != 2 {
		t.Error("an element without a place may be open")
	}
}

func TestP802Is(t *testing.T) {
	s := fixed()
	nameless := s.Doc().Elem(api.Html, "", nil)
	other := s.Doc().Elem(api.Math, "p", nil)
	spaceless := s.Doc().Elem(0, "p", nil)
	for _, x := range []struct {
		n     int
		names []string
		want  bool
	}{
		{2, []string{"p"}, true}, {2, []string{"b", "p"}, true}, {2, []string{"p", "b", "p"}, true},
		{2, []string{"b"}, false}, {2, []string{"P"}, false}, {2, []string{""}, false}, {2, []string{"p "}, false}, {2, nil, false},
		{3, []string{"b"}, true}, {4, []string{"i"}, true}, {5, []string{"g"}, false},
		{6, []string{"", "n"}, false}, {7, []string{"", "t"}, false}, {8 + 8, []string{""}, false},
		{nameless, []string{""}, true}, {nameless, nil, false}, {nameless, []string{"p"}, false},
		{other, []string{"p"}, false}, {spaceless, []string{"p"}, false},
		{0, []string{""}, false}, {0, []string{"html", "", "root"}, false}, {0, nil, false},
	} {
		if got := s.Is(x.n, x.names...); got != x.want {
			t.Errorf("Is(%d, %q): %v", x.n, x.names, got)
		}
		if s.Push(x.n); s.Is(x.n, x.names...) != x.want {
			t.Errorf("Is(%d, %q), open: %v", x.n, x.names, !x.want)
		}
	}
	for _, n := range odd() {
		if s.Is(n, names()...) {
			t.Errorf("Is(%d)", n)
		}
	}
}

func TestP802HasAndEachWall(t *testing.T) {
	wide := strings.Fields("applet caption html marquee object table td template th math:annotation-xml math:mi math:mn math:mo math:ms math:mtext svg:desc svg:foreignObject svg:title")
	walls := map[int][]string{
		api.ScopeAny:    wide,
		api.ScopeList:   append(slices.Clone(wide), "ol", "ul"),
		api.ScopeButton: append(slices.Clone(wide), "button"),
		api.ScopeTable:  {"html", "table", "template"},
	}
	var others []string
	for _, name := range append(kind.Set(api.Special), append(wide, "foreignobject", "mi", "desc", "TABLE", "", "x")...) {
		_, bare := spaced(name)
		others = append(others, bare, "svg:"+bare, "math:"+bare)
	}
	for _, scope := range scopes() {
		for _, name := range others {
			open := !slices.Contains(walls[scope], name)
			if s := grown("q", name); s.Has(scope, "q") != open {
				t.Errorf("scope %d: a q, then a %s: %v", scope, name, !open)
			}
			if s := grown("q", name, "b", "q", "b"); !s.Has(scope, "q") {
				t.Errorf("scope %d: a q behind a %s", scope, name)
			}
			space, bare := spaced(name)
			if s := grown("q", name); s.Has(scope, bare) != (space == api.Html) {
				t.Errorf("scope %d: a %s itself", scope, name)
			}
		}
	}
}

func TestP802HasNames(t *testing.T) {
	s := grown("div", "p", "svg:g", "b")
	for _, scope := range scopes() {
		for _, x := range []struct {
			names []string
			want  bool
		}{
			{[]string{"p"}, true}, {[]string{"x", "p"}, true}, {[]string{"div", "b"}, true}, {[]string{"g"}, false},
			{[]string{"B"}, false}, {[]string{""}, false}, {nil, false},
		} {
			if got := s.Has(scope, x.names...); got != x.want {
				t.Errorf("Has(%d, %q): %v", scope, x.names, got)
			}
		}
	}
	s = grown("h1", "table", "h2", "td", "b")
	if s.Has(api.ScopeAny, "h1", "h2") || !s.Has(api.ScopeAny, "h1", "td") || !s.Has(api.ScopeTable, "h2", "x") || s.Has(api.ScopeTable, "h1") {
		t.Error("some of several names stand behind a wall")
	}
	if s.Drop(2); !s.Has(api.ScopeTable, "h1") {
		t.Error("the wall is open no more")
	}
	s = grown("p", "b")
	if s.Drop(1); s.Has(api.ScopeAny, "p") {
		t.Error("the p is open no more")
	}
	s = grown("")
	if !s.Has(api.ScopeAny, "") || !s.PopTo("") || s.Has(api.ScopeAny, "") || s.PopTo("") {
		t.Error("an element without a Name, and the root")
	}
}

func TestP802OfAllShortRows(t *testing.T) {
	asks := [][]string{nil, {"p"}, {"table"}, {"p", "td"}, {"b", "nobody"}, {""}}
	for _, l := range rows(4, "p", "b", "table", "td", "ul", "svg:p", "svg:desc") {
		for _, ask := range asks {
			s, m := alongside(l)
			for _, scope := range scopes() {
				if got := s.Has(scope, ask...); got != m.has(scope, ask...) {
					t.Fatalf("%v: Has(%d, %q): %v", l, scope, ask, got)
				}
			}
			if got, want := s.PopTo(ask...), m.popTo(ask...); got != want || fmt.Sprint(s.Open()) != fmt.Sprint(m.row) {
				t.Fatalf("%v: PopTo(%q): %v, %v, not %v, %v", l, ask, got, s.Open(), want, m.row)
			}
		}
	}
}

func TestP802Imply(t *testing.T) {
	set := strings.Fields("dd dt li optgroup option p rb rp rt rtc")
	for _, name := range append(kind.Set(api.Special), append(set, "b", "x", "", "P", "svg:p", "math:li")...) {
		implied := slices.Contains(set, name)
		for _, but := range []string{"", "nobody", "b"} {
			s := grown("div", name, name)
			if s.Imply(but); (len(s.Open()) == 2) != implied {
				t.Errorf("Imply(%q) of %s: %s", but, name, row(s))
			}
		}
		s := grown("div", name, name)
		if s.Imply(name); len(s.Open()) != 4 {
			t.Errorf("Imply(%q): %s", name, row(s))
		}
	}
	for _, x := range []struct {
		open []string
		but  string
		want string
	}{
		{nil, "", ""},
		{[]string{"p"}, "", ""},
		{[]string{"li", "p", "dd"}, "p", ".li.p"},
		{[]string{"li", "p", "dd"}, "li", ".li"},
		{[]string{"li", "p", "dd", "b"}, "li", ".li.p.dd.b"},
		{[]string{"li", "b", "p", "dd"}, "li", ".li.b"},
		{[]string{"p", "svg:p", "p"}, "", ".p.p"},
		{[]string{"p", "p", "li"}, "p", ".p.p"},
	} {
		s := grown(x.open...)
		if s.Imply(x.but); row(s) != x.want {
			t.Errorf("Imply(%q) of %v: %s", x.but, x.open, row(s))
		}
	}
}

func TestP802PopTo(t *testing.T) {
	for _, x := range []struct {
		open  []string
		names []string
		is    bool
		want  string
	}{
		{nil, []string{""}, false, ""},
		{[]string{"a", "b"}, nil, false, ".a.b"},
		{[]string{"a", "b"}, []string{"c", "A"}, false, ".a.b"},
		{[]string{"a", "b"}, []string{"a"}, true, ""},
		{[]string{"a", "b"}, []string{"b"}, true, ".a"},
		{[]string{"a", "b", "a", "c"}, []string{"a"}, true, ".a.b"},
		{[]string{"a", "b", "a", "c"}, []string{"a", "b"}, true, ".a.b"},
		{[]string{"a", "b", "a", "c"}, []string{"b", "x"}, true, ".a"},
		{[]string{"a", "table", "td", "template"}, []string{"a"}, true, ""},
		{[]string{"a", "svg:a", "b"}, []string{"a"}, true, ""},
		{[]string{"svg:a", "b"}, []string{"a"}, false, ".a.b"},
	} {
		s := grown(x.open...)
		before := tree(s)
		if is := s.PopTo(x.names...); is != x.is || row(s) != x.want {
			t.Errorf("PopTo(%q) of %v: %v, %s", x.names, x.open, is, row(s))
		}
		if tree(s) != before {
			t.Errorf("PopTo(%q) of %v changed the Doc", x.names, x.open)
		}
	}
}

// spot tells Spot as text.
func spot(s *site.Site, n int) string {
	up, ahead := s.Spot(n)
	return fmt.Sprint(up, " ", ahead)
}

func TestP803ForWhichNames(t *testing.T) {
	fostered := strings.Fields("table tbody tfoot thead tr")
	all := append(kind.Set(api.Special), "svg:table", "math:tr", "TABLE", "b", "")
	for _, name := range all {
		s := grown("table", name)
		itself, ahead := "2 -1", "0 1"
		if name == "table" {
			ahead = "1 2"
		}
		if got := spot(s, 2); got != itself {
			t.Errorf("%s, at first: %s", name, got)
		}
		s.Foster(true)
		want := itself
		if slices.Contains(fostered, name) {
			want = ahead
		}
		if got := spot(s, 2); got != want {
			t.Errorf("%s, fostering: %s, not %s", name, got, want)
		}
		if got := spot(s, 0); got != "0 -1" {
			t.Errorf("the root: %s", got)
		}
		s.Foster(true)
		s.Foster(false)
		if got := spot(s, 2); got != itself {
			t.Errorf("%s, no more: %s", name, got)
		}
	}
}

func TestP803Spots(t *testing.T) {
	for _, x := range []struct {
		open []string
		n    int
		want string
	}{
		{[]string{"table"}, 1, "0 1"},
		{[]string{"div", "table", "tbody", "tr"}, 4, "1 2"},
		{[]string{"div", "table", "tbody", "tr"}, 3, "1 2"},
		{[]string{"div", "table", "tbody", "tr", "td", "table", "tr"}, 7, "5 6"},
		{[]string{"div", "table", "tbody", "tr", "td", "table", "tr"}, 4, "5 6"}, // the last table, whose row n is of or not
		{[]string{"template", "tr"}, 2, "1 -1"},
		{[]string{"table", "template", "tr"}, 3, "2 -1"},
		{[]string{"template", "table", "tr"}, 3, "1 2"},
		{[]string{"template", "table", "template", "tr"}, 4, "3 -1"},
		{[]string{"template", "template", "tr"}, 3, "2 -1"},
		{[]string{"table", "template", "table", "tr"}, 4, "2 3"},
		{[]string{"tr"}, 1, "0 -1"},
		{[]string{"div", "tbody"}, 2, "0 -1"},
		{[]string{"div", "svg:table", "tr"}, 3, "0 -1"},
		{[]string{"table", "svg:template", "tr"}, 3, "0 1"},
	} {
		s := grown(x.open...)
		s.Foster(true)
		before := told(s)
		if got := spot(s, x.n); got != x.want {
			t.Errorf("%v: Spot(%d): %s, not %s", x.open, x.n, got, x.want)
		}
		if told(s) != before {
			t.Errorf("%v: Spot(%d) changed something", x.open, x.n)
		}
	}
}

func TestP803TheTablesPlace(t *testing.T) {
	s := grown("div", "b", "table", "tr")
	s.Foster(true)
	if s.Doc().Take(3); spot(s, 4) != "2 -1" {
		t.Errorf("without a place: %s", spot(s, 4))
	}
	if s.Drop(2); spot(s, 4) != "1 -1" {
		t.Errorf("without a place, another one ahead in the row: %s", spot(s, 4))
	}
	if s.Drop(1); spot(s, 4) != "0 -1" {
		t.Errorf("without a place, the root ahead in the row: %s", spot(s, 4))
	}
	if s.Doc().Put(3, 2, -1); spot(s, 4) != "2 3" {
		t.Errorf("the kid of one that is not open: %s", spot(s, 4))
	}
	if s.Drop(3); spot(s, 4) != "0 -1" {
		t.Errorf("open no more: %s", spot(s, 4))
	}
}

func TestP803OfAllShortRows(t *testing.T) {
	for _, l := range rows(5, "p", "table", "template", "tr") {
		s, m := alongside(l)
		for _, on := range []bool{true, false} {
			s.Foster(on)
			m.foster = on
			for _, n := range m.row {
				up, ahead := m.spot(n)
				if got := spot(s, n); got != fmt.Sprint(up, " ", ahead) {
					t.Fatalf("%v: Spot(%d), fostering %v: %s, not %d %d", l, n, on, got, up, ahead)
				}
			}
		}
	}
}

func TestP804Add(t *testing.T) {
	s := site.New()
	attrs := []api.Attr{{Name: "k", Value: "1"}, {Name: "k", Value: "2"}, {Name: "", Value: "\xFF"}}
	a, b, c := s.Add(api.Html, "p", attrs), s.Add(api.Svg, "g", nil), s.Add(9, "", nil)
	if fmt.Sprint(a, b, c, s.Open(), s.Top()) != "1 2 3 [0 1 2 3] 3" {
		t.Errorf("%d %d %d %v", a, b, c, s.Open())
	}
	if got := tree(s); got != "<p k=1 k=2 =\xFF><g/2></9></></></>" {
		t.Error(got)
	}
	s.PopTo("p")
	if n := s.Add(api.Html, "q", nil); n != 4 || tree(s) != "<p k=1 k=2 =\xFF><g/2></9></></></><q></>" {
		t.Errorf("%d: %s", n, tree(s))
	}
}

func TestP804AddNamesWhatElemMade(t *testing.T) {
	s := site.New()
	p := s.Doc().Elem(api.Html, "p", nil)
	s.Doc().Note("n")
	if n := s.Add(api.Html, "b", nil); n != 3 || s.Doc().Up(n) != 0 || s.Doc().Up(p) != -1 || s.Top() != 3 {
		t.Errorf("%d: %s", n, told(s))
	}
	s.Push(p)
	if n := s.Add(api.Html, "i", nil); s.Doc().Up(n) != p || tree(s) != "<b></>" {
		t.Errorf("the kid of one that has no place: %s", told(s))
	}
}

func TestP804Type(t *testing.T) {
	s := grown("p")
	s.Type("a")
	s.Type("")
	s.Type("b\x00\xFF")
	if got := tree(s); got != "<p>ab\x00\xFF</>" || s.Doc().Size() != 3 || s.Top() != 1 {
		t.Errorf("%q", got)
	}
	s.Pop()
	s.Type("c")
	s.Type("d")
	if got := tree(s); got != "<p>ab\x00\xFF</>cd" || s.Doc().Size() != 4 {
		t.Errorf("%q", got)
	}
}

func TestP804Fostered(t *testing.T) {
	s := grown("div", "table", "tr")
	s.Foster(true)
	s.Type("1")
	s.Type("2")
	s.Add(api.Html, "b", nil)
	s.Type("3")
	s.Pop()
	s.Type("4")
	s.Add(api.Svg, "g", nil)
	s.Foster(false)
	s.Pop()
	s.Type("5")
	s.Foster(true)
	s.Type("6")
	if got := tree(s); got != "<div>12<b>3</>4<g/2></>6<table><tr>5</></></>" {
		t.Error(got)
	}
	if fmt.Sprint(s.Open()) != "[0 1 2 3]" {
		t.Errorf("%v", s.Open())
	}
	s = grown("table", "template", "tr")
	s.Foster(true)
	s.Type("1")
	if s.Add(api.Html, "b", nil); tree(s) != "<table><template><tr></>1<b></></></>" {
		t.Error(tree(s))
	}
	s = grown("p", "tr")
	s.Foster(true)
	s.Type("1")
	if s.Add(api.Html, "b", nil); tree(s) != "<p><tr></></>1<b></>" {
		t.Error(tree(s))
	}
}

// marked Adds an element, and Pushes its mark.
func marked(s *site.Site, name string, attrs ...api.Attr) int {
	n := s.Add(api.Html, name, attrs)
	s.Marks().Push(api.Mark{Node: n, Name: name, Attrs: attrs})
	return n
}

func popAll(s *site.Site) {
	for s.Pop() {
	}
}

func TestP805Nothing(t *testing.T) {
	for name, s := range map[string]*site.Site{
		"no marks":           grown("p", "b"),
		"a wall alone":       grown("p"),
		"a wall is last":     grown("p"),
		"the last one open":  grown("p"),
		"the root is marked": grown("p"),
	} {
		switch name {
		case "a wall alone":
			s.Marks().Wall()
		case "a wall is last":
			s.Marks().Push(api.Mark{Node: 77, Name: "b"})
			s.Marks().Wall()
		case "the last one open":
			s.Marks().Push(api.Mark{Node: 77, Name: "b"})
			s.Marks().Push(api.Mark{Node: 1, Name: "p"})
		case "the root is marked":
			s.Marks().Push(api.Mark{Node: 0, Name: "b"})
		}
		before := told(s)
		if s.Rebuild(); told(s) != before {
			t.Errorf("%s:\n%s, not\n%s", name, told(s), before)
		}
	}
}

func TestP805FromTheFirstOne(t *testing.T) {
	s := grown("p")
	marked(s, "b", api.Attr{Name: "k", Value: "1"}, api.Attr{Name: "l", Value: "2"})
	marked(s, "i")
	s.Type("1")
	popAll(s)
	s.Add(api.Html, "p", nil)
	s.Rebuild()
	s.Type("2")
	if got := tree(s); got != "<p><b k=1 l=2><i>1</></></><p><b k=1 l=2><i>2</></></>" {
		t.Error(got)
	}
	if got := marksTold(s.Marks()); got != `{6 "b" [{"k" "1"} {"l" "2"}]}{7 "i" []}` || fmt.Sprint(s.Open()) != "[0 5 6 7]" {
		t.Errorf("%s %v", got, s.Open())
	}
	before := told(s)
	if s.Rebuild(); told(s) != before {
		t.Error("once more")
	}
}

func TestP805FromTheLastThatStands(t *testing.T) {
	const open, closed, wall = 'o', 'c', 'w'
	for marks, want := range map[string]string{
		"c": "0", "cc": "01", "oc": "1", "co": "", "wc": "1", "cw": "", "coc": "2", "cwc": "2", "cocc": "23", "cwcc": "23",
		"owcc": "23", "wocc": "23", "ococ": "3", "owoc": "3", "cowc": "3", "cwoc": "3", "occwcoccc": "678", "ccco": "", "occc": "123",
	} {
		s := grown("p", "p", "p")
		for i, x := range marks {
			name := fmt.Sprint("m", i)
			switch x {
			case open:
				s.Push(s.Doc().Elem(api.Html, name, nil))
				s.Marks().Push(api.Mark{Node: s.Top(), Name: name})
			case closed:
				s.Marks().Push(api.Mark{Node: s.Doc().Elem(api.Html, name, nil), Name: name})
			case wall:
				s.Marks().Wall()
			}
		}
		was, first := s.Open(), s.Doc().Size()
		s.Rebuild()
		got := ""
		for _, n := range s.Open()[len(was):] {
			got += strings.TrimPrefix(s.Doc().Node(n).Name, "m")
		}
		if got != want || !slices.Equal(s.Open()[:len(was)], was) {
			t.Errorf("%s: %q, not %q", marks, got, want)
		}
		for k, i := range want {
			if x, _ := s.Marks().At(int(i - '0')); x.Node != first+k || x.Name != fmt.Sprint("m", int(i-'0')) {
				t.Errorf("%s: mark %c is %v", marks, i, x)
			}
		}
		if s.Marks().Len() != len(marks) {
			t.Errorf("%s: %d marks", marks, s.Marks().Len())
		}
	}
}

func TestP805MoreThanThreeAlikeStay(t *testing.T) {
	s := site.New()
	for i := range 5 {
		s.Marks().Put(i, api.Mark{Node: 70 + i, Name: "b"})
	}
	s.Rebuild()
	if row(s) != ".b.b.b.b.b" || marksTold(s.Marks()) != `{1 "b" []}{2 "b" []}{3 "b" []}{4 "b" []}{5 "b" []}` {
		t.Errorf("%s %s", row(s), marksTold(s.Marks()))
	}
}

func TestP805MarksOfNodesToCome(t *testing.T) {
	s := site.New()
	s.Marks().Push(api.Mark{Node: 9, Name: "b"})
	s.Marks().Push(api.Mark{Node: 1, Name: "i"}) // the number that the new b gets
	s.Marks().Push(api.Mark{Node: 9, Name: "u"})
	s.Rebuild()
	if row(s) != ".b.i.u" || marksTold(s.Marks()) != `{1 "b" []}{2 "i" []}{3 "u" []}` {
		t.Errorf("%s %s", row(s), marksTold(s.Marks()))
	}
}

func TestP805OfSpaceHtmlByTheMarkAlone(t *testing.T) {
	s := site.New()
	g := s.Doc().Elem(api.Svg, "g", []api.Attr{{Name: "k", Value: "1"}})
	s.Marks().Push(api.Mark{Node: g, Name: "b", Attrs: []api.Attr{{Name: "l", Value: "2"}}})
	if s.Rebuild(); tree(s) != "<b l=2></>" {
		t.Error(tree(s))
	}
}

func TestP805Fostered(t *testing.T) {
	s := site.New()
	marked(s, "b")
	marked(s, "i")
	popAll(s)
	s.Add(api.Html, "table", nil)
	s.Foster(true)
	s.Rebuild()
	s.Type("x")
	if got := tree(s); got != "<b><i></></><b><i>x</></><table></>" || row(s) != ".table.b.i" {
		t.Errorf("%s %s", got, row(s))
	}
}

func TestP806OfAllShortRows(t *testing.T) {
	for _, l := range rows(6, "b", "i", "wall", "pop", "rebuild") {
		s := site.New()
		for _, x := range l {
			switch x {
			case "wall":
				s.Marks().Wall()
			case "pop":
				s.Pop()
			case "rebuild":
				checkRebuilt(t, s)
			default:
				marked(s, x)
			}
			checkP806(t, s)
		}
		checkRebuilt(t, s)
		checkP806(t, s)
	}
}

func TestP806Thrown(t *testing.T) {
	for seed := range 100 {
		d := die(1000 + seed)
		s, m := site.New(), newModel()
		for range 100 {
			d.step(s, m)
			checkP806(t, s)
			if d.below(4) == 0 {
				checkRebuilt(t, s)
				m.rebuild()
				checkP806(t, s)
			}
		}
	}
}

// roomy tells attributes with spare room, and something in it.
func roomy() []api.Attr {
	return []api.Attr{{Name: "k", Value: "1"}, {Name: "l", Value: "2"}, {Name: "spare", Value: "3"}, {Name: "spare", Value: "4"}}[:2]
}

func spoilAttrs(l []api.Attr) {
	l = l[:cap(l)]
	for i := range l {
		l[i] = api.Attr{Name: "spoilt", Value: "spoilt"}
	}
}

func TestP2AttrsHandedIn(t *testing.T) {
	s := site.New()
	attrs := roomy()
	was := fmt.Sprint(attrs[:cap(attrs)])
	n := s.Add(api.Html, "b", attrs)
	s.Marks().Push(api.Mark{Node: n, Name: "b", Attrs: attrs})
	s.Pop()
	s.Rebuild()
	if got := fmt.Sprint(attrs[:cap(attrs)]); got != was {
		t.Errorf("changed: %s, not %s", got, was)
	}
	before := told(s)
	spoilAttrs(attrs)
	if after := told(s); after != before {
		t.Errorf("kept:\n%s, not\n%s", after, before)
	}
	s.Pop()
	s.Rebuild()
	if got := shown([]api.Node{s.Doc().Node(s.Top())}); got != "<b k=1 l=2></>" {
		t.Errorf("kept: %s", got)
	}
}

func TestP2NamesHandedIn(t *testing.T) {
	calls := map[string]func(s *site.Site, names []string){
		"Is":    func(s *site.Site, names []string) { s.Is(2, names...) },
		"Has":   func(s *site.Site, names []string) { s.Has(api.ScopeAny, names...) },
		"PopTo": func(s *site.Site, names []string) { s.PopTo(names...) },
	}
	for name, call := range calls {
		for _, n := range []int{0, 1, 2, 3} {
			s := grown("div", "table", "p", "b")
			list := []string{"x", "p", "table", "spare", "spare"}
			was := slices.Clone(list)
			call(s, list[:n])
			if !slices.Equal(list, was) {
				t.Errorf("%s changed its names: %q", name, list)
			}
			before := told(s)
			for i := range list {
				list[i] = "b"
			}
			if after := told(s); after != before {
				t.Errorf("%s kept its names", name)
			}
		}
	}
}

func TestP2OpenIsNew(t *testing.T) {
	s := grown("div", "table", "p", "b")
	before := told(s)
	kept := s.Open()
	for range 3 {
		l := s.Open()
		l = l[:cap(l)]
		for i := range l {
			l[i] = 99
		}
		_ = append(s.Open(), 98, 97)
		if after := told(s); after != before {
			t.Fatalf("changed by who has what Open told:\n%s, not\n%s", after, before)
		}
		s.Add(api.Html, "q", nil)
		s.Drop(2)
		s.Put(1, 2)
		s.Swap(3, s.Doc().Elem(api.Html, "u", nil))
		s.PopTo("table")
		s = grown("div", "table", "p", "b")
	}
	if fmt.Sprint(kept) != "[0 1 2 3 4]" {
		t.Errorf("what Open told is changed by later calls: %v", kept)
	}
	l := s.Open()
	s.Drop(1)
	s.Pop()
	if s.Add(api.Html, "x", nil); fmt.Sprint(l) != "[0 1 2 3 4]" {
		t.Errorf("what Open told is changed by later calls: %v", l)
	}
}

func TestP2WhatDocAndMarksTell(t *testing.T) {
	s := site.New()
	marked(s, "b", roomy()...)
	s.Pop()
	s.Rebuild()
	before := told(s)
	for _, n := range s.Open() {
		spoilAttrs(s.Doc().Node(n).Attrs)
	}
	for _, x := range s.Marks().All() {
		spoilAttrs(x.Attrs)
	}
	if after := told(s); after != before {
		t.Errorf("changed by who has what is told:\n%s, not\n%s", after, before)
	}
}

func TestP3P7SideBySide(t *testing.T) {
	run := func(beside func()) string {
		var out strings.Builder
		d, s, m := die(7), site.New(), newModel()
		for range 80 {
			call, got, _ := d.step(s, m)
			fmt.Fprintln(&out, call, got, told(s))
			beside()
		}
		return out.String()
	}
	alone := run(func() {})
	d, other, model := die(8), site.New(), newModel()
	if run(func() { d.step(other, model) }) != alone {
		t.Error("a Site answers otherwise where there are others beside it")
	}
	x, y := site.New(), site.New()
	if x == y || x.Doc() == y.Doc() || x.Marks() == y.Marks() {
		t.Error("two Sites have something in common")
	}
}

func TestP8SpotOfWhatIsNotOpen(t *testing.T) {
	s := grown("table", "tr", "template", "tr")
	closed := s.Doc().Elem(api.Html, "table", nil)
	note := s.Doc().Note("n")
	for _, on := range []bool{true, false} {
		s.Foster(on)
		before := told(s)
		for _, n := range append(odd(), closed, note, s.Doc().Size()) {
			s.Spot(n)
		}
		if after := told(s); after != before {
			t.Errorf("changed\n%s to\n%s", before, after)
		}
	}
}

func TestP8MarksThatMayNotBe(t *testing.T) {
	for _, node := range []int{math.MinInt, -7, -2, -1, math.MaxInt} {
		s := grown("p")
		s.Marks().Push(api.Mark{Node: 1, Name: "p"})
		s.Marks().Push(api.Mark{Node: node, Name: "b"})
		s.Rebuild()
		s.Marks().Push(api.Mark{Node: 77, Name: "i"})
		s.Rebuild()
		if s.Top() == 1 || s.Doc().Node(s.Top()).Name != "i" {
			t.Errorf("%d: %s", node, row(s))
		}
	}
}

func TestP1VeryManyOpen(t *testing.T) {
	const n = 1 << 16
	s := grown("b")
	s.Marks().Push(api.Mark{Node: 1, Name: "b"})
	for range n {
		if s.Has(api.ScopeButton, "p", "") || s.PopTo("p") {
			t.Fatal("a p is open")
		}
		s.Add(api.Html, "div", nil)
		s.Imply("")
		s.Rebuild()
		s.Type("x")
	}
	if len(s.Open()) != n+2 || !s.Has(0, "b") || s.Doc().Size() != 2*n+2 {
		t.Errorf("%d are open", len(s.Open()))
	}
	if !s.Drop(2) || s.Top() != 2*n || !s.Put(2, 2) || !s.PopTo("b") || s.Top() != 0 {
		t.Errorf("%d is the last one", s.Top())
	}
}

func TestP1VeryManyAttributesAtTheTop(t *testing.T) {
	var attrs []api.Attr
	for i := range 100000 {
		attrs = append(attrs, api.Attr{Name: fmt.Sprint(i)})
	}
	s := site.New()
	s.Add(api.Html, "table", attrs)
	s.Foster(true)
	for range 50000 {
		if !s.Is(s.Top(), "table") || !s.Has(api.ScopeTable, "table") {
			t.Fatal("no table is open")
		}
		s.Imply("")
		s.Type("x")
	}
}
