package marks_test

import (
	"fmt"
	"math"
	"slices"
	"strings"
	"testing"

	"anagnost/api"
	"anagnost/marks"
)

// mark tells one whose Attrs are written name=value, with blanks between.
func mark(node int, name, attrs string) api.Mark {
	x := api.Mark{Node: node, Name: name}
	for _, s := range strings.Fields(attrs) {
		n, v, _ := strings.Cut(s, "=")
		x.Attrs = append(x.Attrs, api.Attr{Name: n, Value: v})
	}
	return x
}

// wall is P701's.
func wall() api.Mark {
	return api.Mark{Node: -1}
}

// shown tells all of l as text: no list and an empty one are the same there.
func shown(l ...api.Mark) string {
	var s strings.Builder
	for _, x := range l {
		fmt.Fprintf(&s, "{%d %q %q}", x.Node, x.Name, x.Attrs)
	}
	return s.String()
}

// nodes tells the Nodes alone.
func nodes(m *marks.Marks) string {
	var l []int
	for _, x := range m.All() {
		l = append(l, x.Node)
	}
	return fmt.Sprint(l)
}

// laid tells Marks with these, laid by Put, of which none is dropped.
func laid(l ...api.Mark) *marks.Marks {
	m := marks.New()
	for i, x := range l {
		if x.Node == -1 {
			m.Wall()
		} else {
			m.Put(i, x)
		}
	}
	return m
}

// odd are numbers that are no places of a short list.
func odd() []int {
	return []int{math.MinInt, math.MinInt32, -2, -1, 1 << 20, math.MaxInt32, math.MaxInt}
}

// names and nodeNumbers are what is looked for.
func names() []string {
	return []string{"", "a", "b", "B", "b ", "\x00", "\xFF", "c"}
}

func nodeNumbers() []int {
	return []int{0, 1, 2, 3, 4, 5, 6, 7, 1 << 20, math.MaxInt}
}

// told tells all that Marks tell, as text.
func told(m *marks.Marks) string {
	var s strings.Builder
	fmt.Fprintln(&s, m.Len(), shown(m.All()...))
	for i := range m.Len() {
		x, is := m.At(i)
		fmt.Fprintln(&s, shown(x), is)
	}
	for _, name := range names() {
		fmt.Fprint(&s, m.Find(name), " ")
	}
	for _, n := range nodeNumbers() {
		fmt.Fprint(&s, m.Of(n), " ")
	}
	return s.String()
}

// model is P701's and P702's words, by lists that are built anew.
type model struct {
	list []api.Mark
}

// same is P303's word: as many, and each of a has one in b.
func same(a, b []api.Attr) bool {
	for _, x := range a {
		if !slices.Contains(b, x) {
			return false
		}
	}
	return len(a) == len(b)
}

// parts tells what is ahead of what is behind the last wall (that wall too), and what is behind it.
func (m *model) parts() (ahead, behind []api.Mark) {
	for _, x := range m.list {
		behind = append(behind, x)
		if x.Node == -1 {
			ahead, behind = append(ahead, behind...), nil
		}
	}
	return ahead, behind
}

func (m *model) push(x api.Mark) {
	ahead, behind := m.parts()
	var alike []int
	for i, y := range behind {
		if y.Name == x.Name && same(y.Attrs, x.Attrs) {
			alike = append(alike, i)
		}
	}
	for i, y := range behind {
		if len(alike) < 3 || i != alike[0] {
			ahead = append(ahead, y)
		}
	}
	m.list = append(ahead, x)
}

func (m *model) clear() {
	ahead, _ := m.parts()
	if len(ahead) > 0 {
		ahead = ahead[:len(ahead)-1]
	}
	m.list = ahead
}

// change tells, of a place that is one, true, and has x's (or none) stand at it, with or without what stood there.
func (m *model) change(i int, xs []api.Mark, goes bool) bool {
	if i < 0 || i > len(m.list) || goes && i == len(m.list) {
		return false
	}
	behind := m.list[i:]
	if goes {
		behind = behind[1:]
	}
	m.list = slices.Concat(m.list[:i], xs, behind)
	return true
}

func (m *model) told() string {
	var s strings.Builder
	fmt.Fprintln(&s, len(m.list), shown(m.list...))
	for _, x := range m.list {
		fmt.Fprintln(&s, shown(x), true)
	}
	ahead, behind := m.parts()
	for _, name := range names() {
		found := -1
		for i, x := range behind {
			if x.Name == name {
				found = len(ahead) + i
			}
		}
		fmt.Fprint(&s, found, " ")
	}
	for _, n := range nodeNumbers() {
		fmt.Fprint(&s, slices.IndexFunc(m.list, func(x api.Mark) bool { return x.Node == n }), " ")
	}
	return s.String()
}

// die throws numbers, the same ones each time.
type die uint64

func (d *die) below(n int) int {
	*d = *d*6364136223846793005 + 1442695040888963407
	return int(uint64(*d) >> 33 % uint64(n))
}

func (d *die) mark() api.Mark {
	x := api.Mark{Node: d.below(6), Name: []string{"b", "b", "b", "a", "B", ""}[d.below(6)]}
	for range d.below(3) {
		x.Attrs = append(x.Attrs, api.Attr{Name: []string{"k", "l", ""}[d.below(3)], Value: []string{"", "1"}[d.below(2)]})
	}
	return x
}

func (d *die) place(n int) int {
	if l := odd(); d.below(12) == 0 {
		return l[d.below(len(l))]
	}
	return d.below(n+3) - 1
}

// step does one call of Marks and of their model, and tells it, and what both answered.
func (d *die) step(x *marks.Marks, m *model) (call string, got, want bool) {
	y, i := d.mark(), d.place(len(m.list))
	call = fmt.Sprint(i, shown(y))
	switch d.below(16) {
	case 0:
		x.Wall()
		m.list = append(slices.Clone(m.list), wall())
		return "Wall", true, true
	case 1:
		if d.below(3) == 0 {
			x.Clear()
			m.clear()
		}
		return "Clear", true, true
	case 2, 3:
		return "Drop " + call, x.Drop(i), m.change(i, nil, true)
	case 4, 5:
		return "Set " + call, x.Set(i, y), m.change(i, []api.Mark{y}, true)
	case 6, 7, 8:
		return "Put " + call, x.Put(i, y), m.change(i, []api.Mark{y}, false)
	}
	x.Push(y)
	m.push(y)
	return "Push " + call, true, true
}

func TestP701P702AgainstTheirWords(t *testing.T) {
	for seed := range 150 {
		d := die(seed)
		x, m := marks.New(), &model{}
		for range 100 {
			before := told(x)
			call, got, want := d.step(x, m)
			if got != want {
				t.Fatalf("seed %d: %s: %v, not %v", seed, call, got, want)
			}
			after := told(x)
			if wish := m.told(); after != wish {
				t.Fatalf("seed %d: behind %s:\n%s, not\n%s", seed, call, after, wish)
			}
			if !got && after != before {
				t.Fatalf("seed %d: %s was false, and changed\n%s to\n%s", seed, call, before, after)
			}
		}
	}
}

func TestExamples(t *testing.T) {
	m := marks.New()
	for n := range 4 {
		m.Push(mark(n, "b", "k=1"))
	}
	if m.Len() != 3 || nodes(m) != "[1 2 3]" {
		t.Errorf("four alike: %s", nodes(m))
	}
	m.Wall()
	if got := m.Find("b"); got != -1 {
		t.Errorf("Find behind a Wall: %d", got)
	}
}

func TestP701AtFirstEmpty(t *testing.T) {
	m := marks.New()
	if m.Len() != 0 || len(m.All()) != 0 || m.Find("") != -1 || m.Of(0) != -1 {
		t.Error("new Marks are not empty")
	}
	m.Clear()
	if m.Len() != 0 {
		t.Error("Clear of nothing")
	}
}

func TestP701Alike(t *testing.T) {
	for _, x := range []struct {
		there, pushed string
		alike         bool
	}{
		{"", "", true},
		{"k=1", "k=1", true},
		{"k=1 l=2", "k=1 l=2", true},
		{"k=1 l=2", "l=2 k=1", true},
		{"k=1 l=2 n=3", "n=3 k=1 l=2", true},
		{"k=1 l=2 n=3", "k=1 n=3 l=2", true},
		{"k=1", "", false},
		{"", "k=1", false},
		{"k=1", "k=2", false},
		{"k=1", "l=1", false},
		{"k=1", "K=1", false},
		{"k=1", "k=1 l=2", false},
		{"k=1 l=2", "k=1", false},
		{"k=1 l=2", "k=2 l=1", false},
		{"k=1 l=2", "k=1 l=3", false},
		{"k=1 l=2", "k=3 l=2", false},
		{"k=1 l=2 n=3", "l=2 k=1 n=4", false},
		{"k=1 l=2 n=3", "l=2 n=4 k=1", false},
		{"k=1 k=1", "k=1 l=2", true}, // each one of the mark's stands in what is pushed
		{"k=1 l=2", "k=1 k=1", false},
		{"k=1 k=1 l=2", "l=2 l=2 k=1", true},
	} {
		m := marks.New()
		for n := range 3 {
			m.Put(n, mark(n, "b", x.there))
		}
		m.Push(mark(3, "b", x.pushed))
		want := "[0 1 2 3]"
		if x.alike {
			want = "[1 2 3]"
		}
		if got := nodes(m); got != want {
			t.Errorf("%q behind three of %q: %s", x.pushed, x.there, got)
		}
		last, _ := m.At(m.Len() - 1)
		if shown(last) != shown(mark(3, "b", x.pushed)) {
			t.Errorf("%q behind three of %q is %s", x.pushed, x.there, shown(last))
		}
	}
}

func TestP701OtherNamesAreNotAlike(t *testing.T) {
	for _, name := range []string{"", "i", "B", "b ", "bb", "b\x00", "\xFF"} {
		m := marks.New()
		for n := range 3 {
			m.Push(mark(n, "b", "k=1"))
		}
		for n := range 3 {
			m.Push(mark(3+n, name, "k=1"))
		}
		if got := nodes(m); got != "[0 1 2 3 4 5]" {
			t.Errorf("three b, three %q: %s", name, got)
		}
		m.Push(mark(6, "b", "k=1"))
		m.Push(mark(7, name, "k=1"))
		if got := nodes(m); got != "[1 2 4 5 6 7]" {
			t.Errorf("four b, four %q: %s", name, got)
		}
	}
}

func TestP701TheNodeDoesNotCount(t *testing.T) {
	m := marks.New()
	for range 5 {
		m.Push(mark(4, "b", ""))
	}
	if got := nodes(m); got != "[4 4 4]" {
		t.Errorf("one five times: %s", got)
	}
}

func TestP701OnlyTheFirstOneGoes(t *testing.T) {
	m := marks.New()
	for n := range 6 {
		m.Put(n, mark(n, "b", ""))
	}
	m.Put(0, mark(10, "i", ""))
	m.Put(2, mark(11, "i", ""))
	m.Push(mark(6, "b", ""))
	if got := nodes(m); got != "[10 11 1 2 3 4 5 6]" {
		t.Errorf("a seventh one: %s", got)
	}
}

func TestP701BehindTheLastWallAlone(t *testing.T) {
	b := func(n int) api.Mark { return mark(n, "b", "") }
	m := laid(b(0), b(1), b(2), b(3), wall(), b(4), b(5), wall(), b(6), b(7))
	m.Push(b(8))
	if got := nodes(m); got != "[0 1 2 3 -1 4 5 -1 6 7 8]" {
		t.Errorf("a third one behind the last wall: %s", got)
	}
	m.Push(b(9))
	if got := nodes(m); got != "[0 1 2 3 -1 4 5 -1 7 8 9]" {
		t.Errorf("a fourth one behind the last wall: %s", got)
	}
	m.Wall()
	m.Push(b(10))
	if got := nodes(m); got != "[0 1 2 3 -1 4 5 -1 7 8 9 -1 10]" {
		t.Errorf("one behind a new wall: %s", got)
	}
	m.Drop(11)
	m.Push(b(11))
	if got := nodes(m); got != "[0 1 2 3 -1 4 5 -1 8 9 10 11]" {
		t.Errorf("one, the wall ahead of it dropped: %s", got)
	}
	m.Set(7, b(12))
	m.Push(b(13))
	if got := nodes(m); got != "[0 1 2 3 -1 5 12 8 9 10 11 13]" {
		t.Errorf("one, the wall ahead of it overwritten: %s", got)
	}
}

func TestP701AMarkLikeAWallIsNone(t *testing.T) {
	m := marks.New()
	for n := range 4 {
		m.Push(mark(n, "", ""))
	}
	if nodes(m) != "[1 2 3]" || m.Find("") != 2 {
		t.Errorf("marks without a Name: %s, %d", nodes(m), m.Find(""))
	}
	m.Wall()
	if m.Find("") != -1 {
		t.Error("Find of no Name finds a wall, or goes beyond it")
	}
	m.Clear()
	if nodes(m) != "[1 2 3]" {
		t.Errorf("Clear: %s", nodes(m))
	}
}

func TestP701WallsAreNeverTooMany(t *testing.T) {
	m := marks.New()
	for range 6 {
		m.Wall()
	}
	if got := shown(m.All()...); got != strings.Repeat(shown(wall()), 6) {
		t.Errorf("six walls: %s", got)
	}
}

func TestP701Clear(t *testing.T) {
	b := func(n int) api.Mark { return mark(n, "b", "k=1") }
	for _, x := range []struct {
		list []api.Mark
		want string
	}{
		{[]api.Mark{b(1)}, "[]"},
		{[]api.Mark{b(1), b(2), b(3), b(4)}, "[]"},
		{[]api.Mark{wall()}, "[]"},
		{[]api.Mark{wall(), b(1), b(2)}, "[]"},
		{[]api.Mark{b(1), wall()}, "[1]"},
		{[]api.Mark{b(1), wall(), b(2), b(3)}, "[1]"},
		{[]api.Mark{wall(), wall()}, "[-1]"},
		{[]api.Mark{b(1), wall(), b(2), wall(), b(3)}, "[1 -1 2]"},
		{[]api.Mark{b(0), b(0), wall(), wall(), b(0)}, "[0 0 -1]"},
	} {
		m := laid(x.list...)
		m.Clear()
		if got := nodes(m); got != x.want {
			t.Errorf("Clear of %s: %s, not %s", shown(x.list...), got, x.want)
		}
		m.Push(b(7))
		if last, _ := m.At(m.Len() - 1); shown(last) != shown(b(7)) {
			t.Errorf("Push behind Clear: %s", shown(last))
		}
	}
}

func TestP702Find(t *testing.T) {
	m := laid(mark(1, "b", ""), mark(2, "u", ""), wall(), mark(3, "i", ""), wall(), mark(4, "b", ""), mark(5, "a", ""), mark(6, "b", "k=1"), mark(7, "a", ""))
	for name, want := range map[string]int{"b": 7, "a": 8, "i": -1, "u": -1, "": -1, "B": -1, "A": -1, "b\x00": -1, "ab": -1} {
		if got := m.Find(name); got != want {
			t.Errorf("Find(%q): %d, not %d", name, got, want)
		}
	}
	m.Clear()
	for name, want := range map[string]int{"b": -1, "i": 3, "u": -1} {
		if got := m.Find(name); got != want {
			t.Errorf("Find(%q) behind Clear: %d, not %d", name, got, want)
		}
	}
	m.Clear()
	if m.Find("b") != 0 || m.Find("u") != 1 || m.Find("i") != -1 {
		t.Error("Find without a wall")
	}
}

func TestP702Of(t *testing.T) {
	m := laid(mark(5, "b", ""), mark(0, "b", ""), wall(), mark(5, "i", ""), mark(math.MaxInt, "i", ""), wall(), mark(0, "a", ""), mark(7, "a", ""))
	for node, want := range map[int]int{5: 0, 0: 1, math.MaxInt: 4, 7: 7, 1: -1, 6: -1, 8: -1, math.MaxInt32: -1} {
		if got := m.Of(node); got != want {
			t.Errorf("Of(%d): %d, not %d", node, got, want)
		}
	}
	m.Drop(0)
	if m.Of(5) != 2 || m.Of(0) != 0 {
		t.Error("Of behind Drop")
	}
}

func TestP702AtLenAll(t *testing.T) {
	l := []api.Mark{mark(3, "b", "k=1 l=2"), wall(), mark(0, "\xFF", "\x00=\xFF k=1 k=1"), mark(3, "b", "")}
	m := laid(l...)
	if m.Len() != 4 || shown(m.All()...) != shown(l...) {
		t.Errorf("%d: %s", m.Len(), shown(m.All()...))
	}
	for i, want := range l {
		if got, is := m.At(i); !is || shown(got) != shown(want) {
			t.Errorf("At(%d): %s, %v", i, shown(got), is)
		}
	}
	for _, i := range append(odd(), 4) {
		if got, is := m.At(i); is || shown(got) != shown(api.Mark{}) {
			t.Errorf("At(%d): %s, %v", i, shown(got), is)
		}
	}
}

// few tells marks of which the second is a wall.
func few() *marks.Marks {
	return laid(mark(1, "b", "k=1"), wall(), mark(2, "i", ""), mark(3, "b", "k=1"))
}

func TestP702WhereThePlaceIsOne(t *testing.T) {
	x := mark(9, "u", "k=9")
	for i, want := range []string{"[-1 2 3]", "[1 2 3]", "[1 -1 3]", "[1 -1 2]"} {
		if m := few(); !m.Drop(i) || nodes(m) != want {
			t.Errorf("Drop(%d): %s", i, nodes(m))
		}
	}
	for i, want := range []string{"[9 -1 2 3]", "[1 9 2 3]", "[1 -1 9 3]", "[1 -1 2 9]"} {
		m := few()
		if !m.Set(i, x) || nodes(m) != want {
			t.Errorf("Set(%d): %s", i, nodes(m))
		}
		if got, _ := m.At(i); shown(got) != shown(x) {
			t.Errorf("Set(%d): %s", i, shown(got))
		}
	}
	for i, want := range []string{"[9 1 -1 2 3]", "[1 9 -1 2 3]", "[1 -1 9 2 3]", "[1 -1 2 9 3]", "[1 -1 2 3 9]"} {
		m := few()
		if !m.Put(i, x) || nodes(m) != want {
			t.Errorf("Put(%d): %s", i, nodes(m))
		}
		if got, _ := m.At(i); shown(got) != shown(x) {
			t.Errorf("Put(%d): %s", i, shown(got))
		}
	}
}

func TestP702WhereThePlaceIsNone(t *testing.T) {
	x := mark(9, "u", "k=9")
	for _, m := range []*marks.Marks{few(), marks.New()} {
		before, n := told(m), m.Len()
		for _, i := range append(odd(), n+1) {
			if m.Drop(i) || m.Set(i, x) || m.Put(i, x) {
				t.Errorf("%d of %d is a place", i, n)
			}
		}
		if m.Drop(n) || m.Set(n, x) {
			t.Errorf("%d of %d is a place", n, n)
		}
		if after := told(m); after != before {
			t.Errorf("calls that were false changed\n%s to\n%s", before, after)
		}
	}
}

func TestP702PutAndSetDropNothing(t *testing.T) {
	m := marks.New()
	for n := range 5 {
		m.Put(m.Len(), mark(n, "b", ""))
	}
	m.Put(2, mark(5, "b", ""))
	m.Set(0, mark(6, "b", ""))
	if got := nodes(m); got != "[6 1 5 2 3 4]" {
		t.Errorf("six alike: %s", got)
	}
}

// fourAlike tells whether four of l are alike.
func fourAlike(l []api.Mark) bool {
	for _, x := range l {
		many := 0
		for _, y := range l {
			if x.Name == y.Name && same(x.Attrs, y.Attrs) {
				many++
			}
		}
		if many > 3 {
			return true
		}
	}
	return false
}

// taggedMark tells a mark as tags make them: it has no attribute twice.
// (Where one has, tag.Same of two lists may be true one way round alone, and P703 does not follow from P701.)
func (d *die) taggedMark() api.Mark {
	x := d.mark()
	if len(x.Attrs) == 2 && x.Attrs[0].Name == x.Attrs[1].Name {
		x.Attrs = x.Attrs[:1]
	}
	return x
}

func TestP703NeverFourAlike(t *testing.T) {
	for seed := range 100 {
		d := die(seed)
		m := marks.New()
		for range 150 {
			if d.below(60) == 0 {
				m.Wall()
			}
			x := d.taggedMark()
			m.Push(x)
			_, behind := (&model{m.All()}).parts()
			if fourAlike(behind) {
				t.Fatalf("seed %d: four alike: %s", seed, shown(behind...))
			}
			if shown(behind[len(behind)-1]) != shown(x) {
				t.Fatalf("seed %d: %s is not last", seed, shown(x))
			}
		}
	}
}

func TestP703OfAllShortRows(t *testing.T) {
	kinds := []api.Mark{mark(0, "b", ""), mark(1, "b", "k=1 l=2"), mark(2, "b", "l=2 k=1"), mark(3, "i", "")}
	rows := [][]api.Mark{nil}
	for range 6 {
		var longer [][]api.Mark
		for _, row := range rows {
			for _, x := range kinds {
				longer = append(longer, append(slices.Clone(row), x))
			}
		}
		rows = longer
	}
	for _, row := range rows {
		m := marks.New()
		for _, x := range row {
			m.Push(x)
			if fourAlike(m.All()) {
				t.Fatalf("four alike behind %s: %s", shown(row...), shown(m.All()...))
			}
		}
	}
}

// many tells that many attributes; turned: from the last one on.
func many(n int, turned bool) []api.Attr {
	var l []api.Attr
	for i := range n {
		l = append(l, api.Attr{Name: fmt.Sprint("k", i), Value: fmt.Sprint(i)})
	}
	if turned {
		slices.Reverse(l)
	}
	return l
}

func TestP1VeryMany(t *testing.T) {
	m := marks.New()
	for n := range 8 {
		m.Push(api.Mark{Node: n, Name: "b", Attrs: many(50000, n%2 == 1)})
	}
	if got := nodes(m); got != "[5 6 7]" {
		t.Errorf("eight alike of very many attributes: %s", got)
	}
	m = marks.New()
	const n = 10000
	for i := range n {
		m.Push(mark(i, "font", fmt.Sprint("face=x color=", i)))
	}
	if m.Len() != n || m.Of(n-1) != n-1 || m.Find("font") != n-1 || m.Find("b") != -1 {
		t.Error("very many marks, none alike")
	}
	for i := range n {
		if !m.Drop(0) || m.Of(i) != -1 {
			t.Fatalf("Drop of the first one, %d times", i)
		}
	}
	if m.Len() != 0 {
		t.Error("all were dropped")
	}
}

// spoil writes all over a list of marks, its spare room too.
func spoil(l []api.Mark) {
	l = l[:cap(l)]
	for i := range l {
		spoilAttrs(l[i].Attrs)
		l[i] = mark(99, "spoilt", "spoilt=1")
	}
}

func spoilAttrs(l []api.Attr) {
	l = l[:cap(l)]
	for i := range l {
		l[i] = api.Attr{Name: "spoilt", Value: "spoilt"}
	}
}

// roomy tells a mark whose Attrs have spare room, with something in it.
func roomy(node int, attrs string) api.Mark {
	x := mark(node, "b", attrs+" spare=1 spare=2")
	x.Attrs = x.Attrs[:len(x.Attrs)-2]
	return x
}

func TestP2WhatIsHandedIn(t *testing.T) {
	calls := map[string]func(m *marks.Marks, x api.Mark){
		"Push":         func(m *marks.Marks, x api.Mark) { m.Push(x) },
		"Set":          func(m *marks.Marks, x api.Mark) { m.Set(0, x) },
		"Put":          func(m *marks.Marks, x api.Mark) { m.Put(0, x) },
		"Put, last":    func(m *marks.Marks, x api.Mark) { m.Put(m.Len(), x) },
		"Put, nowhere": func(m *marks.Marks, x api.Mark) { m.Put(-1, x) },
		"Set, nowhere": func(m *marks.Marks, x api.Mark) { m.Set(m.Len(), x) },
	}
	for name, call := range calls {
		for _, attrs := range []string{"", "k=1", "l=2 k=1"} {
			m := laid(mark(1, "b", attrs), mark(2, "b", attrs), mark(3, "b", attrs))
			x := roomy(4, attrs)
			was := shown(api.Mark{Attrs: x.Attrs[:cap(x.Attrs)]})
			call(m, x)
			if got := shown(api.Mark{Attrs: x.Attrs[:cap(x.Attrs)]}); got != was {
				t.Errorf("%s changed %s to %s", name, was, got)
			}
			before := told(m)
			spoilAttrs(x.Attrs)
			if after := told(m); after != before {
				t.Errorf("%s kept what it was given: %s, and %s", name, before, after)
			}
		}
	}
}

func TestP2WhatIsTold(t *testing.T) {
	m := marks.New()
	for n := range 7 {
		m.Push(roomy(n, fmt.Sprint("k=", n, " l=2 n=3")))
	}
	m.Wall()
	m.Push(roomy(8, "k=1"))
	before := told(m)
	for i := range m.Len() {
		x, _ := m.At(i)
		spoil([]api.Mark{x})
		spoil(m.All())
		if after := told(m); after != before {
			t.Fatalf("changed by who has what is told:\n%s, not\n%s", after, before)
		}
	}
	all := m.All()
	one, _ := m.At(0)
	was := shown(append(all, one)...)
	m.Set(0, mark(9, "u", "k=9"))
	m.Drop(1)
	m.Put(1, mark(10, "u", ""))
	m.Clear()
	m.Push(mark(11, "u", "k=9 l=9"))
	m.Clear()
	m.Wall()
	if got := shown(append(all, one)...); got != was {
		t.Errorf("what was told is changed by later calls: %s, not %s", got, was)
	}
}

func TestP2ListsOfOneAnswer(t *testing.T) {
	shared := mark(0, "b", "k=1 l=2 n=3").Attrs
	m := marks.New()
	for n := range 6 {
		m.Put(n, api.Mark{Node: n, Name: "b", Attrs: shared[:n%4]})
	}
	want := m.All()
	for i := range want {
		l := m.All()
		spoilAttrs(append(l[i].Attrs, api.Attr{}, api.Attr{}))
		spoilAttrs(l[i].Attrs)
		for k := range l {
			if k != i && shown(l[k]) != shown(want[k]) {
				t.Fatalf("the Attrs of %d and %d share memory", i, k)
			}
		}
	}
}

func TestP2WhatWasToldIsHandedInAgain(t *testing.T) {
	m := laid(mark(1, "b", "k=1"), mark(2, "b", "l=2"))
	x, _ := m.At(0)
	m.Push(x)
	m.Set(1, x)
	m.Put(0, x)
	before := told(m)
	spoilAttrs(x.Attrs)
	if after := told(m); after != before {
		t.Errorf("marks share memory with what was told: %s, not %s", after, before)
	}
	m.Set(0, mark(1, "b", "k=2"))
	if got := shown(m.All()[1:]...); got != strings.Repeat(shown(mark(1, "b", "k=1")), 3) {
		t.Errorf("marks share memory: %s", got)
	}
}

func TestP2NoListAndAnEmptyOneAreTheSame(t *testing.T) {
	m := marks.New()
	m.Push(api.Mark{Node: 1, Name: "b"})
	m.Push(api.Mark{Node: 2, Name: "b", Attrs: []api.Attr{}})
	m.Push(api.Mark{Node: 3, Name: "b", Attrs: many(3, false)[:0]})
	m.Push(api.Mark{Node: 4, Name: "b"})
	if got := nodes(m); got != "[2 3 4]" {
		t.Errorf("four without attributes: %s", got)
	}
}

func TestP3P7SideBySide(t *testing.T) {
	run := func(beside func()) string {
		var s strings.Builder
		d, m := die(7), marks.New()
		for range 60 {
			call, got, _ := d.step(m, &model{list: m.All()})
			fmt.Fprintln(&s, call, got, told(m))
			beside()
		}
		return s.String()
	}
	alone := run(func() {})
	d, other := die(8), marks.New()
	if run(func() { d.step(other, &model{list: other.All()}) }) != alone {
		t.Error("Marks answer otherwise where there are others beside them")
	}
	if marks.New() == marks.New() {
		t.Error("New tells one object twice")
	}
}

func TestP8MarksThatMayNotBe(t *testing.T) {
	for _, node := range []int{math.MinInt, -2, -1} {
		m := few()
		x := roomy(node, "k=1")
		was := shown(api.Mark{Attrs: x.Attrs[:cap(x.Attrs)]})
		m.Push(x)
		m.Put(1, x)
		m.Set(0, x)
		m.Of(node)
		m.Find("b")
		before := told(m)
		if got := shown(api.Mark{Attrs: x.Attrs[:cap(x.Attrs)]}); got != was {
			t.Errorf("changed: %s, not %s", got, was)
		}
		spoilAttrs(x.Attrs)
		if after := told(m); after != before {
			t.Errorf("kept: %s, and %s", before, after)
		}
		for range 9 {
			m.Push(x)
			m.Clear()
			m.Drop(0)
		}
	}
}
