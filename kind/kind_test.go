package kind_test

import (
	"fmt"
	"math"
	"os"
	"os/exec"
	"runtime"
	"slices"
	"strconv"
	"strings"
	"sync"
	"sync/atomic"
	"testing"

	"anagnost/api"
	"anagnost/kind"
)

// asked names, where a test runs this program anew, what it is to call first of all.
const asked = "KIND_FIRST_CALL"

func TestMain(m *testing.M) {
	if name := os.Getenv(asked); name != "" {
		fmt.Print(madeBehind(name))
		os.Exit(0)
	}
	os.Exit(m.Run())
}

// chapter is P501's list, as it stands there.
func chapter() map[int]string {
	return map[int]string{
		api.Void:    `area base basefont bgsound br col embed frame hr img input keygen link meta param source track wbr`,
		api.Format:  `a b big code em font i nobr s small strike strong tt u`,
		api.Special: `address applet area article aside base basefont bgsound blockquote body br button caption center col colgroup dd details dialog dir div dl dt embed fieldset figcaption figure footer form frame frameset h1 h2 h3 h4 h5 h6 head header hgroup hr html iframe img input keygen li link listing main marquee menu meta nav noembed noframes noscript object ol p param plaintext pre script search section select source style summary table tbody td template textarea tfoot th thead title tr track ul wbr xmp`,
		api.Imply:   `dd dt li optgroup option p rb rp rt rtc`,
		api.Heads:   `h1 h2 h3 h4 h5 h6`,
		api.Blocks:  `address article aside blockquote center details dialog dir div dl fieldset figcaption figure footer form header hgroup main menu nav ol p search section summary ul`,
		api.Breaks:  `b big blockquote body br center code dd div dl dt em embed h1 h2 h3 h4 h5 h6 head hr i img li listing menu meta nobr ol p pre ruby s small span strike strong sub sup table tt u ul var`,
		api.Mute:    `iframe noembed noframes plaintext script style template textarea title xmp`,
		api.Gone:    `applet area audio base basefont bgsound button canvas col colgroup dialog embed frame iframe input keygen link meta noembed noframes object optgroup option param plaintext script select source style template textarea title track video wbr xmp`,
	}
}

// sizes is how many names each set has, counted apart: a list that is cut is seen by it.
func sizes() map[int]int {
	return map[int]int{
		api.Void: 18, api.Format: 14, api.Special: 84, api.Imply: 10, api.Heads: 6,
		api.Blocks: 26, api.Breaks: 44, api.Mute: 10, api.Gone: 36,
	}
}

// numbers are those of the sets, and many that are of none.
func numbers() []int {
	l := []int{math.MinInt, math.MinInt32, -65, -64, 63, 64, 65, 256, 257, 1 << 16, 1<<32 + 1, math.MaxInt32, math.MaxInt}
	for set := -20; set <= 40; set++ {
		l = append(l, set)
	}
	return l
}

// walls is P502's list of ScopeAny, by space.
func walls() map[int]string {
	return map[int]string{
		api.Html: "applet caption html marquee object table td template th",
		api.Math: "annotation-xml mi mn mo ms mtext",
		api.Svg:  "desc foreignObject title",
	}
}

// of tells whether name is one of those in list.
func of(list, name string) bool {
	return slices.Contains(strings.Split(list, " "), name)
}

// known tells every name of the chapter, and others that elements have.
func known() []string {
	l := strings.Fields("abbr cite del ins label legend q math svg image foreignobject annotation audio body html rtc slot g path h0 h7 h10 ol ul button")
	for _, list := range chapter() {
		l = append(l, strings.Fields(list)...)
	}
	for _, list := range walls() {
		l = append(l, strings.Fields(list)...)
	}
	slices.Sort(l)
	return slices.Compact(l)
}

// near tells texts that are almost name.
func near(name string) []string {
	l := []string{
		strings.ToUpper(name), strings.ToUpper(name[:1]) + name[1:], strings.ToLower(name), name + name, name + "s", "x" + name, name[1:], name[:len(name)-1],
	}
	for _, s := range []string{" ", "\t", "\n", "\x00", "/", ">", "\xFF", "\xC2\xA0"} {
		l = append(l, name+s, s+name, name[:1]+s+name[1:])
	}
	for i := range len(name) {
		b := []byte(name)
		b[i] ^= 0x80
		l = append(l, string(b))
	}
	return l
}

// texts are all names, what is near to them, and what is no name at all.
func texts() []string {
	l := []string{"", " ", "\x00", "\xFF", "br hr", "area base", "h1 h2", "html table", "p ul", strings.Repeat("p", 1<<16), "\u0130", "\u212Abd"}
	for c := range 256 {
		l = append(l, string([]byte{byte(c)}))
	}
	for _, name := range known() {
		l = append(l, name)
		l = append(l, near(name)...)
	}
	slices.Sort(l)
	return slices.Compact(l)
}

func TestP501Set(t *testing.T) {
	for _, set := range numbers() {
		want := strings.Fields(chapter()[set])
		if len(want) != sizes()[set] {
			t.Errorf("set %d has %d names, not %d", set, len(want), sizes()[set])
		}
		slices.Sort(want)
		if got := kind.Set(set); !slices.Equal(got, want) {
			t.Errorf("Set(%d): %q, not %q", set, got, want)
		}
	}
}

func TestP501SetsRise(t *testing.T) {
	for _, set := range numbers() {
		got := kind.Set(set)
		for i := 1; i < len(got); i++ {
			if got[i-1] >= got[i] {
				t.Errorf("Set(%d): %q ahead of %q", set, got[i-1], got[i])
			}
		}
	}
}

func TestP501Has(t *testing.T) {
	lists := chapter()
	for _, name := range texts() {
		for _, set := range numbers() {
			list, is := lists[set]
			if want := is && of(list, name); kind.Has(set, name) != want {
				t.Errorf("Has(%d, %q): %v", set, name, !want)
			}
		}
	}
}

// unlike tells where Has and Set are at odds, of all numbers and texts; nothing, if nowhere.
// Has is asked first: what it tells may not hang on whether Set was called.
func unlike() string {
	type asked struct {
		set  int
		name string
	}
	has := map[asked]bool{}
	for _, set := range numbers() {
		for _, name := range texts() {
			has[asked{set, name}] = kind.Has(set, name)
		}
	}
	for _, set := range numbers() {
		l := kind.Set(set)
		for _, name := range append(texts(), l...) {
			told := slices.Contains(l, name)
			if has[asked{set, name}] != told || kind.Has(set, name) != told {
				return fmt.Sprintf("Has(%d, %q): not what Set tells, %v", set, name, told)
			}
		}
	}
	return ""
}

func TestP501HasIsOfSet(t *testing.T) {
	if got := unlike(); got != "" {
		t.Error(got)
	}
	if got := anew(t, "Has ahead of Set"); got != "0 1" {
		t.Errorf("in a program that begins with Has: %s", got)
	}
}

func TestP501Example(t *testing.T) {
	if kind.Has(api.Heads, "h7") || !kind.Has(api.Heads, "h6") {
		t.Error("h6 is a heading, h7 is none")
	}
}

// wall is P502's words.
func wall(scope, space int, name string) bool {
	list, is := walls()[space]
	inAny := is && of(list, name)
	html := space == api.Html
	switch scope {
	case api.ScopeAny:
		return inAny
	case api.ScopeList:
		return inAny || html && of("ol ul", name)
	case api.ScopeButton:
		return inAny || html && of("button", name)
	case api.ScopeTable:
		return html && of("html table template", name)
	}
	return false
}

func TestP502AgainstItsWords(t *testing.T) {
	spaces := []int{math.MinInt, -1, 0, api.Html, api.Svg, api.Math, 4, 5, 257, math.MaxInt}
	scopes := append(spaces, 6, 7, 8, 9, 64)
	for _, name := range texts() {
		for _, space := range spaces {
			for _, scope := range scopes {
				if want := wall(scope, space, name); kind.Wall(scope, space, name) != want {
					t.Errorf("Wall(%d, %d, %q): %v", scope, space, name, !want)
				}
			}
		}
	}
}

func TestP502Known(t *testing.T) {
	for _, x := range []struct {
		scope, space int
		name         string
		want         bool
	}{
		{api.ScopeTable, api.Html, "td", false},
		{api.ScopeTable, api.Html, "table", true},
		{api.ScopeTable, api.Html, "caption", false},
		{api.ScopeTable, api.Svg, "title", false},
		{api.ScopeTable, api.Math, "mi", false},
		{api.ScopeAny, api.Html, "td", true},
		{api.ScopeAny, api.Html, "ol", false},
		{api.ScopeAny, api.Html, "button", false},
		{api.ScopeList, api.Html, "ol", true},
		{api.ScopeList, api.Html, "ul", true},
		{api.ScopeList, api.Svg, "ul", false},
		{api.ScopeList, api.Html, "button", false},
		{api.ScopeList, api.Math, "mtext", true},
		{api.ScopeButton, api.Html, "button", true},
		{api.ScopeButton, api.Math, "button", false},
		{api.ScopeButton, api.Html, "ol", false},
		{api.ScopeButton, api.Svg, "desc", true},
		{api.ScopeAny, api.Svg, "foreignObject", true},
		{api.ScopeAny, api.Svg, "foreignobject", false},
		{api.ScopeAny, api.Html, "title", false},
		{api.ScopeAny, api.Math, "annotation-xml", true},
		{api.ScopeAny, api.Svg, "table", false},
		{0, api.Html, "html", false},
		{5, api.Html, "html", false},
	} {
		if got := kind.Wall(x.scope, x.space, x.name); got != x.want {
			t.Errorf("Wall(%d, %d, %q): %v", x.scope, x.space, x.name, got)
		}
	}
}

func TestP503State(t *testing.T) {
	for _, name := range texts() {
		want := api.InData
		switch {
		case of("textarea title", name):
			want = api.InText
		case of("iframe noembed noframes script style xmp", name):
			want = api.InRaw
		case name == "plaintext":
			want = api.InPlain
		}
		if got := kind.State(name); got != want {
			t.Errorf("State(%q): %d, not %d", name, got, want)
		}
	}
}

// madeBehind tells how often the tables were made ahead of one call and behind it.
func madeBehind(name string) string {
	ahead := kind.Made()
	switch name {
	case "Set":
		kind.Set(api.Gone)
	case "Set of none":
		kind.Set(99)
	case "Has":
		kind.Has(api.Void, "br")
	case "Has not":
		kind.Has(api.Void, "p")
	case "Has of none":
		kind.Has(-1, "p")
	case "Has ahead of Set":
		if w := unlike(); w != "" {
			return w
		}
	case "Wall":
		kind.Wall(api.ScopeList, api.Html, "ul")
	case "State":
		kind.State("title")
	case "Made":
		kind.Made()
	case "many at once":
		for _, w := range needAtOnce() {
			if w != "" {
				return w
			}
		}
	}
	return strconv.Itoa(ahead) + " " + strconv.Itoa(kind.Made())
}

// needAtOnce has many ask at a time, and tells whose answer was wrong.
// They wait by turning: who is woken one by one would come too late to meet the others.
func needAtOnce() []string {
	wrong := make([]string, max(4, runtime.GOMAXPROCS(0)))
	var ready atomic.Int64
	var all sync.WaitGroup
	for i := range wrong {
		all.Go(func() {
			for ready.Add(1); ready.Load() < int64(len(wrong)); {
				runtime.Gosched()
			}
			wrong[i] = needed(i)
		})
	}
	all.Wait()
	return wrong
}

// needed asks what needs the tables, and tells what was wrong.
func needed(i int) string {
	switch i % 4 {
	case 0:
		if !kind.Has(api.Gone, "xmp") {
			return "Has not"
		}
	case 1:
		if n := len(kind.Set(api.Gone)); n != 36 {
			return "Set of " + strconv.Itoa(n)
		}
	case 2:
		if kind.Has(api.Heads, "h7") {
			return "Has"
		}
	case 3:
		if n := len(kind.Set(api.Void)); n != 18 {
			return "Set of " + strconv.Itoa(n)
		}
	}
	if made := kind.Made(); made != 1 {
		return "Made " + strconv.Itoa(made)
	}
	return ""
}

// anew runs this program anew, for the tables are made once in each, and tells madeBehind of name.
func anew(t *testing.T, name string) string {
	t.Helper()
	c := exec.Command(os.Args[0])
	c.Env = append(os.Environ(), asked+"="+name)
	out, err := c.Output()
	if err != nil {
		t.Fatal(err)
	}
	return string(out)
}

func TestP504TheFirstCallOfAll(t *testing.T) {
	for name, want := range map[string]string{
		"Set": "0 1", "Set of none": "0 1", "Has": "0 1", "Has not": "0 1", "Has of none": "0 1",
		"Wall": "0 0", "State": "0 0", "Made": "0 0",
	} {
		if got := anew(t, name); got != want {
			t.Errorf("made ahead of %s and behind it: %s, not %s", name, got, want)
		}
	}
}

func TestP504ManyAtOnce(t *testing.T) {
	for range 40 {
		if got := anew(t, "many at once"); got != "0 1" {
			t.Fatalf("made ahead of many at once and behind them: %s", got)
		}
	}
}

func TestP504OnceAlone(t *testing.T) {
	for _, set := range numbers() {
		kind.Set(set)
		kind.Has(set, "p")
		if got := kind.Made(); got != 1 {
			t.Fatalf("made %d times", got)
		}
	}
	for _, w := range needAtOnce() {
		if w != "" {
			t.Error(w)
		}
	}
}

func TestP505Special(t *testing.T) {
	for _, set := range []int{api.Void, api.Heads, api.Blocks} {
		for _, name := range kind.Set(set) {
			if !kind.Has(api.Special, name) {
				t.Errorf("%q of %d is not Special", name, set)
			}
		}
	}
	for _, name := range kind.Set(api.Format) {
		if kind.Has(api.Special, name) {
			t.Errorf("%q of Format is Special", name)
		}
	}
}

func TestP2SetsAreNew(t *testing.T) {
	for set, list := range chapter() {
		first, second := kind.Set(set), kind.Set(set)
		for i := range first[:cap(first)] {
			first[:cap(first)][i] = "spoilt"
		}
		want := strings.Fields(list)
		slices.Sort(want)
		if !slices.Equal(second, want) || !slices.Equal(kind.Set(set), want) {
			t.Errorf("Set(%d) shares its memory", set)
		}
		if kind.Has(set, "spoilt") || !kind.Has(set, want[0]) {
			t.Errorf("Has(%d) was changed by who has a Set", set)
		}
	}
}

func TestP3TheSameAgain(t *testing.T) {
	for _, set := range numbers() {
		first := kind.Set(set)
		for range 50 {
			if got := kind.Set(set); !slices.Equal(got, first) {
				t.Fatalf("Set(%d): %q, and %q", set, first, got)
			}
		}
	}
}
