package write_test

import (
	"fmt"
	"math/rand"
	"slices"
	"strings"
	"testing"
	"unicode/utf8"

	"anagnost/api"
	"anagnost/dom"
	"anagnost/kind"
	"anagnost/parse"
	"anagnost/refs"
	"anagnost/write"
)

const (
	voidNames = "area base basefont bgsound br col embed frame hr img input keygen link meta param source track wbr"
	rawNames  = "iframe noembed noframes plaintext script style xmp"
)

func text(s string) api.Node {
	return api.Node{Kind: api.Text, Text: s}
}

func note(s string) api.Node {
	return api.Node{Kind: api.Note, Text: s}
}

func elem(name string, kids ...api.Node) api.Node {
	return in(api.Html, name, kids...)
}

func in(space int, name string, kids ...api.Node) api.Node {
	return api.Node{Kind: api.Elem, Space: space, Name: name, Kids: kids}
}

func with(n api.Node, attrs ...string) api.Node {
	for i := 0; i < len(attrs); i += 2 {
		n.Attrs = append(n.Attrs, api.Attr{Name: attrs[i], Value: attrs[i+1]})
	}
	return n
}

func list(l ...api.Node) []api.Node { return l }

// shown tells l, whatever bytes it has, as a line that can be read.
func shown(l []api.Node) string {
	return fmt.Sprintf("%.1000q", fmt.Sprint(l))
}

// built tells all texts of at most n of the pieces.
func built(n int, pieces ...string) []string {
	out := []string{""}
	for from := 0; n > 0; n-- {
		to := len(out)
		for _, s := range out[from:to] {
			for _, p := range pieces {
				out = append(out, s+p)
			}
		}
		from = to
	}
	return out
}

// safeModel is P1101, sign by sign by its bytes.
func safeModel(s string, value bool) string {
	pairs := []string{"&", "&amp;", "<", "&lt;", ">", "&gt;", "\xC2\xA0", "&nbsp;", "\x0D", "&#13;"}
	if value {
		pairs = append(pairs, "\"", "&quot;")
	}
	return strings.NewReplacer(pairs...).Replace(s)
}

// textModel is P1102, word by word; up is the element whose kids l are.
func textModel(l []api.Node, up api.Node) string {
	out := ""
	for _, n := range l {
		switch n.Kind {
		case api.Text:
			if among(rawNames, up) {
				out += n.Text
			} else {
				out += safeModel(n.Text, false)
			}
		case api.Note:
			out += "<!--" + n.Text + "-->"
		case api.Elem:
			out += "<" + n.Name
			for _, a := range n.Attrs {
				out += "\x20" + a.Name + "=\"" + safeModel(a.Value, true) + "\""
			}
			out += ">"
			if !among(voidNames, n) {
				out += textModel(n.Kids, n) + "</" + n.Name + ">"
			}
		}
	}
	return out
}

// among tells whether n is an HTML element of one of those names.
func among(names string, n api.Node) bool {
	return n.Kind == api.Elem && n.Space == api.Html && slices.Contains(strings.Split(names, " "), n.Name)
}

func checkSafe(t *testing.T, s string) {
	t.Helper()
	for _, value := range []bool{false, true} {
		got := write.Safe(s, value)
		if want := safeModel(s, value); got != want {
			t.Fatalf("P1101: Safe(%.99q, %v): %.99q, not %.99q", s, value, got, want)
		}
		if strings.ContainsAny(got, "<>\r") {
			t.Fatalf("P1103: Safe(%.99q, %v): %.99q", s, value, got)
		}
		for _, attr := range []bool{false, true} {
			if back := refs.Expand(got, attr); back != s {
				t.Fatalf("P1103: Safe(%.99q, %v), Expanded (%v): %.99q", s, value, attr, back)
			}
		}
	}
}

func checkText(t *testing.T, l []api.Node) {
	t.Helper()
	if got, want := write.Text(l), textModel(l, api.Node{}); got != want {
		t.Fatalf("P1102: Text(%s): %.500q, not %.500q", shown(l), got, want)
	}
}

func known(t *testing.T, want string, l ...api.Node) {
	t.Helper()
	if got := write.Text(l); got != want {
		t.Errorf("P1102: Text(%s): %q, not %q", shown(l), got, want)
	}
}

func TestP1101Known(t *testing.T) {
	for _, x := range []struct{ s, plain, value string }{
		{"", "", ""},
		{"\r", "&#13;", "&#13;"},
		{"\r\n", "&#13;\n", "&#13;\n"},
		{"a & b", "a &amp; b", "a &amp; b"},
		{"<p>", "&lt;p&gt;", "&lt;p&gt;"},
		{"a\u00A0b", "a&nbsp;b", "a&nbsp;b"},
		{"\"a\" 'b' `c`", "\"a\" 'b' `c`", "&quot;a&quot; 'b' `c`"},
		{"&amp;&lt", "&amp;amp;&amp;lt", "&amp;amp;&amp;lt"},
		{"&&", "&amp;&amp;", "&amp;&amp;"},
		{"/?a=1&copy=2#<\">", "/?a=1&amp;copy=2#&lt;\"&gt;", "/?a=1&amp;copy=2#&lt;&quot;&gt;"},
		{"\t\n\f \x00\u2028\u00AD\uFEFF\u00E4\U0001F600", "\t\n\f \x00\u2028\u00AD\uFEFF\u00E4\U0001F600", "\t\n\f \x00\u2028\u00AD\uFEFF\u00E4\U0001F600"},
		{"a=b;c/d!-->", "a=b;c/d!--&gt;", "a=b;c/d!--&gt;"},
		{"\xFF<\xC2>\xA0\"", "\xFF&lt;\xC2&gt;\xA0\"", "\xFF&lt;\xC2&gt;\xA0&quot;"},
		{"\xE2\x82\xC2\xA0\xA0", "\xE2\x82&nbsp;\xA0", "\xE2\x82&nbsp;\xA0"},
		{"\uFFFD\xEF\xBF", "\uFFFD\xEF\xBF", "\uFFFD\xEF\xBF"},
	} {
		if got := write.Safe(x.s, false); got != x.plain {
			t.Errorf("Safe(%q, false): %q, not %q", x.s, got, x.plain)
		}
		if got := write.Safe(x.s, true); got != x.value {
			t.Errorf("Safe(%q, true): %q, not %q", x.s, got, x.value)
		}
	}
}

func TestP1101EachByte(t *testing.T) {
	for c := range 256 {
		one := string([]byte{byte(c)})
		for _, s := range []string{one, "a" + one, one + "a", one + one, "&" + one + "<", "\xC2" + one, one + "\xA0", "\xE1" + one + "\xA0"} {
			checkSafe(t, s)
		}
	}
}

func TestP1101EachSign(t *testing.T) {
	for r := range rune(utf8.MaxRune + 1) {
		s := string(r)
		plain, value := s, s
		switch r {
		case '&':
			plain, value = "&amp;", "&amp;"
		case '<':
			plain, value = "&lt;", "&lt;"
		case '>':
			plain, value = "&gt;", "&gt;"
		case 0xA0:
			plain, value = "&nbsp;", "&nbsp;"
		case 13:
			plain, value = "&#13;", "&#13;"
		case '"':
			value = "&quot;"
		}
		if got := write.Safe(s, false); got != plain {
			t.Fatalf("Safe(%q, false): %q", s, got)
		}
		if got := write.Safe(s, true); got != value {
			t.Fatalf("Safe(%q, true): %q", s, got)
		}
	}
}

func TestP1101ShortTexts(t *testing.T) {
	for _, s := range built(4, "&", "<", ">", "\"", "\r", "\u00A0", "\xC2", "\xA0", "\xE2", "\xF0\x90", "amp;", "#13", "lt", ";", "x", "\x00") {
		checkSafe(t, s)
	}
}

// TestP1101LongTexts looks at what would not end if each reference copied what was written ahead of it.
func TestP1101LongTexts(t *testing.T) {
	for _, s := range []string{"&", "a<", "\r\n", "\u00A0", "abc", "\"", "\xFF"} {
		checkSafe(t, strings.Repeat(s, 1<<18))
	}
}

func TestP1102Known(t *testing.T) {
	known(t, "")
	known(t, "<br>", elem("br", text("gone"), elem("p")))
	known(t, "<p></p>", elem("p"))
	known(t, "a&lt;b&#13;&nbsp;\"", text("a<b\r\u00A0\""))
	known(t, "<p>1<b>2</b>3</p>4", elem("p", text("1"), elem("b", text("2")), text("3")), text("4"))
	known(t, "<ul><li>a</li><li>b<ol><li></li></ol></li></ul>", elem("ul", elem("li", text("a")), elem("li", text("b"), elem("ol", elem("li")))))
	known(t, "ab", text("a"), text(""), text("b"))
	known(t, "<pre>\n\nx</pre>", elem("pre", text("\n\nx")))
	known(t, "<textarea>\n&lt;</textarea>", elem("textarea", text("\n<")))
}

func TestP1102NoListIsAnEmptyOne(t *testing.T) {
	for _, l := range [][]api.Node{nil, {}, make([]api.Node, 0, 4)} {
		if got := write.Text(l); got != "" {
			t.Errorf("Text of nothing: %q", got)
		}
		known(t, "<p></p>", api.Node{Kind: api.Elem, Space: api.Html, Name: "p", Attrs: []api.Attr{}, Kids: l})
	}
}

func TestP1102Notes(t *testing.T) {
	known(t, "<!---->", note(""))
	known(t, "<!--a & <b> --> \"\r\u00A0\xFF-->", note("a & <b> --> \"\r\u00A0\xFF"))
	known(t, "<p>a<!-- n -->b</p>", elem("p", text("a"), note(" n "), text("b")))
	known(t, "<script><!--<--></script>", elem("script", note("<")))
	known(t, "<!--n-->", api.Node{Kind: api.Note, Space: api.Html, Name: "p", Attrs: []api.Attr{{Name: "id"}}, Text: "n", From: 3, Kids: list(text("k"))})
}

func TestP1102Attributes(t *testing.T) {
	known(t, `<a href="?a&amp;b=&quot;&lt;&gt;&nbsp;&#13;'" id="">x</a>`, with(elem("a", text("x")), "href", "?a&b=\"<>\u00A0\r'", "id", ""))
	known(t, `<img src="1" alt="2">`, with(elem("img"), "src", "1", "alt", "2"))
	known(t, `<p b="1" a="2" b="3"></p>`, with(elem("p"), "b", "1", "a", "2", "b", "3"))
	known(t, `<p ="1" ="" A&<>"="x"></p>`, with(elem("p"), "", "1", "", "", "A&<>\"", "x"))
	known(t, `<script src="&lt;&quot;">&</script>`, with(elem("script", text("&")), "src", "<\""))
	known(t, `<g x="&quot;">"</g>`, with(in(api.Svg, "g", text("\"")), "x", "\""))
}

// TestP1102OnlyItsFields looks at nodes that no tree has: what their promise does not name is not written.
func TestP1102OnlyItsFields(t *testing.T) {
	known(t, "&lt;", api.Node{Kind: api.Text, Space: api.Html, Name: "script", Attrs: []api.Attr{{Name: "id"}}, Text: "<", From: 7, Kids: list(text("k"), elem("p"))})
	known(t, "<p>k</p>", api.Node{Kind: api.Elem, Space: api.Html, Name: "p", Text: "gone", From: 7, Kids: list(text("k"))})
	known(t, "<></>", api.Node{Kind: api.Elem})
	known(t, "<a <&>x</a <&>", elem("a <&", text("x")))
}

func TestP1102OtherKinds(t *testing.T) {
	for _, k := range []int{-1 << 62, -1, 0, 4, 5, api.TStop + 1, 257, 258, 259, 1<<32 + 1, 1 << 62} {
		n := with(elem("p", text("k"), elem("b"), note("n")), "id", "x")
		n.Kind, n.Text = k, "t"
		known(t, "", n)
		known(t, "a<p>b</p>c", text("a"), n, elem("p", n, text("b"), n), n, text("c"))
		known(t, "<script>&</script>", elem("script", n, text("&")))
	}
}

func TestP1102Void(t *testing.T) {
	for name := range strings.SplitSeq(voidNames, " ") {
		void := with(elem(name, text("gone"), note("gone"), elem("p", text("gone"))), "id", "<")
		known(t, "a<"+name+" id=\"&lt;\">b", text("a"), void, text("b"))
		for _, space := range []int{-1, 0, api.Svg, api.Math, 4, 1<<32 + 1} {
			known(t, "<"+name+">&lt;<p></p></"+name+">", in(space, name, text("<"), elem("p")))
		}
		for _, near := range []string{strings.ToUpper(name), name + " ", name + "x", name[:len(name)-1] + "_"} {
			known(t, "<"+near+">x</"+near+">", elem(near, text("x")))
		}
	}
}

// allNames are those of all sets, and others.
func allNames() []string {
	out := []string{"", "span", "noscript", "svg", "math", "ruby", "foreignObject", "command", "image", "SCRIPT", "Br"}
	for set := api.Void; set <= api.Gone; set++ {
		out = append(out, kind.Set(set)...)
	}
	slices.Sort(out)
	return slices.Compact(out)
}

func TestP1102AllNames(t *testing.T) {
	some := strings.Fields(voidNames + " " + rawNames + " p title textarea template noscript")
	for _, name := range allNames() {
		for space := -1; space <= 4; space++ {
			checkText(t, list(text("&"), with(in(space, name, text("<\r"), note("&"), elem("i", text(">")), text("\u00A0")), "id", "\""), text("&")))
			for _, below := range some {
				checkText(t, list(in(space, name, text("<"), elem(below, text("&")), text(">"), in(api.Svg, below, text("&")), text("<"))))
			}
		}
	}
}

func TestP1102Raw(t *testing.T) {
	const s = "a<b>&amp;\r\u00A0\"</script>\xFF"
	safe := safeModel(s, false)
	for name := range strings.SplitSeq(rawNames, " ") {
		open, shut := "<"+name+">", "</"+name+">"
		known(t, open+s+shut+safe, elem(name, text(s)), text(s))
		known(t, open+s+"<p>"+safe+"</p>"+s+"<!--"+s+"-->"+s+shut, elem(name, text(s), elem("p", text(s)), text(s), note(s), text(s)))
		known(t, "<p>"+safe+open+s+shut+safe+"</p>", elem("p", text(s), elem(name, text(s)), text(s)))
		known(t, open+"<br>"+s+"<xmp>"+s+"</xmp>"+s+shut, elem(name, elem("br", text(s)), text(s), elem("xmp", text(s)), text(s)))
		for _, space := range []int{-1, 0, api.Svg, api.Math, 4} {
			known(t, open+safe+shut, in(space, name, text(s)))
		}
		for _, near := range []string{strings.ToUpper(name), name + " ", "x" + name} {
			known(t, "<"+near+">"+safe+"</"+near+">", elem(near, text(s)))
		}
	}
	for _, name := range []string{"title", "textarea", "noscript", "template", "p", "pre", "listing", "svg", "option", ""} {
		known(t, "<"+name+">"+safe+"</"+name+">", elem(name, text(s)))
	}
}

// thrown tells a list of nodes as no page would have them.
func thrown(d *rand.Rand, deep int) []api.Node {
	texts := []string{"", "a", "&", "<p>", "\"", "\r", "\u00A0", "\xC2", "-->", "</script>", "&lt;"}
	names := strings.Fields(voidNames + " " + rawNames + " p b title textarea pre svg BR Script")
	var l []api.Node
	for range d.Intn(5) {
		n := api.Node{Kind: d.Intn(6) - 1, Space: d.Intn(6) - 1, Name: names[d.Intn(len(names))], Text: texts[d.Intn(len(texts))], From: d.Intn(3)}
		if d.Intn(3) > 0 {
			n.Kind = api.Elem + d.Intn(2)
		}
		if d.Intn(3) > 0 {
			n.Space = api.Html
		}
		for range d.Intn(3) {
			n.Attrs = append(n.Attrs, api.Attr{Name: texts[d.Intn(len(texts))], Value: texts[d.Intn(len(texts))]})
		}
		if deep > 0 {
			n.Kids = thrown(d, deep-1)
		}
		l = append(l, n)
	}
	return l
}

func TestP1102Thrown(t *testing.T) {
	d := rand.New(rand.NewSource(11))
	for range 20000 {
		l := thrown(d, 4)
		checkText(t, l)
		all := ""
		for _, n := range l {
			all += write.Text(list(n))
		}
		if got := write.Text(l); got != all {
			t.Fatalf("P1102: Text(%s): %q, but one behind the other %q", shown(l), got, all)
		}
		if write.Text(l) != write.Text(l) {
			t.Fatalf("P3: Text(%s)", shown(l))
		}
	}
}

func TestP1102LongAndDeep(t *testing.T) {
	const many = 1 << 16
	deep := list(text("<"))
	for range many - 1 {
		deep = list(elem("b", deep...))
	}
	known := func(what string, l []api.Node, want string) {
		t.Helper()
		if got := write.Text(l); got != want {
			t.Errorf("P1102: %s: %d bytes, not %d", what, len(got), len(want))
		}
	}
	known("deep", deep, strings.Repeat("<b>", many-1)+"&lt;"+strings.Repeat("</b>", many-1))
	known("long", slices.Repeat(list(elem("br"), text("&"), elem("p")), many), strings.Repeat("<br>&amp;<p></p>", many))
	known("attributes", list(api.Node{Kind: api.Elem, Space: api.Html, Name: "p", Attrs: slices.Repeat([]api.Attr{{Name: "a", Value: "<"}}, many)}), "<p"+strings.Repeat(` a="&lt;"`, many)+"></p>")
}

// copied tells new memory with the same in it.
func copied(l []api.Node) []api.Node {
	out := slices.Clone(l)
	for i := range out {
		out[i].Attrs = slices.Clone(out[i].Attrs)
		out[i].Kids = copied(out[i].Kids)
	}
	return out
}

// roomy tells l with spare room behind each of its lists, and a node or an attribute in it.
func roomy(l []api.Node) []api.Node {
	out := append(make([]api.Node, 0, len(l)+1), l...)
	for i := range out {
		attrs := append(slices.Clone(out[i].Attrs), api.Attr{Name: "spare"})
		out[i].Attrs, out[i].Kids = attrs[:len(attrs)-1], roomy(out[i].Kids)
	}
	return append(out, note("spare"))[:len(l)]
}

func isSpared(l []api.Node) bool {
	if l[:len(l)+1][len(l)].Text != "spare" {
		return false
	}
	return !slices.ContainsFunc(l, func(n api.Node) bool {
		return n.Attrs[:len(n.Attrs)+1][len(n.Attrs)].Name != "spare" || !isSpared(n.Kids)
	})
}

func TestP2NothingIsChanged(t *testing.T) {
	d := rand.New(rand.NewSource(2))
	for range 500 {
		l := roomy(thrown(d, 3))
		was := copied(l)
		first := write.Text(l)
		if !dom.Same(l, was) || !isSpared(l) {
			t.Fatalf("P2: Text changed %s to %s", shown(was), shown(l))
		}
		for i := range l {
			l[i] = text("written over")
		}
		if write.Text(was) != first {
			t.Fatalf("P2, P3: Text(%s) hangs on what was handed in before", shown(was))
		}
	}
}

// TestP1103Read looks at what is read as it was written: the lexer and the parser take a Safe text for one text.
func TestP1103Read(t *testing.T) {
	for _, s := range built(3, "&", "<p>", "</b>", ">", "\"", "\r", "\u00A0", "a", "<!--", "-->", "lt;", "=") {
		l := list(with(elem("p", text("x"+s)), "id", s), text(s+"y"))
		if back, e := parse.Parse(write.Text(list(elem("div", l...)))); e != api.OK || !dom.Same(back, list(elem("div", l...))) {
			t.Fatalf("P1103: %q: %s", s, shown(back))
		}
		if page, e := parse.Page([]byte(write.Text(l))); e != api.OK || !dom.Same(page, l) {
			t.Fatalf("P1103: %q, of a page: %s", s, shown(page))
		}
	}
}

// TestP1103NotEachTree looks at trees that are written as P1102 says, and so are read as others.
func TestP1103NotEachTree(t *testing.T) {
	for _, l := range [][]api.Node{
		list(elem("pre", text("\nx"))),
		list(elem("p", elem("p"))),
		list(note("a-->b")),
		list(elem("script", text("</script >"))),
		list(elem("plaintext", text("x")), text("y")),
		list(text("a"), text("b")),
		list(elem("br", text("x"))),
		list(elem("tr")),
	} {
		checkText(t, l)
		if back, e := parse.Parse(write.Text(l)); e != api.OK || dom.Same(back, l) {
			t.Errorf("P1103: %s is read as itself", shown(l))
		}
	}
}
