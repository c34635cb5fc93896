package parse_test

import (
	"strings"
	"sync"
	"testing"

	"anagnost/api"
	"anagnost/dom"
	"anagnost/kind"
	"anagnost/parse"
)

// shown tells nodes as text: 'a text', !(a note), an element[with what is in it], its space ahead, where it is not HTML.
func shown(l []api.Node) string {
	var s strings.Builder
	for _, n := range l {
		switch n.Kind {
		case api.Text:
			s.WriteString("'" + n.Text + "'")
		case api.Note:
			s.WriteString("!(" + n.Text + ")")
		default:
			s.WriteString(map[int]string{api.Html: "", api.Svg: "svg:", api.Math: "math:"}[n.Space] + n.Name)
			for _, a := range n.Attrs {
				s.WriteString("{" + a.Name + "=" + a.Value + "}")
			}
			s.WriteString("[" + shown(n.Kids) + "]")
		}
	}
	return s.String()
}

// check looks whether a page gives a tree.
func check(t *testing.T, promise, page, want string) {
	t.Helper()
	l, e := parse.Parse(page)
	if got := shown(l); got != want || e != api.OK {
		t.Errorf("%s: %q: %v\n%s, not\n%s", promise, page, e, got, want)
	}
}

// checkAll looks at pages and their trees, one behind the other.
func checkAll(t *testing.T, promise string, pages ...string) {
	t.Helper()
	for i := 0; i < len(pages); i += 2 {
		check(t, promise, pages[i], pages[i+1])
	}
}

// checkEach looks at a page and its tree with each of the names for its @.
func checkEach(t *testing.T, promise, names, page, want string) {
	t.Helper()
	for _, name := range strings.Fields(names) {
		check(t, promise, strings.ReplaceAll(page, "@", name), strings.ReplaceAll(want, "@", name))
	}
}

const (
	blocks  = "address article aside blockquote center details dialog dir div dl fieldset figcaption figure footer form header hgroup main menu nav ol search section summary ul"
	heads   = "h1 h2 h3 h4 h5 h6"
	marking = "b big code em font i s small strike strong tt u"
	parts   = "caption col colgroup tbody td tfoot th thead tr"
)

func TestExamples(t *testing.T) {
	check(t, "example 1", "<b>1<p>2</b>3", "b['1']p[b['2']'3']")
	check(t, "example 2", "<table>x", "'x'table[]")
}

func TestP1001Large(t *testing.T) {
	const most = api.MaxPage
	for _, x := range []struct {
		page          string
		parse, asPage api.Errno
	}{
		{strings.Repeat("a", most), api.OK, api.OK},
		{strings.Repeat("a", most+1), api.ErrLarge, api.ErrLarge},
		{strings.Repeat("a", 3*most), api.ErrLarge, api.ErrLarge},
		// Both errors apply.
		{strings.Repeat("<div>", most/5+1), api.ErrLarge, api.ErrLarge},
		// What is dropped from a page counts where it comes as bytes.
		{"\xEF\xBB\xBF" + strings.Repeat("a", most-3), api.OK, api.OK},
		{"\xEF\xBB\xBF" + strings.Repeat("a", most-2), api.ErrLarge, api.ErrLarge},
		{strings.Repeat("\r\n", most/2), api.OK, api.OK},
		{strings.Repeat("\r\n", most/2) + "a", api.ErrLarge, api.ErrLarge},
		// Decoded it grows; it is the Lines of that which count.
		{strings.Repeat("\xFF", most/3), api.OK, api.OK},
		{strings.Repeat("\xFF", most/3+1), api.OK, api.ErrLarge},
		{strings.Repeat("\xFF", 300000) + strings.Repeat("\r\n", 148000), api.OK, api.OK},
		{strings.Repeat("\xFF", 300000) + strings.Repeat("\r\n", 149000), api.OK, api.ErrLarge},
	} {
		l, e := parse.Parse(x.page)
		checkError(t, "Parse of "+x.page[:8], len(x.page), l, e, x.parse)
		l, e = parse.Page([]byte(x.page))
		checkError(t, "Page of "+x.page[:8], len(x.page), l, e, x.asPage)
	}
}

// checkError looks whether an error is the one that is asked for, and there is nothing beside one.
func checkError(t *testing.T, call string, size int, l []api.Node, e, want api.Errno) {
	t.Helper()
	if e != want || (len(l) > 0) != (want == api.OK) {
		t.Errorf("P1001: %q.., %d bytes: %d nodes, %v, not %v", call, size, len(l), e, want)
	}
}

func TestP1001Deep(t *testing.T) {
	const most = api.MaxDepth
	for _, x := range []struct {
		page string
		want api.Errno
	}{
		{strings.Repeat("<div>", most), api.OK},
		{strings.Repeat("<div>", most+1), api.ErrDeep},
		{strings.Repeat("<div>", most-1) + "x", api.OK},
		{strings.Repeat("<div>", most) + "x", api.ErrDeep},
		{strings.Repeat("<div>", most) + "<!---->", api.ErrDeep},
		{strings.Repeat("<div>", most) + "</div>x", api.OK},
		{strings.Repeat("<div>", most+1) + strings.Repeat("</div>", most+1), api.ErrDeep},
		{strings.Repeat("<svg>", most), api.OK},
		{strings.Repeat("<svg>", most+1), api.ErrDeep},
		{strings.Repeat("<p>", 3*most), api.OK},
		{strings.Repeat("<table>", 3*most), api.OK},
		{strings.Repeat("<div>", 100000), api.ErrDeep},
		// It is the tree that is made in the end which counts: the p was deeper, and is taken out.
		{"<b>" + strings.Repeat("<x>", 150) + "<p>" + strings.Repeat("<q>", 100), api.ErrDeep},
		{"<b>" + strings.Repeat("<x>", 150) + "<p>" + strings.Repeat("<q>", 100) + "</b>", api.OK},
	} {
		l, e := parse.Parse(x.page)
		checkError(t, x.page[:8], len(x.page), l, e, x.want)
		if e == api.OK && dom.Deep(l) > most {
			t.Errorf("P1001: %q: Deep %d", x.page, dom.Deep(l))
		}
	}
}

func TestP1001Page(t *testing.T) {
	for page, want := range map[string]string{
		"":                          "",
		"\xEF\xBB\xBF":              "",
		"\xEF\xBB\xBF<p>a":          "p['a']",
		"a\r\nb\rc\n\rd":            "'a\nb\nc\n\nd'",
		"<pre>\r\n\r\nx":            "pre['\nx']",
		"\xE2\x82<\xFF\xC3\xA4":     "'\uFFFD<\uFFFD\u00E4'",
		"<i \xFF=\xE2\x82>\x80</i>": "i{\uFFFD=\uFFFD}['\uFFFD']",
		"<!--\xFF\r-->":             "!(\uFFFD\n)",
	} {
		l, e := parse.Page([]byte(page))
		if got := shown(l); got != want || e != api.OK {
			t.Errorf("P1001: Page of %q: %s, %v, not %s", page, got, e, want)
		}
	}
	check(t, "P1001", "\xEF\xBB\xBFa\r\n\xFF", "'\xEF\xBB\xBFa\r\n\xFF'")
}

func TestP2(t *testing.T) {
	page := []byte("\xFF<b id=1 class=2>1<p id=3>2</b>3<table>4<td>5<td>6<svg><g/>7\r\n")
	was := string(page)
	first, _ := parse.Page(page)
	want := shown(first)
	if string(page) != was {
		t.Errorf("the page became %q", page)
	}
	clear(page)
	if got := shown(first); got != want {
		t.Errorf("the answer keeps the page: %s, not %s", got, want)
	}
	scribble(first)
	second, _ := parse.Page([]byte(was))
	if got := shown(second); got != want {
		t.Errorf("two answers share memory: %s, not %s", got, want)
	}
	lengthen(second)
	if got := shown(second); got != want {
		t.Errorf("lists of one answer share memory: %s, not %s", got, want)
	}
}

// scribble writes over all of l, its spare room too.
func scribble(l []api.Node) {
	for i := range l {
		scribble(l[i].Kids)
		clear(l[i].Attrs[:cap(l[i].Attrs)])
	}
	clear(l[:cap(l)])
}

// lengthen writes behind each list.
func lengthen(l []api.Node) {
	for i := range l {
		lengthen(l[i].Kids)
		_ = append(l[i].Kids, api.Node{Kind: api.Note, Text: "behind"})
		_ = append(l[i].Attrs, api.Attr{Name: "behind"})
	}
}

func TestP3P7SideBySide(t *testing.T) {
	pages := []string{"<b>1<p>2</b>3", "<table>x<td>y", "<svg><desc><p>a</svg>b", "<title>a</title><pre>\nb", strings.Repeat("<a>1<p>", 60)}
	want := map[string]string{}
	for _, page := range pages {
		l, _ := parse.Parse(page)
		want[page] = shown(l)
	}
	var all sync.WaitGroup
	for n := range 40 {
		all.Go(func() {
			page := pages[n%len(pages)]
			if l, _ := parse.Page([]byte(page)); shown(l) != want[page] {
				t.Errorf("%q: %s, not %s", page, shown(l), want[page])
			}
		})
	}
	all.Wait()
}

func TestP1002States(t *testing.T) {
	checkEach(t, "P1002", "iframe noembed noframes script style", "<p>1<@ id=2><b>&lt;\x00</b><!--n--></x></@x></@ k=v>3</p>4",
		"p['1'@{id=2}['<b>&lt;\uFFFD</b><!--n--></x></@x>']'3']'4'")
	checkEach(t, "P1002", "textarea title", "<p>1<@><b>&lt;\x00</b></@/>3</p>4", "p['1'@['<b><\uFFFD</b>']'3']'4'")
	checkEach(t, "P1002", "textarea title script style", "<@>a</@", "@['a</@']")
	checkEach(t, "P1002", "textarea title script style", "<@>a</@ b", "@['a']")
	checkEach(t, "P1002", "textarea title script style", "<@></@><@></@>x", "@[]@[]'x'")
	checkAll(t, "P1002",
		"<plaintext>a&lt;\x00<b></plaintext>", "plaintext['a&lt;\uFFFD<b></plaintext>']",
		"<TITLE>a</title>b", "title['a']'b'",
		"<p>1<xmp id=2><b>&lt;\x00</b><!--n--></xmpx></XMP k=v>3", "p['1']xmp{id=2}['<b>&lt;\uFFFD</b><!--n--></xmpx>']'3'",
		// An end tag of another state's element, or of an element that is open, ends nothing.
		"<div><title>a</div></script></title>b", "div[title['a</div></script>']'b']",
		// Where no state is set a name counts for nothing.
		"<svg><title><b>x</b></title>y", "svg:svg[svg:title[b['x']]'y']",
		"<math><style><b>x", "math:math[math:style[]]b['x']",
	)
}

func TestP1002Sections(t *testing.T) {
	checkAll(t, "P1002",
		"<svg><![CDATA[<x>&lt;]]></svg><![CDATA[y]]>", "svg:svg['<x>&lt;']!([CDATA[y]])",
		"<math><mi><![CDATA[x]]><b><![CDATA[y]]>", "math:math[math:mi['x'b[!([CDATA[y]])]]]",
		"<svg><desc><p></p><![CDATA[x]]>", "svg:svg[svg:desc[p[]'x']]",
		"<svg/><![CDATA[y]]>", "svg:svg[]!([CDATA[y]])",
	)
}

func TestP1002Skip(t *testing.T) {
	checkEach(t, "P1002", "listing pre", "<@>\nx", "@['x']")
	checkEach(t, "P1002", "listing pre textarea", "<@>\n\nx", "@['\nx']")
	checkEach(t, "P1002", "listing pre textarea", "<@>\n</@>\nx", "@[]'\nx'")
	checkEach(t, "P1002", "listing pre textarea", "<@>x\ny", "@['x\ny']")
	checkEach(t, "P1002", "listing pre textarea", "<@>\r\nx", "@['\r\nx']")
	checkEach(t, "P1002", "listing pre textarea", "<@> \nx", "@[' \nx']")
	checkEach(t, "P1002", "listing pre textarea", "<@>&#10;x", "@['x']")
	checkEach(t, "P1002", "listing pre", "<@><i>\nx", "@[i['\nx']]")
	checkEach(t, "P1002", "listing pre", "<@></i>\nx", "@['\nx']")
	checkEach(t, "P1002", "listing pre", "<@><!--n-->\nx", "@[!(n)'\nx']")
	// What makes no token is not the next one.
	checkEach(t, "P1002", "listing pre", "<@><!doctype x>\nx", "@['x']")
	checkEach(t, "P1002", "p title div script", "<@>\nx", "@['\nx']")
}

func TestP1003Notes(t *testing.T) {
	checkAll(t, "P1003",
		"<!--a--><b>x<!--b-->y<?c>", "!(a)b['x'!(b)'y'!(?c)]",
		"<table><!--n--><tr><!--m--><td><!--o-->", "table[!(n)tbody[tr[!(m)td[!(o)]]]]",
		"<svg><!--n--><g><!--m--><desc><!--o-->", "svg:svg[!(n)svg:g[!(m)svg:desc[!(o)]]]",
		"<p><b>a</p><!--n-->b", "p[b['a']]!(n)b['b']",
		"<!--\x00-->", "!(\uFFFD)",
	)
}

func TestP1003Inlets(t *testing.T) {
	checkEach(t, "P1003", "mi mn mo ms mtext", "<math><@>a\x00<x>b</x><b>c</b></@>d\x00", "math:math[math:@['a'x['b']b['c']]'d\uFFFD']")
	checkEach(t, "P1003", "mi mn mo ms mtext", "<math><@><mglyph/><malignmark>a\x00<b>", "math:math[math:@[math:mglyph[]math:malignmark['a\uFFFD']b[]]]")
	checkEach(t, "P1003", "desc title", "<svg><@>a\x00<x>b</x><mglyph>c</mglyph></@>d\x00", "svg:svg[svg:@['a'x['b']mglyph['c']]'d\uFFFD']")
	checkAll(t, "P1003",
		"<svg><FOREIGNOBJECT>a\x00<x>b</x></foreignobject>c", "svg:svg[svg:foreignObject['a'x['b']]'c']",
		"<svg><foreignobject><x>b</foreignobject>c", "svg:svg[svg:foreignObject[x['bc']]]",
		// The names count in their own space alone.
		"<svg><mi>a\x00<x>b", "svg:svg[svg:mi['a\uFFFD'svg:x['b']]]",
		"<math><desc>a\x00<x>b", "math:math[math:desc['a\uFFFD'math:x['b']]]",
		"<math><foreignobject><title><x>b", "math:math[math:foreignobject[math:title[math:x['b']]]]",
		"<desc><title>a</title><mi><x>b", "desc[title['a']mi[x['b']]]",
		// An end tag is the space's own in an inlet, too.
		"<p><svg><desc></svg>x", "p[svg:svg[svg:desc[]]'x']",
		"<svg><desc></p>x", "svg:svg[svg:desc[p[]'x']]",
		"<svg><desc></br>x", "svg:svg[svg:desc[br[]'x']]",
		"<div><svg><desc></div>x", "div[svg:svg[svg:desc['x']]]",
		// Behind an inlet the ground counts.
		"<table><svg><desc>x<td>y", "svg:svg[svg:desc['x']]table[tbody[tr[td['y']]]]",
		"<table><td><svg><desc><td>y", "table[tbody[tr[td[svg:svg[svg:desc[]]]td['y']]]]",
	)
}

func TestP1003Grounds(t *testing.T) {
	// The td is read by the last ground that is open, whatever is open behind it.
	checkAll(t, "P1003",
		"<table><div><p><td>x", "div[p[]]table[tbody[tr[td['x']]]]",
		"<table><td><table><td>x</table><td>y", "table[tbody[tr[td[table[tbody[tr[td['x']]]]]td['y']]]]",
		"<table><td><template><td>x</template><td>y", "table[tbody[tr[td[template['x']]td['y']]]]",
		"<table><td></table><td>x", "table[tbody[tr[td[]]]]'x'",
		"<table><td><svg><td>x", "table[tbody[tr[td[svg:svg[svg:td['x']]]]]]",
		"<svg><table><td>x", "svg:svg[]table[tbody[tr[td['x']]]]",
		"<math><tr><mi><td>x", "math:math[math:tr[math:mi['x']]]",
		"<table><caption><b>x</table>y", "table[caption[b['x']]]'y'",
	)
}

func TestP1004Texts(t *testing.T) {
	checkAll(t, "P1004",
		"<svg>a\x00b<g>\x00", "svg:svg['a\uFFFDb'svg:g['\uFFFD']]",
		// Typed: no formatting is opened anew.
		"<p><b></p><svg>", "p[b[]]b[svg:svg[]]",
		"<svg><g>a<g>b</g>c", "svg:svg[svg:g['a'svg:g['b']'c']]",
		"<table><svg>a b", "svg:svg['a b']table[]",
	)
}

func TestP1004Breaks(t *testing.T) {
	for _, name := range kind.Set(api.Breaks) {
		for _, space := range []string{"svg", "math"} {
			got, e := parse.Parse("<p>1<" + space + "><g><h>2<" + name + " id=3>4")
			want, _ := parse.Parse("<p>1<" + space + "><g><h>2</" + space + "><" + name + " id=3>4")
			if e != api.OK || !dom.Same(got, want) {
				t.Errorf("P1004: %s in %s: %s, not %s", name, space, shown(got), shown(want))
			}
		}
	}
	checkEach(t, "P1004", "color face size", "<svg><g><font @=1>a", "svg:svg[svg:g[]]font{@=1}['a']")
	checkAll(t, "P1004",
		"<svg><font id=1>a", "svg:svg[svg:font{id=1}['a']]",
		"<svg><x color=1>a", "svg:svg[svg:x{color=1}['a']]",
		"<svg><g></font color=1>a", "svg:svg[svg:g['a']]",
		"<svg><g></p>a", "svg:svg[svg:g[]]p[]'a'",
		"<p><svg><g></p>a", "p[svg:svg[svg:g[]]]'a'",
		"<svg><g></br>a", "svg:svg[svg:g[]]br[]'a'",
		"<svg><g></b>a", "svg:svg[svg:g['a']]",
		// As far as an inlet's element, or an HTML one.
		"<svg><desc><math><g><b>a", "svg:svg[svg:desc[math:math[math:g[]]b['a']]]",
		"<svg><foreignobject><svg><g><p>a", "svg:svg[svg:foreignObject[svg:svg[svg:g[]]p['a']]]",
		"<math><mi><mglyph><b>a", "math:math[math:mi[math:mglyph[]b['a']]]",
		"<svg><desc><x><svg><p>a", "svg:svg[svg:desc[x[svg:svg[]p['a']]]]",
		// By the ground, again.
		"<table><td><svg><table>a", "table[tbody[tr[td[svg:svg[]'a'table[]]]]]",
		"<table><svg><table>a", "svg:svg[]table[]'a'table[]",
	)
	check(t, "P1004", "<table><svg><g><b>a", "svg:svg[svg:g[]]b['a']table[]")
}

func TestP1004Starts(t *testing.T) {
	checkEach(t, "P1004", "a g form select template td tr script image svg math option button input section figure textarea", "<svg><@ id=1>x", "svg:svg[svg:@{id=1}['x']]")
	checkEach(t, "P1004", "a g title script style desc textarea xmp annotation-xml", "<math><@>x</@>y", "math:math[math:@['x']'y']")
	checkEach(t, "P1004", "g script path svg", "<svg><@/>x<@ d=1 />y", "svg:svg[svg:@[]'x'svg:@{d=1}[]'y']")
	checkAll(t, "P1004",
		"<svg><foreignobject/>x<foreignObject/>y", "svg:svg[svg:foreignObject[]'x'svg:foreignObject[]'y']",
		"<math><foreignobject>x", "math:math[math:foreignobject['x']]",
		"<foreignobject>x", "foreignobject['x']",
		"<svg><g/><g>x</g/>y", "svg:svg[svg:g[]svg:g['x']'y']",
	)
}

func TestP1004Ends(t *testing.T) {
	checkAll(t, "P1004",
		"<svg><g><h>a</g>b</svg>c", "svg:svg[svg:g[svg:h['a']]'b']'c'",
		"<svg><foreignobject></foreignobject>a", "svg:svg[svg:foreignObject[]'a']",
		"<svg><foreignobject></FOREIGNOBJECT>a", "svg:svg[svg:foreignObject[]'a']",
		"<svg><g></x>a", "svg:svg[svg:g['a']]",
		"<svg><g><g>a</g>b</g>c", "svg:svg[svg:g[svg:g['a']'b']'c']",
		// At an HTML element the tag is HTML's, and ends what is of another space with it.
		"<div><svg><g>a</div>b", "div[svg:svg[svg:g['a']]]'b'",
		"<x><svg><g>a</x>b", "x[svg:svg[svg:g['a']]]'b'",
		"<b><svg><g>a</b>b", "b[svg:svg[svg:g['a']]]'b'",
		"<table><td><svg>a</td><td>b", "table[tbody[tr[td[svg:svg['a']]td['b']]]]",
		"<table><td><svg>a</table>b", "table[tbody[tr[td[svg:svg['a']]]]]'b'",
		// The nearer one counts.
		"<g><svg><g>a</g>b", "g[svg:svg[svg:g['a']'b']]",
		"<svg><desc><g></desc>a", "svg:svg[svg:desc[g['a']]]",
		"<svg><g><desc><math></g>a", "svg:svg[svg:g[svg:desc[math:math[]]]'a']",
		"<svg><g><desc><i><math></g>a", "svg:svg[svg:g[svg:desc[i[math:math['a']]]]]",
		"<svg></svg></svg>a", "svg:svg[]'a'",
	)
}

func TestP1005Cells(t *testing.T) {
	const row = "<table><tr>"
	for _, cell := range []string{"td", "th"} {
		in := strings.NewReplacer("TD", cell)
		each := func(names, page, want string) {
			t.Helper()
			checkEach(t, "P1005 "+cell, in.Replace(names), in.Replace(page), in.Replace(want))
		}
		each("td th", row+"<TD><p>a<@>b", "table[tbody[tr[TD[p['a']]@['b']]]]")
		each("tr", row+"<TD><p>a<@><td>b", "table[tbody[tr[TD[p['a']]]tr[td['b']]]]")
		each("tbody tfoot thead", row+"<TD><b>a<@><td>b", "table[tbody[tr[TD[b['a']]]]@[tr[td['b']]]]")
		each("caption", row+"<TD><x>a<@>b", "table[tbody[tr[TD[x['a']]]]@['b']]")
		each("col colgroup", row+"<TD>a<@>b", "'b'table[tbody[tr[TD['a']]]]")
		each("tr", row+"<TD><li>a</@>b", "'b'table[tbody[tr[TD[li['a']]]]]")
		each("table", row+"<TD><x>a</@>b", "table[tbody[tr[TD[x['a']]]]]'b'")
		each("tbody", row+"<TD><li>a</@>b", "'b'table[tbody[tr[TD[li['a']]]]]")
		each("tfoot thead body caption col colgroup html x", row+"<TD>a</@>b", "table[tbody[tr[TD['ab']]]]")
		each("TD", row+"<TD><p>a</@>b", "'b'table[tbody[tr[TD[p['a']]]]]")
		// The formatting in a cell ends with it.
		each("td th", row+"<TD><b>a<@>b<td>c", "table[tbody[tr[TD[b['a']]@['b']td['c']]]]")
		each("caption", row+"<TD><b>a<@>b<td>c", "table[tbody[tr[TD[b['a']]]]@['b']tbody[tr[td['c']]]]")
		each("tr", row+"<TD><b>a</@>b", "'b'table[tbody[tr[TD[b['a']]]]]")
		each("TD", row+"<TD><object>a</@>b", "'b'table[tbody[tr[TD[object['a']]]]]")
		each("tr", row+"<TD><object>a</@>b", "'b'table[tbody[tr[TD[object['a']]]]]")
		each("tbody tfoot thead", "<table><@><TD><b>a</@>b", "'b'table[@[tr[TD[b['a']]]]]")
		check(t, "P1005", in.Replace(row+"<TD><b>a</TD><td>b"), in.Replace("table[tbody[tr[TD[b['a']]td['b']]]]"))
		check(t, "P1005", in.Replace("<b>"+row+"<TD><i>a</TD></table>b"), in.Replace("b[table[tbody[tr[TD[i['a']]]]]'b']"))
	}
	checkAll(t, "P1005",
		row+"<td>a</th>b", "table[tbody[tr[td['ab']]]]",
		row+"<th>a</td>b", "table[tbody[tr[th['ab']]]]",
		"<table><thead><td>a</tbody>b</thead>c", "'c'table[thead[tr[td['ab']]]]",
		"<table><td><x>a</td>b", "'b'table[tbody[tr[td[x['a']]]]]",
		// A cell of the table around is not had.
		row+"<th><table><td>a</th>b", "table[tbody[tr[th[table[tbody[tr[td['ab']]]]]]]]",
	)
}

// shownOf tells the tree of a page.
func shownOf(t *testing.T, page string) string {
	t.Helper()
	l, e := parse.Parse(page)
	if e != api.OK {
		t.Fatalf("%q: %v", page, e)
	}
	return shown(l)
}

func TestP1005Captions(t *testing.T) {
	const before = "<table><caption>"
	checkEach(t, "P1005", "caption", before+"<p>a</@>b", "'b'table[caption[p['a']]]")
	checkEach(t, "P1005", "table", before+"<x>a</@>b", "table[caption[x['a']]]'b'")
	checkEach(t, "P1005", "table", "<div>"+before+"<x>a</@>b", "div[table[caption[x['a']]]'b']")
	checkEach(t, "P1005", "td th", before+"<p>a<@>b", "table[caption[p['a']]tbody[tr[@['b']]]]")
	checkEach(t, "P1005", "tr", before+"<b>a<@><td>b", "table[caption[b['a']]tbody[tr[td['b']]]]")
	checkEach(t, "P1005", "tbody tfoot thead", before+"<b>a<@><td>b", "table[caption[b['a']]@[tr[td['b']]]]")
	checkEach(t, "P1005", "caption", before+"<b>a<@>b", "table[caption[b['a']]caption['b']]")
	checkEach(t, "P1005", "col colgroup", before+"<b>a<@>b", "'b'table[caption[b['a']]]")
	checkEach(t, "P1005", "body col colgroup html tbody td tfoot th thead tr x", before+"<b>a</@>b", "table[caption[b['ab']]]")
	checkAll(t, "P1005",
		before+"<table>a</caption>b", "table[caption['ab'table[]]]",
		"<b>"+before+"<i>a</caption></table>b", "b[table[caption[i['a']]]'b']",
	)
}

// TestP1005Rest looks at what cells, captions, templates, and pages without a table read alike.
func TestP1005Rest(t *testing.T) {
	in := map[string]string{"<table><td>": "table[tbody[tr[td[*]]]]", "<table><th>": "table[tbody[tr[th[*]]]]", "<table><caption>": "table[caption[*]]", "<template>": "template[*]", "": "*"}
	for before, around := range in {
		for _, page := range []string{"<p>a<p>b", " a", "\x00a", "<b>a<p>b</b>c", "<li>a<li>b", "</p>a", "<title>a</title>b", "<svg><desc>a</svg>b", "</x>a", "<table>a<td>b</table>c", "<a>b<a>c"} {
			check(t, "P1005", before+page, strings.Replace(around, "*", shownOf(t, page), 1))
		}
	}
	checkEach(t, "P1005", parts+" body html head frame frameset", "<template><@>a", "template['a']")
	checkEach(t, "P1005", parts+" body html head frame frameset", "<@>a", "'a'")
	checkEach(t, "P1005", parts+" table", "<template>a</@>b", "template['ab']")
	checkEach(t, "P1005", parts+" table", "a</@>b", "'ab'")
	checkEach(t, "P1005", parts, "<table><template><@>a", "table[template['a']]")
	checkEach(t, "P1005", "table tr tbody", "<table><tr><template>a</@>b", "table[tbody[tr[template['ab']]]]")
}

func TestP1006Texts(t *testing.T) {
	for page, in := range map[string]string{
		"<table>": "table[*]", "<table><tbody>": "table[tbody[*]]", "<table><tfoot>": "table[tfoot[*]]", "<table><thead>": "table[thead[*]]", "<table><tr>": "table[tbody[tr[*]]]",
	} {
		checkAll(t, "P1006",
			page+" \t\n\f\r", strings.Replace(in, "*", "' \t\n\f\r'", 1),
			page+" \x00 ", strings.Replace(in, "*", "'  '", 1),
			page+"\x00\x00", strings.Replace(in, "*", "", 1),
			page+" x ", "' x '"+strings.Replace(in, "*", "", 1),
			page+" \x00x\x00", "' x'"+strings.Replace(in, "*", "", 1),
			page+"\u00A0", "'\u00A0'"+strings.Replace(in, "*", "", 1),
			page+"x<!--n--> ", "'x'"+strings.Replace(in, "*", "!(n)' '", 1),
		)
	}
	checkAll(t, "P1006",
		// Blanks go where all goes, if something else is open behind the table.
		"<table><b> ", "b[' ']table[]",
		"<table><div> x", "div[' x']table[]",
		"<p>a<table>b<tr>c<td>d</table>e", "p['a']'bc'table[tbody[tr[td['d']]]]'e'",
		"<table>a<template>b</table>c", "'a'table[template['bc']]",
	)
}

func TestP1006Starts(t *testing.T) {
	checkEach(t, "P1006", "tbody tfoot thead", "<table><@ id=1><@ id=2>", "table[@{id=1}[]@{id=2}[]]")
	checkEach(t, "P1006", "tbody tfoot thead", "<table>a<div>b<@><tr>", "'a'div['b']table[@[tr[]]]")
	checkEach(t, "P1006", "td th", "<table><b><div><@ id=1>a", "b[div[]]table[tbody[tr[@{id=1}['a']]]]")
	checkEach(t, "P1006", "col colgroup", "<table><@><@>a", "'a'table[]")
	checkEach(t, "P1006", "col", "<table><b><@>a", "b['a']table[]")
	checkEach(t, "P1006", "script style", "<table><@>a</@><tr><@>b</@>", "table[@['a']tbody[tr[@['b']]]]")
	checkEach(t, "P1006", "textarea title xmp iframe", "<table><@>a</@><tr><@>b</@>", "@['a']@['b']table[tbody[tr[]]]")
	checkAll(t, "P1006",
		"<table><tr id=1><td>", "table[tbody[tr{id=1}[td[]]]]",
		"<table><caption id=1>a</caption><caption>b", "table[caption{id=1}['a']caption['b']]",
		"<table><div><caption>a", "div[]table[caption['a']]",
		// A caption is a wall to formatting.
		"<b><table><caption></b>a", "b[table[caption['a']]]",
		"<table><b><caption>a</caption>b", "b[]b['b']table[caption['a']]",
		"<table id=1><table id=2>a", "table{id=1}[]'a'table{id=2}[]",
		"<table><tr><table>a", "table[tbody[tr[]]]'a'table[]",
		"<div><table><table></table>a", "div[table[]table[]'a']",
		"<table><template>a</template>", "table[template['a']]",
		"<table><tr><template><b>a</template>b", "'b'table[tbody[tr[template[b['a']]]]]",
		"<table><input><select>a", "input[]select['a']table[]",
		"<table><form><tr>a", "form[]'a'table[tbody[tr[]]]",
		"<table><br><p>a<svg/>", "br[]p['a'svg:svg[]]table[]",
		"<table><li>a<td>b", "li['a']table[tbody[tr[td['b']]]]",
	)
}

func TestP1006Ends(t *testing.T) {
	checkEach(t, "P1006", "body html "+parts, "<table></@>a</table>b", "'a'table[]'b'")
	checkAll(t, "P1006",
		"<table><b>a</table>b", "b['a']table[]b['b']",
		"<table><div>a</table>b", "div['a']table[]'b'",
		"<table><object>a</table>b", "object['a']table[]'b'",
		"<table></table></table>a", "table[]'a'",
		"<table><td><table></table>a</table>b", "table[tbody[tr[td[table[]'a']]]]'b'",
		"<table></template>a", "'a'table[]",
		"<template><table></template>a", "template[table[]]'a'",
		"<template><table><td><b></template>a", "template[table[tbody[tr[td[b[]]]]]]'a'",
		// Fostering is off behind each token.
		"<table></p><tr></br>", "p[]br[]table[tbody[tr[]]]",
		"<div><table></div>a", "div['a'table[]]",
		"<table><b></b>a</table>b", "b[]'a'table[]'b'",
		"<table>a<td>b<tr>c", "'ac'table[tbody[tr[td['b']]tr[]]]",
	)
}

func TestP1007(t *testing.T) {
	for _, name := range strings.Fields("tbody tfoot thead") {
		in := strings.NewReplacer("TBODY", name)
		each := func(names, page, want string) {
			t.Helper()
			checkEach(t, "P1007 "+name, names, in.Replace("<table><TBODY><u>x"+page), in.Replace("u['x']"+want))
		}
		each("tr", "<@ id=1><td>", "table[TBODY[@{id=1}[td[]]]]")
		each("td th", "<@ id=1>a", "table[TBODY[tr[@{id=1}['a']]]]")
		each(name, "</@><@ id=1>", "table[TBODY[]TBODY{id=1}[]]")
		each("caption", "<@>a", "table[TBODY[]@['a']]")
		each("tbody tfoot thead", "<@ id=1><tr>", "table[TBODY[]@{id=1}[tr[]]]")
		each("table", "</@>a", "table[TBODY[]]u['a']")
		each("col colgroup", "<@><tr>", "table[TBODY[]tbody[tr[]]]")
		each("body caption col colgroup html td th tr x", "</@></u><tr>", "table[TBODY[tr[]]]")
		each("table", "<@ id=1>", "table[TBODY[]]table{id=1}[]")
		each("script style", "</u><@>a</@>", "table[TBODY[@['a']]]")
	}
	checkEach(t, "P1007", "tbody tfoot thead", "<table><@><u>x</@> ", "u['x']table[@[]' ']")
	checkEach(t, "P1007", "tbody tfoot thead", "<table><@><object>x</@> ", "object['x']table[@[]' ']")
	checkEach(t, "P1007", "tbody tfoot thead", "<table><@></p>x", "p[]'x'table[@[]]")
	checkEach(t, "P1007", "tfoot thead", "<table><tbody></@><tr>", "table[tbody[tr[]]]")
	checkEach(t, "P1007", "tbody thead", "<table><tfoot></@><tr>", "table[tfoot[tr[]]]")
	checkAll(t, "P1007",
		"<table><tbody><template><tr>a", "table[tbody[template['a']]]",
		"<table><thead><td><table><tbody></thead>a", "table[thead[tr[td['a'table[tbody[]]]]]]",
	)
}

func TestP1008(t *testing.T) {
	each := func(names, page, want string) {
		t.Helper()
		checkEach(t, "P1008", names, "<table><tr><u>x"+page, "u['x']"+want)
	}
	each("td th", "<@ id=1>a", "table[tbody[tr[@{id=1}['a']]]]")
	each("td th", "</u><@>a</@><td>b", "table[tbody[tr[@['a']td['b']]]]")
	each("tr", "</@><td>a", "table[tbody[tr[]tr[td['a']]]]")
	each("tr", "<@ id=1>", "table[tbody[tr[]tr{id=1}[]]]")
	each("tbody tfoot thead", "<@ id=1><tr>", "table[tbody[tr[]]@{id=1}[tr[]]]")
	each("caption", "<@ id=1>a", "table[tbody[tr[]]@{id=1}['a']]")
	each("col colgroup", "<@><tr>", "table[tbody[tr[]]tbody[tr[]]]")
	each("table", "</@>a", "table[tbody[tr[]]]u['a']")
	each("table", "<@ id=1>", "table[tbody[tr[]]]table{id=1}[]")
	each("script style", "</u><@>a</@>", "table[tbody[tr[@['a']]]]")
	each("tbody", "</@><tr>", "table[tbody[tr[]]tbody[tr[]]]")
	each("tfoot thead body caption col colgroup html td th x", "</@></u><td>", "table[tbody[tr[td[]]]]")
	each("tr", "</@> ", "table[tbody[tr[]' ']]")
	checkEach(t, "P1008", "tbody tfoot thead", "<table><@><tr><object>x</@> ", "object['x']table[@[tr[]]' ']")
	checkEach(t, "P1008", "tfoot thead", "<table><@><tr></@><tr>", "table[@[tr[]]tbody[tr[]]]")
	checkAll(t, "P1008",
		// A cell is a wall to formatting.
		"<b><table><td></b>a", "b[table[tbody[tr[td['a']]]]]",
		"<table><tr><b>a<td>b</td>c", "b['a']b['c']table[tbody[tr[td['b']]]]",
		"<table><tr><template><td>a", "table[tbody[tr[template['a']]]]",
		"<table><thead><tr><td><table><tr></thead>a", "table[thead[tr[td['a'table[tbody[tr[]]]]]]]",
	)
}

func TestP1009Texts(t *testing.T) {
	checkAll(t, "P1009",
		"\x00a\x00\x00b\x00", "'ab'",
		"<p>\x00", "p[]",
		"<p><b>a</p>b", "p[b['a']]b['b']",
		// Of zeros alone nothing is left, and nothing is opened anew.
		"<p><b>a</p>\x00<p>", "p[b['a']]p[]",
		"<p><b>a</p> <p>", "p[b['a']]b[' 'p[]]",
		"a&lt;b&#0;c", "'a<b\uFFFDc'",
		"<p><b><i>a</p>b</i>c", "p[b[i['a']]]b[i['b']'c']",
	)
}

func TestP1009Nothing(t *testing.T) {
	checkEach(t, "P1009", "body frame frameset head html "+parts, "<p><b>a<@ id=1>b", "p[b['ab']]")
	checkEach(t, "P1009", "body html", "<p><b>a</@>b", "p[b['ab']]")
}

func TestP1009Voids(t *testing.T) {
	checkEach(t, "P1009", "base basefont bgsound link meta param source track", "<p><b>a</p><@ id=1>b", "p[b['a']]@{id=1}[]b['b']")
	checkEach(t, "P1009", "area br embed img input keygen wbr", "<p><b>a</p><@ id=1>b", "p[b['a']]b[@{id=1}[]'b']")
	checkEach(t, "P1009", "base area br img source wbr", "<p><@/>a</@x>", "p[@[]'a']")
	checkAll(t, "P1009",
		"<p><b>a</p><image id=1>b", "p[b['a']]b[img{id=1}[]'b']",
		"<p><b>a<hr id=1>b", "p[b['a']]hr{id=1}[]b['b']",
		"<div><hr>a", "div[hr[]'a']",
		"<p><b>a</p></br id=1>b", "p[b['a']]b[br[]'b']",
		"<p>a</img></hr>b", "p['ab']",
	)
}

func TestP1009Mute(t *testing.T) {
	checkEach(t, "P1009", "iframe noembed noframes script style title textarea", "<p><b>a</p><@ id=1>b</@>c", "p[b['a']]@{id=1}['b']b['c']")
	checkEach(t, "P1009", "iframe noembed noframes script style title textarea", "<p>a<@>b</@>c", "p['a'@['b']'c']")
	checkAll(t, "P1009",
		"<p><b>a<xmp>b</xmp>c", "p[b['a']]b[xmp['b']'c']",
		"<p><b>a<plaintext>b</p>c", "p[b['a']]plaintext['b</p>c']",
	)
}

func TestP1009Walls(t *testing.T) {
	checkAll(t, "P1009",
		"<p><b>a</p><template id=1>b</template>c", "p[b['a']]template{id=1}['b']b['c']",
		"<b><template></b>a</template>b", "b[template['a']'b']",
		"<template><p><b>a</template>b", "template[p[b['a']]]'b'",
		"<b></template>a", "b['a']",
		"<template><div><template>a</template>b</template>c", "template[div[template['a']'b']]'c'",
		"<svg><template>a</template></svg>b</template>c", "svg:svg[svg:template['a']]'bc'",
	)
	checkEach(t, "P1009", "applet marquee object", "<p><b>a</p><@ id=1>b</@>c", "p[b['a']]b[@{id=1}['b']'c']")
	checkEach(t, "P1009", "applet marquee object", "<b><@>a</b>b<i>c</@>d", "b[@['ab'i['c']]'d']")
	checkEach(t, "P1009", "applet marquee object", "<@><p>a</@>b", "@[p['a']]'b'")
	checkEach(t, "P1009", "applet marquee object", "<b><@></@><p>a</b>b", "b[@[]]p[b['a']'b']")
	checkEach(t, "P1009", "marquee object", "<@><applet></@>a", "@[applet['a']]")
	checkEach(t, "P1009", "applet marquee object", "<@><svg><desc></@>a", "@[svg:svg[svg:desc['a']]]")
	// Without one that is had no marks are cleared.
	checkEach(t, "P1009", "applet marquee object", "<p><b></p></@>a", "p[b[]]b['a']")
	checkEach(t, "P1009", "applet marquee object", "<@><table><td></@>a", "@[table[tbody[tr[td['a']]]]]")
}

func TestP1009Blocks(t *testing.T) {
	checkEach(t, "P1009", blocks+" p", "<p>a<@x id=1>b", "p['a'@x{id=1}['b']]")
	checkEach(t, "P1009", blocks, "<p><b>a<@ id=1>b</@>c", "p[b['a']]@{id=1}[b['b']]b['c']")
	checkEach(t, "P1009", blocks, "<@><li>a<p>b</@>c", "@[li['a'p['b']]]'c'")
	checkEach(t, "P1009", blocks+" button listing pre", "<@><x>a</@>b", "@[x['a']]'b'")
	checkEach(t, "P1009", "button listing pre", "<@><li>a<div>b</@>c", "@[li['a'div['b']]]'c'")
	checkEach(t, "P1009", blocks+" button listing pre", "a</@>b", "'ab'")
	checkEach(t, "P1009", blocks+" button listing pre", "<@><object>a</@>b", "@[object['ab']]")
	checkEach(t, "P1009", blocks, "<p><button><@>a", "p[button[@['a']]]")
	checkEach(t, "P1009", "listing pre", "<p><b>a<@ id=1>b</@>c", "p[b['a']]@{id=1}[b['b']]b['c']")
	checkAll(t, "P1009",
		"<p id=1>a<p id=2>b", "p{id=1}['a']p{id=2}['b']",
		"<p><x>a<p>b", "p[x['a']]p['b']",
		"<p>a<table id=1>", "p['a']table{id=1}[]",
		"<p><object><div>a", "p[object[div['a']]]",
		"<div><section>a</div>b", "div[section['a']]'b'",
	)
}

func TestP1009Heads(t *testing.T) {
	checkEach(t, "P1009", heads, "<p><b>a<@ id=1>b</@>c", "p[b['a']]@{id=1}[b['b']]b['c']")
	checkEach(t, "P1009", heads, "<h3>a<@>b", "h3['a']@['b']")
	checkEach(t, "P1009", heads, "<h3><i>a<@>b", "h3[i['a'@['b']]]")
	checkEach(t, "P1009", heads, "<h3><p>a</@>b", "h3[p['a']]'b'")
	checkEach(t, "P1009", heads, "<@><x>a</h3>b", "@[x['a']]'b'")
	checkEach(t, "P1009", heads, "a</@>b", "'ab'")
	checkEach(t, "P1009", heads, "<@><object></h3>a", "@[object['a']]")
	check(t, "P1009", "<h1><div><h2>a</h1>b</h1>c", "h1[div[h2['a']'b']]'c'")
}

func TestP1009Items(t *testing.T) {
	checkAll(t, "P1009",
		"<li id=1>a<li id=2>b", "li{id=1}['a']li{id=2}['b']",
		"<li><p>a<li>b", "li[p['a']]li['b']",
		"<li><x>a<li>b", "li[x['a']]li['b']",
		"<li><option><li>b", "li[option[]]li['b']",
		"<p>a<li>b", "p['a']li['b']",
		"<p><x><li>b", "p[x[]]li['b']",
		"<li>a<dd>b<li>c", "li['a'dd['b'li['c']]]",
		"<li>a</ul>b</li>c", "li['ab']'c'",
		"<li><p>a</li>b", "li[p['a']]'b'",
		"<li><x>a</li>b", "li[x['a']]'b'",
		"<dd id=1>a<dd id=2>b", "dd{id=1}['a']dd{id=2}['b']",
		"<dd><p>a<dt>b<dd>c", "dd[p['a']]dt['b']dd['c']",
		"<dt><x>a<dd>b", "dt[x['a']]dd['b']",
		"<p>a<dd>b", "p['a']dd['b']",
		"<dt>a<li>b<dd>c", "dt['a'li['b'dd['c']]]",
		"<dt>a<dl><dd>b", "dt['a'dl[dd['b']]]",
		"<dd>a</dt>b</dd>c", "dd['ab']'c'",
		"<dt><dd>a</dt>b", "dt[]dd['ab']",
		"<dd><ul><li>a</dd>b", "dd[ul[li['a']]]'b'",
	)
	checkEach(t, "P1009", "address div p", "<li><@>a<li>b", "li[@['a']]li['b']")
	checkEach(t, "P1009", "address div p", "<dt><@>a<dd>b", "dt[@['a']]dd['b']")
	checkEach(t, "P1009", "ul ol section blockquote button h1 object pre", "<li><@>a<li>b", "li[@['a'li['b']]]")
	checkEach(t, "P1009", "ul dl section blockquote button h1 object pre", "<dd><@>a<dt>b", "dd[@['a'dt['b']]]")
	checkEach(t, "P1009", "li dd dt", "<@><p>a<div>b</@>c", "@[p['a']div['b']]'c'")
	checkEach(t, "P1009", "li dd dt", "<@><table><td><@>a</@>b", "@[table[tbody[tr[td[@['a']'b']]]]]")
	checkEach(t, "P1009", "li dd dt", "<@><svg><desc><@>a", "@[svg:svg[svg:desc[@['a']]]]")
	checkEach(t, "P1009", "li dd dt", "<@><math><mi><@>a", "@[math:math[math:mi[@['a']]]]")
	checkEach(t, "P1009", "ul ol object", "<li><@>a</li>b", "li[@['ab']]")
	checkEach(t, "P1009", "object", "<dd><@>a</dd>b", "dd[@['ab']]")
	checkEach(t, "P1009", "ul ol", "<dd><@>a</dd>b", "dd[@['a']]'b'")
	checkEach(t, "P1009", "li dd dt", "a</@>b", "'ab'")
}

func TestP1009Formats(t *testing.T) {
	checkEach(t, "P1009", marking+" a nobr", "<@ id=1>a<p>b</@>c", "@{id=1}['a']p[@{id=1}['b']'c']")
	checkEach(t, "P1009", marking+" a nobr", "<p><@ id=1>a</p>b", "p[@{id=1}['a']]@{id=1}['b']")
	checkEach(t, "P1009", marking+" a nobr", "<p><u><x></p><@>a", "p[u[x[]]]u[@['a']]")
	checkEach(t, "P1009", marking, "<p><@>a<@>b</p>c", "p[@['a'@['b']]]@[@['c']]")
	checkEach(t, "P1009", marking+" a nobr", "<x><@>a</x>b", "x[@['a']]@['b']")
	checkEach(t, "P1009", marking+" a nobr", "a</@>b", "'ab'")
	// Where adopt says false the tag is as others: here its mark is behind a wall.
	checkEach(t, "P1009", marking+" a", "<@>a<table><td>b</@>c", "@['a'table[tbody[tr[td['bc']]]]]")
	checkEach(t, "P1009", marking+" a", "<@><@x>a</@x></@>b", "@[@x['a']]'b'")
	check(t, "P1009", "<table><td><template></td><b><table><caption></b>a", shownOf(t, "<table><td><template><b><table><caption>a"))
	check(t, "P1009", "<p><b><b><b><b><b>a<p>b", "p[b[b[b[b[b['a']]]]]]p[b[b[b['b']]]]")
	check(t, "P1009", "<p><b><b><b><b id=1>a<p>b", "p[b[b[b[b{id=1}['a']]]]]p[b[b[b[b{id=1}['b']]]]]")
}

func TestP1009Links(t *testing.T) {
	checkAll(t, "P1009",
		"<a id=1>a<a id=2>b", "a{id=1}['a']a{id=2}['b']",
		"<a><b>a<a>b", "a[b['a']]b[a['b']]",
		"<a>a<p>b<a>c", "a['a']p[a['b']a['c']]",
		"<a>a<div><p>b<a>c", "a['a']div[a[]p[a['b']a['c']]]",
		// A wall: adopt does nothing, and the link goes all the same, with its mark.
		"<a><table><a>b</table>c", "a[a['b']table[]]a['c']",
		"<a><table><a>b</a></table>c", "a[a['b']table[]]'c'",
		"<a>1<table>2<a>3<td>4", "a['12'a['3']table[tbody[tr[td['4']]]]]",
		"<a><svg><desc><a>b</svg>c", "a[svg:svg[svg:desc[a['bc']]]]",
		"<a><table><td><a>b</table>c", "a[table[tbody[tr[td[a['b']]]]]'c']",
		"<a><object><a>b</object>c", "a[object[a['b']]'c']",
		"<p><a></p><a>b", "p[a[]]a['b']",
	)
}

func TestP1009Nobr(t *testing.T) {
	checkAll(t, "P1009",
		"<nobr id=1>a<nobr id=2>b", "nobr{id=1}['a']nobr{id=2}['b']",
		"<nobr><b>a<nobr>b", "nobr[b['a']]b[nobr['b']]",
		"<nobr>a<p>b<nobr>c", "nobr['a']p[nobr['b']nobr['c']]",
		"<nobr>a<object><nobr>b", "nobr['a'object[nobr['b']]]",
		"<p><nobr>a</p><nobr>b", "p[nobr['a']]nobr[]nobr['b']",
		// Its mark is gone with a wall that a cell left: adopt says false, and nothing is closed.
		"<nobr><table><td><object></table><nobr>a", "nobr[table[tbody[tr[td[object[]]]]]nobr['a']]",
	)
}

func TestP1009Lines(t *testing.T) {
	checkAll(t, "P1009",
		"<p><b></p><button id=1>a", "p[b[]]b[button{id=1}['a']]",
		"<button>a<p>b<button>c", "button['a'p['b']]button['c']",
		"<button><object><button>a", "button[object[button['a']]]",
		"<button><x>a<button>b", "button[x['a']]button['b']",
		"<p><b></p><option id=1>a", "p[b[]]b[option{id=1}['a']]",
		"<option>a<optgroup>b<option>c<optgroup>d", "option['a']optgroup['b'option['c']optgroup['d']]",
		"<option>a<option>b", "option['a']option['b']",
		"<option><b>a<option>b", "option[b['a'option['b']]]",
		"<p><b></p><x id=1>a</x>b", "p[b[]]b[x{id=1}['a']'b']",
		"<p>a<x><y-z>b", "p['a'x[y-z['b']]]",
		"<select><option>a<p>b", "select[option['a'p['b']]]",
		"<x/>a", "x['a']",
	)
}

func TestP1009Ruby(t *testing.T) {
	checkEach(t, "P1009", "rb rtc rp rt", "<p><b></p><@ id=1>", "p[b[]]@{id=1}[]")
	checkEach(t, "P1009", "rb rtc rp rt", "<ruby><rt><p>a<@>b", "ruby[rt[p['a']]@['b']]")
	checkEach(t, "P1009", "rb rtc", "<ruby><rtc>a<@>b", "ruby[rtc['a']@['b']]")
	checkEach(t, "P1009", "rp rt", "<ruby><rtc>a<@>b", "ruby[rtc['a'@['b']]]")
	checkEach(t, "P1009", "rb rtc rp rt", "<rt>a<@>b", "rt['a'@['b']]")
	checkEach(t, "P1009", "rb rtc rp rt", "<ruby><object><rt>a<@>b", "ruby[object[rt['a'@['b']]]]")
	checkEach(t, "P1009", "rb rtc rp rt", "<ruby><rt><i>a<@>b", "ruby[rt[i['a'@['b']]]]")
}

func TestP1009Spaces(t *testing.T) {
	checkEach(t, "P1009", "svg math", "<p><b></p><@ id=1>a", "p[b[]]b[@:@{id=1}['a']]")
	checkEach(t, "P1009", "svg math", "<@/>a<@ />b", "@:@[]'a'@:@[]'b'")
	checkEach(t, "P1009", "svg math", "<@></@/>a", "@:@[]'a'")
	check(t, "P1009", "<SVG><desc><math><mi><svg/>a", "svg:svg[svg:desc[math:math[math:mi[svg:svg[]'a']]]]")
}

func TestP1009EndP(t *testing.T) {
	checkAll(t, "P1009",
		"</p>a", "p[]'a'",
		"<b></p id=1>a", "b[p[]'a']",
		"<p><x><li>a</p>b", "p[x[]]li['a'p[]'b']",
		"<p><option>a</p>b", "p[option['a']]'b'",
		"<p><b>a</p>b", "p[b['a']]b['b']",
		"<p><button>a</p>b", "p[button['a'p[]'b']]",
		"<p><object></p>b", "p[object[p[]'b']]",
		"<p><ol></p>b", "p[]ol[p[]'b']",
		"<p><x>a</p>b</p>c", "p[x['a']]'b'p[]'c'",
		"<table></p>", "p[]table[]",
	)
}

func TestP1009Others(t *testing.T) {
	checkAll(t, "P1009",
		"<x><y>a</x>b", "x[y['a']]'b'",
		"<x><y>a</z>b", "x[y['ab']]",
		"<x><x>a</x>b</x>c", "x[x['a']'b']'c'",
		"<x><b>a</x>b", "x[b['a']]b['b']",
		"<x><svg><g>a</x>b", "x[svg:svg[svg:g['a']]]'b'",
		"<x><svg><desc><y>a</x>b", "x[svg:svg[svg:desc[y['ab']]]]",
		"<x><math><mi><y>a</x>b", "x[math:math[math:mi[y['ab']]]]",
		"<x><math><annotation-xml><svg><p><y>", "x[math:math[math:annotation-xml[math:svg[]]]p[y[]]]",
		"<ruby><rt>a</ruby>b", "ruby[rt['a']]'b'",
		"<select><option>a</select>b", "select[option['a']]'b'",
		"<option>a</option>b</option>c", "option['a']'bc'",
		"<video><source>a</video>b", "video[source[]'a']'b'",
	)
	checkEach(t, "P1009", "div p li section button h1 object ul template", "<x><@>a</x>b", "x[@['ab']]")
	checkEach(t, "P1009", "select noscript", "<@>a</@>b", "@['a']'b'")
}
