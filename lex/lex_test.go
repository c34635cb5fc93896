package lex_test

import (
	"fmt"
	"math"
	"reflect"
	"regexp"
	"strings"
	"sync"
	"testing"

	"anagnost/api"
	"anagnost/lex"
	"anagnost/refs"
	"anagnost/tag"
	"anagnost/text"
)

const (
	blanks = "\t\n\f\r "
	lost   = "\xEF\xBF\xBD"
)

// built tells all texts of at most n of the pieces.
func built(n int, pieces ...string) []string {
	out := []string{""}
	for from := 0; n > 0; n-- {
		to := len(out)
		for _, s := range out[from:to] {
			for _, p := range pieces {
				out = append(out, s+p)
			}
		}
		from = to
	}
	return out
}

// answer is what Next tells; its list is nil where it is empty.
type answer struct {
	t api.Token
	n int
}

func (x answer) String() string {
	return shown(x.t) + fmt.Sprintf(", behind it %d", x.n)
}

func shown(l ...api.Token) string {
	var out []string
	for _, t := range l {
		out = append(out, fmt.Sprintf("(kind %d, %q, %q, self %v, text %.99q)", t.Kind, t.Name, t.Attrs, t.Self, t.Text))
	}
	return strings.Join(out, " ")
}

func plain(t api.Token) api.Token {
	if len(t.Attrs) == 0 {
		t.Attrs = nil
	}
	return t
}

func next(s string, at, state int, last string) answer {
	t, n := lex.Next(s, at, state, last)
	return answer{plain(t), n}
}

func words(s string) api.Token { return api.Token{Kind: api.TText, Text: s} }
func note(s string) api.Token  { return api.Token{Kind: api.TNote, Text: s} }
func end(s string) api.Token   { return api.Token{Kind: api.TEnd, Name: s} }
func start(s string) api.Token { return api.Token{Kind: api.TStart, Name: s} }
func stop() api.Token          { return api.Token{Kind: api.TStop} }

// known holds All of s against the tokens, which have a TStop behind them.
func known(t *testing.T, state int, last, s string, want ...api.Token) {
	t.Helper()
	got := lex.All(s, state, last)
	for i := range got {
		got[i] = plain(got[i])
	}
	if want = append(want, stop()); !reflect.DeepEqual(got, want) {
		t.Errorf("All(%q, %d, %q): %v, not %v", s, state, last, shown(got...), shown(want...))
	}
}

var (
	noteForm    = regexp.MustCompile(`(?s)^<!--(?:-?>|(.*?)(?:-->|--!>|\z))`)
	sectionForm = regexp.MustCompile(`(?s)^<!\[CDATA\[(.*?)(?:\]\]>|\z)`)
	muteForm    = regexp.MustCompile(`^(?:<![dD][oO][cC][tT][yY][pP][eE][^>]*(?:>|\z)|</>)`)
	otherForm   = regexp.MustCompile(`^(?:<!([^>]*)|<(\?[^>]*)|</([^>]+))(?:>|\z)`)
	textForm    = regexp.MustCompile(`(?s)^.[^<]*`)
)

func zeros(s string) string { return strings.Join(strings.Split(s, "\x00"), lost) }

// model is P401 to P403, word by word.
func model(s string, at, state int, last string) answer {
	switch {
	case at == len(s):
		return answer{stop(), at}
	case state == api.InPlain:
		return answer{words(zeros(s[at:])), len(s)}
	case state == api.InText || state == api.InRaw:
		return shutModel(s, at, state, last)
	}
	return openModel(s, at, state)
}

func shutModel(s string, at, state int, last string) answer {
	to := at
	for to < len(s) && !endModel(text.Fold(s[to:]), text.Fold(last)) {
		to++
	}
	if to == at {
		return readModel(s, at)
	}
	out := s[at:to]
	if state == api.InText {
		out = refs.Expand(out, false)
	}
	return answer{words(zeros(out)), to}
}

func endModel(s, last string) bool {
	if last == "" || last[0] < 'a' || last[0] > 'z' || !strings.HasPrefix(s, "</"+last) {
		return false
	}
	behind := s[2+len(last):]
	return behind != "" && strings.IndexByte(blanks+"/>", behind[0]) >= 0
}

func readModel(s string, at int) answer {
	t, n := tag.Read(s, at)
	if t.Kind != api.TStart && t.Kind != api.TEnd {
		return answer{stop(), len(s)}
	}
	return answer{plain(t), n}
}

func openModel(s string, at, state int) answer {
	rest := s[at:]
	if tag.At(s, at) {
		return readModel(s, at)
	}
	if m := noteForm.FindStringSubmatch(rest); m != nil {
		return answer{note(zeros(m[1])), at + len(m[0])}
	}
	if m := sectionForm.FindStringSubmatch(rest); m != nil && state == api.InDeep {
		return answer{words(m[1]), at + len(m[0])}
	}
	if m := muteForm.FindString(rest); m != "" {
		return model(s, at+len(m), state, "")
	}
	if m := otherForm.FindStringSubmatch(rest); m != nil {
		return answer{note(zeros(m[1] + m[2] + m[3])), at + len(m[0])}
	}
	m := textForm.FindString(rest)
	return answer{words(refs.Expand(m, false)), at + len(m)}
}

// same holds Next of each place of s against the model, and All against Next.
func same(t *testing.T, s string, state int, last string) {
	t.Helper()
	for at := 0; at <= len(s); at++ {
		got, want := next(s, at, state, last), model(s, at, state, last)
		if !reflect.DeepEqual(got, want) {
			t.Fatalf("Next(%q, %d, %d, %q): %v, not %v", s, at, state, last, got, want)
		}
		if got.n > len(s) || got.n <= at && got.t.Kind != api.TStop {
			t.Fatalf("P405: Next(%q, %d, %d, %q): %v", s, at, state, last, got)
		}
	}
	sameAll(t, s, state, last)
}

func sameAll(t *testing.T, s string, state int, last string) {
	t.Helper()
	at := 0
	for i, got := range lex.All(s, state, last) {
		want := next(s, at, state, last)
		if !reflect.DeepEqual(plain(got), want.t) {
			t.Fatalf("P404: All(%q, %d, %q): %v at %d, not %v", s, state, last, shown(got), i, want)
		}
		if at = want.n; want.t.Kind == api.TStop {
			at = -1
		}
	}
	if at != -1 {
		t.Fatalf("P404: All(%q, %d, %q): no TStop at its end, or more behind it", s, state, last)
	}
}

func TestP401TheEndAndPlaces(t *testing.T) {
	for state := api.InData; state <= api.InDeep; state++ {
		for _, s := range []string{"", "a", "<a", "<!--", "</", "\x00"} {
			if got := next(s, len(s), state, "a"); !reflect.DeepEqual(got, answer{stop(), len(s)}) {
				t.Errorf("Next(%q, its end, %d): %v", s, state, got)
			}
		}
	}
	const s = "a<b c=d/>e<!--f-->g</h>"
	for at, want := range map[int]answer{
		0:  {words("a"), 1},
		1:  {api.Token{Kind: api.TStart, Name: "b", Attrs: []api.Attr{{Name: "c", Value: "d/"}}}, 9},
		2:  {words("b c=d/>e"), 10},
		9:  {words("e"), 10},
		10: {note("f"), 18},
		11: {words("!--f-->g"), 19},
		18: {words("g"), 19},
		19: {end("h"), 23},
		20: {words("/h>"), 23},
		23: {stop(), 23},
	} {
		for _, state := range []int{api.InData, api.InDeep} {
			if got := next(s, at, state, "h"); !reflect.DeepEqual(got, want) {
				t.Errorf("Next(%q, %d, %d): %v, not %v", s, at, state, got, want)
			}
		}
	}
}

func TestP402Plain(t *testing.T) {
	known(t, api.InPlain, "", "")
	for _, last := range []string{"", "a", "plaintext"} {
		known(t, api.InPlain, last, "<b>&lt;\x00</a></plaintext><!--\x00", words("<b>&lt;"+lost+"</a></plaintext><!--"+lost))
	}
	for _, s := range built(4, "<", "</a>", "a", "\x00", "&lt;", ">", "\xFF") {
		same(t, s, api.InPlain, "a")
	}
}

func TestP402KnownEnds(t *testing.T) {
	for _, state := range []int{api.InText, api.InRaw} {
		known(t, state, "title", "a<b></TiTle\t>c", words("a<b>"), end("title"), words("c"))
		known(t, state, "TITLE", "</title x='>'>", end("title"))
		known(t, state, "a", "</a/></a\f></a\r></a\n></a ></A>", end("a"), end("a"), end("a"), end("a"), end("a"), end("a"))
		known(t, state, "a", "</ab></a-></a\x00></a\v></a", words("</ab></a->"+"</a"+lost+"></a\v></a"))
		known(t, state, "a", "<a></ a><//a><</a>", words("<a></ a><//a><"), end("a"))
		known(t, state, "a", "</</a>", words("</"), end("a"))
		known(t, state, "a", "b</a c='", words("b"))
		known(t, state, "a", "</a ")
		known(t, state, "a", "<!--</a>--><![CDATA[</a>]]>", words("<!--"), end("a"), words("--><![CDATA["), end("a"), words("]]>"))
		for _, last := range []string{"", " ", "/", ">", "1", "/a", " a", "<a", "@", "[", "`", "{", "\x00", "\xC3\x84"} {
			s := "x</" + last + "></" + last + "/></" + last + " >"
			known(t, state, last, s, words(zeros(s)))
		}
	}
}

func TestP402LastsThatNoTagHas(t *testing.T) {
	for _, state := range []int{api.InText, api.InRaw} {
		known(t, state, "A b", "</a></a\nb></a B>", words("</a></a\nb>"), end("a"))
		known(t, state, "a>b", "</a></a>b></c>", words("</a>"), end("a"), words("b></c>"))
		known(t, state, "a/", "</a></a/b></a/></a//>", words("</a></a/b>"), end("a"), end("a"))
		known(t, state, "a\x00", "</a\x00>", end("a"+lost))
		known(t, state, "a\x00", "</a"+lost+">", words("</a"+lost+">"))
		known(t, state, "a&lt;", "</a<></a&lt;>", words(inside(state, "</a<>")), end("a&lt;"))
		known(t, state, "a</a", "</a</a</a>", words("</a"), end("a<"))
	}
}

func inside(state int, s string) string {
	if state == api.InText {
		return refs.Expand(s, false)
	}
	return s
}

// Fold knows A to Z alone; other signs have two cases too.
func TestP402ByFoldAlone(t *testing.T) {
	for _, state := range []int{api.InText, api.InRaw} {
		known(t, state, "a\u00C4", "</a\u00E4></A\u00C4>", words("</a\u00E4>"), end("a\u00C4"))
		known(t, state, "ak\u212A", "</a\u212Ak></AK\u212A>", words("</a\u212Ak>"), end("ak\u212A"))
		known(t, state, "as\u017F", "</a\u017Fs>", words("</a\u017Fs>"))
		known(t, state, "k", "</\u212A>", words("</\u212A>"))
		known(t, state, "a@[`{", "</a`{@[></A@[`{>", words("</a`{@[>"), end("a@[`{"))
		known(t, state, "a\xFF", "</a\xFE></A\xFF>", words("</a\xFE>"), end("a\xFF"))
	}
}

func TestP402WhatStandsAheadOfTheEnd(t *testing.T) {
	const s = "a&lt;\x00&#0;&#x80;&notit;&amp;lt;&copy=1</a>&gt;"
	known(t, api.InText, "a", s, words("a<"+lost+lost+"\u20AC\u00ACit;&lt;\u00A9=1"), end("a"), words(">"))
	known(t, api.InRaw, "a", s, words("a&lt;"+lost+"&#0;&#x80;&notit;&amp;lt;&copy=1"), end("a"), words("&gt;"))
	known(t, api.InText, "a", "b&lt;/a>&lt", words("b</a><"))
	known(t, api.InText, "a", "&am</a>p;", words("&am"), end("a"), words("p;"))
}

func TestP402AgainstItsWords(t *testing.T) {
	for _, state := range []int{api.InText, api.InRaw} {
		for _, s := range built(5, "</", "<", "a", "A", "b", " ", "/", ">", "\x00", "&lt;") {
			same(t, s, state, "a")
		}
		for _, last := range []string{"A", "ab", "aB", "", "1", "a b", "a>", "a</a", "a\x00", "/a"} {
			for _, s := range built(4, "</a", "</", "a", "B", " ", "/", ">", "\x00", "&lt", "'") {
				same(t, s, state, last)
			}
		}
	}
}

func TestP402EachByteInEachPlace(t *testing.T) {
	for c := range 256 {
		x := string([]byte{byte(c)})
		for _, s := range []string{"</a" + x + ">", "</" + x + ">", "<" + x + "a>", x + "</a>", "</a>" + x, "</a b=" + x + ">", "</a" + x} {
			for _, last := range []string{"a", "a" + x, x, x + "a", ""} {
				same(t, s, api.InText, last)
				same(t, s, api.InRaw, last)
				same(t, s, api.InPlain, last)
			}
		}
	}
}

// inBoth is known of InData and of InDeep, which is the same but for sections.
func inBoth(t *testing.T, s string, want ...api.Token) {
	t.Helper()
	known(t, api.InData, "", s, want...)
	known(t, api.InDeep, "a", s, want...)
}

func TestP403Tags(t *testing.T) {
	inBoth(t, "<A></A b=c></a/>", start("a"), end("a"), end("a"))
	inBoth(t, "x<br/>", words("x"), api.Token{Kind: api.TStart, Name: "br", Self: true})
	inBoth(t, "<a b='<!-- > -->'>c", api.Token{Kind: api.TStart, Name: "a", Attrs: []api.Attr{{Name: "b", Value: "<!-- > -->"}}}, words("c"))
	for _, s := range []string{"<a", "</a", "<a b='><c>", "</a b=\"><c>", "<a <b", "<a/", "</a =", "<a b=c d"} {
		inBoth(t, s)
		inBoth(t, "x"+s, words("x"))
		if got := next("<x>"+s, 3, api.InData, ""); !reflect.DeepEqual(got, answer{stop(), 3 + len(s)}) {
			t.Errorf("Next of %q, which does not end: %v", s, got)
		}
	}
}

func TestP403Notes(t *testing.T) {
	inBoth(t, "<!---->a", note(""), words("a"))
	inBoth(t, "<!-->a", note(""), words("a"))
	inBoth(t, "<!--->a", note(""), words("a"))
	inBoth(t, "<!----!>a", note(""), words("a"))
	inBoth(t, "<!----->a", note("-"), words("a"))
	inBoth(t, "<!---!>a-->", note("-!>a"))
	inBoth(t, "<!--!>a--->b", note("!>a-"), words("b"))
	inBoth(t, "<!-- >->- ->--->a", note(" >->- ->-"), words("a"))
	inBoth(t, "<!--a--!>b-->", note("a"), words("b-->"))
	inBoth(t, "<!--a-->b--!>", note("a"), words("b--!>"))
	inBoth(t, "<!--a--!b-- >c--!", note("a--!b-- >c--!"))
	inBoth(t, "<!--a--!-->b", note("a--!"), words("b"))
	inBoth(t, "<!--a<!--b-->c-->", note("a<!--b"), words("c-->"))
	inBoth(t, "<!--<b>&lt;\x00\xFF-->", note("<b>&lt;"+lost+"\xFF"))
	inBoth(t, "<!--\x00", note(lost))
	inBoth(t, "<!--a--", note("a--"))
	inBoth(t, "<!--a-", note("a-"))
	for _, s := range []string{"", "-", "--", "--!", "a"} {
		inBoth(t, "<!--"+s, note(s))
	}
}

func TestP403Sections(t *testing.T) {
	known(t, api.InDeep, "", "<![CDATA[a&lt;<b>\x00]]>&lt;\x00", words("a&lt;<b>\x00"), words("<\x00"))
	known(t, api.InDeep, "", "<![CDATA[]]>", words(""))
	known(t, api.InDeep, "", "<![CDATA[", words(""))
	known(t, api.InDeep, "", "<![CDATA[a]]", words("a]]"))
	known(t, api.InDeep, "", "<![CDATA[]]]]>a", words("]]"), words("a"))
	known(t, api.InDeep, "", "<![CDATA[a>]>] ]>]]>]]>", words("a>]>] ]>"), words("]]>"))
	known(t, api.InDeep, "", "<![CDATA[<![CDATA[a]]>]]>", words("<![CDATA[a"), words("]]>"))
	known(t, api.InDeep, "", "<!doctype></><![CDATA[a]]>", words("a"))
	for _, s := range []string{"[cdata[a]]", "[CDATA a", "[CDATA", " [CDATA[a]]", "[CDATa[a]]", "[CDATA<["} {
		inBoth(t, "<!"+s+">b", note(s), words("b"))
	}
	known(t, api.InData, "", "<![CDATA[a]]>b", note("[CDATA[a]]"), words("b"))
	known(t, api.InData, "", "<![CDATA[a>b]]>", note("[CDATA[a"), words("b]]>"))
}

func TestP403Doctypes(t *testing.T) {
	inBoth(t, "<!DOCTYPE html>a", words("a"))
	inBoth(t, "<!docTYPEa\x00'>'><p>", words("'>"), start("p"))
	inBoth(t, "a<!doctype>b", words("a"), words("b"))
	inBoth(t, "<!doctype")
	inBoth(t, "<!doctype html <p")
	inBoth(t, "<!doctype><!DOCTYPE x></><!--a-->", note("a"))
	inBoth(t, "<!doctyp>a", note("doctyp"), words("a"))
	inBoth(t, "<! doctype>a", note(" doctype"), words("a"))
	inBoth(t, "<!doc\x00type>a", note("doc"+lost+"type"), words("a"))
	inBoth(t, "<?doctype>a", note("?doctype"), words("a"))
	inBoth(t, "</!doctype>a", note("!doctype"), words("a"))
	if got := next("<!doctype></>", 0, api.InData, ""); !reflect.DeepEqual(got, answer{stop(), 13}) {
		t.Errorf("Next of what is all passed: %v", got)
	}
	if got := next("<!doctype></>ab<", 0, api.InData, ""); !reflect.DeepEqual(got, answer{words("ab"), 15}) {
		t.Errorf("Next of what is passed ahead of a text: %v", got)
	}
}

func TestP403OtherNotes(t *testing.T) {
	inBoth(t, "<!>a", note(""), words("a"))
	inBoth(t, "<!", note(""))
	inBoth(t, "<!-", note("-"))
	inBoth(t, "<!->a", note("-"), words("a"))
	inBoth(t, "<!- a --!>b-->", note("- a --!"), words("b-->"))
	inBoth(t, "<!a&lt;<b\x00>c", note("a&lt;<b"+lost), words("c"))
	inBoth(t, "<?>a", note("?"), words("a"))
	inBoth(t, "<?", note("?"))
	inBoth(t, "<?xml a='>'?>b", note("?xml a='"), words("'?>b"))
	inBoth(t, "<?\x00&lt", note("?"+lost+"&lt"))
	inBoth(t, "</ a>b", note(" a"), words("b"))
	inBoth(t, "</1", note("1"))
	inBoth(t, "<//>a", note("/"), words("a"))
	inBoth(t, "</<a>b", note("<a"), words("b"))
	inBoth(t, "</\x00>", note(lost))
	inBoth(t, "</!--a-->", note("!--a--"))
	inBoth(t, "</ ", note(" "))
}

func TestP403EmptyEndTags(t *testing.T) {
	inBoth(t, "</>a", words("a"))
	inBoth(t, "a</>b", words("a"), words("b"))
	inBoth(t, "</></>")
	inBoth(t, "</", words("</"))
	inBoth(t, "a</", words("a"), words("</"))
	inBoth(t, "</></", words("</"))
	inBoth(t, "</></a>", end("a"))
}

func TestP403Texts(t *testing.T) {
	inBoth(t, "")
	inBoth(t, "a>b\n&", words("a>b\n&"))
	inBoth(t, "a&lt;b&notit;&copy=1&#0;", words("a<b\u00ACit;\u00A9=1"+lost))
	inBoth(t, "\x00a\x00", words("\x00a\x00"))
	inBoth(t, "\xFF\xC3<\xC3", words("\xFF\xC3"), words("<\xC3"))
	inBoth(t, "<", words("<"))
	inBoth(t, "<<<", words("<"), words("<"), words("<"))
	inBoth(t, "<3 < 4&lt;", words("<3 "), words("< 4<"))
	inBoth(t, "<>a<=b", words("<>a"), words("<=b"))
	inBoth(t, "<\x00a", words("<\x00a"))
	inBoth(t, "&l<&t;", words("&l"), words("<&t;"))
	inBoth(t, "&lt<&gt", words("<"), words("<>"))
	inBoth(t, "<-- a -->", words("<-- a -->"))
	inBoth(t, "<[CDATA[a]]>", words("<[CDATA[a]]>"))
}

func TestP403AgainstItsWords(t *testing.T) {
	for _, state := range []int{api.InData, api.InDeep} {
		for _, s := range built(4, "<", ">", "!", "-", "/", "?", "a", " ", "\x00", "&lt", "<!", "</", "[CDATA[", "]]>", "DocType") {
			same(t, s, state, "a")
		}
		for _, s := range built(6, "-", "!", ">", "<", "a") {
			same(t, "<!--"+s, state, "")
		}
		for _, s := range built(5, "]", ">", "a", "<![CDATA[", "\x00", "&gt;") {
			same(t, "<![CDATA["+s, state, "")
		}
		for _, s := range built(5, "</>", "<!doctype", ">", "a", "<!--", "<b>", "</") {
			same(t, s, state, "")
		}
	}
}

func TestP403EachByteInEachPlace(t *testing.T) {
	for c := range 256 {
		x := string([]byte{byte(c)})
		for _, s := range []string{
			"<" + x + "a>b", "</" + x + "a>b", "<" + x, "</" + x, "<!" + x + "a>b", "<!-" + x + "a-->b", "<!--" + x + "-->b", "<!---" + x + "-->b", "<!--a-" + x + "-->b", "<!--a--" + x + "-->b", "<!--a--!" + x + "-->b", "<!--a--", "<!doctyp" + x + ">b", "<!doctype" + x + ">b", "<!" + x + "octype>b", "<![CDATA" + x + "a]]>b", "<![CDATA[a]" + x + ">]]>b", "<![CDATA[a]]" + x + "]]>b", "<?" + x + ">b", "a" + x + "b<", x,
		} {
			same(t, s, api.InData, "")
			same(t, s, api.InDeep, "")
		}
	}
}

// count holds the number of tokens of All, and the last one ahead of the TStop.
func count(t *testing.T, state int, last, s string, n int, want api.Token) {
	t.Helper()
	got := lex.All(s, state, last)
	if len(got) != n+1 || !reflect.DeepEqual(plain(got[n]), stop()) || n > 0 && !reflect.DeepEqual(plain(got[n-1]), want) {
		t.Errorf("All of %.20q and so on, %d: %d tokens, not %d, or not the last one", s, state, len(got)-1, n)
	}
}

// Of each of these a way that goes through what is left once more for each token would take very long.
func TestP404ManyTokens(t *testing.T) {
	const n = 200000
	for _, state := range []int{api.InData, api.InDeep} {
		for piece, want := range map[string]api.Token{
			"<!---->": note(""), "<!--a--!>": note("a"), "<!-->": note(""), "<!a>": note("a"), "<?>": note("?"), "</ >": note(" "), "<3": words("<3"), "<": words("<"), "<a>": start("a"), "</a>": end("a"),
		} {
			count(t, state, "", strings.Repeat(piece, n), n, want)
		}
		count(t, state, "", strings.Repeat("</>", n), 0, stop())
		count(t, state, "", strings.Repeat("<!doctype></>", n), 0, stop())
		count(t, state, "", strings.Repeat("<!doctype></>", n)+"a", 1, words("a"))
		count(t, state, "", "<!--"+strings.Repeat("-", n)+">", 1, note(strings.Repeat("-", n-2)))
	}
	count(t, api.InDeep, "", strings.Repeat("<![CDATA[]]>", n), n, words(""))
	for _, state := range []int{api.InText, api.InRaw} {
		count(t, state, "a", strings.Repeat("</a>", n), n, end("a"))
		count(t, state, "a", strings.Repeat("b</A >", n), 2*n, end("a"))
		count(t, state, "a", strings.Repeat("</b>", n), 1, words(strings.Repeat("</b>", n)))
		count(t, state, strings.Repeat("a", n), strings.Repeat("</a>", n), 1, words(strings.Repeat("</a>", n)))
	}
}

func TestP405AnyBytes(t *testing.T) {
	const some = "<<<//>>!!--?aA &;\x00\xC3\xFF[]='"
	n := uint32(11)
	for range 6000 {
		var b []byte
		for range 48 {
			n = n*1664525 + 1013904223
			b = append(b, some[int(n>>16)%len(some)])
		}
		for state := api.InData; state <= api.InDeep; state++ {
			same(t, string(b), state, "a")
		}
	}
}

func TestP1PlacesAndStatesThatAreNone(t *testing.T) {
	for _, s := range []string{"", "a", "<a>", "<!--a", "</>", "</a>", "<!doctype>", "\xFF"} {
		for _, state := range []int{api.InData, api.InText, api.InRaw, api.InPlain, api.InDeep, -1, 5, math.MinInt, math.MaxInt} {
			for _, at := range []int{-1, 0, len(s), len(s) + 1, math.MinInt, math.MaxInt, math.MaxInt - 1} {
				lex.Next(s, at, state, "a")
				lex.Next(s, at, state, "")
			}
			lex.All(s, state, "a")
		}
	}
}

func TestP2AnswersAreNewMemory(t *testing.T) {
	const s = "<a b=1 c=2><a b=1 c=2>"
	first, second := lex.All(s, api.InData, ""), lex.All(s, api.InData, "")
	want := api.Token{Kind: api.TStart, Name: "a", Attrs: []api.Attr{{Name: "b", Value: "1"}, {Name: "c", Value: "2"}}}
	spoilt := first[0].Attrs[:cap(first[0].Attrs)]
	for i := range spoilt {
		spoilt[i] = api.Attr{Name: "spoilt"}
	}
	if !reflect.DeepEqual(first[1], want) {
		t.Errorf("two lists of one answer share memory: %v", shown(first[1]))
	}
	spare := first[:cap(first)]
	for i := range spare {
		spare[i] = api.Token{Name: "spoilt"}
	}
	if again := []api.Token{want, want, stop()}; !reflect.DeepEqual(second, again) || !reflect.DeepEqual(lex.All(s, api.InData, ""), again) {
		t.Errorf("All, behind a change of its answer: %v", shown(second...))
	}
}

func TestP3ManyAtATime(t *testing.T) {
	const s = "a&lt;<b c='&amp;'></B><!--d--><!doctype><![CDATA[e]]></f"
	var joined sync.WaitGroup
	for state := api.InData; state <= api.InDeep; state++ {
		want := lex.All(s, state, "b")
		for range 8 {
			joined.Go(func() {
				if got := lex.All(s, state, "b"); !reflect.DeepEqual(got, want) {
					t.Errorf("All in state %d, many at a time: %v, not %v", state, shown(got...), shown(want...))
				}
			})
		}
	}
	joined.Wait()
}
