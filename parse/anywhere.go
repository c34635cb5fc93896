package parse

import (
	"anagnost/adopt"
	"anagnost/api"
	"anagnost/kind"
)

// readAnywhere does a token of which no ground says otherwise.
func (p *parser) readAnywhere(t api.Token) {
	switch t.Kind {
	case api.TText:
		if s := withoutZeros(t.Text); s != "" {
			p.site.Rebuild()
			p.site.Type(s)
		}
	case api.TStart:
		p.start(t)
	case api.TEnd:
		p.end(t.Name)
	}
}

// start does a start tag.
func (p *parser) start(t api.Token) {
	switch t.Name {
	case "body", "caption", "col", "colgroup", "frame", "frameset", "head", "html", "tbody", "td", "tfoot", "th", "thead", "tr":
		// They stand nowhere but in a table, or are what a tree has none of.
	case "base", "basefont", "bgsound", "link", "meta", "param", "source", "track":
		p.enterVoid(t)
	case "hr":
		p.closeP()
		p.enterVoid(t)
	case "image":
		t.Name = "img"
		fallthrough
	case "area", "br", "embed", "img", "input", "keygen", "wbr":
		p.site.Rebuild()
		p.enterVoid(t)
	case "iframe", "noembed", "noframes", "plaintext", "script", "style", "textarea", "title", "xmp":
		p.startMute(t)
	case "template":
		p.enterWall(t)
	case "applet", "marquee", "object":
		p.site.Rebuild()
		p.enterWall(t)
	case "listing", "pre":
		p.closeP()
		p.enter(t)
		p.skip = true
	case "li":
		p.closeItem("li")
		p.closeP()
		p.enter(t)
	case "dd", "dt":
		p.closeItem("dd", "dt")
		p.closeP()
		p.enter(t)
	case "math":
		p.site.Rebuild()
		p.startDeep(t, api.Math)
	case "svg":
		p.site.Rebuild()
		p.startDeep(t, api.Svg)
	default:
		p.startBySet(t)
	}
}

// startBySet does a start tag of what stands around texts.
func (p *parser) startBySet(t api.Token) {
	switch {
	case kind.Has(api.Blocks, t.Name) || t.Name == "table":
		p.closeP()
		p.enter(t)
	case kind.Has(api.Heads, t.Name):
		p.closeP()
		if p.top().is(kind.Set(api.Heads)...) {
			p.pop()
		}
		p.enter(t)
	case kind.Has(api.Format, t.Name):
		p.startFormat(t)
	default:
		p.startInline(t)
	}
}

// startFormat does a start tag of formatting.
func (p *parser) startFormat(t api.Token) {
	if t.Name == "a" {
		p.closeA()
	}
	p.site.Rebuild()
	if t.Name == "nobr" && p.site.Has(api.ScopeAny, t.Name) {
		adopt.Close(p.site, t.Name)
		p.site.Rebuild()
	}
	n := p.enter(t)
	p.site.Marks().Push(api.Mark{Node: n, Name: t.Name, Attrs: t.Attrs})
}

// closeA closes a link, since none stands in another, even where formatting could not be closed.
func (p *parser) closeA() {
	marks := p.site.Marks()
	mark, found := marks.At(marks.Find("a"))
	if !found {
		return
	}
	adopt.Close(p.site, "a")
	marks.Drop(marks.Of(mark.Node))
	p.site.Drop(mark.Node)
}

// startInline does a start tag of what stands in a line.
func (p *parser) startInline(t api.Token) {
	switch t.Name {
	case "button":
		p.close(api.ScopeAny, none, "button")
	case "optgroup", "option":
		if p.top().is("option") {
			p.pop()
		}
	case "rb", "rtc":
		p.implyInRuby(none)
		p.enter(t)
		return
	case "rp", "rt":
		p.implyInRuby("rtc")
		p.enter(t)
		return
	}
	p.site.Rebuild()
	p.enter(t)
}

func (p *parser) implyInRuby(but string) {
	if p.site.Has(api.ScopeAny, "ruby") {
		p.site.Imply(but)
	}
}

// startMute does a start tag behind which all is text up to its end.
func (p *parser) startMute(t api.Token) {
	switch t.Name {
	case "xmp":
		p.closeP()
		p.site.Rebuild()
	case "plaintext":
		p.closeP()
	case "textarea":
		p.skip = true
	}
	p.enter(t)
	p.state, p.last = kind.State(t.Name), t.Name
}

// enterVoid makes an element in which nothing stands.
func (p *parser) enterVoid(t api.Token) {
	p.enter(t)
	p.pop()
}

// enterWall makes an element in which the formatting around it does not go on.
func (p *parser) enterWall(t api.Token) {
	p.enter(t)
	p.site.Marks().Wall()
}

// closeItem closes the item of these names that the next one of the same list ends.
func (p *parser) closeItem(names ...string) {
	if !p.isOpen(names...) {
		return
	}
	for n := range p.back {
		x := p.element(n)
		if x.is(names...) {
			p.site.Imply(x.name)
			p.popTo(x.name)
			return
		}
		if x.bounds && !x.is("address", "div", "p") {
			return
		}
	}
}

// end does an end tag.
func (p *parser) end(name string) {
	switch name {
	case "body", "html":
		// No tree has them.
	case "br":
		p.start(api.Token{Kind: api.TStart, Name: "br"})
	case "p":
		if !p.close(api.ScopeButton, "p", "p") {
			p.enterVoid(api.Token{Name: "p"})
		}
	case "button", "listing", "pre":
		p.close(api.ScopeAny, none, name)
	case "applet", "marquee", "object":
		if p.close(api.ScopeAny, none, name) {
			p.site.Marks().Clear()
		}
	case "dd", "dt":
		p.close(api.ScopeAny, name, name)
	case "li":
		p.close(api.ScopeList, name, name)
	case "template":
		p.endTemplate()
	default:
		p.endBySet(name)
	}
}

// endTemplate closes a template, whatever is open in it.
func (p *parser) endTemplate() {
	if p.isOpen("template") {
		p.popTo("template")
		p.site.Marks().Clear()
	}
}

// endBySet does an end tag of what stands around texts.
func (p *parser) endBySet(name string) {
	switch {
	case kind.Has(api.Blocks, name):
		p.close(api.ScopeAny, none, name)
	case kind.Has(api.Heads, name):
		p.close(api.ScopeAny, none, kind.Set(api.Heads)...)
	case kind.Has(api.Format, name) && adopt.Close(p.site, name):
	default:
		p.endOther(name)
	}
}

// endOther closes an element, if nothing stands behind it that bounds.
func (p *parser) endOther(name string) {
	if !p.isOpen(name) {
		return
	}
	for n := range p.back {
		x := p.element(n)
		if x.is(name) {
			p.popUpTo(n)
			return
		}
		if x.bounds {
			return
		}
	}
}
