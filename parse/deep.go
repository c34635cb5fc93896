package parse

import (
	"strings"

	"anagnost/api"
	"anagnost/kind"
	"anagnost/tag"
	"anagnost/text"
)

// isInlet tells whether x is an element of another space in which HTML may stand.
func (x element) isInlet() bool {
	switch x.space {
	case api.Math:
		switch x.name {
		case "mi", "mn", "mo", "ms", "mtext":
			return true
		}
	case api.Svg:
		switch x.name {
		case "desc", "foreignObject", "title":
			return true
		}
	}
	return false
}

// lets tells whether x is an inlet for t.
func (x element) lets(t api.Token) bool {
	switch t.Kind {
	case api.TText:
		return x.isInlet()
	case api.TStart:
		return x.isInlet() && (x.space != api.Math || t.Name != "mglyph" && t.Name != "malignmark")
	}
	return false
}

// readDeep does a token in an element of another space.
func (p *parser) readDeep(t api.Token) {
	switch {
	case t.Kind == api.TText:
		p.site.Type(strings.ReplaceAll(t.Text, zero, lost))
	case breaks(t):
		for top := p.top(); top.space != api.Html && !top.isInlet(); top = p.top() {
			p.pop()
		}
		p.readByGround(t)
	case t.Kind == api.TStart:
		p.startDeep(t, p.top().space)
	case t.Kind == api.TEnd:
		p.endDeep(t)
	}
}

// breaks tells whether t is a tag that only HTML has, and that ends other spaces.
func breaks(t api.Token) bool {
	switch {
	case t.Kind == api.TEnd:
		return t.Name == "br" || t.Name == "p"
	case t.Name == "font":
		return hasAny(t.Attrs, "color", "face", "size")
	}
	return kind.Has(api.Breaks, t.Name)
}

// hasAny tells whether an attribute has one of these names.
func hasAny(attrs []api.Attr, names ...string) bool {
	for _, name := range names {
		if _, has := tag.Find(attrs, name); has {
			return true
		}
	}
	return false
}

// startDeep makes an element of another space.
func (p *parser) startDeep(t api.Token, space int) {
	name := t.Name
	if space == api.Svg && name == "foreignobject" {
		name = "foreignObject"
	}
	p.add(space, name, t.Attrs)
	if t.Self {
		p.pop()
	}
}

// endDeep closes an element of another space; where HTML stands behind it, the tag is HTML's.
func (p *parser) endDeep(t api.Token) {
	for n := range p.back {
		x := p.element(n)
		if x.space == api.Html {
			p.readByGround(t)
			return
		}
		if text.Fold(x.name) == t.Name {
			p.popUpTo(n)
			return
		}
	}
}
