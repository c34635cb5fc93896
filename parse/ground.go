package parse

import (
	"anagnost/api"
	"anagnost/text"
)

// outcome is what a ground says of a token.
type outcome int

const (
	done  outcome = iota // it is done
	again                // it is to be done by the ground that is now
	other                // it is not of this ground
)

// readByGround does a token by the ground that is now.
func (p *parser) readByGround(t api.Token) {
again:
	switch p.inGround(t) {
	case again:
		goto again
	case other:
		p.readAnywhere(t)
	}
}

// inGround does a token in what is the ground, if it is of that.
func (p *parser) inGround(t api.Token) outcome {
	switch p.ground() {
	case "td", "th":
		return p.inCell(t)
	case "caption":
		return p.inCaption(t)
	case "tr":
		return p.inRow(t)
	case "tbody", "tfoot", "thead":
		return p.inSection(t)
	case "table":
		return p.inTable(t)
	}
	return other
}

// isPart tells whether name is of what only stands in a table.
func isPart(name string) bool {
	switch name {
	case "caption", "col", "colgroup", "tbody", "td", "tfoot", "th", "thead", "tr":
		return true
	}
	return false
}

// inCell does a token in a cell.
func (p *parser) inCell(t api.Token) outcome {
	switch t.Kind {
	case api.TStart:
		if isPart(t.Name) {
			p.leave("td", "th")
			return again
		}
	case api.TEnd:
		return p.endInCell(t.Name)
	}
	return other
}

func (p *parser) endInCell(name string) outcome {
	switch name {
	case "body", "caption", "col", "colgroup", "html":
		return done
	case "td", "th":
		if p.site.Has(api.ScopeTable, name) {
			p.leave(name)
		}
		return done
	case "table", "tbody", "tfoot", "thead", "tr":
		if !p.site.Has(api.ScopeTable, name) {
			return done
		}
		p.leave("td", "th")
		return again
	}
	return other
}

// leave closes a cell or a caption, and the formatting in it.
func (p *parser) leave(names ...string) {
	p.site.Imply(none)
	p.popTo(names...)
	p.site.Marks().Clear()
}

// inCaption does a token in a caption.
func (p *parser) inCaption(t api.Token) outcome {
	switch t.Kind {
	case api.TStart:
		if isPart(t.Name) {
			p.leave("caption")
			return again
		}
	case api.TEnd:
		switch t.Name {
		case "caption":
			p.leave("caption")
			return done
		case "table":
			p.leave("caption")
			return again
		case "body", "col", "colgroup", "html", "tbody", "td", "tfoot", "th", "thead", "tr":
			return done
		}
	}
	return other
}

// backTo pops what stands behind the last one of these names.
func (p *parser) backTo(names ...string) {
	for p.site.Top() != root && !p.top().is("template") && !p.top().is(names...) {
		p.pop()
	}
}

// inTable does a token in a table.
func (p *parser) inTable(t api.Token) outcome {
	switch t.Kind {
	case api.TText:
		return p.typeInTable(t)
	case api.TStart:
		return p.startInTable(t)
	}
	return p.endInTable(t)
}

// foster does a token that may not stand in a table: what it makes goes ahead of that.
func (p *parser) foster(t api.Token) outcome {
	p.site.Foster(true)
	p.readAnywhere(t)
	p.site.Foster(false)
	return done
}

// typeInTable types blanks, which may stand between the parts of a table.
func (p *parser) typeInTable(t api.Token) outcome {
	s := withoutZeros(t.Text)
	if text.Trim(s) != "" || !p.top().is("table", "tbody", "tfoot", "thead", "tr") {
		return p.foster(t)
	}
	p.site.Type(s)
	return done
}

func (p *parser) startInTable(t api.Token) outcome {
	switch t.Name {
	case "caption":
		p.backTo("table")
		p.site.Marks().Wall()
		p.enter(t)
		return done
	case "col", "colgroup":
		return done
	case "tbody", "tfoot", "thead":
		p.backTo("table")
		p.enter(t)
		return done
	case "td", "th", "tr":
		p.backTo("table")
		p.add(api.Html, "tbody", nil)
		return again
	case "table":
		if !p.closeTable() {
			return done
		}
		return again
	case "script", "style", "template":
		return other
	}
	return p.foster(t)
}

func (p *parser) endInTable(t api.Token) outcome {
	switch t.Name {
	case "table":
		p.closeTable()
		return done
	case "body", "caption", "col", "colgroup", "html", "tbody", "td", "tfoot", "th", "thead", "tr":
		return done
	case "template":
		return other
	}
	return p.foster(t)
}

// closeTable closes the last table, and tells whether there is one.
func (p *parser) closeTable() bool {
	if !p.site.Has(api.ScopeTable, "table") {
		return false
	}
	p.popTo("table")
	return true
}

// inSection does a token between the rows of a table.
func (p *parser) inSection(t api.Token) outcome {
	switch t.Kind {
	case api.TStart:
		switch t.Name {
		case "tr":
			p.backToSection()
			p.enter(t)
			return done
		case "td", "th":
			p.backToSection()
			p.add(api.Html, "tr", nil)
			return again
		case "caption", "col", "colgroup", "tbody", "tfoot", "thead":
			return p.leaveSection()
		}
	case api.TEnd:
		return p.endInSection(t)
	}
	return p.inTable(t)
}

func (p *parser) endInSection(t api.Token) outcome {
	switch t.Name {
	case "tbody", "tfoot", "thead":
		if p.site.Has(api.ScopeTable, t.Name) {
			p.leaveSection()
		}
		return done
	case "table":
		return p.leaveSection()
	case "body", "caption", "col", "colgroup", "html", "td", "th", "tr":
		return done
	}
	return p.inTable(t)
}

func (p *parser) backToSection() {
	p.backTo("tbody", "tfoot", "thead")
}

// leaveSection closes the rows that stand together.
func (p *parser) leaveSection() outcome {
	p.backToSection()
	p.pop()
	return again
}

// inRow does a token between the cells of a row.
func (p *parser) inRow(t api.Token) outcome {
	switch t.Kind {
	case api.TStart:
		switch t.Name {
		case "td", "th":
			p.backTo("tr")
			p.enter(t)
			p.site.Marks().Wall()
			return done
		case "caption", "col", "colgroup", "tbody", "tfoot", "thead", "tr":
			return p.leaveRow()
		}
	case api.TEnd:
		return p.endInRow(t)
	}
	return p.inTable(t)
}

func (p *parser) endInRow(t api.Token) outcome {
	switch t.Name {
	case "tr":
		p.leaveRow()
		return done
	case "table":
		return p.leaveRow()
	case "tbody", "tfoot", "thead":
		if p.site.Has(api.ScopeTable, t.Name) {
			return p.leaveRow()
		}
		return done
	case "body", "caption", "col", "colgroup", "html", "td", "th":
		return done
	}
	return p.inTable(t)
}

// leaveRow closes a row.
func (p *parser) leaveRow() outcome {
	p.backTo("tr")
	p.pop()
	return again
}
