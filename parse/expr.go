package parse

import (
	"quiver/api"
	"quiver/value"
)

// term is a part of an expression: a verb, or else a noun.
type term struct {
	node api.Node
	verb bool
}

// expression reads what is one: P15.1. alone: whether a verb alone is one here.
func (p *parser) expression(alone bool) api.Node {
	l := p.terms()
	if n := len(l); n == 0 || l[n-1].verb && (n > 1 || !alone) {
		p.fail(api.ErrParse)
		return api.Node{}
	}
	return fold(l)
}

// optional reads an expression that may be left out.
func (p *parser) optional(alone bool) api.Node {
	if p.beginsTerm() {
		return p.expression(alone)
	}
	return api.Node{Kind: api.NodeNil, At: p.here().At}
}

func (p *parser) terms() []term {
	var l []term
	for p.beginsTerm() {
		if p.beginsAssign() {
			return append(l, term{node: p.assign()})
		}
		l = append(l, p.term())
	}
	return l
}

// fold makes one tree of terms, from the last one on. A verb stands between two operands just if a noun is directly ahead of it.
func fold(l []term) api.Node {
	last := len(l) - 1
	tree := l[last].node
	for i := last - 1; i >= 0; i-- {
		n := l[i].node
		switch {
		case !l[i].verb:
			tree = api.Node{Kind: api.NodeApply, At: n.At, L: []api.Node{n, tree}}
		case i > 0 && !l[i-1].verb:
			i--
			left := l[i].node
			tree = api.Node{Kind: api.NodeDyad, At: left.At, L: []api.Node{n, left, tree}}
		default:
			tree = api.Node{Kind: api.NodeMonad, At: n.At, L: []api.Node{n, tree}}
		}
	}
	return tree
}

func (p *parser) assign() api.Node {
	name := p.take()
	p.expect(":")
	return api.Node{Kind: api.NodeAssign, At: name.At, Text: name.Text, L: []api.Node{p.expression(true)}}
}

func (p *parser) term() term {
	var t term
	if t.verb = p.isVerb(); t.verb {
		t.node = p.named(api.NodeVerb)
	} else {
		t.node = p.noun()
	}
	for p.is(api.TokenAdverb) {
		n := api.Node{Kind: api.NodeDerived, At: t.node.At, Text: p.take().Text, L: []api.Node{t.node}}
		t = term{node: n, verb: true}
	}
	return t
}

// named is a node that has no more than the text of the token here.
func (p *parser) named(kind int) api.Node {
	t := p.take()
	return api.Node{Kind: kind, At: t.At, Text: t.Text}
}

func (p *parser) noun() api.Node {
	n := p.primary()
	for p.marked("[") {
		n = api.Node{Kind: api.NodeApply, At: n.At, L: append([]api.Node{n}, p.arguments()...)}
	}
	return n
}

func (p *parser) arguments() []api.Node {
	var l []api.Node
	p.within("]", func() {
		if !p.marked("]") {
			p.separated(func() { l = append(l, p.optional(true)) })
		}
	})
	return l
}

func (p *parser) primary() api.Node {
	switch {
	case p.is(api.TokenValue):
		t := p.take()
		return api.Node{Kind: api.NodeValue, At: t.At, V: value.Clone(t.V)}
	case p.isName():
		return p.named(api.NodeName)
	case p.marked("{"):
		return p.lambda()
	}
	return p.round()
}

// round reads what stands in parentheses, the bracket of which is its place.
func (p *parser) round() api.Node {
	at := p.here().At
	var n api.Node
	p.within(")", func() {
		switch {
		case p.marked("["):
			n = p.table()
		case p.marked(")"):
			n = api.Node{Kind: api.NodeList}
		default:
			n = p.list()
		}
	})
	n.At = at
	return n
}

// list reads the parts of a list, or the one expression that is none.
func (p *parser) list() api.Node {
	var l []api.Node
	p.separated(func() { l = append(l, p.expression(true)) })
	if len(l) == 1 {
		return l[0]
	}
	return api.Node{Kind: api.NodeList, L: l}
}

// table reads the brackets that tell a table from a list, and its columns.
func (p *parser) table() api.Node {
	n := api.Node{Kind: api.NodeTable}
	p.within("]", func() {})
	p.separated(func() {
		if !p.is(api.TokenName) && !p.is(api.TokenText) {
			p.fail(api.ErrParse)
		}
		n.S = append(n.S, p.take().Text)
		p.expect(":")
		n.L = append(n.L, p.expression(false))
	})
	return n
}

func (p *parser) lambda() api.Node {
	n := api.Node{Kind: api.NodeLambda, At: p.here().At}
	p.within("}", func() {
		if p.marked("[") {
			n.S = p.parameters()
		}
		n.L = p.statements()
		n.Text = p.cut(n.At, p.here().End)
	})
	return n
}

func (p *parser) parameters() []string {
	var l []string
	p.within("]", func() {
		if p.marked("]") {
			return
		}
		p.separated(func() {
			if !p.isName() {
				p.fail(api.ErrParse)
			}
			l = append(l, p.take().Text)
		})
	})
	return l
}
