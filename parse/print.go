package parse

import (
	"strings"

	"quiver/api"
	"quiver/lex"
	"quiver/text"
)

// Print: P15.8.
func Print(l ...api.Node) string {
	var p printer
	p.all(l)
	return p.b.String()
}

// Where a tree stands, as far as brackets around it hang on that.
const (
	whereAny   = 0
	whereVerb  = 1 // as the verb of a NodeMonad or NodeDyad
	whereNoun  = 2 // as the left operand, or what is applied
	whereAhead = 3 // ahead of an adverb
)

// printer gathers the text of trees.
type printer struct{ b strings.Builder }

func (p *printer) put(l ...string) {
	for _, s := range l {
		p.b.WriteString(s)
	}
}

// all puts trees, with ; between.
func (p *printer) all(l []api.Node) {
	for i, n := range l {
		p.between(i)
		p.tree(n, whereAny)
	}
}

// between puts a ; ahead of all but the first.
func (p *printer) between(i int) {
	if i > 0 {
		p.put(";")
	}
}

// tree puts a tree, in brackets if it needs them where it stands.
func (p *printer) tree(n api.Node, where int) {
	if !needsBrackets(n.Kind, where) {
		p.bare(n)
		return
	}
	p.put("(")
	p.bare(n)
	p.put(")")
}

func needsBrackets(kind, where int) bool {
	switch kind {
	case api.NodeVerb, api.NodeDerived:
		return where != whereVerb && where != whereAhead
	case api.NodeMonad, api.NodeDyad, api.NodeAssign:
		return where == whereNoun || where == whereAhead
	case api.NodeValue:
		return where == whereAhead
	}
	return false
}

func (p *printer) bare(n api.Node) {
	switch n.Kind {
	case api.NodeValue:
		s, _ := text.Print(n.V)
		p.put(s)
	case api.NodeName, api.NodeVerb, api.NodeLambda:
		p.put(n.Text)
	case api.NodeList:
		p.put("(")
		p.all(n.L)
		p.put(")")
	case api.NodeDerived:
		p.tree(part(n, 0), whereAhead)
		p.put(n.Text)
	case api.NodeMonad:
		p.verb(n)
		p.tree(part(n, 1), whereAny)
	case api.NodeDyad:
		p.tree(part(n, 1), whereNoun)
		p.put(" ")
		p.verb(n)
		p.tree(part(n, 2), whereAny)
	case api.NodeApply:
		p.apply(n)
	case api.NodeAssign:
		p.put(n.Text, ":")
		p.tree(part(n, 0), whereAny)
	case api.NodeTable:
		p.table(n)
	}
}

// verb puts the verb of a NodeMonad or NodeDyad, and the blank ahead of its operand.
func (p *printer) verb(n api.Node) {
	p.tree(part(n, 0), whereVerb)
	p.put(" ")
}

func (p *printer) apply(n api.Node) {
	p.tree(part(n, 0), whereNoun)
	p.put("[")
	p.all(n.L[min(1, len(n.L)):])
	p.put("]")
}

func (p *printer) table(n api.Node) {
	p.put("([]")
	for i, name := range n.S {
		p.between(i)
		if !lex.Word(name) {
			name = text.Quote(name)
		}
		p.put(name, ":")
		p.tree(part(n, i), whereAny)
	}
	p.put(")")
}

// part is a part of a tree, and nothing where there is none: a text of what is no tree ends, too.
func part(n api.Node, i int) api.Node {
	if i < len(n.L) {
		return n.L[i]
	}
	return api.Node{Kind: api.NodeNil}
}
