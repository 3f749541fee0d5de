package parse

import (
	"slices"

	"quiver/api"
	"quiver/value"
)

// Same: P15.9.
func Same(a, b api.Node) bool {
	return a.Kind == b.Kind && a.Text == b.Text && slices.Equal(a.S, b.S) && value.Match(a.V, b.V) && slices.EqualFunc(a.L, b.L, Same)
}

// Count: P15.9.
func Count(n api.Node) int { return 1 + total(n.L) }

// total is how many nodes the trees have together.
func total(l []api.Node) int {
	sum := 0
	for _, n := range l {
		sum += Count(n)
	}
	return sum
}

// Depth: P15.9.
func Depth(n api.Node) int {
	deepest := 0
	for _, x := range n.L {
		deepest = max(deepest, Depth(x))
	}
	return 1 + deepest
}

// Names: P15.9.
func Names(n api.Node) []string {
	var l []string
	seen := map[string]int{}
	eachName(n, func(name string) {
		if _, ok := seen[name]; !ok {
			seen[name] = len(l)
			l = append(l, name)
		}
	})
	return l
}

// eachName goes from the left to the right over the names that are read or assigned in a tree, but not in its lambdas.
func eachName(n api.Node, do func(name string)) {
	switch n.Kind {
	case api.NodeLambda:
		return
	case api.NodeName, api.NodeAssign:
		do(n.Text)
	}
	for _, x := range inText(n) {
		eachName(x, do)
	}
}

// inText is the parts of a tree as they stand in its text: the verb of a NodeDyad has its left operand ahead.
func inText(n api.Node) []api.Node {
	if n.Kind != api.NodeDyad || len(n.L) < 2 {
		return n.L
	}
	l := slices.Clone(n.L)
	l[0], l[1] = l[1], l[0]
	return l
}
