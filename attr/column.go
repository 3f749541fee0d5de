package attr

import (
	"cmp"

	"quiver/api"
)

// key is an element: of a vector of symbols its symbol, of all others its number. The field that it does not have is zero, so that two of one vector are equal just if == says so.
type key struct {
	number int64
	symbol string
}

// compare is how the atoms of two elements of one vector stand to each other.
func compare(a, b key) int {
	if c := cmp.Compare(a.number, b.number); c != 0 {
		return c
	}
	return cmp.Compare(a.symbol, b.symbol)
}

// keys are the elements of an atom or a vector.
func keys(v api.V) []key {
	if v.T == api.KSym || v.T == -api.KSym {
		l := make([]key, len(v.S))
		for i, s := range v.S {
			l[i] = key{symbol: s}
		}
		return l
	}
	l := make([]key, len(v.N))
	for i, n := range v.N {
		l[i] = key{number: n}
	}
	return l
}

// vector is the vector of that type with these elements.
func vector(t int, l []key) api.V {
	v := api.V{T: t}
	for _, k := range l {
		if t == api.KSym {
			v.S = append(v.S, k.symbol)
		} else {
			v.N = append(v.N, k.number)
		}
	}
	return v
}

// column is a vector with its mark. It counts what marks speak of, so that one element more, or another one, tells at once whether the mark stays.
type column struct {
	mark     int
	t        int // the type of the vector
	elements []key
	runs     int // of equal elements that stand together
	falls    int // places whose element is less than the one ahead
}

// element is the one that an atom of the column's type has. What has none is no atom, whatever its type says.
func (c *column) element(a api.V) (key, api.Errno) {
	if a.T != -c.t {
		return key{}, api.ErrType
	}
	l := keys(a)
	if len(l) != 1 {
		return key{}, api.ErrType
	}
	return l[0], api.OK
}

// bound is the element of a bound; where there is none, one that is never looked at.
func (c *column) bound(a *api.V) (key, api.Errno) {
	if a == nil {
		return key{}, api.OK
	}
	return c.element(*a)
}

// push lays elements behind those that there are.
func (c *column) push(l ...key) {
	for _, k := range l {
		c.elements = append(c.elements, k)
		c.count(len(c.elements)-1, 1)
	}
}

// put lays another element at a place. The place behind it stands to another one then, too.
func (c *column) put(at int, k key) {
	c.count(at, -1)
	c.count(at+1, -1)
	c.elements[at] = k
	c.count(at, 1)
	c.count(at+1, 1)
}

// count adds n to the runs, if one begins at that place, and to the falls, if there is one.
func (c *column) count(at, n int) {
	if at >= len(c.elements) {
		return
	}
	if at == 0 || c.elements[at] != c.elements[at-1] {
		c.runs += n
	}
	if at > 0 && compare(c.elements[at], c.elements[at-1]) < 0 {
		c.falls += n
	}
}

// holds tells whether the vector is as its mark says. How many unlike elements there are is asked only where the mark hangs on it.
func (c *column) holds(unlike func() int) bool {
	switch c.mark {
	case api.AttrSorted:
		return c.falls == 0
	case api.AttrUnique:
		return unlike() == len(c.elements)
	case api.AttrParted:
		return unlike() == c.runs
	}
	return true
}

// unlike is how many unlike elements there are.
func (c *column) unlike() int {
	seen := map[key]struct{}{}
	for _, k := range c.elements {
		seen[k] = struct{}{}
	}
	return len(seen)
}
