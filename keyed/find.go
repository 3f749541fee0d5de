package keyed

import (
	"quiver/api"
	"quiver/codec"
	"quiver/table"
	"quiver/value"
	"quiver/vec"
)

// Find is the place of the first row with a key, or how many rows there are: P12.2.
func Find(k api.V, x ...api.V) (int, api.Errno) {
	keys, _, e := open(k)
	switch {
	case e != api.OK:
		return 0, e
	case len(x) != len(keys.L):
		return 0, api.ErrLength
	}
	at := 0
	for at < value.Count(keys) && !has(keys, at, x) {
		at++
	}
	return at, api.OK
}

// has tells whether the columns of a table have these elements at a place.
func has(t api.V, at int, x []api.V) bool {
	for i, column := range t.L {
		if !value.Match(element(column, at), x[i]) {
			return false
		}
	}
	return true
}

// Places is where the keys of a table's rows come first: P12.2.
func Places(k, t api.V) ([]int, api.Errno) {
	keys, _, e := open(k)
	if e != api.OK {
		return nil, e
	}
	asked, e := table.Select(t, keys.S...)
	if e != api.OK {
		return nil, e
	}
	first := firsts(keys)
	places := make([]int, value.Count(asked))
	for i := range places {
		at, there := first[keyAt(asked, i)]
		if !there {
			at = -1
		}
		places[i] = at
	}
	return places, api.OK
}

// Get is what the other columns have in the first row with a key, or nulls: P12.2.
func Get(k api.V, x ...api.V) (api.V, api.Errno) {
	at, e := Find(k, x...)
	if e != api.OK {
		return api.V{}, e
	}
	others := k.L[1]
	l := make([]api.V, len(others.L))
	for i, column := range others.L {
		one, _ := vec.Index(column, int64(at))
		l[i] = element(one, 0)
	}
	return api.V{T: api.KDict, L: []api.V{value.Sym(others.S...), value.Of(l...)}}, api.OK
}

// firsts is where each key comes first.
func firsts(keys api.V) map[string]int {
	first := map[string]int{}
	for i := range value.Count(keys) {
		key := keyAt(keys, i)
		if _, there := first[key]; !there {
			first[key] = i
		}
	}
	return first
}

// keyAt is the bytes of what a table's columns have at a place: the same just of what matches, for unlike values have unlike bytes, and none's are a beginning of another's.
func keyAt(t api.V, at int) string {
	var b []byte
	for _, column := range t.L {
		part, _ := codec.Put(element(column, at))
		b = append(b, part...)
	}
	return string(b)
}

// element is what stands at a place of a column, in its memory.
func element(column api.V, at int) api.V {
	switch column.T {
	case api.KList:
		return column.L[at]
	case api.KSym:
		return api.V{T: -column.T, S: column.S[at : at+1]}
	}
	return api.V{T: -column.T, N: column.N[at : at+1]}
}
