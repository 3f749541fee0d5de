package dict

import (
	"cmp"
	"slices"

	"quiver/api"
	"quiver/value"
)

// alike is the places of elements that match, rising, in a group of each; the groups stand in the order of their elements.
func alike(l []api.V) [][]int {
	at := make([]int, len(l))
	for i := range at {
		at[i] = i
	}
	slices.SortFunc(at, func(i, j int) int {
		return cmp.Or(value.Compare(l[i], l[j]), cmp.Compare(i, j))
	})
	var groups [][]int
	for len(at) > 0 {
		end := 1
		for end < len(at) && value.Match(l[at[0]], l[at[end]]) {
			end++
		}
		groups = append(groups, at[:end])
		at = at[end:]
	}
	return groups
}

// sought is the groups of x that match, and of each the places of all keys that match them, rising. The keys are gone over but once, however many x are.
func sought(k api.V, x []api.V) (groups, places [][]int) {
	groups = alike(x)
	places = make([][]int, len(groups))
	for i := range value.Count(k) {
		n, found := slices.BinarySearchFunc(groups, element(k, i), func(group []int, key api.V) int {
			return value.Compare(x[group[0]], key)
		})
		if found {
			places[n] = append(places[n], i)
		}
	}
	return groups, places
}
