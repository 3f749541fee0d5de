package keyed

import (
	"quiver/api"
	"quiver/table"
	"quiver/value"
)

// Insert is the keyed table with more rows, whose keys are new: P12.3.
func Insert(k, rows api.V) (api.V, api.Errno) {
	m, e := merge(k, rows)
	switch {
	case e != api.OK:
		return api.V{}, e
	case m.met:
		return api.V{}, api.ErrKey
	}
	return m.keyed()
}

// Upsert is the keyed table in which the keys of rows have what these have: P12.4.
func Upsert(k, rows api.V) (api.V, api.Errno) {
	m, e := merge(k, rows)
	if e != api.OK {
		return api.V{}, e
	}
	return m.keyed()
}

// Join is the keyed table into which all these are upserted, one after the other: P12.4.
func Join(k api.V, l ...api.V) (api.V, api.Errno) {
	if _, _, e := open(k); e != api.OK {
		return api.V{}, e
	}
	k = value.Clone(k)
	for _, rows := range l {
		var e api.Errno
		if k, e = Upsert(k, rows); e != api.OK {
			return api.V{}, e
		}
	}
	return k, api.OK
}

// Delete is the keyed table without the first row with a key: P12.4.
func Delete(k api.V, x ...api.V) (api.V, api.Errno) {
	at, e := Find(k, x...)
	switch {
	case e != api.OK:
		return api.V{}, e
	case at == value.Count(k.L[0]):
		return value.Clone(k), api.OK
	}
	keys, e := table.Delete(k.L[0], at)
	others, f := table.Delete(k.L[1], at)
	return made(keys, others, e, f)
}

// merged is a keyed table's own rows and, behind them, those that are put in; and which of all these are left: of each where its key stands, and where what the other columns have.
type merged struct {
	keys, others   api.V
	heads, sources []int
	met            bool // whether a key that is put in was there
}

// merge puts rows into a keyed table, or tells why they do not fit.
func merge(k, rows api.V) (merged, api.Errno) {
	keys, others, e := open(k)
	if e != api.OK {
		return merged{}, e
	}
	if isPair(rows) {
		if rows, e = Unkey(rows); e != api.OK {
			return merged{}, e
		}
	}
	all, e := table.Insert(flat(keys, others), rows)
	if e != api.OK {
		return merged{}, e
	}
	n := len(keys.L)
	m := merged{keys: api.V{T: api.KTable, S: all.S[:n], L: all.L[:n]}, others: api.V{T: api.KTable, S: all.S[n:], L: all.L[n:]}}
	m.settle(value.Count(keys), firsts(keys))
	return m, api.OK
}

// settle tells which rows are left: of the table's own, so many, all, and of the others those whose keys are new. Where each of its own keys comes first is told by first.
func (m *merged) settle(own int, first map[string]int) {
	for i := range own {
		m.leave(i)
	}
	for i := own; i < value.Count(m.keys); i++ {
		key := keyAt(m.keys, i)
		if at, there := first[key]; there {
			m.sources[at], m.met = i, true
			continue
		}
		first[key] = len(m.heads)
		m.leave(i)
	}
}

// leave takes a row to those that are left.
func (m *merged) leave(i int) {
	m.heads = append(m.heads, i)
	m.sources = append(m.sources, i)
}

// keyed is the keyed table of the rows that are left.
func (m *merged) keyed() (api.V, api.Errno) {
	keys, e := table.Rows(m.keys, m.heads...)
	others, f := table.Rows(m.others, m.sources...)
	return made(keys, others, e, f)
}
