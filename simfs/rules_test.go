package simfs_test

import (
	"maps"
	"slices"
	"strings"
	"testing"

	"quiver/api"
	"quiver/simfs"
)

// paper is a file system on paper: all that was ever done, gone through anew for each answer.
type paper struct {
	last    int
	safe    map[string]int
	changes []func(map[string]int)
	files   map[int]*sheet
}

type sheet struct {
	safe   string
	writes []func(p string, most int) string // what is left of a write of which at most so many bytes are done
}

func newPaper() *paper {
	return &paper{safe: map[string]int{}, files: map[int]*sheet{}}
}

func (m *paper) names(first int) map[string]int {
	l := maps.Clone(m.safe)
	for _, c := range m.changes[:first] {
		c(l)
	}
	return l
}

func (m *paper) now() map[string]int { return m.names(len(m.changes)) }

func (s *sheet) bytes(first, most int) string {
	p := s.safe
	for i, w := range s.writes {
		if i < first {
			p = w(p, 1<<30)
		} else if i == first {
			p = w(p, most)
		}
	}
	return p
}

func (m *paper) at(file int) string {
	s := m.files[file]
	return s.bytes(len(s.writes), 0)
}

func (m *paper) create(name string) {
	m.last++
	n := m.last
	m.files[n] = &sheet{}
	m.changes = append(m.changes, func(l map[string]int) { l[name] = n })
}

func (m *paper) rename(a, b string) {
	m.changes = append(m.changes, func(l map[string]int) {
		n := l[a]
		delete(l, a)
		l[b] = n
	})
}

func (m *paper) remove(a string) {
	m.changes = append(m.changes, func(l map[string]int) { delete(l, a) })
}

func (m *paper) write(file, at int, p string) {
	s := m.files[file]
	s.writes = append(s.writes, func(old string, most int) string {
		q := p[:min(most, len(p))]
		return old[:at] + q + old[min(len(old), at+len(q)):]
	})
}

func (m *paper) cut(file, size int) {
	s := m.files[file]
	s.writes = append(s.writes, func(old string, most int) string {
		if most < 1<<30 {
			return old
		}
		return old[:size]
	})
}

func (m *paper) sync(file int) { m.files[file] = &sheet{safe: m.at(file)} }

func (m *paper) syncDir() { m.safe, m.changes = m.now(), nil }

func (m *paper) crash(dir int, l map[int]api.Torn) {
	m.safe, m.changes = m.names(min(dir, len(m.changes))), nil
	for n, s := range m.files {
		m.files[n] = &sheet{safe: s.bytes(l[n].Writes, l[n].Bytes)}
	}
}

func (m *paper) clone() *paper {
	c := &paper{last: m.last, safe: maps.Clone(m.safe), changes: slices.Clone(m.changes), files: map[int]*sheet{}}
	for n, s := range m.files {
		c.files[n] = &sheet{s.safe, slices.Clone(s.writes)}
	}
	return c
}

// holds asks whether f has the names and the bytes that stand on paper.
func (m *paper) holds(t *testing.T, f *simfs.FS) {
	t.Helper()
	now := m.now()
	var want []string
	used := 0
	for _, name := range slices.Sorted(maps.Keys(now)) {
		want = append(want, name, m.at(now[name]))
		used += len(m.at(now[name]))
		is(t, "waiting", f.Waiting(now[name]), len(m.files[now[name]].writes))
	}
	has(t, "files", f, want...)
	is(t, "used", f.Used(), used)
	is(t, "waiting", f.WaitingDir(), len(m.changes))
}

// step does something to both, and tells the error.
func step(t *testing.T, f *simfs.FS, m *paper, draw func(int) int) {
	t.Helper()
	now := m.now()
	all := []string{"a", "b", "c", "d"}
	a, b := all[draw(4)], all[draw(4)]
	n, there := now[a]
	if !there {
		got, e := f.Create(a)
		is(t, "create", e, api.OK)
		m.create(a)
		is(t, "create", got, m.last)
		return
	}
	size := len(m.at(n))
	p := strings.Repeat(string(rune('a'+draw(26))), draw(9))
	switch draw(12) {
	case 0:
		is(t, "rename", f.Rename(a, b), api.OK)
		m.rename(a, b)
	case 1:
		is(t, "remove", f.Remove(a), api.OK)
		m.remove(a)
	case 2:
		is(t, "syncdir", f.SyncDir(), api.OK)
		m.syncDir()
	case 3, 4:
		is(t, "sync", f.Sync(n), api.OK)
		m.sync(n)
	case 5, 6:
		to := draw(size + 1)
		is(t, "cut", f.Cut(n, to), api.OK)
		m.cut(n, to)
	case 7, 8:
		is(t, "append", f.Append(n, []byte(p)), api.OK)
		m.write(n, size, p)
	default:
		at := draw(size + 1)
		is(t, "write", f.Write(n, at, []byte(p)), api.OK)
		m.write(n, at, p)
	}
}

// TestPaper: P2.2 to P2.8, P2.11 and P2.12: whatever is done, and however it crashes.
func TestPaper(t *testing.T) {
	for seed := range 60 {
		draw := draws(uint64(seed))
		f, m := made(t, 1<<20), newPaper()
		for range 150 {
			step(t, f, m, draw)
			m.holds(t, f)
			var l []api.Torn
			torn := map[int]api.Torn{}
			for n := range m.last {
				torn[n+1] = api.Torn{File: n + 1, Writes: draw(4), Bytes: draw(6)}
				l = append(l, torn[n+1])
			}
			dir := draw(5)
			g, k := crashed(f, dir, l...), m.clone()
			k.crash(dir, torn)
			k.holds(t, g)
			twice := crashed(g, draw(5), l...)
			is(t, "a second crash", simfs.Same(g, twice), true)
			if draw(20) == 0 {
				f, m = g, k
			}
		}
	}
}

// wrecks are crashes that leave this and that of names, and of the writes of two files.
func wrecks() []api.Wreck {
	var l []api.Wreck
	for dir := range 5 {
		for a := range 4 {
			for b := range 4 {
				l = append(l, api.Wreck{Dir: dir, L: []api.Torn{{File: 1, Writes: a, Bytes: b}, {File: 2, Writes: b, Bytes: a}}})
			}
		}
	}
	return l
}

// TestSafe: P2.11.
func TestSafe(t *testing.T) {
	f := with(t, "a", "safe", "b", "x")
	f.Append(2, []byte("y"))
	f.Rename("b", "c")
	for _, w := range wrecks() {
		g := f.Copy()
		g.Crash(w)
		n, e := g.Open("a")
		is(t, "there", e, api.OK)
		p, e := g.Read(n, 0, 9)
		is(t, "read", e, api.OK)
		is(t, "bytes", string(p), "safe")
	}
}

// TestBeginning: P2.12.
func TestBeginning(t *testing.T) {
	f := with(t, "a", "0")
	f.Append(1, []byte("123"))
	f.Append(1, []byte("456"))
	f.Append(1, []byte("789"))
	for _, w := range wrecks() {
		g := f.Copy()
		g.Crash(w)
		p, e := g.Read(1, 0, 99)
		is(t, "read", e, api.OK)
		is(t, "a beginning", strings.HasPrefix("0123456789", string(p)), true)
		is(t, "what is safe, at least", len(p) >= 1, true)
	}
}

// TestSwitch: P2.13.
func TestSwitch(t *testing.T) {
	f := with(t, "old", "what it had")
	created(t, f, "new")
	f.Append(2, []byte("all of "))
	f.Append(2, []byte("it"))
	is(t, "sync", f.Sync(2), api.OK)
	is(t, "rename", f.Rename("new", "old"), api.OK)
	seen := map[string]int{}
	for _, w := range wrecks() {
		g := f.Copy()
		g.Crash(w)
		n, e := g.Open("old")
		is(t, "there", e, api.OK)
		p, _ := g.Read(n, 0, 99)
		seen[string(p)]++
	}
	is(t, "old", seen["what it had"] > 0, true)
	is(t, "new", seen["all of it"] > 0, true)
	is(t, "nothing else", len(seen), 2)
}

// TestFull: P2.14.
func TestFull(t *testing.T) {
	draw := draws(14)
	f := made(t, 40)
	a, b := created(t, f, "a"), created(t, f, "b")
	full := 0
	for range 2000 {
		before := f.Copy()
		file := a + draw(2)*(b-a)
		size, _ := f.Size(file)
		e := f.Write(file, draw(size+1), make([]byte, draw(12)))
		if e != api.OK {
			full++
			is(t, "full", e, api.ErrFull)
			is(t, "nothing has changed", simfs.Same(before, f), true)
			is(t, "no operation", f.Ops(), before.Ops())
		}
		is(t, "never above", f.Used() <= f.Capacity(), true)
		if draw(8) == 0 {
			is(t, "cut", f.Cut(file, draw(size+1)), api.OK)
		}
	}
	is(t, "it was full", full > 100, true)
}

// TestTwice: P2.15.
func TestTwice(t *testing.T) {
	f := with(t, "a", "12", "b", "3")
	f.Append(1, []byte("45"))
	f.Rename("b", "c")
	created(t, f, "b")
	f.Remove("a")
	for _, w := range wrecks() {
		g := f.Copy()
		g.Crash(w)
		h := g.Copy()
		for _, again := range wrecks() {
			h.Crash(again)
			is(t, "twice", simfs.Same(g, h), true)
			is(t, "used", h.Used(), g.Used())
			is(t, "ops", h.Ops(), g.Ops())
		}
	}
}
