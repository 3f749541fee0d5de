package simfs

import (
	"bytes"
	"maps"
	"slices"

	"quiver/api"
)

// Crash: P2.8.
func (f *FS) Crash(w api.Wreck) {
	if f == nil {
		return
	}
	names := f.safe
	for _, c := range f.changes[:within(w.Dir, len(f.changes))] {
		follow(names, c)
	}
	f.settle(names)
	torn := make(map[int]api.Torn, len(w.L))
	for _, t := range w.L {
		if _, there := torn[t.File]; !there {
			torn[t.File] = t
		}
	}
	f.used = 0
	for n, x := range f.files {
		x.tear(torn[n])
		f.used += len(x.bytes)
	}
	f.dead = false
	f.armed = 0
}

// tear leaves of the file what was safe, and of what waits what t says.
func (x *file) tear(t api.Torn) {
	waits := x.waits
	x.gone = false
	x.bytes = x.safe
	whole := within(t.Writes, len(waits))
	for _, w := range waits[:whole] {
		x.do(w)
	}
	if whole < len(waits) && !waits[whole].cut {
		next := waits[whole]
		x.do(write{at: next.at, p: next.p[:within(t.Bytes, len(next.p))]})
	}
	x.settle()
}

// within is n, or the nearer end of 0 to most.
func within(n, most int) int {
	return max(0, min(n, most))
}

// Arm: P2.9.
func (f *FS) Arm(n int) {
	if f == nil {
		return
	}
	f.armed = max(n, 0)
	f.dead = f.dead || n == 0
}

// Dead: P2.9.
func (f *FS) Dead() bool {
	return f != nil && f.dead
}

// Ops: P2.9.
func (f *FS) Ops() int {
	if f == nil {
		return 0
	}
	return f.ops
}

// count counts an operation that is done: it may be the last one that power is there for.
func (f *FS) count() {
	f.ops++
	if f.armed > 0 {
		f.armed--
		f.dead = f.armed == 0
	}
}

// Capacity: P2.10.
func (f *FS) Capacity() int {
	if f == nil {
		return 0
	}
	return f.capacity
}

// SetCapacity: P2.10.
func (f *FS) SetCapacity(n int) api.Errno {
	switch {
	case f == nil:
		return api.ErrNone
	case n < 0 || n > api.MaxCapacity:
		return api.ErrArg
	}
	f.capacity = n
	return api.OK
}

// Copy: P2.10.
func (f *FS) Copy() *FS {
	if f == nil {
		return nil
	}
	g := *f
	g.files = make(map[int]*file, len(f.files))
	for n, x := range f.files {
		g.files[n] = x.twin()
	}
	g.names = maps.Clone(f.names)
	g.safe = maps.Clone(f.safe)
	g.changes = slices.Clone(f.changes)
	return &g
}

// twin shares the bytes of the writes that wait: nobody writes over those.
func (x *file) twin() *file {
	return &file{gone: x.gone, bytes: slices.Clone(x.bytes), safe: slices.Clone(x.safe), waits: slices.Clone(x.waits)}
}

// Same: P2.10.
func Same(a, b *FS) bool {
	if a == nil || b == nil {
		return a == b
	}
	return sameFiles(a, a.names, b, b.names) && sameFiles(a, a.safe, b, b.safe) && slices.EqualFunc(a.changes, b.changes, sameChange)
}

// sameChange asks not for the number of a file: it has no part.
func sameChange(a, b change) bool {
	return a.from == b.from && a.to == b.to
}

// sameFiles asks whether a and b have the same under those names.
func sameFiles(a *FS, named map[string]int, b *FS, others map[string]int) bool {
	if len(named) != len(others) {
		return false
	}
	for name, n := range named {
		m, there := others[name]
		if !there || !sameFile(a.files[n], b.files[m]) {
			return false
		}
	}
	return true
}

func sameFile(x, y *file) bool {
	return bytes.Equal(x.bytes, y.bytes) && bytes.Equal(x.safe, y.safe) && slices.EqualFunc(x.waits, y.waits, sameWrite)
}

func sameWrite(a, b write) bool {
	return a.cut == b.cut && a.at == b.at && bytes.Equal(a.p, b.p)
}
