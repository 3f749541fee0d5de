package simfs

import (
	"slices"

	"quiver/api"
)

// file is what a file holds now, what of it is safe, and what was done between.
type file struct {
	gone   bool // it has no name
	bytes  []byte
	safe   []byte
	shared bool // bytes has a part that safe has, too: within it nothing may be written over
	waits  []write
}

// write is what was done to a file: p stands from at on, or, if it is a cut, no more than at bytes are left.
type write struct {
	cut bool
	at  int
	p   []byte
}

// Write: P2.4.
func (f *FS) Write(file, at int, p []byte) api.Errno {
	x, e := f.find(file)
	if e != api.OK {
		return e
	}
	return f.put(x, at, p)
}

// Append: P2.4.
func (f *FS) Append(file int, p []byte) api.Errno {
	x, e := f.find(file)
	if e != api.OK {
		return e
	}
	return f.put(x, len(x.bytes), p)
}

// Cut: P2.4.
func (f *FS) Cut(file, size int) api.Errno {
	x, e := f.find(file)
	if e != api.OK {
		return e
	}
	if size < 0 || size > len(x.bytes) {
		return api.ErrArg
	}
	f.alter(x, write{cut: true, at: size})
	return api.OK
}

// Read: P2.5.
func (f *FS) Read(file, at, n int) ([]byte, api.Errno) {
	x, e := f.find(file)
	if e != api.OK {
		return nil, e
	}
	if at < 0 || at > len(x.bytes) || n < 0 {
		return nil, api.ErrArg
	}
	return slices.Clone(x.bytes[at:][:min(n, len(x.bytes)-at)]), api.OK
}

// Size: P2.5.
func (f *FS) Size(file int) (int, api.Errno) {
	x, e := f.find(file)
	if e != api.OK {
		return 0, e
	}
	return len(x.bytes), api.OK
}

// Sync: P2.7.
func (f *FS) Sync(file int) api.Errno {
	x, e := f.find(file)
	if e != api.OK {
		return e
	}
	x.settle()
	f.count()
	return api.OK
}

// Waiting: P2.7.
func (f *FS) Waiting(file int) int {
	if f == nil {
		return 0
	}
	x := f.named(file)
	if x == nil {
		return 0
	}
	return len(x.waits)
}

// find is the file of that number, while the power is on.
func (f *FS) find(file int) (*file, api.Errno) {
	if e := f.ready(); e != api.OK {
		return nil, e
	}
	x := f.named(file)
	if x == nil {
		return nil, api.ErrNone
	}
	return x, api.OK
}

// named is the file of that number, if it has a name.
func (f *FS) named(number int) *file {
	x := f.files[number]
	if x == nil || x.gone {
		return nil
	}
	return x
}

func (f *FS) put(x *file, at int, p []byte) api.Errno {
	if at < 0 || at > len(x.bytes) {
		return api.ErrArg
	}
	more := at + len(p) - len(x.bytes)
	if more > 0 && f.used+more > f.capacity {
		return api.ErrFull
	}
	f.alter(x, write{at: at, p: slices.Clone(p)})
	return api.OK
}

// alter is an operation upon a file's bytes: it waits till the file is synced.
func (f *FS) alter(x *file, w write) {
	f.used -= len(x.bytes)
	x.do(w)
	f.used += len(x.bytes)
	x.waits = append(x.waits, w)
	f.count()
}

// do does a write, or a cut. Behind a cut the bytes have no spare room, for what stands there may be safe: what is appended goes elsewhere.
func (x *file) do(w write) {
	if w.cut {
		x.bytes = x.bytes[:w.at:w.at]
		return
	}
	over := min(len(w.p), len(x.bytes)-w.at)
	if over > 0 && x.shared {
		x.bytes = slices.Clone(x.bytes)
		x.shared = false
	}
	copy(x.bytes[w.at:], w.p[:over])
	x.bytes = append(x.bytes, w.p[over:]...)
}

// settle makes safe what the file holds. The spare room behind stays that of bytes alone.
func (x *file) settle() {
	x.safe = x.bytes[:len(x.bytes):len(x.bytes)]
	x.shared = true
	x.waits = nil
}
