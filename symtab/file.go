package symtab

import (
	"quiver/api"
	"quiver/simfs"
)

// File is a table that stands in a file.
type File struct {
	*Table
	disk   *simfs.FS
	number int // of the file on the disk
}

// Open is the table that stands in the file of that name: P5.6.
func Open(f *simfs.FS, name string) (*File, api.Errno) {
	if f == nil {
		return nil, api.ErrNone
	}
	number, e := f.Open(name)
	if e == api.ErrNone {
		return create(f, name)
	}
	if e != api.OK {
		return nil, e
	}
	t, e := recovered(f, number)
	if e != api.OK {
		return nil, e
	}
	return &File{Table: t, disk: f, number: number}, api.OK
}

func create(f *simfs.FS, name string) (*File, api.Errno) {
	number, e := f.Create(name)
	if e != api.OK {
		return nil, e
	}
	if e = f.SyncDir(); e != api.OK {
		return nil, e
	}
	return &File{Table: New(), disk: f, number: number}, api.OK
}

// recovered is the table that a file has. What is torn behind its whole frames is cut off: what is added later would else never be read.
func recovered(f *simfs.FS, number int) (*Table, api.Errno) {
	size, e := f.Size(number)
	if e != api.OK {
		return nil, e
	}
	p, e := f.Read(number, 0, size)
	if e != api.OK {
		return nil, e
	}
	t, end, e := Load(p)
	if e != api.OK || end == size {
		return t, e
	}
	if e = f.Cut(number, end); e != api.OK {
		return nil, e
	}
	if e = f.Sync(number); e != api.OK {
		return nil, e
	}
	return t, api.OK
}

// Add is Intern, whose bytes go into the file: P5.7.
func (f *File) Add(l ...string) ([]int, api.Errno) {
	if f == nil {
		return nil, api.ErrNone
	}
	before := f.Len()
	numbers, e := f.give(l...)
	if e != api.OK || f.Len() == before {
		return numbers, e
	}
	if e = f.disk.Append(f.number, f.bytesFrom(before)); e != api.OK {
		f.forget(before)
		return nil, e
	}
	return numbers, api.OK
}

// Sync: P5.7.
func (f *File) Sync() api.Errno {
	if f == nil {
		return api.ErrNone
	}
	return f.disk.Sync(f.number)
}

// The calls of a Table stand here once more, for a nil File: its Table is nil, to which promotion would not get.

// Intern is the Table's. What is new then is not in the file.
func (f *File) Intern(l ...string) ([]int, []byte, api.Errno) { return f.table().Intern(l...) }

// Number is the Table's.
func (f *File) Number(s string) (int, bool) { return f.table().Number(s) }

// Symbol is the Table's.
func (f *File) Symbol(n int) (string, api.Errno) { return f.table().Symbol(n) }

// Len is the Table's.
func (f *File) Len() int { return f.table().Len() }

// All is the Table's.
func (f *File) All() []string { return f.table().All() }

// Bytes is the Table's. They are the file's, if nothing was new to Intern.
func (f *File) Bytes() []byte { return f.table().Bytes() }

// Copy is the Table's.
func (f *File) Copy() *Table { return f.table().Copy() }

// Enumerate is the Table's.
func (f *File) Enumerate(v api.V) ([]int64, api.Errno) { return f.table().Enumerate(v) }

// Vector is the Table's.
func (f *File) Vector(l []int64) (api.V, api.Errno) { return f.table().Vector(l) }

func (f *File) table() *Table {
	if f == nil {
		return nil
	}
	return f.Table
}
