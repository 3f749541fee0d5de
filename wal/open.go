package wal

import (
	"quiver/api"
	"quiver/simfs"
)

// Open is the log of that name, and all records that it has: P13.3.
func Open(f *simfs.FS, base string) (*Log, []api.Record, api.Errno) {
	if f == nil {
		return nil, nil, api.ErrNone
	}
	l := &Log{disk: f, base: base}
	firsts := found(f, base)
	if len(firsts) == 0 {
		if e := l.begin(1); e != api.OK {
			return nil, nil, e
		}
		l.next = 1
		return l, nil, api.OK
	}
	records, e := l.takeOver(firsts)
	if e != api.OK {
		return nil, nil, e
	}
	l.synced = l.next - 1
	return l, records, api.OK
}

// found is the numbers of the files that are a log's, rising as their names do.
func found(f *simfs.FS, base string) []uint64 {
	var firsts []uint64
	for _, name := range f.List() {
		if first, is := Parse(base, name); is {
			firsts = append(firsts, first)
		}
	}
	return firsts
}

// takeOver makes the files of these numbers the log's, up to the first one that is torn, and tells their records.
func (l *Log) takeOver(firsts []uint64) ([]api.Record, api.Errno) {
	var records []api.Record
	l.next = firsts[0]
	for i, first := range firsts {
		file, p, e := content(l.disk, Name(l.base, first))
		if e != api.OK {
			return nil, e
		}
		if first == 0 || first != l.next {
			return nil, api.ErrLog
		}
		more, end := Scan(p, first)
		records = append(records, more...)
		l.firsts = append(l.firsts, first)
		l.file = file
		l.next += uint64(len(more))
		if end < len(p) {
			return records, l.endAt(end, firsts[i+1:])
		}
	}
	return records, api.OK
}

// content is the file of that name, and its bytes.
func content(f *simfs.FS, name string) (int, []byte, api.Errno) {
	file, e := f.Open(name)
	if e != api.OK {
		return 0, nil, e
	}
	size, e := f.Size(file)
	if e != api.OK {
		return 0, nil, e
	}
	p, e := f.Read(file, 0, size)
	return file, p, e
}

// endAt lets the log end at a place of its last file: what is behind it, and the files behind that one, would else be read as what is appended later.
func (l *Log) endAt(at int, behind []uint64) api.Errno {
	if e := l.disk.Cut(l.file, at); e != api.OK {
		return e
	}
	if e := l.disk.Sync(l.file); e != api.OK || len(behind) == 0 {
		return e
	}
	for i := len(behind) - 1; i >= 0; i-- {
		if e := l.disk.Remove(Name(l.base, behind[i])); e != api.OK {
			return e
		}
	}
	return l.disk.SyncDir()
}
