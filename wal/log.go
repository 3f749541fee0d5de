package wal

import (
	"quiver/api"
	"quiver/simfs"
)

// Log is records in files. All files but the last one have records, and are synced.
type Log struct {
	disk    *simfs.FS
	base    string
	firsts  []uint64 // the numbers in the files' names, in order
	file    int      // the last file, as the disk numbers it
	next    uint64
	synced  uint64
	stopped bool
}

// Append writes a record behind all others: P13.4.
func (l *Log) Append(load ...[]byte) (uint64, api.Errno) {
	if e := l.ready(); e != api.OK {
		return 0, e
	}
	frame, e := seal(l.next, load)
	if e != api.OK {
		return 0, e
	}
	switch e = l.disk.Append(l.file, frame); e {
	case api.OK:
		l.next++
		return l.next - 1, api.OK
	case api.ErrFull:
		return 0, e
	}
	return 0, l.stop(e)
}

// Sync makes all records safe: P13.5.
func (l *Log) Sync() api.Errno {
	if e := l.ready(); e != api.OK {
		return e
	}
	if e := l.disk.Sync(l.file); e != api.OK {
		return l.stop(e)
	}
	l.synced = l.next - 1
	return api.OK
}

// Rotate begins a new file: P13.6. The old one is synced ahead of it, so that none but the last file is ever torn.
func (l *Log) Rotate() api.Errno {
	if e := l.ready(); e != api.OK {
		return e
	}
	if l.next == l.firsts[len(l.firsts)-1] {
		return api.OK
	}
	if e := l.Sync(); e != api.OK {
		return e
	}
	e := l.begin(l.next)
	if e == api.OK || e == api.ErrFull || e == api.ErrMany {
		return e
	}
	return l.stop(e)
}

// Trim takes files away of which no record is above seq: P13.6. A file that is removed is the log's no more, even if the power then fails.
func (l *Log) Trim(seq uint64) api.Errno {
	if e := l.ready(); e != api.OK {
		return e
	}
	if seq >= l.next {
		return api.ErrArg
	}
	before := len(l.firsts)
	for l.over(seq) {
		if e := l.disk.Remove(Name(l.base, l.firsts[0])); e != api.OK {
			return l.stop(e)
		}
		l.firsts = l.firsts[1:]
	}
	if len(l.firsts) == before {
		return api.OK
	}
	if e := l.disk.SyncDir(); e != api.OK {
		return l.stop(e)
	}
	return api.OK
}

// over tells whether the first file is not the last one, and has no record above seq. (Behind the greatest number comes 0: its last record may have the least one.)
func (l *Log) over(seq uint64) bool {
	if len(l.firsts) < 2 {
		return false
	}
	last := l.firsts[1] - 1
	return l.firsts[0] <= last && last <= seq
}

// Next is the number that the next record has: P13.7.
func (l *Log) Next() uint64 {
	if l == nil {
		return 0
	}
	return l.next
}

// Synced is the number of the last record that is safe: P13.7.
func (l *Log) Synced() uint64 {
	if l == nil {
		return 0
	}
	return l.synced
}

// First is the number of the first file: P13.7.
func (l *Log) First() uint64 {
	if l == nil {
		return 0
	}
	return l.firsts[0]
}

// Files is the names of the files, in order: P13.7.
func (l *Log) Files() []string {
	if l == nil {
		return nil
	}
	names := make([]string, len(l.firsts))
	for i, first := range l.firsts {
		names[i] = Name(l.base, first)
	}
	return names
}

// Stopped tells whether the log has met an error of its files: P13.7.
func (l *Log) Stopped() bool {
	return l != nil && l.stopped
}

// ready tells why nothing can be done.
func (l *Log) ready() api.Errno {
	switch {
	case l == nil:
		return api.ErrNone
	case l.stopped:
		return api.ErrStops
	}
	return api.OK
}

// stop is for good: what the files have, nobody knows till they are opened again.
func (l *Log) stop(e api.Errno) api.Errno {
	l.stopped = true
	return e
}

// begin makes a new file the last one, if its name is safe.
func (l *Log) begin(first uint64) api.Errno {
	file, e := l.disk.Create(Name(l.base, first))
	if e != api.OK {
		return e
	}
	if e = l.disk.SyncDir(); e != api.OK {
		return e
	}
	l.firsts = append(l.firsts, first)
	l.file = file
	return api.OK
}
