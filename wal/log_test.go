package wal_test

import (
	"strconv"
	"strings"
	"testing"

	"quiver/api"
	"quiver/simfs"
	"quiver/wal"
)

// append1 appends a record, which gets that number.
func append1(t *testing.T, l *wal.Log, want uint64, load ...string) {
	t.Helper()
	var lists [][]byte
	for _, s := range load {
		lists = append(lists, []byte(s))
	}
	n, e := l.Append(lists...)
	is(t, "append", e, api.OK)
	is(t, "append", n, want)
}

// three is a log of the files 1 (a, b), 3 (c), and 4 (d, which is not synced).
func three(t *testing.T, f *simfs.FS) *wal.Log {
	t.Helper()
	l, _ := opened(t, f, "log")
	append1(t, l, 1, "a")
	append1(t, l, 2, "b")
	is(t, "rotate", l.Rotate(), api.OK)
	append1(t, l, 3, "c")
	is(t, "rotate", l.Rotate(), api.OK)
	append1(t, l, 4, "d")
	tells(t, "three", l, 5, 3, 1, 3, 4)
	return l
}

// stopped asks whether a log answers ErrStops to all, and does nothing, when the power is on again, too.
func stopped(t *testing.T, l *wal.Log, f *simfs.FS) {
	t.Helper()
	is(t, "Stopped", l.Stopped(), true)
	for range 2 {
		before := f.Copy()
		for _, load := range []string{"", "x", strings.Repeat("x", api.MaxRecord+1)} {
			n, e := l.Append([]byte(load))
			is(t, "append", n, 0)
			is(t, "append", e, api.ErrStops)
		}
		is(t, "sync", l.Sync(), api.ErrStops)
		is(t, "rotate", l.Rotate(), api.ErrStops)
		for _, seq := range []uint64{0, l.Next() - 1, l.Next(), greatest} {
			is(t, "trim", l.Trim(seq), api.ErrStops)
		}
		is(t, "Stopped", l.Stopped(), true)
		is(t, "nothing is done", simfs.Same(f, before), true)
		is(t, "nothing is done", f.Ops(), before.Ops())
		f.Crash(api.Wreck{Dir: 9})
	}
}

// TestExamples: the chapter's examples.
func TestExamples(t *testing.T) {
	is(t, "name", wal.Name("log", 7), "log.00000000000000000007")
	f := disk(t)
	l, _ := opened(t, f, "log")
	same(t, "files", l.Files(), names(1))
	append1(t, l, 1, "a")
	append1(t, l, 2, "b", "c")
	is(t, "sync", l.Sync(), api.OK)
	is(t, "synced", l.Synced(), 2)
	f.Crash(api.Wreck{})
	l, r := opened(t, f, "log")
	are(t, "open", r, 1, "a", "bc")
	append1(t, l, 3, "d")
	f.Crash(api.Wreck{L: []api.Torn{{File: 1, Bytes: 5}}})
	is(t, "torn", len(content(t, f, names(1)[0])), len(laid(1, "a", "bc"))+5)
	_, r = opened(t, f, "log")
	are(t, "open", r, 1, "a", "bc")
	is(t, "cut", content(t, f, names(1)[0]), laid(1, "a", "bc"))
}

// TestAppend: P13.4, and P13.2: what a file has.
func TestAppend(t *testing.T) {
	f := disk(t)
	l, _ := opened(t, f, "log")
	name := names(1)[0]
	before := f.Ops()
	append1(t, l, 1)
	append1(t, l, 2, "")
	append1(t, l, 3, "ab", "", "c")
	append1(t, l, 4, strings.Repeat("x", api.MaxRecord-2), "y", "z")
	long := strings.Repeat("x", api.MaxRecord-2) + "yz"
	is(t, "the file", content(t, f, name), laid(1, "", "", "abc", long))
	is(t, "one append each", f.Ops()-before, 4)
	is(t, "nothing is synced", f.Waiting(1), 4)
	tells(t, "all", l, 5, 0, 1)
	for next := uint64(5); next < 140; next++ {
		append1(t, l, next, "n")
	}
	r, end := wal.Scan([]byte(content(t, f, name)), 1)
	is(t, "records", len(r), 139)
	is(t, "records", end, len(content(t, f, name)))
	is(t, "a number of two bytes", strings.HasSuffix(content(t, f, name), record(139, "n")), true)
}

// TestAppendLong: P13.4: ErrLong leaves all as it was.
func TestAppendLong(t *testing.T) {
	f := disk(t)
	l, _ := opened(t, f, "log")
	append1(t, l, 1, "a")
	before := f.Copy()
	most := []byte(strings.Repeat("x", api.MaxRecord))
	for _, load := range [][][]byte{{append(most, 0)}, {most, {0}}, {{0}, most}, {{0}, nil, most[1:], {0}}, {most, most}} {
		n, e := l.Append(load...)
		is(t, "long", n, 0)
		is(t, "long", e, api.ErrLong)
	}
	is(t, "as it was", simfs.Same(f, before), true)
	tells(t, "as it was", l, 2, 0, 1)
	is(t, "not stopped", l.Stopped(), false)
	f.Arm(0)
	_, e := l.Append(most, most)
	is(t, "ahead of the file's error", e, api.ErrLong)
	is(t, "not stopped", l.Stopped(), false)
}

// TestAppendFull: P13.4: ErrFull leaves all as it was.
func TestAppendFull(t *testing.T) {
	f := disk(t)
	l, _ := opened(t, f, "log")
	append1(t, l, 1, "a")
	f.SetCapacity(f.Used() + len(record(2, "abc")) - 1)
	before := f.Copy()
	for range 3 {
		n, e := l.Append([]byte("abc"))
		is(t, "full", n, 0)
		is(t, "full", e, api.ErrFull)
	}
	is(t, "as it was", simfs.Same(f, before), true)
	tells(t, "as it was", l, 2, 0, 1)
	is(t, "not stopped", l.Stopped(), false)
	append1(t, l, 2, "ab")
	is(t, "sync needs no room", l.Sync(), api.OK)
	is(t, "rotate needs no room", l.Rotate(), api.OK)
	_, e := l.Append()
	is(t, "full", e, api.ErrFull)
	is(t, "trim", l.Trim(2), api.OK)
	append1(t, l, 3, "abc")
	tells(t, "room again", l, 4, 2, 3)
	_, r := opened(t, f, "log")
	are(t, "opened again", r, 3, "abc")
}

// TestAppendStops: P13.4: any other error stops the log.
func TestAppendStops(t *testing.T) {
	f := disk(t)
	l := three(t, f)
	f.Arm(1)
	append1(t, l, 5, "e")
	n, e := l.Append([]byte("f"))
	is(t, "no power", n, 0)
	is(t, "no power", e, api.ErrDead)
	tells(t, "as it was", l, 6, 3, 1, 3, 4)
	stopped(t, l, f)
	f = disk(t)
	l = three(t, f)
	is(t, "remove", f.Remove(names(4)[0]), api.OK)
	n, e = l.Append([]byte("e"))
	is(t, "the file is gone", n, 0)
	is(t, "the file is gone", e, api.ErrNone)
	stopped(t, l, f)
}

// TestSync: P13.5.
func TestSync(t *testing.T) {
	f := disk(t)
	l, _ := opened(t, f, "log")
	is(t, "nothing to sync", l.Sync(), api.OK)
	tells(t, "nothing to sync", l, 1, 0, 1)
	append1(t, l, 1, "a")
	append1(t, l, 2, "b")
	tells(t, "not synced", l, 3, 0, 1)
	before := f.Ops()
	is(t, "sync", l.Sync(), api.OK)
	tells(t, "synced", l, 3, 2, 1)
	is(t, "one sync", f.Ops()-before, 1)
	is(t, "nothing waits", f.Waiting(1), 0)
	append1(t, l, 3, "c")
	tells(t, "one more", l, 4, 2, 1)
	f.Crash(api.Wreck{})
	l, r := opened(t, f, "log")
	are(t, "behind a crash", r, 1, "a", "b")
	tells(t, "behind a crash", l, 3, 2, 1)
}

// TestSyncStops: P13.5: an error stops the log.
func TestSyncStops(t *testing.T) {
	f := disk(t)
	l := three(t, f)
	f.Arm(0)
	is(t, "no power", l.Sync(), api.ErrDead)
	tells(t, "as it was", l, 5, 3, 1, 3, 4)
	stopped(t, l, f)
	f = disk(t)
	l = three(t, f)
	is(t, "remove", f.Remove(names(4)[0]), api.OK)
	is(t, "the file is gone", l.Sync(), api.ErrNone)
	stopped(t, l, f)
}

// TestRotate: P13.6.
func TestRotate(t *testing.T) {
	f := disk(t)
	l, _ := opened(t, f, "log")
	before := f.Ops()
	is(t, "no record", l.Rotate(), api.OK)
	tells(t, "no record", l, 1, 0, 1)
	is(t, "nothing is done", f.Ops(), before)
	append1(t, l, 1, "a")
	append1(t, l, 2, "b")
	before = f.Ops()
	is(t, "rotate", l.Rotate(), api.OK)
	tells(t, "rotate", l, 3, 2, 1, 3)
	is(t, "synced, created, the directory synced", f.Ops()-before, 3)
	is(t, "nothing waits", f.Waiting(1)+f.Waiting(2)+f.WaitingDir(), 0)
	is(t, "no record", l.Rotate(), api.OK)
	tells(t, "no record", l, 3, 2, 1, 3)
	is(t, "nothing is done", f.Ops()-before, 3)
	append1(t, l, 3, "c")
	is(t, "the first file", content(t, f, names(1)[0]), laid(1, "a", "b"))
	is(t, "the second file", content(t, f, names(3)[0]), laid(3, "c"))
	is(t, "sync", l.Sync(), api.OK)
	is(t, "rotate what is synced", l.Rotate(), api.OK)
	tells(t, "rotate", l, 4, 3, 1, 3, 4)
	f.Crash(api.Wreck{})
	l, r := opened(t, f, "log")
	are(t, "behind a crash", r, 1, "a", "b", "c")
	tells(t, "behind a crash", l, 4, 3, 1, 3, 4)
	before = f.Ops()
	is(t, "no record", l.Rotate(), api.OK)
	is(t, "nothing is done", f.Ops(), before)
	f.Arm(0)
	is(t, "without power, too", l.Rotate(), api.OK)
	is(t, "not stopped", l.Stopped(), false)
}

// TestRotateMany: P13.6: ErrMany leaves the log with the file that it had, all of it synced.
func TestRotateMany(t *testing.T) {
	f := disk(t)
	l := three(t, f)
	for i := len(f.List()); i < api.MaxFiles; i++ {
		_, e := f.Create("other." + strconv.Itoa(i))
		is(t, "create", e, api.OK)
	}
	is(t, "many", l.Rotate(), api.ErrMany)
	tells(t, "synced", l, 5, 4, 1, 3, 4)
	is(t, "synced", f.Waiting(number(t, f, 4)), 0)
	is(t, "not stopped", l.Stopped(), false)
	append1(t, l, 5, "e")
	is(t, "many", l.Rotate(), api.ErrMany)
	is(t, "trim makes room", l.Trim(2), api.OK)
	is(t, "rotate", l.Rotate(), api.OK)
	tells(t, "rotate", l, 6, 5, 3, 4, 6)
}

// TestRotateStops: P13.6: any other error stops the log; its Files are as they were.
func TestRotateStops(t *testing.T) {
	for armed, synced := range []uint64{3, 4, 4} {
		for dir := range 2 {
			f := disk(t)
			l := three(t, f)
			f.Arm(armed)
			is(t, "no power", l.Rotate(), api.ErrDead)
			tells(t, "as it was", l, 5, synced, 1, 3, 4)
			g := f.Copy()
			g.Crash(api.Wreck{Dir: dir})
			wantLoads := []string{"a", "b", "c", "d"}[:synced]
			again, r := opened(t, g, "log")
			are(t, "behind a crash", r, 1, wantLoads...)
			if armed == 2 && dir == 1 {
				tells(t, "behind a crash", again, 5, 4, 1, 3, 4, 5)
			} else {
				tells(t, "behind a crash", again, synced+1, synced, 1, 3, 4)
			}
			stopped(t, l, f)
		}
	}
	f := disk(t)
	l := three(t, f)
	f.Arm(3)
	is(t, "power for just all", l.Rotate(), api.OK)
	tells(t, "rotate", l, 5, 4, 1, 3, 4, 5)
	f = disk(t)
	l = three(t, f)
	put(t, f, names(5)[0], "")
	is(t, "the file is there", l.Rotate(), api.ErrThere)
	tells(t, "as it was", l, 5, 4, 1, 3, 4)
	stopped(t, l, f)
	f = disk(t)
	l = three(t, f)
	is(t, "remove", f.Remove(names(4)[0]), api.OK)
	is(t, "the file is gone", l.Rotate(), api.ErrNone)
	tells(t, "as it was", l, 5, 3, 1, 3, 4)
	stopped(t, l, f)
}

// TestTrim: P13.6.
func TestTrim(t *testing.T) {
	all := []uint64{1, 3, 4}
	for seq, gone := range []int{0, 0, 1, 2, 2} {
		f := disk(t)
		l := three(t, f)
		before := f.Ops()
		is(t, "trim", l.Trim(uint64(seq)), api.OK)
		tells(t, "trim", l, 5, 3, all[gone:]...)
		same(t, "removed", f.List(), names(all[gone:]...))
		ops := gone
		if gone > 0 {
			ops++
		}
		is(t, "removed, and the directory synced, if there was one", f.Ops()-before, ops)
		is(t, "safe", f.WaitingDir(), 0)
		is(t, "the last file is not synced", f.Waiting(number(t, f, 4)), 1)
		is(t, "trim again", l.Trim(uint64(seq)), api.OK)
		is(t, "nothing is done", f.Ops()-before, ops)
		append1(t, l, 5, "e")
		_, r := opened(t, f, "log")
		are(t, "opened again", r, all[gone], []string{"a", "b", "c", "d", "e"}[all[gone]-1:]...)
	}
}

// TestTrimArg: P13.6: seq is Next or above.
func TestTrimArg(t *testing.T) {
	f := disk(t)
	l := three(t, f)
	before := f.Copy()
	for _, seq := range []uint64{5, 6, 1 << 63, greatest} {
		is(t, "trim", l.Trim(seq), api.ErrArg)
	}
	is(t, "as it was", simfs.Same(f, before), true)
	tells(t, "as it was", l, 5, 3, 1, 3, 4)
	is(t, "not stopped", l.Stopped(), false)
	f.Arm(0)
	is(t, "ahead of the files' errors", l.Trim(5), api.ErrArg)
	is(t, "nothing is to be removed", l.Trim(1), api.OK)
	is(t, "not stopped", l.Stopped(), false)
	l, _ = opened(t, disk(t), "log")
	is(t, "no record", l.Trim(1), api.ErrArg)
	is(t, "no record", l.Trim(0), api.OK)
	l, _ = opened(t, holds(t, map[uint64]string{9: "", 900: ""}), "other")
	is(t, "another log", l.Trim(1), api.ErrArg)
}

// TestTrimSteps: P13.6: the first file is removed first; an error stops the log.
func TestTrimSteps(t *testing.T) {
	all := []uint64{1, 3, 4}
	for armed := range 3 {
		for dir := range 3 {
			f := disk(t)
			l := three(t, f)
			is(t, "sync", l.Sync(), api.OK)
			f.Arm(armed)
			is(t, "no power", l.Trim(3), api.ErrDead)
			is(t, "what is removed is the log's no more", l.First(), all[armed])
			g := f.Copy()
			g.Crash(api.Wreck{Dir: dir})
			same(t, "removed so far", g.List(), names(all[min(armed, dir):]...))
			_, r := opened(t, g, "log")
			are(t, "behind a crash", r, all[min(armed, dir)], []string{"a", "b", "c", "d"}[all[min(armed, dir)]-1:]...)
			stopped(t, l, f)
		}
	}
	f := disk(t)
	l := three(t, f)
	f.Arm(3)
	is(t, "power for just all", l.Trim(3), api.OK)
	tells(t, "trim", l, 5, 3, 4)
	f = disk(t)
	l = three(t, f)
	is(t, "remove", f.Remove(names(3)[0]), api.OK)
	is(t, "a file is gone", l.Trim(3), api.ErrNone)
	stopped(t, l, f)
}

// TestRound: P13.2, P13.6: behind the greatest number comes 0, and no record above seq is taken away.
func TestRound(t *testing.T) {
	f := holds(t, map[uint64]string{greatest - 1: ""})
	l, _ := opened(t, f, "log")
	tells(t, "open", l, greatest-1, greatest-2, greatest-1)
	append1(t, l, greatest-1, "a")
	append1(t, l, greatest, "b")
	is(t, "seq is Next or above", l.Trim(0), api.ErrArg)
	append1(t, l, 0, "c")
	is(t, "sync", l.Sync(), api.OK)
	tells(t, "round", l, 1, 0, greatest-1)
	l, r := opened(t, f, "log")
	are(t, "opened again", r, greatest-1, "a", "b", "c")
	tells(t, "opened again", l, 1, 0, greatest-1)
	is(t, "rotate", l.Rotate(), api.OK)
	append1(t, l, 1, "d")
	is(t, "trim", l.Trim(1), api.OK)
	tells(t, "records above seq", l, 2, 0, greatest-1, 1)
}

// TestTells: P13.7: each call answers names of its own, and what is kept hangs on none.
func TestTells(t *testing.T) {
	f := disk(t)
	l := three(t, f)
	files := l.Files()
	files = append(files[:1], "x", "y", "z")
	files[0] = "w"
	tells(t, "three", l, 5, 3, 1, 3, 4)
	is(t, "Stopped", l.Stopped(), false)
	f.Crash(api.Wreck{})
	l, _ = opened(t, f, "log")
	tells(t, "behind a crash", l, 4, 3, 1, 3, 4)
}

// TestNil: P13.7.
func TestNil(t *testing.T) {
	var l *wal.Log
	for _, load := range []string{"", "x", strings.Repeat("x", api.MaxRecord+1)} {
		n, e := l.Append([]byte(load))
		is(t, "append", n, 0)
		is(t, "append", e, api.ErrNone)
	}
	is(t, "sync", l.Sync(), api.ErrNone)
	is(t, "rotate", l.Rotate(), api.ErrNone)
	is(t, "trim", l.Trim(0), api.ErrNone)
	is(t, "trim", l.Trim(greatest), api.ErrNone)
	is(t, "Next", l.Next(), 0)
	is(t, "Synced", l.Synced(), 0)
	is(t, "First", l.First(), 0)
	is(t, "Files", len(l.Files()), 0)
	is(t, "Stopped", l.Stopped(), false)
}
