package wal_test

import (
	"slices"
	"strconv"
	"testing"

	"quiver/api"
	"quiver/simfs"
	"quiver/wal"
)

func disk(t *testing.T) *simfs.FS {
	t.Helper()
	f, e := simfs.New(1 << 24)
	is(t, "disk", e, api.OK)
	return f
}

// put makes a file of these bytes; all is safe.
func put(t *testing.T, f *simfs.FS, name, p string) {
	t.Helper()
	n, e := f.Create(name)
	is(t, "put", e, api.OK)
	is(t, "put", f.Append(n, []byte(p)), api.OK)
	is(t, "put", f.Sync(n), api.OK)
	is(t, "put", f.SyncDir(), api.OK)
}

// holds is a disk with a log's files of these bytes.
func holds(t *testing.T, files map[uint64]string) *simfs.FS {
	t.Helper()
	f := disk(t)
	for first, p := range files {
		put(t, f, wal.Name("log", first), p)
	}
	return f
}

func opened(t *testing.T, f *simfs.FS, base string) (*wal.Log, []api.Record) {
	t.Helper()
	l, r, e := wal.Open(f, base)
	is(t, "open", e, api.OK)
	is(t, "open", l.Stopped(), false)
	return l, r
}

// refused asks for an error of Open.
func refused(t *testing.T, what string, f *simfs.FS, base string, want api.Errno) {
	t.Helper()
	l, r, e := wal.Open(f, base)
	is(t, what, e, want)
	is(t, what, l, nil)
	is(t, what, r == nil, true)
}

// content is all that the file of that name has.
func content(t *testing.T, f *simfs.FS, name string) string {
	t.Helper()
	n, e := f.Open(name)
	is(t, "content", e, api.OK)
	p, e := f.Read(n, 0, 1<<30)
	is(t, "content", e, api.OK)
	return string(p)
}

func names(firsts ...uint64) []string {
	var l []string
	for _, first := range firsts {
		l = append(l, wal.Name("log", first))
	}
	return l
}

// tells asks for all that a log tells.
func tells(t *testing.T, what string, l *wal.Log, next, synced uint64, firsts ...uint64) {
	t.Helper()
	is(t, what+": Next", l.Next(), next)
	is(t, what+": Synced", l.Synced(), synced)
	is(t, what+": First", l.First(), firsts[0])
	same(t, what+": Files", l.Files(), names(firsts...))
}

// TestOpenNew: P13.3: there was no log.
func TestOpenNew(t *testing.T) {
	f := disk(t)
	l, r := opened(t, f, "log")
	is(t, "no records", len(r), 0)
	tells(t, "new", l, 1, 0, 1)
	same(t, "the file", f.List(), names(1))
	is(t, "created, and the directory synced", f.Ops(), 2)
	is(t, "the directory is synced", f.WaitingDir(), 0)
	f.Crash(api.Wreck{})
	same(t, "the name is safe", f.List(), names(1))
	l, r = opened(t, f, "log")
	is(t, "no records", len(r), 0)
	tells(t, "again", l, 1, 0, 1)
	is(t, "nothing more is done", f.Ops(), 2)
}

// TestOpenThere: P13.3: files that are whole are read, and nothing is done to them.
func TestOpenThere(t *testing.T) {
	for _, c := range []struct {
		files  map[uint64]string
		firsts []uint64
		first  uint64
		loads  []string
	}{
		{map[uint64]string{1: ""}, []uint64{1}, 1, nil},
		{map[uint64]string{900: ""}, []uint64{900}, 900, nil},
		{map[uint64]string{1: laid(1, "a", "", "bc")}, []uint64{1}, 1, []string{"a", "", "bc"}},
		{map[uint64]string{9: laid(9, "a", "b"), 11: laid(11, "c"), 12: ""}, []uint64{9, 11, 12}, 9, []string{"a", "b", "c"}},
		{map[uint64]string{99: laid(99, "a"), 100: laid(100, "b", "c"), 102: laid(102, "d")}, []uint64{99, 100, 102}, 99, []string{"a", "b", "c", "d"}},
		{map[uint64]string{greatest: laid(greatest, "a", "b")}, []uint64{greatest}, greatest, []string{"a", "b"}},
	} {
		f := holds(t, c.files)
		before := f.Copy()
		l, r := opened(t, f, "log")
		are(t, "records", r, c.first, c.loads...)
		next := c.first + uint64(len(c.loads))
		tells(t, "read", l, next, next-1, c.firsts...)
		is(t, "nothing is done", simfs.Same(f, before), true)
		is(t, "nothing is done", f.Ops(), before.Ops())
		n, e := l.Append([]byte("more"))
		is(t, "append", e, api.OK)
		is(t, "append", n, next)
		last := c.firsts[len(c.firsts)-1]
		is(t, "append to the last file", content(t, f, wal.Name("log", last)), c.files[last]+record(next, "more"))
	}
}

// TestOpenOthers: P13.3: files of other names are none of the log's.
func TestOpenOthers(t *testing.T) {
	f := disk(t)
	others := []string{"log", "log.1", "log.000000000000000000001", "log.99999999999999999999", "logs.00000000000000000005", "lo.00000000000000000005", ".00000000000000000005", "log.00000000000000000001.00000000000000000005", "log.0000000000000000000a"}
	for _, name := range others {
		put(t, f, name, "no records at all")
	}
	l, r := opened(t, f, "log")
	is(t, "no records", len(r), 0)
	tells(t, "new", l, 1, 0, 1)
	l.Append([]byte("a"))
	l.Sync()
	l.Rotate()
	is(t, "trim", l.Trim(1), api.OK)
	other, _, e := wal.Open(f, "other/log")
	is(t, "another log", e, api.OK)
	other.Append([]byte("b"))
	l, r = opened(t, f, "log")
	is(t, "no records", len(r), 0)
	tells(t, "one file", l, 2, 1, 2)
	for _, name := range others {
		is(t, name, content(t, f, name), "no records at all")
	}
	_, r = opened(t, f, "other/log")
	are(t, "another log", r, 1, "b")
}

// TestOpenLog: P13.3: files that are no log's stay as they are.
func TestOpenLog(t *testing.T) {
	for what, files := range map[string]map[uint64]string{
		"number 0, alone":             {0: ""},
		"number 0, with records":      {0: laid(0, "a")},
		"number 0, and the next one":  {0: laid(0, "a"), 1: laid(1, "b")},
		"number 0, torn":              {0: "torn"},
		"a file left out":             {1: laid(1, "a"), 3: laid(3, "b")},
		"a number that was there":     {1: laid(1, "a", "b"), 2: laid(2, "b")},
		"no record between":           {1: "", 2: laid(2, "a")},
		"no record, and far away":     {1: laid(1, "a"), 2: "", 9: ""},
		"the third one":               {5: laid(5, "a"), 6: laid(6, "b"), 8: ""},
		"torn, but of a wrong number": {5: laid(5, "a"), 7: laid(7, "b") + "torn"},
		"another's records":           {5: laid(5, "a"), 7: laid(6, "b")},
	} {
		f := holds(t, files)
		before := f.Copy()
		refused(t, what, f, "log", api.ErrLog)
		is(t, what, simfs.Same(f, before), true)
		is(t, what, f.Ops(), before.Ops())
		f.Arm(0)
		refused(t, what+", without power", f, "log", api.ErrDead)
	}
}

// TestOpenTorn: P13.3: what is behind the records of the last file is cut off, and the file is synced.
func TestOpenTorn(t *testing.T) {
	whole := laid(4, "ab", "c")
	for _, tail := range []string{"\x00", record(6, "xyz")[:10], record(7, "no next one"), record(4, "ab"), frame(""), "\xff\xff\xff\xff" + record(6, "d")} {
		f := holds(t, map[uint64]string{2: laid(2, "x", "y"), 4: whole + tail})
		before := f.Ops()
		l, r := opened(t, f, "log")
		are(t, "read", r, 2, "x", "y", "ab", "c")
		tells(t, "read", l, 6, 5, 2, 4)
		is(t, "cut and synced", f.Ops()-before, 2)
		is(t, "cut", content(t, f, wal.Name("log", 4)), whole)
		f.Crash(api.Wreck{})
		is(t, "synced", content(t, f, wal.Name("log", 4)), whole)
		is(t, "the other one", content(t, f, wal.Name("log", 2)), laid(2, "x", "y"))
		n, e := l.Append([]byte("new"))
		is(t, "append", e, api.OK)
		is(t, "append", n, 6)
		_, r = opened(t, f, "log")
		are(t, "what is appended is read", r, 2, "x", "y", "ab", "c", "new")
	}
	f := holds(t, map[uint64]string{3: "torn"})
	l, r := opened(t, f, "log")
	is(t, "nothing is whole", len(r), 0)
	tells(t, "nothing is whole", l, 3, 2, 3)
	is(t, "nothing is whole", content(t, f, wal.Name("log", 3)), "")
}

// behind is a disk with a log whose second file is torn, and files behind it, whole, torn, and of any numbers.
func behind(t *testing.T) *simfs.FS {
	t.Helper()
	return holds(t, map[uint64]string{
		1:        laid(1, "a", "b"),
		3:        laid(3, "c") + "torn" + laid(4, "d"),
		5:        laid(5, "e"),
		6:        "",
		70:       "torn",
		greatest: laid(greatest, "z"),
	})
}

// TestOpenBehind: P13.3: files behind one that is torn are removed, the last one first, and the directory is synced once.
func TestOpenBehind(t *testing.T) {
	f := behind(t)
	before := f.Ops()
	l, r := opened(t, f, "log")
	are(t, "read", r, 1, "a", "b", "c")
	tells(t, "read", l, 4, 3, 1, 3)
	is(t, "cut, synced, four removed, the directory synced", f.Ops()-before, 7)
	is(t, "the directory is synced", f.WaitingDir(), 0)
	same(t, "files", f.List(), names(1, 3))
	is(t, "cut", content(t, f, wal.Name("log", 3)), laid(3, "c"))
	f.Crash(api.Wreck{})
	same(t, "safe", f.List(), names(1, 3))
	is(t, "safe", content(t, f, wal.Name("log", 3)), laid(3, "c"))
	l.Append([]byte("new"))
	is(t, "a file of a number that was there", l.Rotate(), api.OK)
	tells(t, "rotated", l, 5, 4, 1, 3, 5)
	_, r = opened(t, f, "log")
	are(t, "again", r, 1, "a", "b", "c", "new")
}

// TestOpenBehindSteps: P13.3: what is done, operation by operation.
func TestOpenBehindSteps(t *testing.T) {
	left := [][]string{names(1, 3, 5, 6, 70, greatest), names(1, 3, 5, 6, 70, greatest), names(1, 3, 5, 6, 70, greatest), names(1, 3, 5, 6, 70), names(1, 3, 5, 6), names(1, 3, 5), names(1, 3)}
	for armed, want := range left {
		f := behind(t)
		f.Arm(armed)
		refused(t, "power fails", f, "log", api.ErrDead)
		f.Crash(api.Wreck{Dir: 9, L: []api.Torn{{File: number(t, f, 3), Writes: 9}}})
		same(t, "removed so far", f.List(), want)
		is(t, "cut from the first operation on", content(t, f, wal.Name("log", 3)) == laid(3, "c"), armed > 0)
	}
	for armed := range left {
		f := behind(t)
		f.Arm(armed)
		refused(t, "power fails", f, "log", api.ErrDead)
		f.Crash(api.Wreck{})
		same(t, "nothing is gone for good", f.List(), left[0])
		is(t, "safe from the second operation on", content(t, f, wal.Name("log", 3)) == laid(3, "c"), armed > 1)
	}
	f := behind(t)
	f.Arm(len(left))
	opened(t, f, "log")
}

// number is the number that the disk gives to the log's file.
func number(t *testing.T, f *simfs.FS, first uint64) int {
	t.Helper()
	g := f.Copy()
	g.Crash(api.Wreck{Dir: 9})
	n, e := g.Open(wal.Name("log", first))
	is(t, "number", e, api.OK)
	return n
}

// TestOpenErrors: P13.3.
func TestOpenErrors(t *testing.T) {
	refused(t, "nil", nil, "log", api.ErrNone)
	refused(t, "nil is told first", nil, "A", api.ErrNone)
	f := disk(t)
	long := string(slices.Repeat([]byte("a"), api.MaxFileName-20))
	for _, base := range []string{"A", "a b", "log\x00", "a:", long} {
		refused(t, "name", f, base, api.ErrName)
	}
	is(t, "nothing is created", len(f.List())+f.Ops(), 0)
	for _, base := range []string{"", long[1:], ".", "a/b"} {
		l, _ := opened(t, f, base)
		same(t, "name", l.Files(), []string{wal.Name(base, 1)})
	}
	f.Arm(0)
	refused(t, "no power", f, "log", api.ErrDead)
	refused(t, "no power is told first", f, "A", api.ErrDead)
	f.Crash(api.Wreck{})
	for i := len(f.List()); i < api.MaxFiles; i++ {
		_, e := f.Create("other." + strconv.Itoa(i))
		is(t, "create", e, api.OK)
	}
	refused(t, "too many files", f, "log", api.ErrMany)
	is(t, "a log that is there", func() api.Errno { _, _, e := wal.Open(f, "a/b"); return e }(), api.OK)
}

// TestOpenPower: P13.3: power that fails while a log is begun.
func TestOpenPower(t *testing.T) {
	for armed := range 2 {
		for dir := range 2 {
			f := disk(t)
			f.Arm(armed)
			refused(t, "within Open", f, "log", api.ErrDead)
			f.Crash(api.Wreck{Dir: dir})
			is(t, "a file, if it was created", len(f.List()), armed*dir)
			l, r := opened(t, f, "log")
			is(t, "no records", len(r), 0)
			tells(t, "again", l, 1, 0, 1)
		}
	}
}
