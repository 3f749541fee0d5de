package simfs_test

import (
	"slices"
	"strconv"
	"strings"
	"testing"

	"quiver/api"
	"quiver/simfs"
)

// draws is a row of numbers that looks random, and is the same each time.
func draws(seed uint64) func(below int) int {
	return func(below int) int {
		seed = seed*6364136223846793005 + 1442695040888963407
		return int(seed>>33) % below
	}
}

func made(t *testing.T, capacity int) *simfs.FS {
	t.Helper()
	f, e := simfs.New(capacity)
	if e != api.OK || f == nil {
		t.Fatal(f, e)
	}
	return f
}

// with is a file system with those files, whose bytes and names are safe: a name, its bytes, and so on.
func with(t *testing.T, files ...string) *simfs.FS {
	t.Helper()
	f := made(t, 100)
	for i := 0; i < len(files); i += 2 {
		n := created(t, f, files[i])
		is(t, "append", f.Append(n, []byte(files[i+1])), api.OK)
		is(t, "sync", f.Sync(n), api.OK)
	}
	is(t, "syncdir", f.SyncDir(), api.OK)
	return f
}

func created(t *testing.T, f *simfs.FS, name string) int {
	t.Helper()
	n, e := f.Create(name)
	is(t, "create "+name, e, api.OK)
	return n
}

func is[T comparable](t *testing.T, what string, got, want T) {
	t.Helper()
	if got != want {
		t.Fatalf("%s: %v, not %v", what, got, want)
	}
}

// has asks for all names and bytes: a name, its bytes, and so on.
func has(t *testing.T, what string, f *simfs.FS, files ...string) {
	t.Helper()
	var got []string
	for _, name := range f.List() {
		n, e := f.Open(name)
		is(t, what, e, api.OK)
		p, e := f.Read(n, 0, 1<<40)
		is(t, what, e, api.OK)
		got = append(got, name, string(p))
	}
	if !slices.Equal(got, files) {
		t.Fatalf("%s: %q, not %q", what, got, files)
	}
}

// TestNew: P2.1.
func TestNew(t *testing.T) {
	for _, n := range []int{-1, api.MaxCapacity + 1, -1 << 63, 1<<63 - 1} {
		if f, e := simfs.New(n); f != nil || e != api.ErrArg {
			t.Error(n, f, e)
		}
	}
	for _, n := range []int{0, 1, api.MaxCapacity} {
		f := made(t, n)
		is(t, "capacity", f.Capacity(), n)
		is(t, "used", f.Used(), 0)
		is(t, "names", len(f.List()), 0)
		is(t, "ops", f.Ops(), 0)
		is(t, "dead", f.Dead(), false)
		is(t, "waiting", f.WaitingDir(), 0)
	}
}

// TestCheckName: P2.1.
func TestCheckName(t *testing.T) {
	for c := range 256 {
		want := api.ErrName
		if strings.IndexByte("abcdefghijklmnopqrstuvwxyz0123456789.-_/", byte(c)) >= 0 {
			want = api.OK
		}
		one := string([]byte{byte(c)})
		is(t, "byte "+strconv.Itoa(c), simfs.CheckName(one), want)
		is(t, "ahead "+strconv.Itoa(c), simfs.CheckName(one+"ab"), want)
		is(t, "behind "+strconv.Itoa(c), simfs.CheckName("ab"+one), want)
	}
	is(t, "none", simfs.CheckName(""), api.ErrName)
	is(t, "longest", simfs.CheckName(strings.Repeat("a", api.MaxFileName)), api.OK)
	is(t, "too long", simfs.CheckName(strings.Repeat("a", api.MaxFileName+1)), api.ErrName)
	is(t, "dots", simfs.CheckName("../x"), api.OK)
}

// TestFiles: P2.2.
func TestFiles(t *testing.T) {
	f := made(t, 100)
	for i, name := range []string{"b", "a/1", "_", "9", "a-1", "z.z"} {
		n := created(t, f, name)
		is(t, "number", n, i+1)
		is(t, "append", f.Append(n, make([]byte, i)), api.OK)
	}
	if l := f.List(); !slices.Equal(l, []string{"9", "_", "a-1", "a/1", "b", "z.z"}) {
		t.Error(l)
	}
	is(t, "used", f.Used(), 15)
	is(t, "remove", f.Remove("a-1"), api.OK)
	is(t, "used", f.Used(), 11)
	is(t, "a number is not given again", created(t, f, "a-1"), 7)
	is(t, "used", f.Used(), 11)
	f.Crash(api.Wreck{})
	is(t, "used behind a crash", f.Used(), 0)
	is(t, "nor behind a crash", created(t, f, "a"), 8)
	l := f.List()
	l[0] = "x"
	has(t, "a list of its own", f, "a", "")
}

// TestCreate: P2.3.
func TestCreate(t *testing.T) {
	f := made(t, 10)
	is(t, "a", created(t, f, "a"), 1)
	for name, want := range map[string]api.Errno{"": api.ErrName, "A": api.ErrName, "a": api.ErrThere, "a b": api.ErrName} {
		n, e := f.Create(name)
		is(t, "create "+name, e, want)
		is(t, "create "+name, n, 0)
	}
	for name, want := range map[string]api.Errno{"": api.ErrName, "A": api.ErrName, "b": api.ErrNone} {
		n, e := f.Open(name)
		is(t, "open "+name, e, want)
		is(t, "open "+name, n, 0)
	}
	is(t, "b", created(t, f, "b"), 2)
	n, e := f.Open("a")
	is(t, "open", n, 1)
	is(t, "open", e, api.OK)
	is(t, "what is refused waits not", f.WaitingDir(), 2)
	is(t, "nor is it an operation", f.Ops(), 2)
	has(t, "both", f, "a", "", "b", "")
}

// TestMany: P2.3.
func TestMany(t *testing.T) {
	f := made(t, 0)
	for i := range api.MaxFiles {
		created(t, f, strconv.Itoa(i))
	}
	n, e := f.Create("a")
	is(t, "a", e, api.ErrMany)
	is(t, "a", n, 0)
	_, e = f.Create("7")
	is(t, "there", e, api.ErrThere)
	_, e = f.Create("A")
	is(t, "name", e, api.ErrName)
	is(t, "remove", f.Remove("7"), api.OK)
	is(t, "a", created(t, f, "a"), api.MaxFiles+1)
}

// TestWrite: P2.4.
func TestWrite(t *testing.T) {
	f := made(t, 10)
	n := created(t, f, "a")
	p := []byte("abcd")
	is(t, "write", f.Write(n, 0, p), api.OK)
	p[0] = 'x'
	has(t, "bytes that came are not kept", f, "a", "abcd")
	has(t, "nor while they wait", crashed(f, 1, api.Torn{File: n, Writes: 1}), "a", "abcd")
	is(t, "over", f.Write(n, 1, []byte("BC")), api.OK)
	is(t, "on the edge", f.Write(n, 3, []byte("De")), api.OK)
	is(t, "at the end", f.Write(n, 5, []byte("f")), api.OK)
	is(t, "nothing", f.Write(n, 6, nil), api.OK)
	has(t, "written", f, "a", "aBCDef")
	is(t, "gap", f.Write(n, 7, nil), api.ErrArg)
	is(t, "below 0", f.Write(n, -1, []byte("a")), api.ErrArg)
	is(t, "no file", f.Write(n+1, 0, nil), api.ErrNone)
	is(t, "no file", f.Write(0, 0, nil), api.ErrNone)
	is(t, "no file ahead of no place", f.Write(-1, -1, nil), api.ErrNone)
	is(t, "too much", f.Write(n, 6, []byte("12345")), api.ErrFull)
	is(t, "too much, in part over", f.Write(n, 0, []byte("12345678901")), api.ErrFull)
	is(t, "no place ahead of too much", f.Write(n, 7, make([]byte, 99)), api.ErrArg)
	has(t, "as it was", f, "a", "aBCDef")
	is(t, "waiting", f.Waiting(n), 5)
	is(t, "just enough", f.Write(n, 5, []byte("12345")), api.OK)
	is(t, "used", f.Used(), 10)
	has(t, "full", f, "a", "aBCDe12345")
}

// TestAppend: P2.4.
func TestAppend(t *testing.T) {
	f := made(t, 5)
	a, b := created(t, f, "a"), created(t, f, "b")
	p := []byte("ab")
	is(t, "append", f.Append(a, p), api.OK)
	p[0] = 'x'
	is(t, "append", f.Append(a, nil), api.OK)
	is(t, "append", f.Append(b, []byte("cd")), api.OK)
	is(t, "full", f.Append(b, []byte("ef")), api.ErrFull)
	is(t, "append", f.Append(a, []byte("e")), api.OK)
	is(t, "full", f.Append(a, []byte("f")), api.ErrFull)
	is(t, "nothing finds room", f.Append(a, nil), api.OK)
	is(t, "none", f.Append(3, nil), api.ErrNone)
	has(t, "both", f, "a", "abe", "b", "cd")
	is(t, "waiting", f.Waiting(a), 4)
}

// TestCut: P2.4.
func TestCut(t *testing.T) {
	f := made(t, 10)
	n := created(t, f, "a")
	f.Append(n, []byte("abcdef"))
	is(t, "past the end", f.Cut(n, 7), api.ErrArg)
	is(t, "below 0", f.Cut(n, -1), api.ErrArg)
	is(t, "none", f.Cut(n+1, -1), api.ErrNone)
	is(t, "to its size", f.Cut(n, 6), api.OK)
	is(t, "cut", f.Cut(n, 2), api.OK)
	has(t, "cut", f, "a", "ab")
	is(t, "used", f.Used(), 2)
	is(t, "append", f.Append(n, []byte("X")), api.OK)
	has(t, "behind a cut", f, "a", "abX")
	is(t, "to nothing", f.Cut(n, 0), api.OK)
	has(t, "nothing", f, "a", "")
	is(t, "waiting", f.Waiting(n), 5)
}

// TestRead: P2.5.
func TestRead(t *testing.T) {
	f := with(t, "a", "abcd")
	for _, c := range []struct {
		file, at, n int
		want        string
		e           api.Errno
	}{
		{1, 0, 4, "abcd", api.OK}, {1, 1, 2, "bc", api.OK}, {1, 2, 9, "cd", api.OK}, {1, 3, 1<<63 - 1, "d", api.OK},
		{1, 4, 1, "", api.OK}, {1, 0, 0, "", api.OK}, {1, 5, 0, "", api.ErrArg}, {1, -1, 2, "", api.ErrArg},
		{1, 0, -1, "", api.ErrArg}, {2, 0, 1, "", api.ErrNone}, {0, -1, -1, "", api.ErrNone}, {-1, 0, 0, "", api.ErrNone},
	} {
		p, e := f.Read(c.file, c.at, c.n)
		if string(p) != c.want || e != c.e || e != api.OK && p != nil {
			t.Error(c, p, e)
		}
	}
	p, _ := f.Read(1, 0, 2)
	_ = append(p, 'x', 'y')
	p[0] = 'x'
	has(t, "memory of its own", f, "a", "abcd")
	for file, want := range map[int]int{1: 4, 2: 0, 0: 0, -1: 0} {
		n, e := f.Size(file)
		is(t, "size", n, want)
		is(t, "size", e == api.OK, file == 1)
		is(t, "size", e == api.ErrNone, file != 1)
	}
	is(t, "reading is no operation", f.Ops(), 4)
}

// TestRename: P2.6.
func TestRename(t *testing.T) {
	f := with(t, "a", "one", "b", "three")
	is(t, "name", f.Rename("A", ""), api.ErrName)
	is(t, "name", f.Rename("c", "B"), api.ErrName)
	is(t, "none", f.Rename("c", "a"), api.ErrNone)
	is(t, "none", f.Rename("c", "c"), api.ErrNone)
	is(t, "nothing waits", f.WaitingDir(), 0)
	is(t, "to a new name", f.Rename("a", "c"), api.OK)
	has(t, "renamed", f, "b", "three", "c", "one")
	is(t, "used", f.Used(), 8)
	is(t, "to a name that is there", f.Rename("c", "b"), api.OK)
	has(t, "renamed", f, "b", "one")
	is(t, "used", f.Used(), 3)
	n, e := f.Open("b")
	is(t, "its number", n, 1)
	is(t, "its number", e, api.OK)
	_, e = f.Size(2)
	is(t, "gone", e, api.ErrNone)
	is(t, "to its own name", f.Rename("b", "b"), api.OK)
	has(t, "as it was", f, "b", "one")
	is(t, "used", f.Used(), 3)
	is(t, "waiting", f.WaitingDir(), 3)
}

// TestRemove: P2.6.
func TestRemove(t *testing.T) {
	f := with(t, "a", "one", "b", "three")
	is(t, "name", f.Remove("A"), api.ErrName)
	is(t, "none", f.Remove("c"), api.ErrNone)
	f.Append(2, []byte("x"))
	is(t, "remove", f.Remove("b"), api.OK)
	is(t, "again", f.Remove("b"), api.ErrNone)
	has(t, "left", f, "a", "one")
	is(t, "used", f.Used(), 3)
	is(t, "waiting", f.WaitingDir(), 1)
	is(t, "a file that is gone has nothing that waits", f.Waiting(2), 0)
	for what, e := range map[string]api.Errno{"write": f.Write(2, 0, nil), "append": f.Append(2, nil), "cut": f.Cut(2, 0), "sync": f.Sync(2)} {
		is(t, what, e, api.ErrNone)
	}
	_, e := f.Read(2, 0, 0)
	is(t, "read", e, api.ErrNone)
	f.Crash(api.Wreck{L: []api.Torn{{File: 2, Writes: 1}}})
	has(t, "a crash brings it back", f, "a", "one", "b", "threex")
	is(t, "used", f.Used(), 9)
	n, e := f.Open("b")
	is(t, "its number", n, 2)
	is(t, "its number", e, api.OK)
}

// TestSync: P2.7.
func TestSync(t *testing.T) {
	f := made(t, 100)
	a, b := created(t, f, "a"), created(t, f, "b")
	is(t, "waiting", f.WaitingDir(), 2)
	f.Append(a, []byte("ab"))
	f.Append(a, nil)
	f.Cut(a, 2)
	f.Append(b, []byte("c"))
	is(t, "waiting", f.Waiting(a), 3)
	is(t, "no file", f.Waiting(3)+f.Waiting(0)+f.Waiting(-1), 0)
	is(t, "none", f.Sync(3), api.ErrNone)
	is(t, "none", f.Sync(0), api.ErrNone)
	is(t, "sync", f.Sync(a), api.OK)
	is(t, "waiting", f.Waiting(a), 0)
	is(t, "of the other", f.Waiting(b), 1)
	is(t, "names wait on", f.WaitingDir(), 2)
	is(t, "syncdir", f.SyncDir(), api.OK)
	is(t, "waiting", f.WaitingDir(), 0)
	is(t, "bytes wait on", f.Waiting(b), 1)
	f.Append(a, []byte("later"))
	f.Crash(api.Wreck{})
	has(t, "what is safe", f, "a", "ab", "b", "")
}
