package symtab_test

import (
	"testing"

	"quiver/api"
	"quiver/simfs"
	"quiver/symtab"
)

func disk(t *testing.T) *simfs.FS {
	t.Helper()
	f, e := simfs.New(1 << 20)
	is(t, "disk", e, api.OK)
	return f
}

func opened(t *testing.T, f *simfs.FS, name string) *symtab.File {
	t.Helper()
	s, e := symtab.Open(f, name)
	is(t, "open", e, api.OK)
	return s
}

func add(t *testing.T, s *symtab.File, l ...string) {
	t.Helper()
	_, e := s.Add(l...)
	is(t, "add", e, api.OK)
}

// refused asks for an error of Open.
func refused(t *testing.T, what string, f *simfs.FS, name string, want api.Errno) {
	t.Helper()
	s, e := symtab.Open(f, name)
	is(t, what, e, want)
	is(t, what, s, nil)
}

// content is all that the file of that name has.
func content(t *testing.T, f *simfs.FS, name string) []byte {
	t.Helper()
	n, e := f.Open(name)
	is(t, "content", e, api.OK)
	p, e := f.Read(n, 0, 1<<30)
	is(t, "content", e, api.OK)
	return p
}

// wrote is a disk with a file of these bytes; all is safe.
func wrote(t *testing.T, name string, p []byte) *simfs.FS {
	t.Helper()
	f := disk(t)
	n, e := f.Create(name)
	is(t, "wrote", e, api.OK)
	is(t, "wrote", f.Append(n, p), api.OK)
	is(t, "wrote", f.Sync(n), api.OK)
	is(t, "wrote", f.SyncDir(), api.OK)
	return f
}

// TestOpenNew: P5.6: a file that was not there.
func TestOpenNew(t *testing.T) {
	f := disk(t)
	s := opened(t, f, "db/sym")
	has(t, "new", s)
	same(t, "the file", f.List(), []string{"db/sym"})
	is(t, "created, and the directory synced", f.Ops(), 2)
	is(t, "the directory is synced", f.WaitingDir(), 0)
	f.Crash(api.Wreck{})
	same(t, "the name is safe", f.List(), []string{"db/sym"})
	has(t, "again", opened(t, f, "db/sym"))
	has(t, "another", opened(t, f, "sym2"))
	same(t, "two files", f.List(), []string{"db/sym", "sym2"})
}

// TestOpenThere: P5.6: a file that is there is read, and nothing is done to it if all of it is whole.
func TestOpenThere(t *testing.T) {
	for _, l := range [][]string{nil, {"a"}, odd()} {
		f := wrote(t, "sym", laid(l...))
		before := f.Copy()
		has(t, "read", opened(t, f, "sym"), l...)
		is(t, "nothing is done", simfs.Same(f, before), true)
		is(t, "nothing is done", f.Ops(), before.Ops())
	}
	f := disk(t)
	n, _ := f.Create("sym")
	f.Append(n, laid("a"))
	has(t, "what is not safe is read too", opened(t, f, "sym"), "a")
	is(t, "and stays so", f.Waiting(n)+f.WaitingDir(), 2)
}

// TestOpenTorn: P5.6: what is behind the whole frames is cut off, and that is synced.
func TestOpenTorn(t *testing.T) {
	whole := laid("ab", "c")
	for _, tail := range [][]byte{{0}, laid("xyz")[:10], append(laid("xyz")[:6], laid("w")...), {255, 255, 255, 255}} {
		f := wrote(t, "sym", append(whole[:len(whole):len(whole)], tail...))
		before := f.Ops()
		has(t, "read", opened(t, f, "sym"), "ab", "c")
		is(t, "cut and synced", f.Ops()-before, 2)
		same(t, "cut", content(t, f, "sym"), whole)
		f.Crash(api.Wreck{})
		same(t, "synced", content(t, f, "sym"), whole)
		s := opened(t, f, "sym")
		add(t, s, "new")
		has(t, "what is added is read", opened(t, f, "sym"), "ab", "c", "new")
	}
}

// TestOpenErrors: P5.6.
func TestOpenErrors(t *testing.T) {
	refused(t, "nil", nil, "sym", api.ErrNone)
	refused(t, "nil is told first", nil, "A", api.ErrNone)
	f := disk(t)
	for _, name := range []string{"", "A", "a b"} {
		refused(t, "name", f, name, api.ErrName)
	}
	is(t, "nothing is created", len(f.List())+f.Ops(), 0)
	f.Arm(0)
	refused(t, "no power", f, "sym", api.ErrDead)
	refused(t, "no power is told first", f, "A", api.ErrDead)
	f.Crash(api.Wreck{})
	for _, name := range append(many(api.MaxFiles-1), "there") {
		_, e := f.Create(name)
		is(t, "create", e, api.OK)
	}
	refused(t, "too many files", f, "sym", api.ErrMany)
	has(t, "one that is there", opened(t, f, "there"))
}

// TestOpenTable: P5.6: bytes that are no table's stay as they are.
func TestOpenTable(t *testing.T) {
	for _, p := range [][]byte{frame(""), laid("a", "a"), laid("", "b"), append(laid("a", "a"), 1, 2, 3), laid("a\x00")} {
		f := wrote(t, "sym", p)
		before := f.Copy()
		refused(t, "no table", f, "sym", api.ErrTable)
		is(t, "as it was", simfs.Same(f, before), true)
		is(t, "nothing is done", f.Ops(), before.Ops())
		f.Arm(0)
		refused(t, "no power", f, "sym", api.ErrDead)
	}
}

// TestOpenPower: P5.6: power that fails at each operation.
func TestOpenPower(t *testing.T) {
	for armed := range 2 {
		f := disk(t)
		f.Arm(armed)
		refused(t, "within create", f, "sym", api.ErrDead)
		g := f.Copy()
		g.Crash(api.Wreck{})
		is(t, "nothing is safe", len(g.List()), 0)
		has(t, "again", opened(t, g, "sym"))
		f.Crash(api.Wreck{Dir: 9})
		is(t, "a file, if it was created", len(f.List()), armed)
		has(t, "again", opened(t, f, "sym"))
	}
	torn := append(laid("a", "b"), 1, 2, 3)
	for armed := range 2 {
		for _, w := range []api.Wreck{{}, {L: []api.Torn{{File: 1, Writes: 1}}}} {
			f := wrote(t, "sym", torn)
			f.Arm(armed)
			refused(t, "within a cut", f, "sym", api.ErrDead)
			f.Crash(w)
			has(t, "again", opened(t, f, "sym"), "a", "b")
			same(t, "cut", content(t, f, "sym"), laid("a", "b"))
		}
	}
	f := wrote(t, "sym", torn)
	f.Arm(2)
	has(t, "all is done", opened(t, f, "sym"), "a", "b")
}

// TestAdd: P5.7.
func TestAdd(t *testing.T) {
	f := disk(t)
	s := opened(t, f, "sym")
	before := f.Ops()
	l := []string{"b", "", "a", "b"}
	n, e := s.Add(l...)
	is(t, "add", e, api.OK)
	same(t, "numbers", n, []int{1, 0, 2, 1})
	same(t, "what is handed in", l, []string{"b", "", "a", "b"})
	same(t, "the file", content(t, f, "sym"), laid("b", "a"))
	is(t, "one append", f.Ops()-before, 1)
	is(t, "it is not synced", f.Waiting(1), 1)
	for _, l := range [][]string{nil, {""}, {"a", "b", "a"}} {
		n, e := s.Add(l...)
		is(t, "nothing new", e, api.OK)
		is(t, "nothing new", len(n), len(l))
	}
	is(t, "no append", f.Ops()-before, 1)
	n, e = s.Add("c", "a")
	is(t, "one more", e, api.OK)
	same(t, "one more", n, []int{3, 2})
	same(t, "the file", content(t, f, "sym"), laid("b", "a", "c"))
	is(t, "sync", s.Sync(), api.OK)
	is(t, "synced", f.Waiting(1), 0)
	has(t, "all", s, "b", "a", "c")
	has(t, "its Table", s.Table, "b", "a", "c")
	has(t, "opened again", opened(t, f, "sym"), "b", "a", "c")
}

// TestAddWrong: P5.7: Intern's errors.
func TestAddWrong(t *testing.T) {
	f := disk(t)
	s := opened(t, f, "sym")
	add(t, s, "a")
	before := f.Copy()
	for _, w := range wrong() {
		n, e := s.Add("new", w, "a")
		is(t, "wrong", e, api.ErrSymbol)
		is(t, "wrong", n == nil, true)
	}
	n, e := s.Add(many(api.MaxSymbols)...)
	is(t, "too many", e, api.ErrMany)
	is(t, "too many", n == nil, true)
	has(t, "as it was", s, "a")
	is(t, "the file, too", simfs.Same(f, before), true)
	is(t, "the file, too", f.Ops(), before.Ops())
}

// TestAddFull: P5.7: there is no room.
func TestAddFull(t *testing.T) {
	f := disk(t)
	s := opened(t, f, "sym")
	add(t, s, "a")
	f.SetCapacity(f.Used() + len(laid("x", "yy")) - 1)
	before := f.Copy()
	n, e := s.Add("x", "a", "yy")
	is(t, "full", e, api.ErrFull)
	is(t, "full", n == nil, true)
	has(t, "as it was", s, "a")
	is(t, "the file, too", simfs.Same(f, before), true)
	n, e = s.Add("y", "a", "x")
	is(t, "what finds room", e, api.OK)
	same(t, "what finds room", n, []int{2, 1, 3})
	f.SetCapacity(0)
	_, e = s.Add("z")
	is(t, "full", e, api.ErrFull)
	n, e = s.Add("x", "")
	is(t, "what is there needs none", e, api.OK)
	same(t, "what is there needs none", n, []int{3, 0})
	has(t, "opened again", opened(t, f, "sym"), "a", "y", "x")
}

// TestAddPower: P5.7: the power is off, or the file gone.
func TestAddPower(t *testing.T) {
	f := disk(t)
	s := opened(t, f, "sym")
	add(t, s, "a")
	f.Arm(1)
	add(t, s, "b")
	for _, e := range []api.Errno{api.ErrDead, api.ErrNone} {
		n, got := s.Add("a", "c", "d")
		is(t, "add", got, e)
		is(t, "add", n == nil, true)
		is(t, "sync", s.Sync(), e)
		has(t, "as it was", s, "a", "b")
		n, got = s.Add("b", "a")
		is(t, "nothing new", got, api.OK)
		same(t, "nothing new", n, []int{2, 1})
		f.Crash(api.Wreck{L: []api.Torn{{File: 1, Writes: 9}}})
		if e == api.ErrDead {
			has(t, "opened again", opened(t, f, "sym"), "a", "b")
			is(t, "remove", f.Remove("sym"), api.OK)
		}
	}
}

// TestInternOfFile: P5.7: who calls Intern of a File's Table gives numbers that are not in the file.
func TestInternOfFile(t *testing.T) {
	f := disk(t)
	s := opened(t, f, "sym")
	n, b, e := s.Intern("a")
	is(t, "intern", e, api.OK)
	same(t, "intern", n, []int{1})
	same(t, "intern", b, laid("a"))
	is(t, "not in the file", len(content(t, f, "sym")), 0)
	m, e := s.Add("a", "b")
	is(t, "add", e, api.OK)
	same(t, "add", m, []int{1, 2})
	same(t, "what is new alone", content(t, f, "sym"), laid("b"))
	f.Arm(0)
	_, e = s.Add("c")
	is(t, "no power", e, api.ErrDead)
	has(t, "as it was", s, "a", "b")
	l, e := s.Enumerate(api.V{T: api.KSym, S: []string{"b", "a"}})
	is(t, "enumerate", e, api.OK)
	same(t, "enumerate", l, []int64{2, 1})
	v, e := s.Vector(l)
	is(t, "vector", e, api.OK)
	same(t, "vector", v.S, []string{"b", "a"})
	c := s.Copy()
	c.Intern("d")
	has(t, "a copy is apart", s, "a", "b")
	has(t, "and no file's", c, "a", "b", "d")
}

// TestNilFile: P5.7: the Table of a nil File is nil.
func TestNilFile(t *testing.T) {
	var s *symtab.File
	for _, l := range [][]string{nil, {"a"}, {"\x00"}} {
		n, e := s.Add(l...)
		is(t, "add", e, api.ErrNone)
		is(t, "add", n == nil, true)
	}
	is(t, "sync", s.Sync(), api.ErrNone)
	asksNil(t, s)
}
