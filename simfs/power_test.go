package simfs_test

import (
	"strconv"
	"testing"

	"quiver/api"
	"quiver/simfs"
)

// crashed is a copy behind a crash.
func crashed(f *simfs.FS, dir int, l ...api.Torn) *simfs.FS {
	g := f.Copy()
	g.Crash(api.Wreck{Dir: dir, L: l})
	return g
}

// TestExamples: the chapter's examples.
func TestExamples(t *testing.T) {
	f := made(t, 10)
	is(t, "create", created(t, f, "a"), 1)
	f.Append(1, []byte("abc"))
	f.Sync(1)
	has(t, "the name was not safe", crashed(f, 0))
	f.SyncDir()
	has(t, "the name is safe", crashed(f, 0), "a", "abc")
	f.Append(1, []byte("de"))
	f.Append(1, []byte("f"))
	has(t, "a write", crashed(f, 0, api.Torn{File: 1, Writes: 1}), "a", "abcde")
	has(t, "a byte", crashed(f, 0, api.Torn{File: 1, Bytes: 1}), "a", "abcd")
	is(t, "full", f.Append(1, make([]byte, 8)), api.ErrFull)
	f.Arm(1)
	is(t, "the last one", f.Append(1, nil), api.OK)
	is(t, "none more", f.Append(1, nil), api.ErrDead)
	_, e := f.Read(1, 0, 1)
	is(t, "nor reading", e, api.ErrDead)
	f.Crash(api.Wreck{})
	_, e = f.Create("A")
	is(t, "name", e, api.ErrName)
}

// TestCrashBytes: P2.8.
func TestCrashBytes(t *testing.T) {
	f := with(t, "a", "abcdef", "b", "B")
	f.Write(1, 4, []byte("123"))
	f.Cut(1, 3)
	f.Write(1, 1, []byte("xyz"))
	f.Append(2, []byte("C"))
	for _, c := range []struct {
		writes, bytes int
		want          string
	}{
		{0, 0, "abcdef"}, {0, 1, "abcd1f"}, {0, 2, "abcd12"}, {0, 3, "abcd123"}, {0, 99, "abcd123"}, {0, -1, "abcdef"},
		{1, 0, "abcd123"}, {1, 99, "abcd123"}, {2, 0, "abc"}, {2, 1, "axc"}, {2, 3, "axyz"}, {2, -1 << 63, "abc"},
		{3, 0, "axyz"}, {3, 9, "axyz"}, {9, 9, "axyz"}, {1<<63 - 1, 1<<63 - 1, "axyz"}, {-1, 0, "abcdef"}, {-1 << 63, 1, "abcd1f"},
	} {
		g := crashed(f, 0, api.Torn{File: 1, Writes: c.writes, Bytes: c.bytes})
		has(t, "torn", g, "a", c.want, "b", "B")
		is(t, "used", g.Used(), len(c.want)+1)
		is(t, "waiting", g.Waiting(1)+g.Waiting(2), 0)
		g.Crash(api.Wreck{Dir: 9, L: []api.Torn{{File: 1, Writes: 9}}})
		has(t, "what is left is safe", g, "a", c.want, "b", "B")
	}
	has(t, "the first one counts", crashed(f, 0, api.Torn{File: 2, Writes: 1}, api.Torn{File: 1, Writes: 2}, api.Torn{File: 1, Writes: 3}, api.Torn{File: 2}), "a", "abc", "b", "BC")
	has(t, "the first one counts, of which nothing is left", crashed(f, 0, api.Torn{File: 1}, api.Torn{File: 1, Writes: 3}), "a", "abcdef", "b", "B")
	has(t, "no such file", crashed(f, 0, api.Torn{File: 0, Writes: 3}, api.Torn{File: -1, Writes: 3}, api.Torn{File: 3, Writes: 3}), "a", "abcdef", "b", "B")
	has(t, "the one it was copied from", f, "a", "axyz", "b", "BC")
}

// TestCrashNames: P2.8.
func TestCrashNames(t *testing.T) {
	f := with(t, "a", "1", "b", "2")
	created(t, f, "c")
	f.Append(3, []byte("3"))
	f.Sync(3)
	f.Rename("c", "a")
	f.Remove("b")
	f.Rename("a", "b")
	f.Rename("b", "b")
	f.Remove("b")
	for dir, want := range [][]string{
		{"a", "1", "b", "2"}, {"a", "1", "b", "2", "c", "3"}, {"a", "3", "b", "2"}, {"a", "3"}, {"b", "3"}, {"b", "3"}, {}, {},
	} {
		g := crashed(f, dir)
		has(t, "names "+strconv.Itoa(dir), g, want...)
		is(t, "used", g.Used(), len(want)/2)
		is(t, "waiting", g.WaitingDir(), 0)
		g.Crash(api.Wreck{Dir: 9})
		has(t, "what is left is safe", g, want...)
	}
	has(t, "below 0", crashed(f, -1), "a", "1", "b", "2")
	has(t, "far below 0", crashed(f, -1<<63), "a", "1", "b", "2")
	has(t, "far too many", crashed(f, 1<<63-1))
	g := crashed(f, 3)
	_, e := g.Size(1)
	is(t, "the one that had the name", e, api.ErrNone)
	_, e = g.Size(2)
	is(t, "the one that was removed", e, api.ErrNone)
	g.Remove("a")
	g.Crash(api.Wreck{})
	has(t, "names that are left are safe", g, "a", "3")
}

// TestCrashPower: P2.8.
func TestCrashPower(t *testing.T) {
	f := with(t, "a", "1")
	f.Arm(2)
	f.Crash(api.Wreck{})
	for range 5 {
		is(t, "nothing is armed", f.Append(1, nil), api.OK)
	}
	f.Arm(0)
	f.Crash(api.Wreck{})
	is(t, "the power is on", f.Dead(), false)
	is(t, "append", f.Append(1, []byte("2")), api.OK)
	w := api.Wreck{L: []api.Torn{{File: 1, Writes: 1}}}
	f.Crash(w)
	w.L[0].Writes = 0
	has(t, "what a wreck says is not kept", f, "a", "12")
}

// dark asks that no call does anything.
func dark(t *testing.T, f *simfs.FS) {
	t.Helper()
	g := f.Copy()
	is(t, "dead", f.Dead(), true)
	n, e := f.Create("A")
	is(t, "create", n, 0)
	is(t, "create", e, api.ErrDead)
	n, e = f.Open("")
	is(t, "open", n, 0)
	is(t, "open", e, api.ErrDead)
	p, e := f.Read(1, -1, 5)
	is(t, "read", p == nil, true)
	is(t, "read", e, api.ErrDead)
	n, e = f.Size(1)
	is(t, "size", n, 0)
	is(t, "size", e, api.ErrDead)
	for what, e := range map[string]api.Errno{
		"write": f.Write(9, 0, nil), "append": f.Append(1, make([]byte, 999)), "cut": f.Cut(1, -1), "sync": f.Sync(1),
		"rename": f.Rename("A", "a"), "remove": f.Remove(""), "syncdir": f.SyncDir(),
	} {
		is(t, what, e, api.ErrDead)
	}
	is(t, "nothing is done", simfs.Same(f, g), true)
	is(t, "no operation", f.Ops(), g.Ops())
}

// TestArm: P2.9.
func TestArm(t *testing.T) {
	ops := []func(*simfs.FS) api.Errno{
		func(f *simfs.FS) api.Errno { _, e := f.Create("b"); return e },
		func(f *simfs.FS) api.Errno { return f.Write(1, 0, []byte("x")) },
		func(f *simfs.FS) api.Errno { return f.Append(1, nil) },
		func(f *simfs.FS) api.Errno { return f.Cut(1, 1) },
		func(f *simfs.FS) api.Errno { return f.Sync(1) },
		func(f *simfs.FS) api.Errno { return f.Rename("b", "c") },
		func(f *simfs.FS) api.Errno { return f.Remove("c") },
		func(f *simfs.FS) api.Errno { return f.SyncDir() },
	}
	for n := range len(ops) + 1 {
		f := with(t, "a", "1")
		before := f.Ops()
		f.Arm(n)
		for i, op := range ops[:n] {
			is(t, "alive", f.Dead(), false)
			is(t, "op "+strconv.Itoa(i), op(f), api.OK)
			is(t, "ops", f.Ops(), before+i+1)
			f.Open("a")
			f.Read(1, 0, 1)
			f.Size(1)
			f.Open("none")
			f.Write(7, 0, nil)
			f.Cut(1, 99)
			f.Remove("none")
			f.Rename("none", "a")
			f.Create("a")
			f.Sync(9)
			f.Append(1, make([]byte, 101))
		}
		dark(t, f)
		f.Arm(-1)
		f.Arm(5)
		dark(t, f)
		f.Crash(api.Wreck{})
		is(t, "ops behind a crash", f.Ops(), before+n)
	}
	f := with(t, "a", "1")
	f.Arm(2)
	f.Append(1, nil)
	f.Arm(3)
	f.Append(1, nil)
	f.Append(1, nil)
	is(t, "armed anew", f.Dead(), false)
	f.Arm(-5)
	f.Append(1, nil)
	f.Append(1, nil)
	is(t, "armed no more", f.Dead(), false)
}

// TestDarkAnswers: P2.9: what can't answer ErrDead is told as ever.
func TestDarkAnswers(t *testing.T) {
	f := with(t, "a", "1")
	f.Append(1, []byte("2"))
	created(t, f, "b")
	f.Arm(0)
	is(t, "names", len(f.List()), 2)
	is(t, "used", f.Used(), 2)
	is(t, "capacity", f.Capacity(), 100)
	is(t, "waiting", f.Waiting(1), 1)
	is(t, "waiting", f.WaitingDir(), 1)
	is(t, "ops", f.Ops(), 6)
	is(t, "set", f.SetCapacity(7), api.OK)
	is(t, "capacity", f.Capacity(), 7)
	dark(t, f.Copy())
}

// TestCapacity: P2.10.
func TestCapacity(t *testing.T) {
	f := with(t, "a", "12345")
	is(t, "below 0", f.SetCapacity(-1), api.ErrArg)
	is(t, "too much", f.SetCapacity(api.MaxCapacity+1), api.ErrArg)
	is(t, "as it was", f.Capacity(), 100)
	is(t, "most", f.SetCapacity(api.MaxCapacity), api.OK)
	is(t, "most", f.Capacity(), api.MaxCapacity)
	is(t, "set", f.SetCapacity(3), api.OK)
	is(t, "used", f.Used(), 5)
	is(t, "a write that lets it not grow", f.Write(1, 0, []byte("abcde")), api.OK)
	is(t, "nothing", f.Append(1, nil), api.OK)
	is(t, "one more", f.Append(1, []byte("f")), api.ErrFull)
	created(t, f, "b")
	is(t, "nothing", f.Write(2, 0, nil), api.OK)
	is(t, "one more", f.Write(2, 0, []byte("f")), api.ErrFull)
	is(t, "cut", f.Cut(1, 3), api.OK)
	is(t, "one more", f.Append(1, []byte("f")), api.ErrFull)
	is(t, "cut", f.Cut(1, 2), api.OK)
	is(t, "one more", f.Append(1, []byte("f")), api.OK)
	is(t, "set", f.SetCapacity(0), api.OK)
	has(t, "all", f, "a", "abf", "b", "")
}

// TestCopy: P2.10.
func TestCopy(t *testing.T) {
	f := with(t, "a", "12345")
	f.Write(1, 0, []byte("x"))
	created(t, f, "b")
	f.Append(2, []byte("6"))
	f.Remove("b")
	f.Arm(3)
	g := f.Copy()
	is(t, "same", simfs.Same(f, g), true)
	is(t, "ops", g.Ops(), f.Ops())
	is(t, "used", g.Used(), f.Used())
	is(t, "capacity", g.Capacity(), f.Capacity())
	is(t, "number", created(t, f, "c"), created(t, g, "c"))
	g.Append(1, []byte("6"))
	g.Write(1, 1, []byte("yy"))
	is(t, "armed", g.Dead(), true)
	is(t, "apart", f.Dead(), false)
	has(t, "apart", f, "a", "x2345", "c", "")
	f.Append(1, []byte("7"))
	f.Cut(1, 5)
	g.Crash(api.Wreck{Dir: 3, L: []api.Torn{{File: 1, Writes: 9}}})
	has(t, "apart", g, "a", "xyy456", "c", "")
	f.Crash(api.Wreck{Dir: 1, L: []api.Torn{{File: 1, Writes: 2}, {File: 2, Writes: 1}}})
	has(t, "apart", f, "a", "x23457", "b", "6")
	is(t, "no more the same", simfs.Same(f, g), false)
	h := f.Copy()
	h.Write(1, 0, []byte("hhhhhh"))
	h.Crash(api.Wreck{})
	has(t, "what was safe", h, "a", "x23457", "b", "6")
}

// TestCopyNames: P2.10: what is done to names of the one is not done to those of the other.
func TestCopyNames(t *testing.T) {
	for n := range 5 {
		f := with(t, "a", "1")
		for range n {
			f.Rename("a", "a")
		}
		g := f.Copy()
		f.Rename("a", "f")
		g.Rename("a", "g")
		has(t, "the one", crashed(f, n+1), "f", "1")
		has(t, "the other", crashed(g, n+1), "g", "1")
		g.Crash(api.Wreck{Dir: n + 1})
		f.Crash(api.Wreck{})
		has(t, "the one", f, "a", "1")
	}
}

// TestCopyWrites: P2.10: what is written to the one is not written to the other.
func TestCopyWrites(t *testing.T) {
	for n := range 5 {
		f := with(t, "a", "1")
		for range n {
			f.Append(1, nil)
		}
		g := f.Copy()
		f.Append(1, []byte("f"))
		g.Append(1, []byte("g"))
		w := api.Torn{File: 1, Writes: n + 1}
		has(t, "the one", crashed(f, 0, w), "a", "1f")
		has(t, "the other", crashed(g, 0, w), "a", "1g")
	}
}

// TestSame: P2.10.
func TestSame(t *testing.T) {
	base := with(t, "a", "12", "b", "34")
	base.Append(1, []byte("5"))
	changes := []func(*simfs.FS){
		func(f *simfs.FS) {},
		func(f *simfs.FS) { f.Append(1, []byte("6")) },
		func(f *simfs.FS) { f.Append(1, nil) },
		func(f *simfs.FS) { f.Write(1, 0, nil) },
		func(f *simfs.FS) { f.Cut(1, 3) },
		func(f *simfs.FS) { f.Write(1, 0, []byte("1")) },
		func(f *simfs.FS) { f.Sync(1) },
		func(f *simfs.FS) { f.Crash(api.Wreck{}) },
		func(f *simfs.FS) { f.Create("c") },
		func(f *simfs.FS) { f.Create("d") },
		func(f *simfs.FS) { f.Create("c"); f.SyncDir() },
		func(f *simfs.FS) { f.Remove("a") },
		func(f *simfs.FS) { f.Remove("a"); f.SyncDir() },
		func(f *simfs.FS) { f.Rename("a", "b") },
		func(f *simfs.FS) { f.Rename("a", "c") },
		func(f *simfs.FS) { f.Rename("a", "c"); f.Rename("b", "a"); f.Rename("c", "b") },
		func(f *simfs.FS) { f.Rename("a", "a") },
		func(f *simfs.FS) { f.Create("c"); f.Remove("c") },
		func(f *simfs.FS) { f.Create("c"); f.Rename("c", "a") },
		func(f *simfs.FS) { f.Create("c"); f.Append(3, []byte("125")); f.Rename("c", "a") },
		func(f *simfs.FS) { f.Write(1, 2, []byte("6")) },
		func(f *simfs.FS) { f.Append(2, []byte("6")); f.Remove("b") },
		func(f *simfs.FS) { f.Append(2, []byte("7")); f.Remove("b") },
		func(f *simfs.FS) { f.Append(2, []byte("7")); f.Sync(2); f.Remove("b") },
	}
	for i, a := range changes {
		for j, b := range changes {
			f, g := base.Copy(), base.Copy()
			a(f)
			b(g)
			is(t, "same "+strconv.Itoa(i)+" "+strconv.Itoa(j), simfs.Same(f, g), i == j)
		}
	}
}

// TestSameWays: P2.10: the same files under the same names, but not the same changes.
func TestSameWays(t *testing.T) {
	f, g := with(t, "a", "1", "b", "1"), with(t, "a", "1", "b", "1")
	f.Rename("a", "c")
	f.Remove("b")
	g.Rename("b", "c")
	g.Remove("a")
	is(t, "same", simfs.Same(f, g), false)
	f.SyncDir()
	g.SyncDir()
	is(t, "same", simfs.Same(f, g), true)
}

// TestSameApart: P2.10: what has no part in it.
func TestSameApart(t *testing.T) {
	f := with(t, "a", "1", "b", "2")
	g := made(t, 50)
	created(t, g, "x")
	g.Remove("x")
	n, m := created(t, g, "b"), created(t, g, "a")
	g.Append(n, []byte("2"))
	g.Append(m, []byte("1"))
	g.Sync(n)
	g.Sync(m)
	is(t, "ahead", simfs.Same(f, g), false)
	g.SyncDir()
	g.Arm(0)
	is(t, "numbers, operations, power and room", simfs.Same(f, g), true)
	is(t, "itself", simfs.Same(f, f), true)
}

// TestNil: P2.10.
func TestNil(t *testing.T) {
	var f *simfs.FS
	f.Crash(api.Wreck{Dir: 1})
	f.Arm(0)
	n, e := f.Create("A")
	is(t, "create", n, 0)
	is(t, "create", e, api.ErrNone)
	n, e = f.Open("")
	is(t, "open", n, 0)
	is(t, "open", e, api.ErrNone)
	p, e := f.Read(1, -1, -1)
	is(t, "read", len(p), 0)
	is(t, "read", e, api.ErrNone)
	n, e = f.Size(1)
	is(t, "size", n, 0)
	is(t, "size", e, api.ErrNone)
	for what, e := range map[string]api.Errno{
		"write": f.Write(1, -1, nil), "append": f.Append(1, nil), "cut": f.Cut(1, -1), "sync": f.Sync(1),
		"rename": f.Rename("A", "B"), "remove": f.Remove(""), "syncdir": f.SyncDir(), "room": f.SetCapacity(-1),
	} {
		is(t, what, e, api.ErrNone)
	}
	is(t, "numbers", f.Ops()+f.Used()+f.Capacity()+f.Waiting(1)+f.WaitingDir()+len(f.List()), 0)
	is(t, "dead", f.Dead(), false)
	is(t, "copy", f.Copy() == nil, true)
	g := made(t, 0)
	is(t, "two", simfs.Same(nil, f), true)
	is(t, "one", simfs.Same(f, g), false)
	is(t, "one", simfs.Same(g, f), false)
}
