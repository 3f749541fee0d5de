package symtab_test

import (
	"slices"
	"strconv"
	"testing"

	"quiver/api"
	"quiver/simfs"
	"quiver/symtab"
)

// TestOneToOne: P5.8: numbers are given by the order in which symbols come, for good.
func TestOneToOne(t *testing.T) {
	draw := draws(58)
	x := symtab.New()
	var came []string
	for range 400 {
		var l []string
		for range draw(5) {
			l = append(l, strconv.Itoa(draw(300)))
		}
		if draw(10) == 0 {
			_, _, e := x.Intern(append(l, "fresh", "\x00")...)
			is(t, "refused", e, api.ErrSymbol)
		}
		numbers, _, e := x.Intern(l...)
		is(t, "intern", e, api.OK)
		for i, s := range l {
			if !slices.Contains(came, s) {
				came = append(came, s)
			}
			is(t, "number", numbers[i], slices.Index(came, s)+1)
		}
	}
	has(t, "each has its own", x, came...)
	is(t, "many came", len(came) > 250, true)
}

// TestThereAndBack: P5.9.
func TestThereAndBack(t *testing.T) {
	for _, l := range [][]string{nil, {"a", "bc", "d"}, odd(), many(1000)} {
		x := holding(t, l...)
		y, at, e := symtab.Load(x.Bytes())
		is(t, "load", e, api.OK)
		is(t, "load", at, len(x.Bytes()))
		has(t, "load", y, l...)
	}
}

// TestBeginning: P5.9.
func TestBeginning(t *testing.T) {
	l := append([]string{"abc", "d"}, odd()...)
	p := laid(l...)
	whole := 0
	for end := range len(p) + 1 {
		if whole < len(l) && end == len(laid(l[:whole+1]...)) {
			whole++
		}
		x, at, e := symtab.Load(p[:end])
		is(t, "load", e, api.OK)
		is(t, "place", at, len(laid(l[:whole]...)))
		has(t, "a beginning", x, l[:whole]...)
	}
	is(t, "the whole", whole, len(l))
}

// history is what was added to a file, and how much of it is safe.
type history struct {
	added []string
	safe  int
}

// follow adds and syncs as it is drawn, till the power fails or so much was done.
func (h *history) follow(t *testing.T, s *symtab.File, draw func(int) int) {
	t.Helper()
	for range 12 {
		if draw(3) == 0 {
			if s.Sync() == api.OK {
				h.safe = len(h.added)
			}
			continue
		}
		var l, fresh []string
		for range draw(4) {
			w := strconv.Itoa(draw(400))
			l = append(l, w)
			if !slices.Contains(h.added, w) && !slices.Contains(fresh, w) {
				fresh = append(fresh, w)
			}
		}
		n, e := s.Add(l...)
		if e != api.OK {
			is(t, "no power", e, api.ErrDead)
			has(t, "as it was", s, h.added...)
			continue
		}
		h.added = append(h.added, fresh...)
		for i, w := range l {
			is(t, "number", n[i], slices.Index(h.added, w)+1)
		}
	}
}

// wreck is a crash as it is drawn.
func wreck(draw func(int) int) api.Wreck {
	return api.Wreck{Dir: draw(3), L: []api.Torn{{File: 1, Writes: draw(6), Bytes: draw(40)}}}
}

// reopen is the table behind crashes, some of them within Open.
func reopen(t *testing.T, f *simfs.FS, draw func(int) int) *symtab.File {
	t.Helper()
	for {
		if draw(2) == 0 {
			f.Arm(draw(3))
		}
		s, e := symtab.Open(f, "sym")
		if e == api.OK && !f.Dead() {
			f.Arm(-1)
			return s
		}
		if e != api.OK {
			is(t, "no power", e, api.ErrDead)
		}
		f.Crash(wreck(draw))
	}
}

// TestCrash: P5.10: power that fails anywhere, again and again.
func TestCrash(t *testing.T) {
	for seed := range 200 {
		draw := draws(uint64(seed))
		f := disk(t)
		s := opened(t, f, "sym")
		var h history
		for range 8 {
			if draw(2) == 0 {
				f.Arm(draw(8))
			}
			h.follow(t, s, draw)
			f.Crash(wreck(draw))
			s = reopen(t, f, draw)
			is(t, "what was synced is there", s.Len()-1 >= h.safe, true)
			is(t, "no more than was added", s.Len()-1 <= len(h.added), true)
			h.added = h.added[:s.Len()-1]
			has(t, "a beginning of what was added", s, h.added...)
			h.safe = len(h.added)
		}
	}
}
