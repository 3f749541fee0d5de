package wal_test

import (
	"bytes"
	"slices"
	"strconv"
	"strings"
	"testing"

	"quiver/api"
	"quiver/simfs"
	"quiver/wal"
)

// roomy is bytes with spare room, all of it 7.
func roomy(s string) []byte {
	room := bytes.Repeat([]byte{7}, len(s)+9)
	copy(room, s)
	return room[:len(s)]
}

// scribble writes over all bytes, spare room too.
func scribble(p []byte) {
	for i := range p[:cap(p)] {
		p[:cap(p)][i] = 0xee
	}
}

// TestAppendApart: rule 3: what is handed in is not changed, and not kept.
func TestAppendApart(t *testing.T) {
	f := disk(t)
	l, _ := opened(t, f, "log")
	room := [][]byte{roomy("ab"), nil, roomy(""), roomy("c"), roomy("spare")}
	_, e := l.Append(room[:4]...)
	is(t, "append", e, api.OK)
	for i, s := range []string{"ab", "", "", "c", "spare"} {
		is(t, "as it was", string(room[i]), s)
		if i != 1 {
			is(t, "spare room", string(room[i][:cap(room[i])]), s+strings.Repeat("\x07", 9))
		}
		scribble(room[i])
	}
	append1(t, l, 2, "d")
	_, r := opened(t, f, "log")
	are(t, "not kept", r, 1, "abc", "d")
}

// TestScanApart: rule 3: records are memory of their own.
func TestScanApart(t *testing.T) {
	p := roomy(laid(1, "ab", "", "cd", "ef"))
	was := string(p[:cap(p)])
	r, _ := wal.Scan(p, 1)
	for i := range r {
		scribble(r[i].Load)
		for j := i + 1; j < len(r); j++ {
			is(t, "apart", string(r[j].Load), []string{"ab", "", "cd", "ef"}[j])
		}
	}
	is(t, "as it was", string(p[:cap(p)]), was)
	r, _ = wal.Scan(p, 1)
	scribble(p)
	are(t, "not kept", r, 1, "ab", "", "cd", "ef")
}

// TestOpenApart: rule 3: records that Open tells share nothing with the files, and with what another Open tells.
func TestOpenApart(t *testing.T) {
	f := disk(t)
	three(t, f)
	_, r := opened(t, f, "log")
	for _, x := range r {
		scribble(x.Load)
	}
	scribbled := r
	_, r = opened(t, f, "log")
	are(t, "apart", r, 1, "a", "b", "c", "d")
	_ = append(scribbled[:1], api.Record{Seq: 77})
	are(t, "apart", r, 1, "a", "b", "c", "d")
}

// history is what was done to a log, as far as answers tell it.
type history struct {
	loads  []string // all that were appended, by their numbers, from 1 on
	safe   uint64   // the number of the last one that was synced
	oldest uint64   // the number of the first file that may be there
	newest uint64   // the number of the first file that is there, if all that was done is safe
}

func (h *history) next() uint64 { return uint64(len(h.loads)) + 1 }

// asks asks whether a log tells what the history does.
func (h *history) asks(t *testing.T, l *wal.Log) {
	t.Helper()
	is(t, "Next", l.Next(), h.next())
	is(t, "Synced", l.Synced(), h.safe)
	is(t, "First", l.First(), h.newest)
	files := l.Files()
	is(t, "Files", files[0], wal.Name("log", h.newest))
	is(t, "Files", slices.IsSorted(files), true)
}

// lands is what becomes of the history by a call that answered e: OK, that there is no power, or that there is no room.
func lands(t *testing.T, l *wal.Log, e api.Errno) bool {
	t.Helper()
	if e == api.OK || e == api.ErrFull {
		is(t, "not stopped", l.Stopped(), false)
		return e == api.OK
	}
	is(t, "no power", e == api.ErrDead || e == api.ErrStops, true)
	is(t, "stopped", l.Stopped(), true)
	return false
}

// step does something that is drawn.
func (h *history) step(t *testing.T, l *wal.Log, f *simfs.FS, draw func(int) int) {
	t.Helper()
	switch draw(10) {
	case 0, 1:
		if lands(t, l, l.Sync()) {
			h.safe = h.next() - 1
		}
	case 2:
		all := h.next() - 1
		if lands(t, l, l.Rotate()) {
			h.safe = all
			return
		}
		is(t, "synced, or as it was", l.Synced() == all || l.Synced() == h.safe, true)
		h.safe = l.Synced()
	case 3:
		seq := uint64(draw(int(h.next())))
		lands(t, l, l.Trim(seq))
		is(t, "no record above seq is gone", l.First() <= max(seq+1, h.newest), true)
		h.newest = l.First()
		if !l.Stopped() {
			h.oldest = h.newest
		}
	case 4:
		f.SetCapacity(f.Used() + draw(60))
	default:
		load := strings.Repeat(strconv.Itoa(draw(1000)), draw(9))
		half := draw(len(load) + 1)
		n, e := l.Append([]byte(load[:half]), []byte(load[half:]))
		if !lands(t, l, e) {
			is(t, "no number", n, 0)
			return
		}
		h.loads = append(h.loads, load)
		is(t, "number", n, uint64(len(h.loads)))
	}
}

// wreck is a crash as it is drawn.
func wreck(draw func(int) int, f *simfs.FS) api.Wreck {
	w := api.Wreck{Dir: draw(5)}
	for n := range 60 {
		if draw(3) > 0 {
			w.L = append(w.L, api.Torn{File: n, Writes: draw(8), Bytes: draw(40)})
		}
	}
	return w
}

// found asks what a log that was opened behind a crash may tell, and goes on from there.
func (h *history) found(t *testing.T, l *wal.Log, r []api.Record) {
	t.Helper()
	is(t, "what was synced is there", l.Next() > h.safe, true)
	is(t, "no more than was appended", l.Next() <= h.next(), true)
	is(t, "no file that was gone for good", l.First() >= h.oldest, true)
	is(t, "no file was lost", l.First() <= h.newest, true)
	h.loads = h.loads[:l.Next()-1]
	h.safe = l.Next() - 1
	h.oldest, h.newest = l.First(), l.First()
	are(t, "found", r, l.First(), h.loads[l.First()-1:]...)
	h.asks(t, l)
}

// again asks P13.9: Open behind crashes within Open finds the same.
func again(t *testing.T, f *simfs.FS, draw func(int) int) {
	t.Helper()
	g := f.Copy()
	l, want := opened(t, g, "log")
	for armed := range g.Ops() - f.Ops() {
		g := f.Copy()
		for n := armed; n >= 0; n-- {
			g.Arm(n)
			if _, _, e := wal.Open(g, "log"); e != api.OK {
				is(t, "no power", e, api.ErrDead)
			}
			g.Crash(wreck(draw, g))
		}
		m, r := opened(t, g, "log")
		is(t, "First", m.First(), l.First())
		is(t, "Next", m.Next(), l.Next())
		is(t, "how many", len(r), len(want))
		for i := range r {
			is(t, "number", r[i].Seq, want[i].Seq)
			is(t, "load", string(r[i].Load), string(want[i].Load))
		}
	}
}

// TestCrash: P13.8, P13.9: power that fails anywhere, again and again.
func TestCrash(t *testing.T) {
	crashes, trimmed := 0, 0
	for seed := range 400 {
		draw := draws(uint64(seed))
		f := disk(t)
		l, _ := opened(t, f, "log")
		h := history{oldest: 1, newest: 1}
		for range 8 {
			if draw(3) > 0 {
				f.Arm(draw(25))
			}
			for range draw(40) {
				h.step(t, l, f, draw)
				h.asks(t, l)
			}
			f.Crash(wreck(draw, f))
			f.SetCapacity(1 << 24)
			again(t, f, draw)
			var r []api.Record
			l, r = opened(t, f, "log")
			h.found(t, l, r)
			crashes++
		}
		if h.newest > 1 {
			trimmed++
		}
	}
	is(t, "many crashes", crashes, 3200)
	is(t, "many were trimmed", trimmed > 200, true)
}

// TestCrashBegin: P13.9: power that fails while a log is begun, again and again.
func TestCrashBegin(t *testing.T) {
	draw := draws(139)
	for range 50 {
		again(t, disk(t), draw)
	}
}

// TestOneForm: P13.10: Scan of what Append has written tells just that; of a beginning, a beginning.
func TestOneForm(t *testing.T) {
	draw := draws(1310)
	f := disk(t)
	l, _ := opened(t, f, "log")
	loads := map[uint64][]string{}
	first := uint64(1)
	for next := uint64(1); next < 300; next++ {
		load := strings.Repeat(string(rune('a'+draw(26))), draw(5)*draw(30))
		append1(t, l, next, load)
		loads[first] = append(loads[first], load)
		if draw(20) == 0 {
			is(t, "rotate", l.Rotate(), api.OK)
			first = next + 1
		}
	}
	is(t, "many files", len(l.Files()) > 5, true)
	for first, want := range loads {
		p := content(t, f, wal.Name("log", first))
		is(t, "one form", p, laid(first, want...))
		scans(t, "all", p, first, len(p), want...)
		for end := range len(p) {
			n := 0
			for n < len(want) && len(laid(first, want[:n+1]...)) <= end {
				n++
			}
			scans(t, "a beginning", p[:end], first, len(laid(first, want[:n]...)), want[:n]...)
		}
	}
}

// TestAnyBytes: rule 1: files of any bytes are a log's, or are not; what is found once is found again.
func TestAnyBytes(t *testing.T) {
	draw := draws(1311)
	good := laid(1, "a", "bc", "", "def")
	wrong := 0
	for range 2000 {
		files := map[uint64]string{}
		for range 1 + draw(3) {
			p := []byte(good[:draw(len(good)+1)])
			for range draw(3) {
				if len(p) > 0 {
					p[draw(len(p))] ^= byte(draw(256))
				}
			}
			files[uint64(draw(6))] = string(p)
		}
		f := holds(t, files)
		l, r, e := wal.Open(f, "log")
		if e != api.OK {
			is(t, "no log", e, api.ErrLog)
			wrong++
			continue
		}
		are(t, "found", r, l.First(), func() (loads []string) {
			for _, x := range r {
				loads = append(loads, string(x.Load))
			}
			return loads
		}()...)
		f.Crash(api.Wreck{})
		m, s := opened(t, f, "log")
		is(t, "again", len(s), len(r))
		same(t, "again", m.Files(), l.Files())
		is(t, "again", m.Next(), l.Next())
	}
	is(t, "some are, some are not", wrong > 200 && wrong < 1800, true)
}
