package codec_test

import (
	"bytes"
	"math"
	"testing"

	"quiver/api"
	"quiver/codec"
	"quiver/value"
)

// roomy is v in memory of its own, with spare room behind each list.
func roomy(v api.V) api.V {
	w := api.V{T: v.T, N: append(make([]int64, 0, len(v.N)+3), v.N...), S: append(make([]string, 0, len(v.S)+3), v.S...), L: make([]api.V, 0, len(v.L)+3)}
	for _, x := range v.L {
		w.L = append(w.L, roomy(x))
	}
	return w
}

// scribble writes over all that v has, spare room too.
func scribble(v api.V) {
	for i := range v.N[:cap(v.N)] {
		v.N[:cap(v.N)][i] = -77
	}
	for i := range v.S[:cap(v.S)] {
		v.S[:cap(v.S)][i] = "scribbled"
	}
	for i, x := range v.L[:cap(v.L)] {
		scribble(x)
		v.L[:cap(v.L)][i] = api.V{T: 77}
	}
}

// scribbleBytes writes over all bytes, spare room too.
func scribbleBytes(b []byte) {
	for i := range b[:cap(b)] {
		b[:cap(b)][i] = 0xee
	}
}

// untouched asks whether all of v, which roomy made of was, is as it was, spare room too.
func untouched(t *testing.T, what string, v, was api.V) {
	t.Helper()
	is(t, what, value.Match(v, was), true)
	for _, n := range v.N[len(v.N):cap(v.N)] {
		is(t, what+": spare room", n, 0)
	}
	for _, s := range v.S[len(v.S):cap(v.S)] {
		is(t, what+": spare room", s, "")
	}
	for _, x := range v.L[len(v.L):cap(v.L)] {
		is(t, what+": spare room", value.Match(x, api.V{}), true)
	}
	for i := range v.L {
		untouched(t, what, v.L[i], was.L[i])
	}
}

// roomyBytes is bytes with spare room, all of it 7.
func roomyBytes(p string) []byte {
	room := bytes.Repeat([]byte{7}, len(p)+9)
	copy(room, p)
	return room[:len(p)]
}

func untouchedBytes(t *testing.T, what string, p []byte, was string) {
	t.Helper()
	is(t, what, string(p[:cap(p)]), was+"\x07\x07\x07\x07\x07\x07\x07\x07\x07")
}

// TestLaidApart: rule 3: bytes that are answered are new each time, and what was handed in is as it was.
func TestLaidApart(t *testing.T) {
	for _, v := range drawn(31, 500) {
		mine := roomy(v)
		for name, call := range map[string]func() ([]byte, api.Errno){
			"Put":     func() ([]byte, api.Errno) { return codec.Put(mine) },
			"Seal":    func() ([]byte, api.Errno) { return codec.Seal(mine) },
			"SealAll": func() ([]byte, api.Errno) { return codec.SealAll(mine, mine) },
		} {
			first, e := call()
			is(t, name, e, api.OK)
			was := string(first)
			untouched(t, name, mine, v)
			second, _ := call()
			scribbleBytes(first)
			is(t, name+", again", string(second), was)
			untouched(t, name+", again", mine, v)
			third, _ := call()
			is(t, name+", once more", string(third), was)
		}
		is(t, "Bytes", codec.Bytes(mine), len(wantBytes(v)))
		untouched(t, "Bytes", mine, v)
	}
}

// TestReadApart: rule 3: values that are read share nothing with the bytes, nor with another one.
func TestReadApart(t *testing.T) {
	for _, v := range drawn(32, 500) {
		frame := wantFrame(wantBytes(v))
		for name, c := range map[string]struct {
			p    string
			call func(p []byte) []api.V
		}{
			"Get":     {wantBytes(v), func(p []byte) []api.V { v, _ := codec.Get(p); return []api.V{v} }},
			"Open":    {frame, func(p []byte) []api.V { v, _, _ := codec.Open(p); return []api.V{v} }},
			"OpenAll": {frame + frame, func(p []byte) []api.V { l, _, _ := codec.OpenAll(p); return l }},
		} {
			p := roomyBytes(c.p)
			first, second := c.call(p), c.call(p)
			untouchedBytes(t, name, p, c.p)
			scribble(first[0])
			untouchedBytes(t, name, p, c.p)
			scribbleBytes(p)
			for _, got := range append(second, first[1:]...) {
				is(t, name, value.Match(got, v), true)
			}
		}
	}
}

// TestPartsApart: rule 7: no two lists of one answer share anything.
func TestPartsApart(t *testing.T) {
	for _, v := range []api.V{list(ints(1, 2, 3), ints(1, 2, 3)), list(bools(1, 0), bools(1, 0)), table(names("a", "b"), symbols("x", "y"), symbols("x", "y")), dict(list(ints(1, 2)), list(ints(1, 2)))} {
		got, e := codec.Get([]byte(wantBytes(v)))
		is(t, "Get", e, api.OK)
		scribble(got.L[0])
		is(t, "the other part", value.Match(got.L[1], v.L[1]), true)
	}
}

// TestNilOrEmpty: rule 3: nil and an empty list are the same.
func TestNilOrEmpty(t *testing.T) {
	for _, k := range []int{api.KList, api.KBool, api.KInt, api.KSym, api.KTime, api.KDec} {
		v := api.V{T: k, N: []int64{}, S: []string{}, L: []api.V{}}
		wantPut(t, v, string([]byte{byte(k), 0}))
		wantPut(t, api.V{T: k}, string([]byte{byte(k), 0}))
	}
	wantPut(t, api.V{T: -api.KInt, N: []int64{1}, S: []string{}, L: []api.V{}}, "\xfe\x02")
	for _, p := range [][]byte{nil, {}} {
		v, e := codec.Get(p)
		is(t, "Get", e, api.ErrCodec)
		wantZero(t, "Get", v)
		l, at, e := codec.OpenAll(p)
		is(t, "OpenAll", e, api.OK)
		is(t, "OpenAll", at+len(l), 0)
	}
}

// junk draws anything at all.
func junk(draw func(int) int, depth int) api.V {
	kinds := []int{0, 1, 2, 3, 4, 5, -1, -2, -3, -4, -5, 6, -6, 98, 99, 100, 101, -98, -101, math.MinInt, math.MaxInt, 254, 255, 256, 0, 98, 99, 98, 99}
	v := api.V{T: kinds[draw(len(kinds))]}
	for range draw(3) {
		v.N = append(v.N, int64(draw(3)))
	}
	for range draw(3) {
		v.S = append(v.S, []string{"", "a", "{", "{}", "a\x00", "b"}[draw(6)])
	}
	for range draw(4) * min(depth, 1) {
		v.L = append(v.L, junk(draw, depth-1))
	}
	return v
}

// TestTotalValues: rule 1, P6.1: whatever is handed in as a value.
func TestTotalValues(t *testing.T) {
	draw := draws(33)
	for range 30000 {
		v := junk(draw, draw(4))
		mine := roomy(v)
		want := value.Check(v)
		b, e := codec.Put(mine)
		frame, sealError := codec.Seal(mine)
		frames, allError := codec.SealAll(nothing(), mine)
		if e != want || sealError != want || allError != want || codec.Bytes(mine) != len(b) {
			t.Fatalf("%s: %d, %d, %d, not %d; %d bytes, and %d", told(v), e, sealError, allError, want, codec.Bytes(mine), len(b))
		}
		untouched(t, "handed in", mine, v)
		if want != api.OK {
			is(t, "beside an error", len(b)+len(frame)+len(frames), 0)
		} else {
			is(t, "Put", string(b), wantBytes(v))
		}
	}
}

// TestTotalBytes: rule 1, P6.6: whatever is handed in as bytes, in frames and alone.
func TestTotalBytes(t *testing.T) {
	draw := draws(34)
	few := []byte{0, 0, 1, 2, 3, 4, 5, 0x62, 0x63, 0x64, 0x65, 0x80, 0xfb, 0xfd, 0xfe, 0xff, 'a', '{', '}'}
	taken := 0
	for range 60000 {
		p := make([]byte, draw(16))
		for i := range p {
			p[i] = few[draw(len(few))]
		}
		if wantStrict(t, p) {
			taken++
		}
		frame := []byte(wantFrame(string(p)))
		alone, e := codec.Get(p)
		v, size, openError := codec.Open(frame)
		is(t, "Open", openError, e)
		is(t, "Open", value.Match(v, alone), true)
		if e == api.OK {
			is(t, "Open", size, len(frame))
		}
		for _, b := range [][]byte{p, changed(draw, frame), frame[draw(len(frame)):]} {
			if v, size, e := codec.Open(b); e != api.OK {
				is(t, "beside an error", size, 0)
				wantZero(t, "Open", v)
			} else {
				is(t, "Open", value.Check(v), api.OK)
			}
			l, at, _ := codec.OpenAll(b)
			again, e := codec.SealAll(l...)
			is(t, "OpenAll", e, api.OK)
			is(t, "OpenAll", string(again), string(b[:at]))
		}
	}
	is(t, "some are values", taken > 100, true)
}
