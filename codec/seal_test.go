package codec_test

import (
	"strings"
	"testing"

	"quiver/api"
	"quiver/codec"
	"quiver/octet"
	"quiver/value"
)

// sized is a value of that many bytes, more than sixteen of the longest sources have.
func sized(t *testing.T, size int) api.V {
	t.Helper()
	v := list()
	for range 15 {
		v.L = append(v.L, lambda(source(api.MaxText)))
	}
	rest := size - len(wantBytes(v)) - 2*4
	v.L = append(v.L, lambda(source(rest/2)), lambda(source(rest-rest/2)))
	is(t, "the test's own", len(wantBytes(v)), size)
	return v
}

// TestSeal: P6.3.
func TestSeal(t *testing.T) {
	for load, v := range map[string]api.V{"\xfe\x0a": one(5), "\x65": nothing(), "\x02\x03\x02\x02\x04": ints(1, 2, 4)} {
		b, e := codec.Seal(v)
		is(t, "Seal", e, api.OK)
		is(t, "Seal", string(b), wantFrame(load))
	}
	b, e := codec.Seal(one(5))
	is(t, "Seal", e, api.OK)
	is(t, "the bytes ahead of the sum", string(b[:6]), "\x00\x00\x00\x02\xfe\x0a")
}

// TestSealLong: P6.3: as much as a frame has, and one byte more.
func TestSealLong(t *testing.T) {
	v := sized(t, api.MaxLoad)
	b, e := codec.Seal(v)
	is(t, "as long as may be", e, api.OK)
	is(t, "as long as may be", string(b), wantFrame(wantBytes(v)))
	got, size, e := codec.Open(b)
	is(t, "Open", e, api.OK)
	is(t, "Open", size, len(b))
	is(t, "Open", value.Match(got, v), true)
	v = sized(t, api.MaxLoad+1)
	wantPut(t, v, wantBytes(v))
	b, e = codec.Seal(v)
	is(t, "one byte more", e, api.ErrLong)
	is(t, "one byte more", len(b), 0)
	b, e = codec.SealAll(one(5), v, api.V{T: 50})
	is(t, "of several", e, api.ErrLong)
	is(t, "of several", len(b), 0)
}

// TestSealNoValue: P6.3: Put's error, and nothing.
func TestSealNoValue(t *testing.T) {
	for name, c := range wrong() {
		b, e := codec.Seal(c.v)
		is(t, "Seal of "+name, e, c.want)
		is(t, "Seal of "+name, len(b), 0)
		for _, l := range [][]api.V{{c.v}, {one(5), c.v}, {c.v, one(5)}, {one(5), c.v, api.V{T: 51}, symbol(strings.Repeat("s", 100))}} {
			b, e = codec.SealAll(l...)
			is(t, "SealAll of "+name, e, c.want)
			is(t, "SealAll of "+name, len(b), 0)
		}
	}
	_, e := codec.SealAll(symbol(strings.Repeat("s", 100)), api.V{T: 50})
	is(t, "the first error", e, api.ErrLong)
	_, e = codec.SealAll(api.V{T: 50}, symbol(strings.Repeat("s", 100)))
	is(t, "the first error", e, api.ErrValue)
}

// injured are bytes with which Open ends with an error.
func injured() map[string]struct {
	p    string
	want api.Errno
} {
	type c = struct {
		p    string
		want api.Errno
	}
	five := wantFrame("\xfe\x0a")
	return map[string]c{
		"three bytes":         {"\x00\x00\x00", api.ErrShort},
		"no load":             {"\x00\x00\x00\x02", api.ErrShort},
		"cut off":             {five[:len(five)-1], api.ErrShort},
		"too long":            {"\x00\x10\x00\x01" + strings.Repeat("\x00", 20), api.ErrLong},
		"too long and torn":   {"\xff\xff\xff\xff", api.ErrLong},
		"a wrong sum":         {five[:len(five)-1] + string([]byte{five[len(five)-1] ^ 1}), api.ErrSum},
		"a wrong load":        {five[:5] + "\x0b" + five[6:], api.ErrSum},
		"a wrong sum, and no": {"\x00\x00\x00\x00\x00\x00\x00\x00", api.ErrSum},
		"an empty load":       {wantFrame(""), api.ErrCodec},
		"no value":            {wantFrame("\x07"), api.ErrCodec},
		"another form":        {wantFrame("\xfe\x8a\x00"), api.ErrCodec},
		"a tail":              {wantFrame("\xfe\x0a\x00"), api.ErrCodec},
		"two values":          {wantFrame("\xfe\x0a\xfe\x0a"), api.ErrCodec},
		"half a value":        {wantFrame("\x02\x02\x0a") + wantFrame("\x0a"), api.ErrCodec},
	}
}

// TestOpenInjured: P6.3: octet.Open's errors, and ErrCodec.
func TestOpenInjured(t *testing.T) {
	for name, c := range injured() {
		v, size, e := codec.Open([]byte(c.p))
		is(t, "Open: "+name, e, c.want)
		is(t, "Open: "+name, size, 0)
		wantZero(t, "Open: "+name, v)
		if _, _, e := octet.Open([]byte(c.p)); e != api.OK {
			is(t, "octet.Open: "+name, e, c.want)
		}
	}
	v, size, e := codec.Open(nil)
	is(t, "Open of no bytes", e, api.ErrShort)
	is(t, "Open of no bytes", size, 0)
	wantZero(t, "Open of no bytes", v)
}

// wantAll asks what OpenAll tells.
func wantAll(t *testing.T, what, p string, l []api.V, end int, want api.Errno) {
	t.Helper()
	got, at, e := codec.OpenAll([]byte(p))
	is(t, what, e, want)
	is(t, what, at, end)
	is(t, what, len(got), len(l))
	for i, v := range got {
		is(t, what, value.Match(v, l[i]), true)
	}
}

// TestOpenAll: P6.3: with an error, too, there are the values ahead of it, and the place.
func TestOpenAll(t *testing.T) {
	wantAll(t, "no bytes", "", nil, 0, api.OK)
	b, e := codec.SealAll()
	is(t, "no values", e, api.OK)
	is(t, "no values", len(b), 0)
	l := []api.V{one(5), nothing(), table(names("a"), ints(1, 2)), list()}
	b, e = codec.SealAll(l...)
	is(t, "SealAll", e, api.OK)
	is(t, "SealAll", string(b), wantFrame(wantBytes(l[0]))+wantFrame(wantBytes(l[1]))+wantFrame(wantBytes(l[2]))+wantFrame(wantBytes(l[3])))
	wantAll(t, "all", string(b), l, len(b), api.OK)
	for name, c := range injured() {
		wantAll(t, name+", alone", c.p, nil, 0, c.want)
		wantAll(t, name+", behind all", string(b)+c.p, l, len(b), c.want)
	}
	for _, load := range []string{"", "\x07", "\xfe\x0a\x00"} {
		wantAll(t, "no value between", string(b)+wantFrame(load)+string(b), l, len(b), api.ErrCodec)
	}
}

// TestTorn: P6.7.
func TestTorn(t *testing.T) {
	for seed := range 20 {
		l := drawn(uint64(700+seed), 12)
		b, e := codec.SealAll(l...)
		is(t, "SealAll", e, api.OK)
		whole, end := 0, 0
		for cut := range len(b) + 1 {
			if whole < len(l) && cut == end+len(wantFrame(wantBytes(l[whole]))) {
				whole, end = whole+1, cut
			}
			want := api.ErrShort
			if cut == end {
				want = api.OK
			}
			wantAll(t, "cut off", string(b[:cut]), l[:whole], end, want)
		}
		is(t, "the whole", whole, len(l))
	}
}
