package codec_test

import (
	"bytes"
	"fmt"
	"runtime"
	"slices"
	"strings"
	"testing"

	"quiver/api"
	"quiver/codec"
	"quiver/value"
)

// TestGetNoValue: P6.2: whatever is not laid just so is no value's.
func TestGetNoValue(t *testing.T) {
	long := wantText(strings.Repeat("s", api.MaxSym+1))
	for _, p := range []string{
		"", "\x06", "\x07", "\x61", "\x66", "\x7f", "\x80", "\xfa", "\x9b", "\x9c\x02{}", "\x9e", // no type
		"\xff", "\xff\x02", "\xff\xff", "\xff\x01\x00", "\xff\x80\x01", // bools
		"\xfe", "\xfe\x80", "\xfe\x80\x00", "\xfe\x8a\x00", "\xfe\xff\xff\xff\xff\xff\xff\xff\xff\xff\x02", "\xfe\x0a\x0a", "\xfc", "\xfb\x8a\x00", // numbers
		"\xfd", "\xfd\x01", "\xfd\x02a", "\xfd\x81\x00a", "\xfd\x01\x00", "\xfd\x03a\x00b", "\xfd\x01ab", "\xfd" + long, // symbols
		"\x01", "\x01\x01", "\x01\x01\x02", "\x01\x01\x03", "\x01\x01\x80", "\x01\x03\x08", "\x01\x08", "\x01\x09\xff", "\x01\x09\xff\x02", "\x01\x00\x00", "\x01\x81\x00\x01", "\x01\x08\xff\x00", // vectors of bools
		"\x02", "\x02\x01", "\x02\x02\x02", "\x02\x00\x00", "\x02\x80\x00", "\x02\x81\x00\x02", "\x02\x01\x82\x00", "\x04\x02\x02", "\x05\x01\x00\x00", // of numbers
		"\x03", "\x03\x01", "\x03\x02\x01a", "\x03\x01\x01\x00", "\x03\x01\x81\x00a", "\x03\x00\x00", "\x03\x01" + long, // of symbols
		"\x00", "\x00\x01", "\x00\x01\xfe\x02", "\x00\x02\xfe\x02\xfe\x02", "\x00\x02\xfd\x00\xfd\x00", "\x00\x01\x65", "\x00\x02\x00\x00\x65", "\x00\x00\x00", "\x00\x01\x07", "\x00\x02\x00\x00", "\x00\x80\x00", // lists
		"\x62", "\x62\x00", "\x62\x01\x00\x02\x00", "\x62\x01\x01a", "\x62\x01\x01a\xfe\x02", "\x62\x02\x01a\x01a\x02\x00\x02\x00", "\x62\x02\x01a\x01b\x02\x00\x02\x01\x02", "\x62\x02\x01a\x02\x00\x01b\x02\x00", "\x62\x01\x01\x00\x02\x00", "\x62\x01\x01a\x02\x00\x00", "\x62\x01\x01a\x63\x02\x00\x02\x00", "\x62\x01\x01a\x64\x02{}", "\x62\x01" + long + "\x02\x00", // tables
		"\x63", "\x63\x02\x00", "\x63\x02\x00\x02\x01\x02", "\x63\xfe\x02\xfe\x02", "\x63\x62\x01\x01a\x02\x00\x02\x00", "\x63\x02\x00\x02\x00\x02\x00", "\x63\x65\x65", // dictionaries
		"\x64", "\x64\x00", "\x64\x01{", "\x64\x02{x", "\x64\x02x}", "\x64\x82\x00{}", "\x64\x03{}", "\x64\x02{}}", // lambdas
		"\x65\x65", "\x65\x00", // nothing
	} {
		wantNoValue(t, p)
		wantNoValue(t, "\x00\x02\x02\x00"+p) // in a list
	}
}

// TestGetLimits: P6.2: one more than may be.
func TestGetLimits(t *testing.T) {
	more := api.MaxCount + 1
	for _, v := range full() {
		wantGet(t, wantBytes(v), v)
	}
	manyNames := make([]string, api.MaxColumns+1)
	for i := range manyNames {
		manyNames[i] = fmt.Sprint("c", i)
	}
	for name, v := range map[string]api.V{
		"bools": bools(make([]int64, more)...), "ints": ints(make([]int64, more)...), "symbols": symbols(make([]string, more)...), "list": list(slices.Repeat([]api.V{list()}, more)...),
		"columns": table(manyNames, slices.Repeat([]api.V{ints()}, len(manyNames))...), "source": lambda(source(api.MaxText + 1)),
		"depth": nest(list(), api.MaxDepth), "deep atoms": nest(list(one(1), symbol("a")), api.MaxDepth-1), "deep table": nest(table(names("a"), ints(1)), api.MaxDepth-1), "deep dictionary": nest(dict(ints(1), ints(1)), api.MaxDepth-1), "much too deep": nest(list(), 100000),
	} {
		v, e := codec.Get([]byte(wantBytesDeep(v)))
		is(t, name, e, api.ErrCodec)
		wantZero(t, name, v)
	}
}

// wantBytesDeep is wantBytes, of what is nested deep without going deep.
func wantBytesDeep(v api.V) string {
	lists := 0
	for v.T == api.KList && len(v.L) == 1 {
		v = v.L[0]
		lists++
	}
	return strings.Repeat("\x00\x01", lists) + wantBytes(v)
}

// TestGetClaims: P6.2, P6.6: bytes that claim more than they have are read no further than they go.
func TestGetClaims(t *testing.T) {
	most := "\x80\x80\x04" // 65536
	for _, p := range []string{"\x00", "\x01", "\x02", "\x03", "\x04", "\x05"} {
		wantNoValue(t, p+most)
		wantNoValue(t, p+"\x81\x80\x04"+strings.Repeat("\x00", 70000))
		wantNoValue(t, p+"\xff\xff\xff\xff\xff\xff\xff\xff\xff\x01")
	}
	wantNoValue(t, strings.Repeat("\x00"+most, 100000))
	wantLittle(t, strings.Repeat("\x00"+most, api.MaxDepth))
	wantLittle(t, strings.Repeat("\x00"+most, api.MaxDepth-1)+"\x02"+most)
	wantNoValue(t, strings.Repeat("\x63", 1000000))
	wantNoValue(t, "\x62\x80\x80\x04"+strings.Repeat("\x01a", 65536))
	wantNoValue(t, "\xfd\xff\xff\xff\xff\xff\xff\xff\xff\x7fab")
	wantNoValue(t, "\x64\xff\xff\xff\xff\xff\xff\xff\xff\xff\x01{}")
}

// wantLittle asks that it takes little memory to see that p is no value's.
func wantLittle(t *testing.T, p string) {
	t.Helper()
	var before, behind runtime.MemStats
	runtime.ReadMemStats(&before)
	wantNoValue(t, p)
	runtime.ReadMemStats(&behind)
	is(t, "much memory", behind.TotalAlloc-before.TotalAlloc > 1<<22, false)
}

// TestThereAndBack: P6.4, P6.1.
func TestThereAndBack(t *testing.T) {
	for _, v := range drawn(64, 5000) {
		is(t, "a value "+told(v), value.Check(v), api.OK)
		wantPut(t, v, wantBytes(v))
		frame, e := codec.Seal(v)
		is(t, "Seal", e, api.OK)
		is(t, "Seal", string(frame), wantFrame(wantBytes(v)))
		for _, behind := range []string{"", "\x00", "no frame", string(frame)} {
			got, size, e := codec.Open(append(bytes.Clone(frame), behind...))
			is(t, "Open", e, api.OK)
			is(t, "Open", size, len(frame))
			is(t, "Open", value.Match(got, v), true)
		}
	}
}

// wantStrict asks of any bytes at all: they are no value's, or just those of the value that is read. It tells whether they are one's.
func wantStrict(t *testing.T, p []byte) bool {
	t.Helper()
	v, e := codec.Get(p)
	if e != api.OK {
		is(t, "Get", e, api.ErrCodec)
		wantZero(t, "Get", v)
		return false
	}
	is(t, fmt.Sprintf("Get of %x: a value", p), value.Check(v), api.OK)
	b, e := codec.Put(v)
	if e != api.OK || !bytes.Equal(b, p) || wantBytes(v) != string(p) {
		t.Fatalf("%x is read as %s, that is %x", p, told(v), b)
	}
	return true
}

// short are all bytes of few bytes, and of some more those in which a few come.
func short() [][]byte {
	var l [][]byte
	all := make([]byte, 256)
	for i := range all {
		all[i] = byte(i)
	}
	grow := func(size int, few []byte) {
		last := [][]byte{nil}
		for range size {
			var next [][]byte
			for _, p := range last {
				for _, c := range few {
					next = append(next, append(bytes.Clone(p), c))
				}
			}
			l = append(l, next...)
			last = next
		}
	}
	grow(2, all)
	grow(6, []byte{0, 1, 2, 3, 0x62, 0x63, 0xfe, 0x80})
	grow(5, []byte{0, 1, 3, 'a', 0x62, 0x64, '{', '}', 0xfd})
	return l
}

// TestOneForm: P6.5, P6.6: what is taken is what is laid, and no value's bytes are a beginning of another's.
func TestOneForm(t *testing.T) {
	var taken []string
	for _, p := range short() {
		if wantStrict(t, p) {
			taken = append(taken, string(p))
		}
	}
	for _, v := range drawn(65, 3000) {
		taken = append(taken, wantBytes(v))
	}
	slices.Sort(taken)
	taken = slices.Compact(taken)
	is(t, "some are taken", len(taken) > 4000, true)
	for i, p := range taken[1:] {
		if strings.HasPrefix(p, taken[i]) {
			t.Fatalf("%x is a beginning of %x", taken[i], p)
		}
	}
}

// TestUnlike: P6.5: unlike values have unlike bytes.
func TestUnlike(t *testing.T) {
	had := map[string]api.V{}
	for _, v := range drawn(66, 20000) {
		b, _ := codec.Put(v)
		if other, there := had[string(b)]; there && !value.Match(v, other) {
			t.Fatalf("%x: %s and %s", b, told(v), told(other))
		}
		had[string(b)] = v
	}
	// Alike but for the type, the count, what is told as what, or where.
	like := []api.V{one(1), ints(1), ints(1, 0), ints(0, 1), ints(1, 1), atom(api.KTime, 1), vector(api.KTime, 1), atom(api.KDec, 1), vector(api.KDec, 1), atom(api.KBool, 1), bools(1), bools(1, 0), bools(0, 1), symbol("a"), symbols("a"), symbols("a", ""), symbols("", "a"), symbols("ab"), symbols("a", "b"),
		list(), list(list()), list(list(), list()), list(list(list())), list(ints()), ints(), bools(), symbols(), dict(ints(), ints()), dict(ints(), list()), dict(list(), ints()), list(ints(), ints()), table(names("a"), ints()), table(names("b"), ints()), table(names("a"), list()), table(names("a", "b"), ints(), list()), table(names("b", "a"), ints(), list()), table(names("a", "b"), list(), ints()), lambda("{}"), lambda("{{}}"), nothing()}
	for i, v := range like {
		b, _ := codec.Put(v)
		for _, w := range like[:i] {
			c, _ := codec.Put(w)
			is(t, told(v)+" and "+told(w), bytes.Equal(b, c), false)
		}
	}
}

// changed is bytes of which some are changed, left out, or new.
func changed(draw func(int) int, p []byte) []byte {
	p = bytes.Clone(p)
	for range 1 + draw(2) {
		at := draw(len(p) + 1)
		few := []byte{0, 1, 2, 3, 4, 5, 8, 10, 0x62, 0x63, 0x64, 0x65, 0x80, 0xfb, 0xfc, 0xfd, 0xfe, 0xff, byte(draw(256))}
		c := few[draw(len(few))]
		switch kind := draw(5); {
		case kind == 0:
			p = p[:at]
		case kind == 1:
			p = slices.Insert(p, at, c)
		case at == len(p):
			p = append(p, c)
		case kind == 2:
			p = slices.Delete(p, at, at+1)
		case kind == 3:
			p[at] ^= 1 << draw(8)
		default:
			p[at] = c
		}
	}
	return p
}

// TestChanged: P6.5, P6.6: bytes that are near a value's.
func TestChanged(t *testing.T) {
	draw := draws(67)
	was := 0
	all := drawn(68, 3000)
	for _, v := range all {
		p := []byte(wantBytes(v))
		for range 20 {
			if wantStrict(t, changed(draw, p)) {
				was++
			}
		}
	}
	is(t, "some are values, some none", was > 2000 && was < 20*len(all)-2000, true)
}

// TestCutOff: P6.5: no beginning of a value's bytes is a value's, and none goes on.
func TestCutOff(t *testing.T) {
	for _, v := range drawn(69, 300) {
		p := wantBytes(v)
		for i := range p {
			wantNoValue(t, p[:i])
		}
		wantNoValue(t, p+"\x00")
		wantNoValue(t, p+p)
	}
}

// FuzzGet: P6.5, P6.6.
func FuzzGet(f *testing.F) {
	for _, v := range drawn(70, 100) {
		f.Add([]byte(wantBytes(v)))
	}
	f.Fuzz(func(t *testing.T, p []byte) {
		wantStrict(t, p)
		codec.Open(p)
		codec.OpenAll(p)
	})
}
