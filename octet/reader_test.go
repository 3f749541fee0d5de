package octet_test

import (
	"bytes"
	"math"
	"slices"
	"strings"
	"testing"

	"quiver/api"
	"quiver/octet"
)

// wantAt holds where a reader stands, and its error, against what they ought to be.
func wantAt(t *testing.T, r *octet.Reader, at, left int, e api.Errno) {
	t.Helper()
	place := at
	if e == api.OK {
		place = 0
	}
	why, whyAt := r.Why()
	if r.At() != at || r.Left() != left || why != e || whyAt != place {
		t.Fatalf("At %d, Left %d, Why %d %d; not %d, %d, %d", r.At(), r.Left(), why, whyAt, at, left, e)
	}
}

// wantStuck asks everything of a reader that has an error: nothing moves it, nothing is read.
func wantStuck(t *testing.T, r *octet.Reader, at, left int, e api.Errno) {
	t.Helper()
	wantAt(t, r, at, left, e)
	if r.Num() != 0 || r.Int() != 0 || r.Byte() != 0 || r.Text(9) != "" || r.Text(-1) != "" || r.Count(9) != 0 || r.Count(-1) != 0 {
		t.Fatal("a reader with an error has read something")
	}
	r.Fail(api.ErrArg)
	r.Fail(api.OK)
	if r.Done() != e {
		t.Fatalf("Done: %d, not %d", r.Done(), e)
	}
	wantAt(t, r, at, left, e)
}

// TestNew: P1.5.
func TestNew(t *testing.T) {
	p := []byte("\x01\x02\x03")
	r := octet.New(p)
	wantAt(t, r, 0, 3, api.OK)
	p[0], p[1] = 9, 9
	if r.Num() != 1 || r.Byte() != 2 {
		t.Fatal("the reader sees what became of the bytes")
	}
	wantAt(t, r, 2, 1, api.OK)
	for _, none := range [][]byte{nil, {}} {
		r := octet.New(none)
		wantAt(t, r, 0, 0, api.OK)
		if r.Done() != api.OK {
			t.Fatal("Done of no bytes")
		}
		r.Num()
		wantStuck(t, r, 0, 0, api.ErrShort)
	}
}

// TestFirstError: P1.5: each way to fail leaves the reader at the beginning of the value, for good.
func TestFirstError(t *testing.T) {
	for _, c := range []struct {
		p    string
		read func(r *octet.Reader)
		want api.Errno
	}{
		{"\x80\x80", func(r *octet.Reader) { r.Num() }, api.ErrShort},
		{"\x80\x00\x05", func(r *octet.Reader) { r.Int() }, api.ErrForm},
		{"\x02a", func(r *octet.Reader) { r.Text(5) }, api.ErrShort},
		{"\x03abc", func(r *octet.Reader) { r.Text(2) }, api.ErrLong},
		{"\xac\x02\x01", func(r *octet.Reader) { r.Count(299) }, api.ErrLong},
		{"\x01\x01", func(r *octet.Reader) { r.Fail(api.ErrCodec) }, api.ErrCodec},
	} {
		r := octet.New([]byte("\xac\x02" + c.p))
		if r.Num() != 300 {
			t.Fatal("300")
		}
		c.read(r)
		wantStuck(t, r, 2, len(c.p), c.want)
	}
}

// TestNum: P1.6, and example 2.
func TestNum(t *testing.T) {
	nine := strings.Repeat("\xff", 9)
	low := strings.Repeat("\x80", 9)
	for _, c := range []struct {
		p    string
		n    uint64
		size int
		want api.Errno
	}{
		{"\x00", 0, 1, api.OK},
		{"\x7f\x01", 127, 1, api.OK},
		{"\x80\x01\x00", 128, 2, api.OK},
		{nine + "\x01", math.MaxUint64, 10, api.OK},
		{low + "\x01\xff", 1 << 63, 10, api.OK},
		{nine[1:] + "\x7f", math.MaxInt64, 9, api.OK},
		{"", 0, 0, api.ErrShort},
		{"\x80", 0, 0, api.ErrShort},
		{nine, 0, 0, api.ErrShort},
		{"\x80\x00", 0, 0, api.ErrForm},
		{"\xff\x80\x00\x01", 0, 0, api.ErrForm},
		{nine + "\x00", 0, 0, api.ErrForm},
		{nine + "\x02", 0, 0, api.ErrWide},
		{low + "\x7f", 0, 0, api.ErrWide},
		{low + "\x80", 0, 0, api.ErrWide},
		{low + "\x81\x00", 0, 0, api.ErrWide},
		{low + low, 0, 0, api.ErrWide},
	} {
		r := octet.New([]byte(c.p))
		if n := r.Num(); n != c.n {
			t.Fatalf("%x: %d", c.p, n)
		}
		wantAt(t, r, c.size, len(c.p)-c.size, c.want)
		text := octet.New([]byte(c.p)) // a Text and a Count have Num's errors, ahead of their own
		text.Text(-1)
		count := octet.New([]byte(c.p))
		count.Count(-1)
		want := c.want
		if want == api.OK {
			want = api.ErrLong
		}
		wantStuck(t, text, 0, len(c.p), want)
		wantStuck(t, count, 0, len(c.p), want)
	}
}

// TestInt: P1.6.
func TestInt(t *testing.T) {
	nine := strings.Repeat("\xff", 9)
	for p, want := range map[string]int64{
		"\x00": 0, "\x01": -1, "\x02": 1, "\x7f": -64, "\x80\x01": 64, "\x81\x01": -65,
		nine + "\x01":              math.MinInt64,
		"\xfe" + nine[1:] + "\x01": math.MaxInt64,
	} {
		r := octet.New([]byte(p))
		if n := r.Int(); n != want {
			t.Fatalf("%x: %d", p, n)
		}
		wantAt(t, r, len(p), 0, api.OK)
	}
	for p, want := range map[string]api.Errno{"": api.ErrShort, "\x81": api.ErrShort, "\x81\x00": api.ErrForm, nine + "\x02": api.ErrWide} {
		r := octet.New([]byte(p))
		if n := r.Int(); n != 0 {
			t.Fatalf("%x: %d", p, n)
		}
		wantStuck(t, r, 0, len(p), want)
	}
}

// TestByte: P1.6.
func TestByte(t *testing.T) {
	r := octet.New([]byte("\x00\xff\x80"))
	if r.Byte() != 0 || r.Byte() != 0xff || r.Byte() != 0x80 {
		t.Fatal("Byte")
	}
	wantAt(t, r, 3, 0, api.OK)
	if r.Byte() != 0 {
		t.Fatal("behind the end")
	}
	wantStuck(t, r, 3, 0, api.ErrShort)
}

// TestText: P1.6.
func TestText(t *testing.T) {
	long := strings.Repeat("x", 200)
	for _, c := range []struct {
		p    string
		most int
		text string
		size int
		want api.Errno
	}{
		{"\x00", 0, "", 1, api.OK},
		{"\x02\x00\xffz", 2, "\x00\xff", 3, api.OK},
		{"\xc8\x01" + long, math.MaxInt, long, 202, api.OK},
		{"\xc8\x01" + long, 200, long, 202, api.OK},
		{"\xc8\x01" + long, 199, "", 0, api.ErrLong},
		{"\x00", -1, "", 0, api.ErrLong},
		{"\x00", math.MinInt, "", 0, api.ErrLong},
		{"\x03ab", 2, "", 0, api.ErrLong},
		{"\x03ab", 3, "", 0, api.ErrShort},
		{"\xff\xff\xff\xff\xff\xff\xff\xff\xff\x01ab", math.MaxInt, "", 0, api.ErrLong},
		{"\xff\xff\xff\xff\xff\xff\xff\xff\x7fab", math.MaxInt, "", 0, api.ErrShort},
	} {
		r := octet.New([]byte(c.p))
		if s := r.Text(c.most); s != c.text {
			t.Fatalf("%x: %q", c.p, s)
		}
		wantAt(t, r, c.size, len(c.p)-c.size, c.want)
	}
}

// TestCount: P1.6.
func TestCount(t *testing.T) {
	for _, c := range []struct {
		p    string
		most int
		n    int
		want api.Errno
	}{
		{"\x00", 0, 0, api.OK},
		{"\xac\x02", 300, 300, api.OK},
		{"\xac\x02", 299, 0, api.ErrLong},
		{"\x01", 0, 0, api.ErrLong},
		{"\x00", -1, 0, api.ErrLong},
		{"\xff\xff\xff\xff\xff\xff\xff\xff\x7f", math.MaxInt, math.MaxInt, api.OK},
		{"\x80\x80\x80\x80\x80\x80\x80\x80\x80\x01", math.MaxInt, 0, api.ErrLong},
	} {
		r := octet.New([]byte(c.p))
		if n := r.Count(c.most); n != c.n {
			t.Fatalf("%x: %d", c.p, n)
		}
		size := len(c.p)
		if c.want != api.OK {
			size = 0
		}
		wantAt(t, r, size, len(c.p)-size, c.want)
	}
}

// TestFail: P1.7.
func TestFail(t *testing.T) {
	r := octet.New([]byte("\x01\x02"))
	r.Fail(api.OK)
	if r.Num() != 1 {
		t.Fatal("OK has stopped the reader")
	}
	r.Fail(api.ErrValue)
	wantStuck(t, r, 1, 1, api.ErrValue)
	r.Fail(api.ErrType)
	wantStuck(t, r, 1, 1, api.ErrValue)
}

// TestDone: P1.7.
func TestDone(t *testing.T) {
	r := octet.New([]byte("\x01\x02"))
	if r.Done() != api.ErrTail {
		t.Fatal("bytes are left")
	}
	wantAt(t, r, 0, 2, api.OK)
	if r.Num() != 1 || r.Done() != api.ErrTail || r.Num() != 2 || r.Done() != api.OK {
		t.Fatal("ErrTail is no error of the reader")
	}
	wantAt(t, r, 2, 0, api.OK)
	r.Byte()
	if r.Done() != api.ErrShort {
		t.Fatal("the error comes ahead")
	}
}

// TestNilReader: P1.7.
func TestNilReader(t *testing.T) {
	var r *octet.Reader
	r.Fail(api.ErrArg)
	if r.Num() != 0 || r.Int() != 0 || r.Byte() != 0 || r.Text(5) != "" || r.Count(5) != 0 || r.Done() != api.OK {
		t.Fatal("a nil reader has read something")
	}
	wantAt(t, r, 0, 0, api.OK)
}

// TestThereAndBack: P1.8: what was put, in any order, is read back, to the end.
func TestThereAndBack(t *testing.T) {
	nums := edges()
	var ints []int64
	for _, n := range nums {
		ints = append(ints, int64(n), -int64(n))
	}
	texts := []string{"", "a", strings.Repeat("y", 127), strings.Repeat("z", 128), "\x80\x00\xff", string(noise(20000))}
	b := octet.PutText(octet.PutInt(octet.Put(nil, nums...), ints...), texts...)
	r := octet.New(b)
	for _, n := range nums {
		if got := r.Num(); got != n {
			t.Fatalf("%d, not %d", got, n)
		}
	}
	for _, n := range ints {
		if got := r.Int(); got != n {
			t.Fatalf("%d, not %d", got, n)
		}
	}
	for _, s := range texts {
		if got := r.Text(len(s)); got != s {
			t.Fatalf("%x, not %x", got, s)
		}
	}
	if e := r.Done(); e != api.OK {
		t.Fatal(e)
	}
}

// TestOneForm: P1.8: what a reader takes are the bytes that Put would lay.
func TestOneForm(t *testing.T) {
	draw := draws(8)
	few := []byte{0, 1, 2, 0x7f, 0x80, 0x81, 0xff}
	var all [][]byte
	for i := range 1 << 16 {
		all = append(all, []byte{byte(i), byte(i >> 8)})
	}
	for range 1 << 16 {
		p := make([]byte, draw(13))
		for i := range p {
			p[i] = few[draw(len(few))]
		}
		all = append(all, p)
	}
	for _, p := range all {
		was := bytes.Clone(p)
		num, whole, text := octet.New(p), octet.New(p), octet.New(p)
		n, i, s := num.Num(), whole.Int(), text.Text(len(p))
		if e, _ := num.Why(); e == api.OK && !slices.Equal(octet.Put(nil, n), p[:num.At()]) {
			t.Fatalf("%x was taken as %d", p, n)
		}
		if e, _ := whole.Why(); e == api.OK && !slices.Equal(octet.PutInt(nil, i), p[:whole.At()]) {
			t.Fatalf("%x was taken as %d", p, i)
		}
		if e, _ := text.Why(); e == api.OK && !slices.Equal(octet.PutText(nil, s), p[:text.At()]) {
			t.Fatalf("%x was taken as %q", p, s)
		}
		if !bytes.Equal(p, was) {
			t.Fatal("the bytes were changed")
		}
	}
}
