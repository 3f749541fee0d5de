package octet_test

import (
	"bytes"
	"encoding/binary"
	"hash/crc32"
	"strings"
	"testing"

	"quiver/api"
	"quiver/octet"
)

func seal(t *testing.T, load ...string) []byte {
	t.Helper()
	var l [][]byte
	for _, s := range load {
		l = append(l, []byte(s))
	}
	p, e := octet.Seal(l...)
	if e != api.OK {
		t.Fatalf("Seal: %d", e)
	}
	return p
}

func noise(size int) []byte {
	draw := draws(uint64(size) + 1)
	p := make([]byte, size)
	for i := range p {
		p[i] = byte(draw(256))
	}
	return p
}

// TestCrc: P1.2, and example 2.
func TestCrc(t *testing.T) {
	if got := octet.Crc([]byte("123456789")); got != 0xe3069283 {
		t.Fatalf("%x", got)
	}
	if got := octet.Crc([]byte("1234"), nil, []byte("56789")); got != 0xe3069283 {
		t.Fatalf("%x", got)
	}
	if octet.Crc() != 0 || octet.Crc(nil, []byte{}) != 0 {
		t.Fatal("no bytes")
	}
	table := crc32.MakeTable(crc32.Castagnoli)
	for _, size := range []int{1, 2, 3, 4, 255, 256, 1023, 1024, 1025, 5000, api.MaxLoad + 8} {
		p := noise(size)
		was := bytes.Clone(p)
		want := crc32.Checksum(p, table)
		for _, at := range []int{0, 1, size / 2, size} {
			if got := octet.Crc(p[:at], p[at:]); got != want {
				t.Fatalf("%d bytes, parted at %d: %x, not %x", size, at, got, want)
			}
		}
		if !bytes.Equal(p, was) {
			t.Fatal("the bytes were changed")
		}
	}
}

// TestSeal: P1.3, and example 3.
func TestSeal(t *testing.T) {
	for _, load := range []string{"", "a", strings.Repeat("xy", 129), string(noise(70000))} {
		want := binary.BigEndian.AppendUint32(nil, uint32(len(load)))
		want = append(want, load...)
		want = binary.LittleEndian.AppendUint32(want, crc32.Checksum(want, crc32.MakeTable(crc32.Castagnoli)))
		wantBytes(t, "one list", seal(t, load), string(want))
		half := len(load) / 2
		wantBytes(t, "several lists", seal(t, load[:half], "", load[half:]), string(want))
	}
	wantBytes(t, "no list", seal(t), string(seal(t, "")))
}

// TestSealMost: P1.3.
func TestSealMost(t *testing.T) {
	most := noise(api.MaxLoad)
	p, e := octet.Seal(most[:1], most[1:])
	if e != api.OK || len(p) != api.MaxLoad+8 {
		t.Fatal(len(p), e)
	}
	load, size, e := octet.Open(p)
	if e != api.OK || size != len(p) || !bytes.Equal(load, most) {
		t.Fatal(len(load), size, e)
	}
	for _, l := range [][][]byte{{append(most, 0)}, {most, {0}}, {{0}, most}, {most, most, most}} {
		if p, e := octet.Seal(l...); p != nil || e != api.ErrLong {
			t.Fatal(len(p), e)
		}
	}
}

// TestSealApart: P1.3.
func TestSealApart(t *testing.T) {
	room := []byte("abcdef")
	p, _ := octet.Seal(room[:3])
	room[0] = 'x'
	wantBytes(t, "frame", p, string(seal(t, "abc")))
	p[4] = 'y'
	_ = append(p, 1, 2, 3)
	wantBytes(t, "load", room, "xbcdef")
}

// TestOpen: P1.3.
func TestOpen(t *testing.T) {
	for _, load := range []string{"", "a", string(noise(5000))} {
		p := seal(t, load)
		for _, behind := range []string{"", "\x00", "more behind it"} {
			got, size, e := octet.Open(append(bytes.Clone(p), behind...))
			if string(got) != load || size != len(p) || e != api.OK {
				t.Fatalf("%x: %x %d %d", p, got, size, e)
			}
		}
		got, _, _ := octet.Open(p)
		was := bytes.Clone(p)
		for i := range got {
			got[i]++
		}
		_ = append(got, 1, 2, 3, 4)
		if !bytes.Equal(p, was) {
			t.Fatal("the load shares the frame's memory")
		}
	}
}

// TestOpenWrong: P1.3: the errors, in their order.
func TestOpenWrong(t *testing.T) {
	good := string(seal(t, "abc"))
	for _, c := range []struct {
		p    string
		want api.Errno
	}{
		{"", api.ErrShort},
		{"\xff\xff\xff", api.ErrShort},
		{"\x00\x10\x00\x01", api.ErrLong},
		{"\xff\xff\xff\xff", api.ErrLong},
		{"\x80\x00\x00\x00" + good, api.ErrLong},
		{"\x00\x10\x00\x00", api.ErrShort},
		{"\x00\x00\x00\x00", api.ErrShort},
		{"\x00\x00\x00\x00\x00\x00\x00", api.ErrShort},
		{"\x00\x00\x00\x00\x00\x00\x00\x00", api.ErrSum},
		{good[:4] + "ab!" + good[7:10], api.ErrShort},
		{good[:4] + "ab!" + good[7:], api.ErrSum},
		{good[:10] + "\x00", api.ErrSum},
		{good[:7] + good[10:] + good[9:10] + good[8:9] + good[7:8], api.ErrSum},
	} {
		if load, size, e := octet.Open([]byte(c.p)); load != nil || size != 0 || e != c.want {
			t.Fatalf("%x: %x %d %d, not %d", c.p, load, size, e, c.want)
		}
	}
}

// TestFrames: P1.4.
func TestFrames(t *testing.T) {
	for _, none := range [][]byte{nil, {}} {
		if l, at, e := octet.Frames(none); len(l) != 0 || at != 0 || e != api.OK {
			t.Fatal(l, at, e)
		}
	}
	first := append(seal(t, "one"), seal(t, "")...)
	whole := append(bytes.Clone(first), seal(t, "three")...)
	l, at, e := octet.Frames(whole)
	if len(l) != 3 || string(l[0]) != "one" || len(l[1]) != 0 || string(l[2]) != "three" || at != len(whole) || e != api.OK {
		t.Fatal(l, at, e)
	}
	for _, c := range []struct {
		behind string
		want   api.Errno
	}{
		{"\x00", api.ErrShort},
		{"\x00\x00\x00\x01a", api.ErrShort},
		{"\x00\x10\x00\x01", api.ErrLong},
		{"\x00\x00\x00\x00\x00\x00\x00\x00" + string(whole), api.ErrSum},
	} {
		l, at, e := octet.Frames(append(bytes.Clone(first), c.behind...))
		if len(l) != 2 || string(l[0]) != "one" || len(l[1]) != 0 || at != len(first) || e != c.want {
			t.Fatalf("%x: %x %d %d", c.behind, l, at, e)
		}
	}
}

// TestFramesApart: P1.4.
func TestFramesApart(t *testing.T) {
	p := append(seal(t, "ab"), seal(t, "cd")...)
	was := bytes.Clone(p)
	l, _, _ := octet.Frames(p)
	l[0][0] = 'x'
	_ = append(l[0], "yyyyyyyyyyyy"...)
	if string(l[1]) != "cd" || !bytes.Equal(p, was) {
		t.Fatalf("%q %x", l, p)
	}
}

// TestTorn: P1.9.
func TestTorn(t *testing.T) {
	loads := []string{"", "a", "", string(noise(300)), "\x00\x00\x00\x00", string(seal(t, "a frame within"))}
	var whole []byte
	ends := []int{0}
	for _, s := range loads {
		whole = append(whole, seal(t, s)...)
		ends = append(ends, len(whole))
	}
	n := 0
	for cut := range len(whole) + 1 {
		for n+1 < len(ends) && ends[n+1] <= cut {
			n++
		}
		want := api.ErrShort
		if cut == ends[n] {
			want = api.OK
		}
		l, at, e := octet.Frames(whole[:cut])
		if len(l) != n || at != ends[n] || e != want {
			t.Fatalf("cut at %d: %d frames, %d, %d", cut, len(l), at, e)
		}
		for i, load := range l {
			wantBytes(t, "load", load, loads[i])
		}
	}
}

// burst turns the bits of p that pattern has, from bit first on, the lowest bit of a byte first.
func burst(p []byte, first int, pattern uint32) {
	for i := range 32 {
		if at := first + i; pattern>>i&1 == 1 {
			p[at/8] ^= 1 << (at % 8)
		}
	}
}

// TestBursts: P1.10.
func TestBursts(t *testing.T) {
	draw := draws(10)
	for _, load := range []string{"", "a", string(noise(100)), string(noise(1100))} {
		good := seal(t, load)
		for first := 32; first < 8*len(good); first++ {
			wide := min(32, 8*len(good)-first)
			for range 24 {
				pattern := 1 | uint32(draw(1<<16))<<16 | uint32(draw(1<<16))
				pattern &= uint32(1<<(draw(wide)+1) - 1)
				bad := bytes.Clone(good)
				burst(bad, first, pattern)
				if l, size, e := octet.Open(bad); l != nil || size != 0 || e != api.ErrSum {
					t.Fatalf("%d bytes, bit %d, pattern %x: %d", len(load), first, pattern, e)
				}
			}
		}
	}
}
