package octet_test

import (
	"bytes"
	"encoding/binary"
	"math"
	"strings"
	"testing"

	"quiver/octet"
)

// edges are the numbers beside every power of two.
func edges() []uint64 {
	l := []uint64{0, math.MaxUint64}
	for i := range 64 {
		n := uint64(1) << i
		l = append(l, n-1, n, n+1)
	}
	return l
}

// draws is a row of numbers that looks random, and is the same each time.
func draws(seed uint64) func(below int) int {
	return func(below int) int {
		seed = seed*6364136223846793005 + 1442695040888963407
		return int(seed>>33) % below
	}
}

func wantBytes(t *testing.T, what string, got []byte, want string) {
	t.Helper()
	if string(got) != want {
		t.Fatalf("%s: %x, not %x", what, got, want)
	}
}

// TestPut: P1.1, and example 1.
func TestPut(t *testing.T) {
	wantBytes(t, "300 5", octet.Put(nil, 300, 5), "\xac\x02\x05")
	wantBytes(t, "0", octet.Put(nil, 0), "\x00")
	wantBytes(t, "127 128", octet.Put(nil, 127, 128), "\x7f\x80\x01")
	wantBytes(t, "2^64-1", octet.Put(nil, math.MaxUint64), "\xff\xff\xff\xff\xff\xff\xff\xff\xff\x01")
	var all []byte
	for _, n := range edges() {
		one := binary.AppendUvarint(nil, n)
		wantBytes(t, "edge", octet.Put(nil, n), string(one))
		all = append(all, one...)
	}
	wantBytes(t, "all", octet.Put([]byte("ab"), edges()...), "ab"+string(all))
}

// TestPutInt: P1.1, and example 1.
func TestPutInt(t *testing.T) {
	wantBytes(t, "-1 1", octet.PutInt(nil, -1, 1), "\x01\x02")
	wantBytes(t, "0 63 -64 64 -65", octet.PutInt(nil, 0, 63, -64, 64, -65), "\x00\x7e\x7f\x80\x01\x81\x01")
	wantBytes(t, "least", octet.PutInt(nil, math.MinInt64), "\xff\xff\xff\xff\xff\xff\xff\xff\xff\x01")
	wantBytes(t, "greatest", octet.PutInt(nil, math.MaxInt64), "\xfe\xff\xff\xff\xff\xff\xff\xff\xff\x01")
	var l []int64
	var all []byte
	for _, n := range edges() {
		l = append(l, int64(n), -int64(n))
		all = binary.AppendVarint(binary.AppendVarint(all, int64(n)), -int64(n))
	}
	wantBytes(t, "all", octet.PutInt([]byte("ab"), l...), "ab"+string(all))
}

// TestPutText: P1.1, and example 1.
func TestPutText(t *testing.T) {
	long := strings.Repeat("x", 128)
	wantBytes(t, "ab", octet.PutText(nil, "ab"), "\x02ab")
	wantBytes(t, "empty", octet.PutText(nil, ""), "\x00")
	wantBytes(t, "no text's bytes", octet.PutText(nil, "\x00\xff"), "\x02\x00\xff")
	wantBytes(t, "several", octet.PutText([]byte("b"), "a", "", long[1:], long), "b\x01a\x00\x7f"+long[1:]+"\x80\x01"+long)
}

// TestPutApart: P1.1: b's bytes stay, and the answer has none of them; b's spare room is left as it was.
func TestPutApart(t *testing.T) {
	puts := map[string]func(b []byte) []byte{
		"Put":          func(b []byte) []byte { return octet.Put(b, 300) },
		"Put none":     func(b []byte) []byte { return octet.Put(b) },
		"PutInt":       func(b []byte) []byte { return octet.PutInt(b, -300) },
		"PutInt none":  func(b []byte) []byte { return octet.PutInt(b) },
		"PutText":      func(b []byte) []byte { return octet.PutText(b, "xy") },
		"PutText none": func(b []byte) []byte { return octet.PutText(b) },
	}
	for name, put := range puts {
		for _, spare := range []int{0, 9} {
			room := bytes.Repeat([]byte{7}, 3+spare)
			first := put(room[:3])
			if second := put(room[:3]); !bytes.Equal(first, second) || !bytes.HasPrefix(first, []byte{7, 7, 7}) {
				t.Fatalf("%s: %x, then %x", name, first, second)
			}
			for i := range first {
				first[i] = 1
			}
			_ = append(first, 1)
			wantBytes(t, name, room, strings.Repeat("\x07", 3+spare))
		}
		if !bytes.Equal(put(nil), put([]byte{})) {
			t.Fatalf("%s: nil is not as an empty list", name)
		}
	}
}
