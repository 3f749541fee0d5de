package wal_test

import (
	"encoding/binary"
	"hash/crc32"
	"slices"
	"strconv"
	"strings"
	"testing"

	"quiver/api"
	"quiver/wal"
)

const greatest = 1<<64 - 1

// draws is a row of numbers that looks random, and is the same each time.
func draws(seed uint64) func(below int) int {
	return func(below int) int {
		seed = seed*6364136223846793005 + 1442695040888963407
		return int(seed>>33) % below
	}
}

func is[K comparable](t *testing.T, what string, got, want K) {
	t.Helper()
	if got != want {
		t.Fatalf("%.300s: %.300v, not %.300v", what, got, want)
	}
}

func same[K comparable](t *testing.T, what string, got, want []K) {
	t.Helper()
	if !slices.Equal(got, want) {
		t.Fatalf("%.300s: %.300v, not %.300v", what, got, want)
	}
}

// frame is a frame of that load, laid by the tests themselves.
func frame(load string) string {
	b := binary.BigEndian.AppendUint32(nil, uint32(len(load)))
	b = append(b, load...)
	return string(binary.LittleEndian.AppendUint32(b, crc32.Checksum(b, crc32.MakeTable(crc32.Castagnoli))))
}

// record is what a file has of a record.
func record(seq uint64, load string) string {
	return frame(string(binary.AppendUvarint(nil, seq)) + load)
}

// laid is what a file has of records of these loads, numbered from first on.
func laid(first uint64, loads ...string) string {
	var s string
	for i, load := range loads {
		s += record(first+uint64(i), load)
	}
	return s
}

// are asks for records of these loads, numbered from first on.
func are(t *testing.T, what string, got []api.Record, first uint64, loads ...string) {
	t.Helper()
	is(t, what+": how many", len(got), len(loads))
	for i, r := range got {
		is(t, what+": a number", r.Seq, first+uint64(i))
		is(t, what+": a load", string(r.Load), loads[i])
	}
}

// scans asks what Scan tells.
func scans(t *testing.T, what, p string, first uint64, end int, loads ...string) {
	t.Helper()
	got, at := wal.Scan([]byte(p), first)
	are(t, what, got, first, loads...)
	is(t, what+": the place", at, end)
}

// TestName: P13.1, and example 1.
func TestName(t *testing.T) {
	for _, c := range []struct {
		base  string
		first uint64
		want  string
	}{
		{"log", 7, "log.00000000000000000007"},
		{"log", 0, "log.00000000000000000000"},
		{"db/a.b-c_d", 1234567890, "db/a.b-c_d.00000000001234567890"},
		{"", 10, ".00000000000000000010"},
		{"Any \x00 text", 1, "Any \x00 text.00000000000000000001"},
		{"log", greatest, "log.18446744073709551615"},
		{"log", 9999999999999999999, "log.09999999999999999999"},
		{"log", 10000000000000000000, "log.10000000000000000000"},
	} {
		is(t, "name", wal.Name(c.base, c.first), c.want)
		n, ok := wal.Parse(c.base, c.want)
		is(t, "parse", n, c.first)
		is(t, "parse", ok, true)
	}
}

// TestParseWrong: P13.1: names that are none.
func TestParseWrong(t *testing.T) {
	for _, c := range [][2]string{
		{"log", ""},
		{"log", "log"},
		{"log", "log."},
		{"log", "log.7"},
		{"log", "log.0000000000000000007"},
		{"log", "log.000000000000000000007"},
		{"log", "log.18446744073709551616"},
		{"log", "log.99999999999999999999"},
		{"log", "log.+0000000000000000007"},
		{"log", "log.-0000000000000000007"},
		{"log", "log.0000000000000000_007"},
		{"log", "log.0x000000000000000007"},
		{"log", "log. 0000000000000000007"},
		{"log", "log.0000000000000000007 "},
		{"log", "log.0000000000000000000a"},
		{"log", "log.000000000000000000\u0663"},
		{"log", "log_00000000000000000007"},
		{"log", "log00000000000000000007"},
		{"log", "lo.00000000000000000007"},
		{"log", "blog.00000000000000000007"},
		{"log", "Log.00000000000000000007"},
		{"log", "00000000000000000007"},
		{"log", ".00000000000000000007"},
		{"log.", "log.00000000000000000007"},
		{"", "00000000000000000007"},
		{"", "log.00000000000000000007"},
		{"log", "log.00000000000000000001.00000000000000000007"},
	} {
		n, ok := wal.Parse(c[0], c[1])
		is(t, c[1], n, 0)
		is(t, c[1], ok, false)
	}
}

// TestParseDrawn: P13.1: a name is taken if, and only if, it is the Name of what is told.
func TestParseDrawn(t *testing.T) {
	draw := draws(131)
	letters := "0123456789.+-_ax/\x00"
	taken := 0
	for range 20000 {
		base := []string{"", "log", "log.1", "a.b"}[draw(4)]
		first := uint64(draw(1<<31))<<33 ^ uint64(draw(1<<31))<<2
		name := []byte(wal.Name(base, first>>draw(64)))
		for range draw(3) {
			name[draw(len(name))] = letters[draw(len(letters))]
		}
		n, ok := wal.Parse(base, string(name))
		if !ok {
			is(t, "none", n, 0)
			digits, has := strings.CutPrefix(string(name), base+".")
			_, err := strconv.ParseUint(digits, 10, 64)
			is(t, string(name), has && err == nil, false)
			continue
		}
		taken++
		is(t, "taken", wal.Name(base, n), string(name))
	}
	is(t, "some are taken, some are not", taken > 5000 && taken < 19000, true)
}

// TestScan: P13.2.
func TestScan(t *testing.T) {
	long := strings.Repeat("x", api.MaxRecord)
	three := laid(1, "a", "", long)
	scans(t, "nothing", "", 1, 0)
	scans(t, "records", three, 1, len(three), "a", "", long)
	scans(t, "from a later number on", laid(127, "a", "b", "c"), 127, len(laid(127, "a", "b", "c")), "a", "b", "c")
	scans(t, "from 0 on", laid(0, "a", "b"), 0, len(laid(0, "a", "b")), "a", "b")
	scans(t, "a load that looks like a number", laid(5, "\x05", "\x06\x06"), 5, len(laid(5, "\x05", "\x06\x06")), "\x05", "\x06\x06")
	round := record(greatest-1, "a") + record(greatest, "b") + record(0, "c") + record(1, "d")
	scans(t, "behind the greatest number", round, greatest-1, len(round), "a", "b", "c", "d")
}

// TestScanEnds: P13.2: what is no record of the next number ends it.
func TestScanEnds(t *testing.T) {
	good := laid(7, "a", "bc")
	for what, tail := range map[string]string{
		"nothing whole":              "\x00",
		"zeros":                      strings.Repeat("\x00", 40),
		"noise":                      "any bytes that are no frame's, at all",
		"no number":                  frame(""),
		"half a number":              frame("\x89"),
		"a number in a longer form":  frame("\x89\x00d"),
		"a number that is too great": frame("\xff\xff\xff\xff\xff\xff\xff\xff\xff\x02d"),
		"the same number":            record(8, "d"),
		"the first number":           record(7, "a"),
		"a number left out":          record(10, "d"),
		"number 0":                   record(0, "d"),
		"the number and 2^32":        record(9+1<<32, "d"),
		"a load too long":            record(9, strings.Repeat("x", api.MaxRecord+1)),
		"a frame too long":           "\x00\x10\x00\x01" + record(9, "d"),
		"the longest frame":          frame("\x09" + strings.Repeat("x", api.MaxLoad-1)),
		"a sum that is wrong":        record(9, "d")[:9] + "\x00",
	} {
		scans(t, what, good+tail, 7, len(good), "a", "bc")
		scans(t, what+", a record behind", good+tail+record(9, "e"), 7, len(good), "a", "bc")
		scans(t, what+", alone", tail, 9, 0)
	}
	for _, first := range []uint64{0, 6, 8, 7 + 1<<32, 7 + 1<<63, greatest} {
		scans(t, "another first number", good, first, 0)
	}
}

// TestScanTorn: P13.2: of a beginning of the bytes, the whole frames.
func TestScanTorn(t *testing.T) {
	loads := []string{"", "abc", "", strings.Repeat("long", 60), "z"}
	all := laid(126, loads...)
	for end := range len(all) + 1 {
		n := 0
		for n < len(loads) && len(laid(126, loads[:n+1]...)) <= end {
			n++
		}
		scans(t, "torn", all[:end], 126, len(laid(126, loads[:n]...)), loads[:n]...)
	}
}

// TestScanBurst: P13.2: a record whose bits are turned is none.
func TestScanBurst(t *testing.T) {
	good := laid(3, "ab", "cdef", "g")
	from, to := len(laid(3, "ab")), len(laid(3, "ab", "cdef"))
	for at := from + 4; at < to; at++ {
		for bit := range 8 {
			p := []byte(good)
			p[at] ^= 1 << bit
			scans(t, "turned", string(p), 3, from, "ab")
		}
	}
}
