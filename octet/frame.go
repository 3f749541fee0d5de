package octet

import "quiver/api"

// poly is the divisor of CRC-32C, its bits turned round.
const poly = 0x82f63b78

// A frame is how many bytes its load has, the load, and the sum of both.
const (
	headSize = 4
	sumSize  = 4
)

// manyBytes is from how many bytes on a table of all bytes' remainders pays for its making.
const manyBytes = 1024

// Crc is the CRC-32C of all the bytes: P1.2.
func Crc(p ...[]byte) uint32 {
	size := 0
	for _, b := range p {
		size += len(b)
	}
	if size >= manyBytes {
		return longCrc(p)
	}
	sum := ^uint32(0)
	for _, b := range p {
		for _, c := range b {
			sum = divide(sum ^ uint32(c))
		}
	}
	return ^sum
}

// longCrc is the same sum, by a table: what the low byte adds does not hang on the others.
func longCrc(p [][]byte) uint32 {
	var rest [256]uint32
	for i := range rest {
		rest[i] = divide(uint32(i))
	}
	sum := ^uint32(0)
	for _, b := range p {
		for _, c := range b {
			sum = rest[byte(sum)^c] ^ sum>>8
		}
	}
	return ^sum
}

// divide moves the low eight bits out of the register.
func divide(sum uint32) uint32 {
	for range 8 {
		sum = sum>>1 ^ poly&-(sum&1)
	}
	return sum
}

// Seal makes a frame: P1.3.
func Seal(load ...[]byte) ([]byte, api.Errno) {
	size := 0
	for _, b := range load {
		size += len(b)
		if size > api.MaxLoad {
			return nil, api.ErrLong
		}
	}
	frame := make([]byte, 0, headSize+size+sumSize)
	frame = append(frame, byte(size>>24), byte(size>>16), byte(size>>8), byte(size))
	for _, b := range load {
		frame = append(frame, b...)
	}
	sum := Crc(frame)
	return append(frame, byte(sum), byte(sum>>8), byte(sum>>16), byte(sum>>24)), api.OK
}

// Open reads the frame at the beginning of p: P1.3.
func Open(p []byte) ([]byte, int, api.Errno) {
	if len(p) < headSize {
		return nil, 0, api.ErrShort
	}
	load := uint32(p[0])<<24 | uint32(p[1])<<16 | uint32(p[2])<<8 | uint32(p[3])
	if load > api.MaxLoad {
		return nil, 0, api.ErrLong
	}
	end := headSize + int(load)
	if len(p) < end+sumSize {
		return nil, 0, api.ErrShort
	}
	sum := uint32(p[end]) | uint32(p[end+1])<<8 | uint32(p[end+2])<<16 | uint32(p[end+3])<<24
	if Crc(p[:end]) != sum {
		return nil, 0, api.ErrSum
	}
	return grown(p[headSize:end], 0), end + sumSize, api.OK
}

// Frames reads the frames one behind the other: P1.4.
func Frames(p []byte) ([][]byte, int, api.Errno) {
	var loads [][]byte
	at := 0
	for at < len(p) {
		load, size, err := Open(p[at:])
		if err != api.OK {
			return loads, at, err
		}
		loads = append(loads, load)
		at += size
	}
	return loads, at, api.OK
}
