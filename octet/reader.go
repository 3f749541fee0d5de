package octet

import "quiver/api"

// Reader goes through bytes, as far as its first error.
type Reader struct {
	p   []byte
	at  int
	err api.Errno
}

// New is a reader of the bytes of p as they are now: P1.5.
func New(p []byte) *Reader {
	return &Reader{p: grown(p, 0)}
}

// Num reads a number: P1.6.
func (r *Reader) Num() uint64 {
	n, size := r.peek()
	r.skip(size)
	return n
}

// Int reads a number that may be below 0: P1.6.
func (r *Reader) Int() int64 {
	return unfold(r.Num())
}

// Byte reads one byte: P1.6.
func (r *Reader) Byte() byte {
	if r.stopped() {
		return 0
	}
	if r.Left() == 0 {
		r.Fail(api.ErrShort)
		return 0
	}
	c := r.p[r.at]
	r.skip(1)
	return c
}

// Text reads a text of at most so many bytes: P1.6.
func (r *Reader) Text(most int) string {
	n, size := r.peek()
	if r.stopped() {
		return ""
	}
	if above(n, most) {
		r.Fail(api.ErrLong)
		return ""
	}
	if n > uint64(r.Left()-size) {
		r.Fail(api.ErrShort)
		return ""
	}
	begin := r.at + size
	s := string(r.p[begin : begin+int(n)])
	r.skip(size + int(n))
	return s
}

// Count reads a number that is at most so great: P1.6.
func (r *Reader) Count(most int) int {
	n, size := r.peek()
	if r.stopped() {
		return 0
	}
	if above(n, most) {
		r.Fail(api.ErrLong)
		return 0
	}
	r.skip(size)
	return int(n)
}

// At is the place where the reader stands: P1.7.
func (r *Reader) At() int {
	if r == nil {
		return 0
	}
	return r.at
}

// Left is how many bytes are left: P1.7.
func (r *Reader) Left() int {
	if r == nil {
		return 0
	}
	return len(r.p) - r.at
}

// Why tells the first error, and its place: P1.7.
func (r *Reader) Why() (api.Errno, int) {
	if r == nil || r.err == api.OK {
		return api.OK, 0
	}
	return r.err, r.at
}

// Fail is an error that the caller found: P1.7.
func (r *Reader) Fail(e api.Errno) {
	if r != nil && r.err == api.OK {
		r.err = e
	}
}

// Done tells whether all was read, and well: P1.7.
func (r *Reader) Done() api.Errno {
	if e, _ := r.Why(); e != api.OK {
		return e
	}
	if r.Left() > 0 {
		return api.ErrTail
	}
	return api.OK
}

// peek is the number where the reader stands, and how many bytes it has; 0 and 0, if the reader has, or now meets, an error.
// The reader stays, for an error of what is behind the number has the number's place.
func (r *Reader) peek() (uint64, int) {
	if r.stopped() {
		return 0, 0
	}
	n, size, err := parseNum(r.p[r.at:])
	r.Fail(err)
	return n, size
}

// skip goes so many bytes ahead; a reader that has an error, or a nil one, is never told more than 0.
func (r *Reader) skip(size int) {
	if size > 0 {
		r.at += size
	}
}

func (r *Reader) stopped() bool {
	return r == nil || r.err != api.OK
}

// above holds n against a limit that may be below 0.
func above(n uint64, most int) bool {
	return most < 0 || n > uint64(most)
}
