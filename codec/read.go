package codec

import (
	"quiver/api"
	"quiver/octet"
)

// reader reads values: depth is how many of them are open, in one another.
type reader struct {
	*octet.Reader
	depth int
}

// value reads the value that begins here. It may be none, as value.Check then tells of the whole; but that it is too deep is told here, before it is too deep to be read.
func (r *reader) value() api.V {
	r.depth++
	defer func() { r.depth-- }()
	if r.depth > api.MaxDepth {
		r.Fail(api.ErrCodec)
	}
	v := api.V{T: int(int8(r.Byte()))}
	many := r.many(v.T)
	switch v.T {
	case api.KBool, -api.KBool:
		v.N = r.bools(many)
	case api.KInt, api.KTime, api.KDec, -api.KInt, -api.KTime, -api.KDec:
		v.N = r.numbers(many)
	case api.KSym, -api.KSym:
		v.S = several(r, many, r.symbol)
	case api.KTable:
		v.S = several(r, many, r.symbol)
		v.L = several(r, many, r.value)
	case api.KList, api.KDict:
		v.L = several(r, many, r.value)
	case api.KLambda:
		v.S = []string{r.Text(api.MaxText)}
	}
	return v
}

// many is how many elements, columns or parts a value of that type has here.
func (r *reader) many(t int) int {
	switch t {
	case api.KList, api.KBool, api.KInt, api.KSym, api.KTime, api.KDec:
		return r.Count(api.MaxCount)
	case api.KTable:
		return r.Count(api.MaxColumns)
	case api.KDict:
		return 2
	}
	return 1
}

// bools reads so many bits; those that are left in the last byte are zeros.
func (r *reader) bools(many int) []int64 {
	l := make([]int64, many)
	var left byte
	for i := range l {
		if i%8 == 0 {
			left = r.Byte()
		}
		l[i] = int64(left & 1)
		left >>= 1
	}
	if left != 0 {
		r.Fail(api.ErrCodec)
	}
	return l
}

// numbers reads the first one, and how far each other one is from the one ahead.
func (r *reader) numbers(many int) []int64 {
	l := several(r, many, r.Int)
	for i := 1; i < len(l); i++ {
		l[i] += l[i-1]
	}
	return l
}

func (r *reader) symbol() string { return r.Text(api.MaxSym) }

// several reads so many, as far as the first error. The bytes may claim more than they have: room is made for what came.
func several[T any](r *reader, many int, read func() T) []T {
	var l []T
	for range many {
		if e, _ := r.Why(); e != api.OK {
			break
		}
		l = append(l, read())
	}
	return l
}
