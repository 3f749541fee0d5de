package codec

import (
	"quiver/api"
	"quiver/octet"
	"quiver/value"
)

// lay puts the bytes of what is a value behind b. What a type does not name is empty, so one field behind the other lays all kinds.
// (octet lays each of them alone: behind b, it would copy b each time.)
func lay(b []byte, v api.V) []byte {
	b = append(b, head(v)...)
	b = append(b, numbers(v)...)
	b = append(b, octet.PutText(nil, v.S...)...)
	for _, part := range v.L {
		b = lay(b, part)
	}
	return b
}

// head is the type and, where the type does not tell it, how many elements or columns there are.
func head(v api.V) []byte {
	b := []byte{byte(v.T)}
	switch v.T {
	case api.KList, api.KBool, api.KInt, api.KSym, api.KTime, api.KDec:
		return octet.Put(b, uint64(value.Count(v)))
	case api.KTable:
		return octet.Put(b, uint64(len(v.S)))
	}
	return b
}

// numbers is the bytes of N. An atom's are those of one element in a vector.
func numbers(v api.V) []byte {
	if v.T == api.KBool || v.T == -api.KBool {
		return bits(v.N)
	}
	return octet.PutInt(nil, steps(v.N)...)
}

func bits(l []int64) []byte {
	b := make([]byte, (len(l)+7)/8)
	for i, n := range l {
		b[i/8] |= byte(n) << (i % 8)
	}
	return b
}

// steps is the first number, and how far each other one is from the one ahead.
func steps(l []int64) []int64 {
	differences := make([]int64, len(l))
	var ahead int64
	for i, n := range l {
		differences[i] = n - ahead
		ahead = n
	}
	return differences
}
