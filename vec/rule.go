package vec

import (
	"cmp"

	"quiver/api"
)

// function is what comes of two numbers, and whether that is a number still.
type function func(a, b int64) (n int64, fits bool)

// rule is what an operation does with elements of two types: of which type what comes is, and what it is, of numbers or of symbols.
type rule struct {
	t       int
	numbers function
	symbols func(a, b string) (n int64, fits bool)
}

// pair is the types of two elements.
type pair [2]int

// both is the pair of two elements of one type.
func both(t int) pair { return pair{t, t} }

// operation tells the rule for a pair of types, and whether there is one: P7.1.
type operation func(of pair) (rule, bool)

// operations has what each operation does, at its number.
func operations() [api.OpGt + 1]operation {
	return [...]operation{
		api.OpAdd: strict(add),
		api.OpSub: strict(subtract),
		api.OpMul: strict(multiply),
		api.OpDiv: strict(divide),
		api.OpMod: strict(modulo),
		api.OpMin: choose(func(a, b int64) (int64, bool) { return min(a, b), true }),
		api.OpMax: choose(func(a, b int64) (int64, bool) { return max(a, b), true }),
		api.OpEq:  compare(func(order int) bool { return order == 0 }),
		api.OpLt:  compare(func(order int) bool { return order < 0 }),
		api.OpGt:  compare(func(order int) bool { return order > 0 }),
	}
}

// ruleOf is the rule for a pair of types. Where there is none for bools, they are ints.
func ruleOf(op operation, of pair) (rule, bool) {
	if r, found := op(of); found {
		return r, true
	}
	for i, t := range of {
		if t == api.KBool {
			of[i] = api.KInt
		}
	}
	return op(of)
}

// strict is an operation of which a null makes null, whatever else would come.
func strict(op operation) operation {
	return func(of pair) (rule, bool) {
		r, found := op(of)
		f := r.numbers
		r.numbers = func(a, b int64) (int64, bool) {
			if a == api.Null || b == api.Null {
				return api.Null, true
			}
			return f(a, b)
		}
		return r, found
	}
}

func add(of pair) (rule, bool) {
	switch of {
	case pair{api.KTime, api.KInt}, pair{api.KInt, api.KTime}:
		return rule{t: api.KTime, numbers: sum}, true
	}
	return alike(sum, of)
}

func subtract(of pair) (rule, bool) {
	switch of {
	case pair{api.KTime, api.KInt}:
		return rule{t: api.KTime, numbers: difference}, true
	case both(api.KTime):
		return rule{t: api.KInt, numbers: difference}, true
	}
	return alike(difference, of)
}

func multiply(of pair) (rule, bool) {
	switch of {
	case both(api.KInt):
		return rule{t: api.KInt, numbers: product(1)}, true
	case pair{api.KInt, api.KDec}, pair{api.KDec, api.KInt}:
		return rule{t: api.KDec, numbers: product(1)}, true
	case both(api.KDec):
		return rule{t: api.KDec, numbers: product(api.Scale)}, true
	}
	return rule{}, false
}

func divide(of pair) (rule, bool) {
	switch of {
	case both(api.KInt):
		return rule{t: api.KInt, numbers: quotient(1)}, true
	case pair{api.KDec, api.KInt}:
		return rule{t: api.KDec, numbers: quotient(1)}, true
	case both(api.KDec):
		return rule{t: api.KDec, numbers: quotient(api.Scale)}, true
	case pair{api.KInt, api.KDec}:
		return rule{t: api.KDec, numbers: quotient(api.Scale * api.Scale)}, true
	}
	return rule{}, false
}

func modulo(of pair) (rule, bool) {
	switch of {
	case both(api.KInt), both(api.KDec):
		return rule{t: of[0], numbers: remainder}, true
	}
	return rule{}, false
}

// choose is an operation that takes one of two numbers of one type.
func choose(f function) operation {
	return func(of pair) (rule, bool) {
		switch of {
		case both(api.KBool), both(api.KTime):
			return rule{t: of[0], numbers: f}, true
		}
		return alike(f, of)
	}
}

// alike is the rule of two ints, of two decs, and of an int and a dec: then the int becomes a dec.
func alike(f function, of pair) (rule, bool) {
	switch of {
	case both(api.KInt), both(api.KDec):
		return rule{t: of[0], numbers: f}, true
	case pair{api.KInt, api.KDec}:
		return rule{t: api.KDec, numbers: firstToDec(f)}, true
	case pair{api.KDec, api.KInt}:
		return rule{t: api.KDec, numbers: secondToDec(f)}, true
	}
	return rule{}, false
}

// compare is an operation that tells whether the order of two elements is as asked.
func compare(holds func(order int) bool) operation {
	return func(of pair) (rule, bool) {
		switch of {
		case both(api.KInt), both(api.KTime), both(api.KDec):
			return rule{t: api.KBool, numbers: asked(holds, cmp.Compare[int64])}, true
		case pair{api.KInt, api.KDec}:
			return rule{t: api.KBool, numbers: asked(holds, intByDec)}, true
		case pair{api.KDec, api.KInt}:
			return rule{t: api.KBool, numbers: asked(holds, decByInt)}, true
		case both(api.KSym):
			return rule{t: api.KBool, symbols: asked(holds, cmp.Compare[string])}, true
		}
		return rule{}, false
	}
}

// asked is whether what order tells of two elements holds, as a number.
func asked[E any](holds func(order int) bool, order func(a, b E) int) func(a, b E) (int64, bool) {
	return func(a, b E) (int64, bool) {
		if holds(order(a, b)) {
			return 1, true
		}
		return 0, true
	}
}
