// Package vals: values: see doc/01-vals.md.
package vals

import (
	"marchpast/api"
	"marchpast/fault"
)

// Check: see the chapter.
func Check(o api.Operand, reads int) api.Errno {
	switch {
	case reads < 0 || reads > api.MaxReads:
		return api.ErrRange
	case o.Kind == api.Num:
		return api.OK
	case o.Kind != api.Read:
		return api.ErrKind
	case o.N < 0 || o.N >= reads:
		return api.ErrRange
	}
	return api.OK
}

// Value: see the chapter.
func Value(o api.Operand, read []int) (int, api.Errno) {
	if e := Check(o, len(read)); e != api.OK {
		return 0, e
	}
	if o.Kind == api.Num {
		return o.N, api.OK
	}
	return read[o.N], api.OK
}

// Reckon: see the chapter.
func Reckon(op, a, b int) (int, api.Errno) {
	return fault.Caught(func() int { return find(operations(), op)(a, b) })
}

// Holds: see the chapter.
func Holds(kind, a, b int) (bool, api.Errno) {
	return fault.Caught(func() bool { return find(comparisons(), kind)(a, b) })
}

// find leaves by ErrKind, if the table has no such kind.
func find[F any](table map[int]F, kind int) F {
	f, ok := table[kind]
	if !ok {
		fault.Leave(api.ErrKind)
	}
	return f
}

func operations() map[int]func(a, b int) int {
	return map[int]func(a, b int) int{
		api.Put:   func(a, b int) int { return a },
		api.Add:   func(a, b int) int { return a + b },
		api.Sub:   func(a, b int) int { return a - b },
		api.Mul:   func(a, b int) int { return a * b },
		api.Least: func(a, b int) int { return min(a, b) },
		api.Most:  func(a, b int) int { return max(a, b) },
	}
}

func comparisons() map[int]func(a, b int) bool {
	return map[int]func(a, b int) bool{
		api.Same:    func(a, b int) bool { return a == b },
		api.Unlike:  func(a, b int) bool { return a != b },
		api.Below:   func(a, b int) bool { return a < b },
		api.NoAbove: func(a, b int) bool { return a <= b },
	}
}
