package vals

import (
	"math"
	"slices"
	"testing"

	"marchpast/api"
)

// edges of values, and some between.
func edges() []int {
	return []int{math.MinInt64, math.MinInt64 + 1, -1 << 62, -1 << 32, -7, -1, 0, 1, 2, 3, 7, 1 << 31, 1 << 32, 1 << 62, math.MaxInt64 - 1, math.MaxInt64}
}

// wrongKinds of operands, operations and comparisons alike.
func wrongKinds() []int { return []int{math.MinInt64, -2, -1, 0, 7, 8, 257, 1<<32 + 1, math.MaxInt64} }

func TestA1CheckReads(t *testing.T) {
	for _, o := range []api.Operand{{Kind: api.Num, N: 5}, {Kind: api.Read}, {Kind: 0}, {Kind: api.Read, N: 9}} {
		for _, reads := range []int{math.MinInt64, -1, api.MaxReads + 1, 1 << 32, math.MaxInt64} {
			if e := Check(o, reads); e != api.ErrRange {
				t.Errorf("Check(%v, %d) is %d", o, reads, e)
			}
		}
	}
}

func TestA1CheckNumber(t *testing.T) {
	for reads := 0; reads <= api.MaxReads; reads++ {
		for _, n := range edges() {
			if e := Check(api.Operand{Kind: api.Num, N: n}, reads); e != api.OK {
				t.Errorf("Check of the number %d beside %d reads is %d", n, reads, e)
			}
		}
	}
}

func TestA1CheckPlace(t *testing.T) {
	for reads := 0; reads <= api.MaxReads; reads++ {
		for n := range reads {
			if e := Check(api.Operand{Kind: api.Read, N: n}, reads); e != api.OK {
				t.Errorf("Check of place %d of %d is %d", n, reads, e)
			}
		}
		for _, n := range []int{math.MinInt64, -1, reads, reads + 1, 1 << 32, math.MaxInt64} {
			if e := Check(api.Operand{Kind: api.Read, N: n}, reads); e != api.ErrRange {
				t.Errorf("Check of place %d of %d is %d", n, reads, e)
			}
		}
	}
}

func TestA1CheckKind(t *testing.T) {
	for _, kind := range append(wrongKinds(), 3, 4) {
		for reads := 0; reads <= api.MaxReads; reads++ {
			for _, n := range []int{-1, 0, reads} {
				if e := Check(api.Operand{Kind: kind, N: n}, reads); e != api.ErrKind {
					t.Errorf("Check of kind %d, %d beside %d is %d", kind, n, reads, e)
				}
			}
		}
	}
}

func TestA1Value(t *testing.T) {
	read := []int{11, math.MinInt64, -3, math.MaxInt64}
	for i := range read {
		for reads := i + 1; reads <= len(read); reads++ {
			if v, e := Value(api.Operand{Kind: api.Read, N: i}, read[:reads]); v != read[i] || e != api.OK {
				t.Errorf("place %d of %d: %d, %d", i, reads, v, e)
			}
		}
	}
	for _, n := range edges() {
		if v, e := Value(api.Operand{Kind: api.Num, N: n}, nil); v != n || e != api.OK {
			t.Errorf("number %d: %d, %d", n, v, e)
		}
	}
}

func TestA1ValueErrors(t *testing.T) {
	room := []int{1, 2, 3, 4, 5} // what lies behind the list is no place of it
	for _, c := range []struct {
		o    api.Operand
		read []int
		want api.Errno
	}{
		{api.Operand{Kind: api.Num, N: 6}, room, api.ErrRange},
		{api.Operand{Kind: 0, N: 6}, room, api.ErrRange},
		{api.Operand{Kind: api.Read, N: 0}, nil, api.ErrRange},
		{api.Operand{Kind: api.Read, N: 0}, []int{}, api.ErrRange},
		{api.Operand{Kind: api.Read, N: 2}, room[:2], api.ErrRange},
		{api.Operand{Kind: api.Read, N: -1}, room[:2], api.ErrRange},
		{api.Operand{Kind: 3, N: -1}, room[:2], api.ErrKind},
		{api.Operand{Kind: 0, N: 1}, room[:2], api.ErrKind},
	} {
		if v, e := Value(c.o, c.read); v != 0 || e != c.want {
			t.Errorf("Value(%v, %v) is %d, %d", c.o, c.read, v, e)
		}
	}
	if !slices.Equal(room, []int{1, 2, 3, 4, 5}) {
		t.Errorf("what was handed in is %v", room)
	}
}

func TestA2Reckon(t *testing.T) {
	for _, a := range edges() {
		for _, b := range edges() {
			low, high := a, b
			if b < a {
				low, high = b, a
			}
			x, y := uint64(a), uint64(b) // these go round by the language's own word
			want := map[int]int{api.Put: a, api.Add: int(x + y), api.Sub: int(x - y), api.Mul: int(x * y), api.Least: low, api.Most: high}
			for op, w := range want {
				if n, e := Reckon(op, a, b); n != w || e != api.OK {
					t.Errorf("Reckon(%d, %d, %d) is %d, %d; must be %d", op, a, b, n, e, w)
				}
			}
		}
	}
}

func TestA2ReckonGoesRound(t *testing.T) {
	for _, c := range [][4]int{
		{api.Add, math.MaxInt64, 1, math.MinInt64},
		{api.Add, math.MinInt64, math.MinInt64, 0},
		{api.Sub, math.MinInt64, 1, math.MaxInt64},
		{api.Sub, 0, math.MinInt64, math.MinInt64},
		{api.Mul, math.MinInt64, -1, math.MinInt64},
		{api.Mul, math.MaxInt64, 2, -2},
		{api.Mul, 1 << 32, 1 << 32, 0},
		{api.Most, 3, 7, 7},
		{api.Least, math.MinInt64, math.MaxInt64, math.MinInt64},
	} {
		if n, e := Reckon(c[0], c[1], c[2]); n != c[3] || e != api.OK {
			t.Errorf("Reckon(%d, %d, %d) is %d, %d; must be %d", c[0], c[1], c[2], n, e, c[3])
		}
	}
}

func TestA2Holds(t *testing.T) {
	places := edges() // they rise, so their places tell which is below which
	for i, a := range places {
		for j, b := range places {
			want := map[int]bool{api.Same: i == j, api.Unlike: i != j, api.Below: i < j, api.NoAbove: i <= j}
			for kind, w := range want {
				if is, e := Holds(kind, a, b); is != w || e != api.OK {
					t.Errorf("Holds(%d, %d, %d) is %v, %d; must be %v", kind, a, b, is, e, w)
				}
			}
		}
	}
}

func TestA2WrongKinds(t *testing.T) {
	for _, kind := range wrongKinds() {
		if n, e := Reckon(kind, 3, 7); n != 0 || e != api.ErrKind {
			t.Errorf("Reckon(%d, 3, 7) is %d, %d", kind, n, e)
		}
	}
	for _, kind := range append(wrongKinds(), 5, 6) {
		if is, e := Holds(kind, 3, 7); is || e != api.ErrKind {
			t.Errorf("Holds(%d, 3, 7) is %v, %d", kind, is, e)
		}
	}
}
