package graph

import (
	"math"
	"slices"
	"testing"

	"marchpast/api"
	"marchpast/sample"
	"marchpast/store"
)

// inTheWay is what a clash is, key by key, without the program's help.
func inTheWay(x, y api.Txn) bool {
	for key := range api.Keys {
		setsOf := func(x api.Txn) bool {
			return slices.ContainsFunc(x.Sets, func(s api.Set) bool { return s.Key == key })
		}
		has := func(x api.Txn) bool { return setsOf(x) || slices.Contains(x.Reads, key) }
		if has(x) && has(y) && (setsOf(x) || setsOf(y)) {
			return true
		}
	}
	return false
}

func TestF1Clash(t *testing.T) {
	for _, c := range []struct {
		name string
		x, y api.Txn
		want bool
	}{
		{"a payment and a note", sample.Pay(3), sample.Note(), true},
		{"a note and a mark", sample.Note(), sample.Mark(1), false},
		{"a payment and a mark", sample.Pay(3), sample.Mark(1), false},
		{"two marks", sample.Mark(1), sample.Mark(2), true},
		{"one and the same", sample.Note(), sample.Note(), true},
		{"both only read it", sample.Keyed([]int{0, 3}, 1), sample.Keyed([]int{3}, 2), false},
		{"one reads and one sets it", sample.Keyed([]int{3}, 1), sample.Keyed(nil, 3), true},
		{"one reads and one reads and sets it", sample.Keyed([]int{3}, 1), sample.Keyed([]int{3}, 3), true},
		{"both set it, none reads", sample.Keyed(nil, 0, 7), sample.Keyed(nil, 7), true},
		{"both set it, one reads", sample.Keyed([]int{7}, 7), sample.Keyed(nil, 7), true},
		{"both read one, one sets another that is read", sample.Keyed([]int{1, 2}, 3), sample.Keyed([]int{2}, 1), true},
		{"key 0", sample.Keyed([]int{0}, 1), sample.Keyed(nil, 0), true},
		{"many keys, none in common", sample.Keyed([]int{0, 2, 4, 6}, 0, 2), sample.Keyed([]int{1, 3, 5, 7}, 5, 7), false},
		{"many keys, all read", sample.Keyed([]int{0, 1, 2, 3}, 6), sample.Keyed([]int{0, 1, 2, 3}, 7), false},
	} {
		if clash, e := Clash(c.x, c.y); clash != c.want || e != api.OK {
			t.Errorf("%s: %v, %d", c.name, clash, e)
		}
		if clash, e := Clash(c.y, c.x); clash != c.want || e != api.OK {
			t.Errorf("%s, the other way: %v, %d", c.name, clash, e)
		}
	}
}

func TestF1ClashDrawn(t *testing.T) {
	d := sample.Draw(6)
	clashes, others := 0, 0
	for range 2000 {
		x, y := d.Txn(), d.Txn()
		want := inTheWay(x, y)
		if clash, e := Clash(x, y); clash != want || e != api.OK {
			t.Fatalf("Clash(%v, %v) is %v, %d", x, y, clash, e)
		}
		if want {
			clashes++
		} else {
			others++
		}
	}
	if clashes < 100 || others < 100 {
		t.Errorf("%d clash and %d do not: the draw tells too little", clashes, others)
	}
}

func TestF1ClashErrors(t *testing.T) {
	for _, first := range sample.WrongKinds() {
		for name, pair := range map[string][2]api.Txn{
			"the first":               {sample.Wrong(first), sample.Pay(3)},
			"the first, no clash":     {sample.Wrong(first), sample.Mark(3)},
			"the second":              {sample.Pay(3), sample.Wrong(first)},
			"the second, no clash":    {sample.Mark(3), sample.Wrong(first)},
			"the first, and no other": {sample.Wrong(first), {}},
		} {
			if clash, e := Clash(pair[0], pair[1]); clash || e != first {
				t.Errorf("%s: %v, %d; must be %d", name, clash, e, first)
			}
		}
		for _, later := range sample.WrongKinds() {
			if clash, e := Clash(sample.Wrong(first), sample.Wrong(later)); clash || e != first {
				t.Errorf("%d, then %d: %v, %d", first, later, clash, e)
			}
		}
	}
	if clash, e := Clash(api.Txn{}, api.Txn{}); clash || e != api.ErrMany {
		t.Errorf("of none: %v, %d", clash, e)
	}
}

func TestF1Edges(t *testing.T) {
	for _, c := range []struct {
		name string
		l    []api.Txn
		want []api.Edge
	}{
		{"none", nil, nil},
		{"none, not nil", []api.Txn{}, nil},
		{"one", []api.Txn{sample.Pay(3)}, nil},
		{"one that waits", []api.Txn{sample.Mark(2), sample.Pay(3), sample.Note()}, []api.Edge{{From: 1, To: 2}}},
		{"the reader ahead", []api.Txn{sample.Note(), sample.Mark(2), sample.Pay(3)}, []api.Edge{{From: 0, To: 2}}},
		{"also over others", []api.Txn{sample.Pay(1), sample.Mark(1), sample.Note(), sample.Pay(2), sample.Mark(2)},
			[]api.Edge{{From: 0, To: 2}, {From: 0, To: 3}, {From: 1, To: 4}, {From: 2, To: 3}}},
		{"readers", []api.Txn{sample.Keyed([]int{0}, 1), sample.Keyed([]int{0}, 2), sample.Keyed([]int{0}, 3)}, nil},
	} {
		if edges, e := Edges(c.l); !slices.Equal(edges, c.want) || e != api.OK {
			t.Errorf("%s: %v, %d; must be %v", c.name, edges, e, c.want)
		}
	}
}

func TestF1EdgesOfAsManyAsMayBe(t *testing.T) {
	var want []api.Edge
	for from := range api.MaxTxns {
		for to := from + 1; to < api.MaxTxns; to++ {
			want = append(want, api.Edge{From: from, To: to})
		}
	}
	if edges, e := Edges(sample.Marks(api.MaxTxns)); !slices.Equal(edges, want) || e != api.OK {
		t.Errorf("it is %v, %d", edges, e)
	}
}

func TestF1EdgesDrawn(t *testing.T) {
	d := sample.Draw(61)
	for range 300 {
		l := d.Mixed()
		var want []api.Edge
		for from, x := range l {
			for to, y := range l {
				if from < to && inTheWay(x, y) {
					want = append(want, api.Edge{From: from, To: to})
				}
			}
		}
		if edges, e := Edges(l); !slices.Equal(edges, want) || e != api.OK {
			t.Fatalf("Edges(%v) is %v, %d; must be %v", l, edges, e, want)
		}
	}
}

// numbers are those that Swap may be asked for, right ones and others.
func numbers() []int {
	return []int{math.MinInt64, -1, 0, 1, 2, 3, api.MaxTxns - 2, api.MaxTxns - 1, api.MaxTxns, math.MaxInt64 - 1, math.MaxInt64}
}

func TestF1ListErrors(t *testing.T) {
	for i, w := range sample.WrongLists() {
		if edges, e := Edges(w.Txns); len(edges) != 0 || e != w.E {
			t.Errorf("Edges of list %d is %v, %d; must be %d", i, edges, e, w.E)
		}
		for _, n := range numbers() {
			if l, e := Swap(w.Txns, n); len(l) != 0 || e != w.E {
				t.Errorf("Swap of list %d at %d is %v, %d; must be %d", i, n, l, e, w.E)
			}
		}
	}
}

func TestF1Swap(t *testing.T) {
	pay, mark, note := sample.Pay(3), sample.Mark(9), sample.Note()
	for _, c := range []struct {
		n    int
		l    []api.Txn
		want []api.Txn
		e    api.Errno
	}{
		{0, []api.Txn{pay, mark, note}, []api.Txn{mark, pay, note}, api.OK},
		{1, []api.Txn{pay, mark, note}, []api.Txn{pay, note, mark}, api.OK},
		{0, []api.Txn{mark, note}, []api.Txn{note, mark}, api.OK},
		{0, []api.Txn{pay, note}, nil, api.ErrForm},
		{0, []api.Txn{note, pay, mark}, nil, api.ErrForm},
		{1, []api.Txn{mark, note, note}, nil, api.ErrForm},
		{2, []api.Txn{pay, mark, note}, nil, api.ErrNone},
		{1, []api.Txn{pay, note}, nil, api.ErrNone},
		{0, []api.Txn{pay}, nil, api.ErrNone},
		{0, nil, nil, api.ErrNone},
		{-1, []api.Txn{}, nil, api.ErrNone},
	} {
		if l, e := Swap(c.l, c.n); !sample.Same(l, c.want) || e != c.e {
			t.Errorf("Swap(%v, %d) is %v, %d; must be %v, %d", c.l, c.n, l, e, c.want, c.e)
		}
	}
}

func TestF1SwapOfNone(t *testing.T) {
	for size := range api.MaxTxns + 1 {
		l := sample.Marks(size)
		for _, n := range numbers() {
			want := api.ErrNone
			if n >= 0 && n < size-1 {
				want = api.ErrForm // marks clash
			}
			if s, e := Swap(l, n); len(s) != 0 || e != want {
				t.Errorf("of %d, at %d: %v, %d; must be %d", size, n, s, e, want)
			}
		}
	}
}

func TestF2TheSameComes(t *testing.T) {
	d := sample.Draw(62)
	swapped, clashed := 0, 0
	for range 400 {
		s, l := d.Store(), d.Mixed()
		for n := range len(l) - 1 {
			other, e := Swap(l, n)
			if inTheWay(l[n], l[n+1]) {
				clashed++
				if len(other) != 0 || e != api.ErrForm {
					t.Fatalf("Swap(%v, %d) is %v, %d", l, n, other, e)
				}
				continue
			}
			swapped++
			want := slices.Clone(l)
			want[n], want[n+1] = l[n+1], l[n]
			if !sample.Same(other, want) || e != api.OK {
				t.Fatalf("Swap(%v, %d) is %v, %d", l, n, other, e)
			}
			end, results, _ := store.Serial(s, l)
			otherEnd, otherResults, _ := store.Serial(s, other)
			results[n], results[n+1] = results[n+1], results[n]
			if !slices.Equal(end, otherEnd) || !sample.SameResults(results, otherResults) {
				t.Fatalf("%v, with %d and the next one swapped: another one comes of %v", l, n, s)
			}
		}
	}
	if swapped < 100 || clashed < 100 {
		t.Errorf("%d swapped and %d not: the draw tells too little", swapped, clashed)
	}
}

func TestP2OnlyRead(t *testing.T) {
	l := []api.Txn{sample.Pay(3), sample.Mark(2), sample.Note()}
	roomy := sample.Roomy(l)
	Clash(roomy[0], roomy[2])
	Edges(roomy)
	for _, n := range numbers() {
		Swap(roomy, n)
	}
	if !sample.Same(sample.Whole(roomy), sample.Whole(sample.Roomy(l))) {
		t.Errorf("what was handed in is %v", sample.Whole(roomy))
	}
}

func TestP2NewMemory(t *testing.T) {
	one := sample.Roomy([]api.Txn{sample.Keyed([]int{1, 2}, 3)})[0]
	l := []api.Txn{one, sample.Pay(3), sample.Mark(2), one} // one and the same twice
	swapped, _ := Swap(l, 1)
	want := []api.Txn{sample.Keyed([]int{1, 2}, 3), sample.Mark(2), sample.Pay(3), sample.Keyed([]int{1, 2}, 3)}
	sample.Spoil(l)
	if !sample.Same(swapped, want) {
		t.Errorf("with what was handed in spoilt it is %v", swapped)
	}
	sample.Spoil(swapped[3:])
	if !sample.Same(swapped[:3], want[:3]) {
		t.Errorf("with the last one spoilt it is %v", swapped)
	}
}

func TestP3TheSameAgain(t *testing.T) {
	l := []api.Txn{sample.Pay(3), sample.Mark(2), sample.Note(), sample.Pay(1)}
	edges, _ := Edges(l)
	swapped, _ := Swap(l, 0)
	for range 50 {
		Edges(sample.Marks(8))
		Edges(sample.Marks(9))
		Swap(l, 2)
		again, e := Edges(l)
		once, f := Swap(l, 0)
		if !slices.Equal(edges, again) || e != api.OK || !sample.Same(swapped, once) || f != api.OK {
			t.Fatalf("asked again it is %v, %d, %v, %d", again, e, once, f)
		}
	}
}
