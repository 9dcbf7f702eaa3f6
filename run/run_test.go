package run

import (
	"math"
	"slices"
	"testing"

	"marchpast/api"
	"marchpast/graph"
	"marchpast/locks"
	"marchpast/sample"
	"marchpast/store"
)

func five() []int { return []int{5, 1, 0, 0, 0, 0, 0, 0} }

// told holds both calls against an error, and looks for zero values beside it.
func told(t *testing.T, name string, s []int, l []api.Txn, picks []int, want api.Errno) {
	t.Helper()
	if e := Check(s, l, picks); e != want {
		t.Errorf("%s: Check of %v is %d; must be %d", name, picks, e, want)
	}
	if end, results, e := Run(s, l, picks); len(end) != 0 || len(results) != 0 || e != want {
		t.Errorf("%s: Run of %v is %v, %v, %d; must be %d", name, picks, end, results, e, want)
	}
}

func TestH1Run(t *testing.T) {
	l := []api.Txn{sample.Pay(3), sample.Note(), sample.Mark(9)}
	wantEnd := []int{2, 4, 0, 0, 0, 4, 0, 9}
	want := []api.Result{{Done: true, Vals: []int{5, 1}}, {Done: true, Vals: []int{4}}, {Done: true}}
	for _, picks := range [][]int{{0, 1, 2}, {0, 2, 1}, {2, 0, 1}} {
		if e := Check(five(), l, picks); e != api.OK {
			t.Errorf("Check of %v is %d", picks, e)
		}
		end, results, e := Run(five(), l, picks)
		if !slices.Equal(end, wantEnd) || !sample.SameResults(results, want) || e != api.OK {
			t.Errorf("Run of %v is %v, %v, %d", picks, end, results, e)
		}
	}
}

func TestH1RunOfNone(t *testing.T) {
	for _, l := range [][]api.Txn{nil, {}} {
		for _, picks := range [][]int{nil, {}} {
			if e := Check(five(), l, picks); e != api.OK {
				t.Errorf("Check is %d", e)
			}
			if end, results, e := Run(five(), l, picks); !slices.Equal(end, five()) || len(results) != 0 || e != api.OK {
				t.Errorf("Run is %v, %v, %d", end, results, e)
			}
		}
	}
}

func TestH1NotDoneIsPicked(t *testing.T) {
	l := []api.Txn{sample.Pay(3), sample.Mark(1), sample.Pay(3)} // the second payment's guard does not hold
	end, results, e := Run(five(), l, []int{0, 2, 1})
	want := []api.Result{{Done: true, Vals: []int{5, 1}}, {Done: true}, {Vals: []int{2, 4}}}
	if !slices.Equal(end, []int{2, 4, 0, 0, 0, 0, 0, 1}) || !sample.SameResults(results, want) || e != api.OK {
		t.Errorf("Run is %v, %v, %d", end, results, e)
	}
}

func TestH1PickErrors(t *testing.T) {
	l := []api.Txn{sample.Pay(3), sample.Note(), sample.Mark(9)}
	for _, c := range []struct {
		picks []int
		want  api.Errno
	}{
		{nil, api.ErrLeft},
		{[]int{}, api.ErrLeft},
		{[]int{0}, api.ErrLeft},
		{[]int{2}, api.ErrLeft},
		{[]int{0, 1}, api.ErrLeft},
		{[]int{2, 0}, api.ErrLeft},
		{[]int{1}, api.ErrEarly},
		{[]int{1, 0, 2}, api.ErrEarly},
		{[]int{2, 1, 0}, api.ErrEarly},
		{[]int{0, 0}, api.ErrDone},
		{[]int{2, 2}, api.ErrDone},
		{[]int{0, 1, 2, 0}, api.ErrDone},
		{[]int{0, 1, 2, 2}, api.ErrDone},
		{[]int{3}, api.ErrNone},
		{[]int{-1}, api.ErrNone},
		{[]int{math.MinInt64}, api.ErrNone},
		{[]int{math.MaxInt64}, api.ErrNone},
		{[]int{1<<32 + 1}, api.ErrNone},
		{[]int{0, 1, 2, 3}, api.ErrNone},
		{[]int{0, 1, 2, -1}, api.ErrNone},
	} {
		told(t, "wrong picks", five(), l, c.picks, c.want)
	}
	told(t, "picks of none", five(), nil, []int{0}, api.ErrNone)
	told(t, "picks of none", five(), []api.Txn{}, []int{-1}, api.ErrNone)
}

// The first wrong pick is told, whatever is wrong with those behind it.
func TestH1PickByPick(t *testing.T) {
	l := []api.Txn{sample.Mark(0), sample.Pay(3), sample.Note(), sample.Note()}
	flaws := []struct { // what is wrong after pick 0 alone
		pick int
		e    api.Errno
	}{{4, api.ErrNone}, {-1, api.ErrNone}, {0, api.ErrDone}, {2, api.ErrEarly}, {3, api.ErrEarly}}
	for _, first := range flaws {
		told(t, "one", five(), l, []int{0, first.pick}, first.e)
		told(t, "one, and all behind", five(), l, []int{0, first.pick, 1, 2, 3}, first.e)
		for _, later := range flaws {
			told(t, "two", five(), l, []int{0, first.pick, later.pick}, first.e)
			told(t, "two, one between", five(), l, []int{0, first.pick, 1, later.pick, 2, 3}, first.e)
		}
	}
}

func TestH1ManyPicks(t *testing.T) {
	l := sample.Marks(2)
	many := func(n int) []int { return append([]int{0, 1}, make([]int, n-2)...) }
	told(t, "as many as may be", five(), l, many(api.MaxPicks), api.ErrDone)
	told(t, "one more", five(), l, many(api.MaxPicks+1), api.ErrMany)
	told(t, "many more", five(), l, many(1<<16), api.ErrMany)
	told(t, "many of none", five(), nil, make([]int, api.MaxPicks+1), api.ErrMany)
	for _, pick := range []int{-1, 2, 1} { // none, and early
		told(t, "many, wrong ones", five(), l, slices.Repeat([]int{pick}, api.MaxPicks+1), api.ErrMany)
	}
}

func TestH1ErrorsAhead(t *testing.T) {
	picks := [][]int{nil, {0}, {0, 0}, {1, 0}, {-1}, {99}, make([]int, api.MaxPicks+1)}
	for _, p := range picks {
		for _, s := range [][]int{nil, {}, make([]int, api.Keys-1, api.Keys), make([]int, api.Keys+1)} {
			told(t, "wrong store", s, nil, p, api.ErrForm)
			told(t, "wrong store", s, []api.Txn{sample.Pay(3), sample.Note()}, p, api.ErrForm)
			for _, w := range sample.WrongLists() {
				told(t, "wrong store and list", s, w.Txns, p, api.ErrForm)
			}
		}
		for _, w := range sample.WrongLists() {
			told(t, "wrong list", five(), w.Txns, p, w.E)
		}
	}
}

// orders are all in which n things can stand.
func orders(n int) [][]int {
	if n == 0 {
		return [][]int{nil}
	}
	var all [][]int
	for _, o := range orders(n - 1) {
		for at := range n {
			all = append(all, slices.Insert(slices.Clone(o), at, n-1))
		}
	}
	return all
}

// Of all orders those can be picked in which nobody stands ahead of one that he waits for, and the same comes of them.
func TestH2AllOrders(t *testing.T) {
	d := sample.Draw(8)
	right, wrong := 0, 0
	for range 60 {
		s, l := d.Store(), d.Loose()
		l = l[:min(5, len(l))]
		edges, _ := graph.Edges(l)
		wantEnd, want, _ := store.Serial(s, l)
		for _, picks := range orders(len(l)) {
			if slices.ContainsFunc(edges, func(edge api.Edge) bool {
				return slices.Index(picks, edge.To) < slices.Index(picks, edge.From)
			}) {
				wrong++
				told(t, "an order that can't be", s, l, picks, api.ErrEarly)
				continue
			}
			right++
			end, results, e := Run(s, l, picks)
			if !slices.Equal(end, wantEnd) || !sample.SameResults(results, want) || e != api.OK || Check(s, l, picks) != api.OK {
				t.Fatalf("Run(%v, %v, %v) is %v, %v, %d; must be %v, %v", s, l, picks, end, results, e, wantEnd, want)
			}
		}
	}
	if right < 100 || wrong < 100 {
		t.Errorf("%d right orders and %d wrong ones: the draw tells too little", right, wrong)
	}
}

// Whoever is ready is picked, until all are done.
func TestH2Drawn(t *testing.T) {
	d := sample.Draw(81)
	other := 0
	for range 300 {
		s, l := d.Store(), d.Mixed()
		done := make([]bool, len(l))
		var picks []int
		for range l {
			ready, _ := locks.Ready(l, done)
			n := ready[d.N(len(ready))]
			done[n] = true
			picks = append(picks, n)
		}
		if !slices.IsSorted(picks) {
			other++
		}
		wantEnd, want, _ := store.Serial(s, l)
		end, results, e := Run(s, l, picks)
		if !slices.Equal(end, wantEnd) || !sample.SameResults(results, want) || e != api.OK {
			t.Fatalf("Run(%v, %v, %v) is %v, %v, %d; must be %v, %v", s, l, picks, end, results, e, wantEnd, want)
		}
	}
	if other < 100 {
		t.Errorf("%d in another order: the draw tells too little", other)
	}
}

func TestP2OnlyRead(t *testing.T) {
	l := []api.Txn{sample.Pay(3), sample.Note(), sample.Mark(2)}
	roomy, s, picks := sample.Roomy(l), append(five(), 77)[:api.Keys], []int{2, 0, 1, 66}
	for n := range 5 {
		Check(s, roomy, picks[:n])
		Run(s, roomy, picks[:n])
		if !sample.Same(sample.Whole(roomy), sample.Whole(sample.Roomy(l))) || !slices.Equal(s[:api.Keys+1], append(five(), 77)) || !slices.Equal(picks, []int{2, 0, 1, 66}) {
			t.Fatalf("what was handed in is %v, %v, %v", sample.Whole(roomy), s[:api.Keys+1], picks)
		}
	}
}

func TestP2NewMemory(t *testing.T) {
	l, s, picks := []api.Txn{sample.Note(), sample.Mark(2), sample.Pay(3)}, five(), []int{1, 0, 2}
	end, r, _ := Run(s, l, picks)
	clear(s)
	clear(picks)
	sample.Spoil(l)
	clear(r[0].Vals[:cap(r[0].Vals)])
	want := []api.Result{{Done: true, Vals: []int{0}}, {Done: true}, {Done: true, Vals: []int{5, 1}}}
	if !slices.Equal(end, []int{2, 4, 0, 0, 0, 1, 0, 2}) || !sample.SameResults(r, want) {
		t.Errorf("Run's answer is %v, %v then", end, r)
	}
}

func TestP3TheSameAgain(t *testing.T) {
	l, picks := []api.Txn{sample.Pay(3), sample.Mark(1), sample.Pay(3), sample.Note()}, []int{0, 2, 3, 1}
	end, r, e := Run(five(), l, picks)
	for range 50 {
		Run(make([]int, api.Keys), l, picks)
		Run(five(), l, picks[1:])
		Run(nil, nil, nil)
		if end2, r2, e2 := Run(five(), l, picks); !slices.Equal(end, end2) || !sample.SameResults(r, r2) || e != e2 {
			t.Fatalf("asked again it is %v, %v, %d", end2, r2, e2)
		}
	}
}
