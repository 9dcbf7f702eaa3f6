package store

import (
	"math"
	"slices"
	"testing"

	"marchpast/api"
	"marchpast/sample"
)

func five() []int { return []int{5, 1, 0, 0, 0, 0, 0, 0} }

// wrongStores are all but those with a value for each key.
func wrongStores() [][]int {
	return [][]int{nil, {}, {1}, make([]int, api.Keys-1), make([]int, api.Keys-1, api.Keys), make([]int, api.Keys+1), make([]int, 1<<16)}
}

func TestC1Check(t *testing.T) {
	for _, s := range [][]int{five(), make([]int, api.Keys), make([]int, api.Keys, 20)} {
		if e := Check(s); e != api.OK {
			t.Errorf("Check(%v) is %d", s, e)
		}
	}
	for _, s := range wrongStores() {
		if e := Check(s); e != api.ErrForm {
			t.Errorf("Check of %d values is %d", len(s), e)
		}
	}
}

func TestC1Apply(t *testing.T) {
	swap := api.Txn{Reads: []int{0, 7}, Sets: []api.Set{
		{Key: 0, Op: api.Put, A: sample.Value(1), B: sample.Number(0)},
		{Key: 7, Op: api.Put, A: sample.Value(0), B: sample.Number(0)},
	}}
	round := api.Txn{Reads: []int{3}, Sets: []api.Set{{Key: 3, Op: api.Add, A: sample.Value(0), B: sample.Number(1)}}}
	for _, c := range []struct {
		name   string
		s      []int
		x      api.Txn
		end    []int
		result api.Result
	}{
		{"paid", five(), sample.Pay(3), []int{2, 4, 0, 0, 0, 0, 0, 0}, api.Result{Done: true, Vals: []int{5, 1}}},
		{"paid all", five(), sample.Pay(5), []int{0, 6, 0, 0, 0, 0, 0, 0}, api.Result{Done: true, Vals: []int{5, 1}}},
		{"not paid", five(), sample.Pay(6), five(), api.Result{Vals: []int{5, 1}}},
		{"noted", five(), sample.Note(), []int{5, 1, 0, 0, 0, 1, 0, 0}, api.Result{Done: true, Vals: []int{1}}},
		{"marked", five(), sample.Mark(9), []int{5, 1, 0, 0, 0, 0, 0, 9}, api.Result{Done: true}},
		{"changed places", []int{1, 2, 3, 4, 5, 6, 7, 8}, swap, []int{8, 2, 3, 4, 5, 6, 7, 1}, api.Result{Done: true, Vals: []int{1, 8}}},
		{"gone round", []int{0, 0, 0, math.MaxInt64, 0, 0, 0, 0}, round, []int{0, 0, 0, math.MinInt64, 0, 0, 0, 0}, api.Result{Done: true, Vals: []int{math.MaxInt64}}},
	} {
		end, r, e := Apply(c.s, c.x)
		if !slices.Equal(end, c.end) || !sample.SameResults([]api.Result{r}, []api.Result{c.result}) || e != api.OK {
			t.Errorf("%s: %v, %v, %d; must be %v, %v", c.name, end, r, e, c.end, c.result)
		}
	}
}

func TestC1Serial(t *testing.T) {
	pay := sample.Pay(3)
	end, r, e := Serial(five(), []api.Txn{sample.Note(), pay, pay, sample.Note(), sample.Mark(4)})
	want := []api.Result{{Done: true, Vals: []int{1}}, {Done: true, Vals: []int{5, 1}}, {Vals: []int{2, 4}}, {Done: true, Vals: []int{4}}, {Done: true}}
	if !slices.Equal(end, []int{2, 4, 0, 0, 0, 4, 0, 4}) || !sample.SameResults(r, want) || e != api.OK {
		t.Errorf("Serial is %v, %v, %d", end, r, e)
	}
	for _, l := range [][]api.Txn{nil, {}} {
		if end, r, e := Serial(five(), l); !slices.Equal(end, five()) || len(r) != 0 || e != api.OK {
			t.Errorf("Serial of none is %v, %v, %d", end, r, e)
		}
	}
}

// worth is what an operand is, as the chapter of values says it.
func worth(o api.Operand, read []int) int {
	if o.Kind == api.Read {
		return read[o.N]
	}
	return o.N
}

func holds(g api.Guard, read []int) bool {
	a, b := worth(g.A, read), worth(g.B, read)
	return g.Kind == api.Same && a == b || g.Kind == api.Unlike && a != b || g.Kind == api.Below && a < b || g.Kind == api.NoAbove && a <= b
}

func made(x api.Set, read []int) int {
	a, b := worth(x.A, read), worth(x.B, read)
	return []int{0, a, a + b, a - b, a * b, min(a, b), max(a, b)}[x.Op]
}

// by is one after the other, written down once more without the program's help.
func by(s []int, l []api.Txn) ([]int, []api.Result) {
	end, results := slices.Clone(s), []api.Result{}
	for _, x := range l {
		r := api.Result{Done: true}
		for _, key := range x.Reads {
			r.Vals = append(r.Vals, end[key])
		}
		for _, g := range x.Guards {
			r.Done = r.Done && holds(g, r.Vals)
		}
		for _, set := range x.Sets {
			if r.Done {
				end[set.Key] = made(set, r.Vals)
			}
		}
		results = append(results, r)
	}
	return end, results
}

func TestC1Drawn(t *testing.T) {
	d := sample.Draw(3)
	done, left := 0, 0
	for range 400 {
		s, l := d.Store(), d.Txns()
		end, results, e := Serial(s, l)
		wantEnd, wantResults := by(s, l)
		if !slices.Equal(end, wantEnd) || !sample.SameResults(results, wantResults) || e != api.OK {
			t.Fatalf("Serial(%v, %v) is %v, %v, %d; must be %v, %v", s, l, end, results, e, wantEnd, wantResults)
		}
		at := s
		for i, x := range l {
			var r api.Result
			at, r, e = Apply(at, x)
			if !sample.SameResults([]api.Result{r}, results[i:i+1]) || e != api.OK {
				t.Fatalf("Apply of %v is %v, %d; Serial has %v", x, r, e, results[i])
			}
			if r.Done {
				done++
			} else {
				left++
			}
		}
		if !slices.Equal(at, end) {
			t.Fatalf("applied one by one it is %v, Serial has %v", at, end)
		}
	}
	if done < 100 || left < 100 {
		t.Errorf("%d done and %d not: the draw tells too little", done, left)
	}
}

// told looks for zero values beside the error, of Serial and of Apply.
func told(t *testing.T, name string, s []int, l []api.Txn, want api.Errno) {
	t.Helper()
	if end, r, e := Serial(s, l); len(end) != 0 || len(r) != 0 || e != want {
		t.Errorf("%s: Serial is %v, %v, %d; must be %d", name, end, r, e, want)
	}
	if len(l) != 1 {
		return
	}
	if end, r, e := Apply(s, l[0]); len(end) != 0 || r.Done || len(r.Vals) != 0 || e != want {
		t.Errorf("%s: Apply is %v, %v, %d; must be %d", name, end, r, e, want)
	}
}

func TestC1Errors(t *testing.T) {
	many := sample.Marks(api.MaxTxns + 1)
	for _, s := range wrongStores() {
		told(t, "wrong store", s, nil, api.ErrForm)
		told(t, "wrong store, right one", s, sample.Marks(1), api.ErrForm)
		told(t, "wrong store, many", s, many, api.ErrForm)
		for _, kind := range sample.WrongKinds() {
			told(t, "wrong store, wrong one", s, []api.Txn{sample.Wrong(kind)}, api.ErrForm)
		}
	}
	told(t, "many", five(), many, api.ErrMany)
	for _, first := range sample.WrongKinds() {
		told(t, "wrong one", five(), []api.Txn{sample.Wrong(first)}, first)
		told(t, "wrong one behind", five(), []api.Txn{sample.Pay(1), sample.Note(), sample.Wrong(first)}, first)
		told(t, "wrong one of many", five(), append([]api.Txn{sample.Wrong(first)}, many...), api.ErrMany)
		for _, later := range sample.WrongKinds() {
			told(t, "two wrong ones", five(), []api.Txn{sample.Pay(1), sample.Wrong(first), sample.Wrong(later)}, first)
		}
	}
}

func TestC1AsManyAsMayBe(t *testing.T) {
	end, r, e := Serial(five(), sample.Marks(api.MaxTxns))
	if !slices.Equal(end, []int{5, 1, 0, 0, 0, 0, 0, 7}) || len(r) != api.MaxTxns || e != api.OK {
		t.Errorf("Serial is %v, %v, %d", end, r, e)
	}
}

func TestP2OnlyRead(t *testing.T) {
	l := []api.Txn{sample.Pay(3), sample.Note(), sample.Mark(2)}
	roomy, s := sample.Roomy(l), append(five(), 77)[:api.Keys]
	Check(s)
	Apply(s, roomy[0])
	Serial(s, roomy)
	if !sample.Same(sample.Whole(roomy), sample.Whole(sample.Roomy(l))) || !slices.Equal(s[:api.Keys+1], append(five(), 77)) {
		t.Errorf("what was handed in is %v, %v", sample.Whole(roomy), s[:api.Keys+1])
	}
}

func TestP2NewMemory(t *testing.T) {
	l, s := []api.Txn{sample.Note(), sample.Pay(3), sample.Pay(3)}, five()
	end, r, _ := Serial(s, l)
	one, q, _ := Apply(s, l[1])
	clear(s)
	sample.Spoil(l)
	clear(r[1].Vals[:cap(r[1].Vals)])
	want := []api.Result{{Done: true, Vals: []int{1}}, {Done: true, Vals: []int{0, 0}}, {Vals: []int{2, 4}}}
	if !slices.Equal(end, []int{2, 4, 0, 0, 0, 1, 0, 0}) || !sample.SameResults(r, want) {
		t.Errorf("Serial's answer is %v, %v then", end, r)
	}
	clear(one[:cap(one)])
	if !q.Done || !slices.Equal(q.Vals, []int{5, 1}) {
		t.Errorf("Apply's answer is %v then", q)
	}
}

func TestP3TheSameAgain(t *testing.T) {
	l := []api.Txn{sample.Pay(3), sample.Pay(3), sample.Note()}
	end, r, e := Serial(five(), l)
	for range 50 {
		Serial(make([]int, api.Keys), l)
		Serial(nil, l)
		if end2, r2, e2 := Serial(five(), l); !slices.Equal(end, end2) || !sample.SameResults(r, r2) || e != e2 {
			t.Fatalf("asked again it is %v, %v, %d", end2, r2, e2)
		}
	}
}
