package audit

import (
	"math"
	"slices"
	"testing"

	"marchpast/api"
	"marchpast/sample"
	"marchpast/store"
)

func five() []int { return []int{5, 1, 0, 9, 0, -2, 0, 0} }

// four are a payment, a note, a mark, and a payment that is not done.
func four() []api.Txn {
	return []api.Txn{sample.Pay(3), sample.Note(), sample.Mark(9), sample.Pay(3)}
}

func fourEnd() []int { return []int{2, 4, 0, 9, 0, 4, 0, 9} }

func fourResults() []api.Result {
	return []api.Result{{Done: true, Vals: []int{5, 1}}, {Done: true, Vals: []int{4}}, {Done: true}, {Vals: []int{2, 4}}}
}

func wrongStores() [][]int {
	return [][]int{nil, {}, make([]int, api.Keys-1, api.Keys), make([]int, api.Keys+1), make([]int, 1<<12)}
}

func audited(t *testing.T, name string, s []int, l []api.Txn, end []int, r []api.Result, want int) {
	t.Helper()
	if n, e := Audit(s, l, end, r); n != want || e != api.OK {
		t.Errorf("%s: Audit is %d, %d; must be %d", name, n, e, want)
	}
}

// told holds Audit against an error, and looks for a zero value beside it.
func told(t *testing.T, name string, s []int, l []api.Txn, end []int, r []api.Result, want api.Errno) {
	t.Helper()
	if n, e := Audit(s, l, end, r); n != 0 || e != want {
		t.Errorf("%s: Audit is %d, %d; must be %d", name, n, e, want)
	}
}

// readsTold holds Reads against an error, and looks for a zero value beside it.
func readsTold(t *testing.T, name string, s []int, l []api.Txn, n int, want api.Errno) {
	t.Helper()
	if by, e := Reads(s, l, n); len(by) != 0 || e != want {
		t.Errorf("%s: Reads of %d is %v, %d; must be %d", name, n, by, e, want)
	}
}

func TestK1Audit(t *testing.T) {
	for _, c := range []struct {
		name string
		turn func(end []int, r []api.Result)
		want int
	}{
		{"as it came", func(end []int, r []api.Result) {}, -1},
		{"an empty list", func(end []int, r []api.Result) { r[2].Vals = []int{} }, -1},
		{"another value of the first key", func(end []int, r []api.Result) { end[0]++ }, 4},
		{"another value of the last key", func(end []int, r []api.Result) { end[7]-- }, 4},
		{"another value of a key that nobody has", func(end []int, r []api.Result) { end[6] = math.MinInt64 }, 4},
		{"the store of the beginning", func(end []int, r []api.Result) { copy(end, five()) }, 4},
		{"not done, being done", func(end []int, r []api.Result) { r[0].Done = false }, 0},
		{"not done, without values", func(end []int, r []api.Result) { r[2].Done = false }, 2},
		{"done, being not done", func(end []int, r []api.Result) { r[3].Done = true }, 3},
		{"another value", func(end []int, r []api.Result) { r[1].Vals[0] = 3 }, 1},
		{"another last value", func(end []int, r []api.Result) { r[0].Vals[1] = -1 }, 0},
		{"another value of one not done", func(end []int, r []api.Result) { r[3].Vals[0] = 5 }, 3},
		{"values the other way round", func(end []int, r []api.Result) { slices.Reverse(r[0].Vals) }, 0},
		{"no values", func(end []int, r []api.Result) { r[0].Vals = nil }, 0},
		{"a value less", func(end []int, r []api.Result) { r[3].Vals = r[3].Vals[:1] }, 3},
		{"a value more", func(end []int, r []api.Result) { r[1].Vals = []int{4, 4} }, 1},
		{"a value where nothing is read", func(end []int, r []api.Result) { r[2].Vals = []int{0} }, 2},
		{"two of them", func(end []int, r []api.Result) { r[1].Vals, r[2].Done = nil, false }, 1},
		{"the last one and the store", func(end []int, r []api.Result) { r[3].Done, end[0] = true, 9 }, 3},
		{"all of it", func(end []int, r []api.Result) { clear(r); clear(end) }, 0},
	} {
		end, r := fourEnd(), fourResults()
		c.turn(end, r)
		audited(t, c.name, five(), four(), end, r, c.want)
	}
}

func TestK1AuditOfNone(t *testing.T) {
	for _, l := range [][]api.Txn{nil, {}} {
		for _, r := range [][]api.Result{nil, {}} {
			audited(t, "the same store", five(), l, five(), r, -1)
			audited(t, "another store", five(), l, make([]int, api.Keys), r, 0)
			told(t, "no store", five(), l, nil, r, api.ErrForm)
			told(t, "a result", five(), l, five(), []api.Result{{}}, api.ErrForm)
		}
	}
}

func TestK1AuditErrors(t *testing.T) {
	s, l, end, r := five(), four(), fourEnd(), fourResults()
	counts := [][]api.Result{nil, {}, r[:3], append(slices.Clone(r), api.Result{}), make([]api.Result, 1<<12)}
	for _, wrong := range wrongStores() {
		told(t, "end is no store", s, l, wrong, r, api.ErrForm)
		told(t, "s is no store", wrong, l, end, r, api.ErrForm)
		told(t, "neither is", wrong, l, wrong, r, api.ErrForm)
		for _, w := range sample.WrongLists() {
			told(t, "s is no store, and a wrong list", wrong, w.Txns, end, make([]api.Result, len(w.Txns)), api.ErrForm)
			told(t, "a wrong list, and end is no store", s, w.Txns, wrong, make([]api.Result, len(w.Txns)), w.E)
		}
	}
	for _, count := range counts {
		told(t, "another number of results", s, l, end, count, api.ErrForm)
		told(t, "of results, and another store", s, l, five(), count, api.ErrForm)
		for _, w := range sample.WrongLists() {
			told(t, "a wrong list, and of results", s, w.Txns, end, count, w.E)
		}
	}
	for _, w := range sample.WrongLists() {
		told(t, "a wrong list", s, w.Txns, end, make([]api.Result, len(w.Txns)), w.E)
	}
}

// Of what came, anything that is changed is found, and where; changed back, it is as it came again.
func TestK1AuditFindsAll(t *testing.T) {
	d := sample.Draw(11)
	vals := 0
	for range 200 {
		s, l := d.Store(), d.Txns()
		end, r, _ := store.Serial(s, l)
		audited(t, "as it came", s, l, end, r, -1)
		for key := range end {
			end[key] += 1 + d.N(9)
			audited(t, "the store", s, l, end, r, len(l))
			for n := range r {
				r[n].Done = !r[n].Done
				audited(t, "done, and the store", s, l, end, r, n)
				r[n].Done = !r[n].Done
			}
			end, _, _ = store.Serial(s, l)
		}
		for n := range r {
			later := n + d.N(len(l)-n)
			for i := range r[n].Vals {
				vals++
				r[n].Vals[i] ^= 1 << d.N(64)
				audited(t, "a value", s, l, end, r, n)
				r[later].Done = !r[later].Done
				audited(t, "a value, and done", s, l, end, r, n)
				_, r, _ = store.Serial(s, l)
			}
		}
		audited(t, "as it came, in the end", s, l, end, r, -1)
	}
	if vals < 500 {
		t.Errorf("%d values: the draw tells too little", vals)
	}
}

func TestK1Reads(t *testing.T) {
	for n, want := range [][]int{{-1, -1}, {0}, {}, {0, 0}} {
		if by, e := Reads(five(), four(), n); !slices.Equal(by, want) || e != api.OK {
			t.Errorf("Reads of %d is %v, %d; must be %v", n, by, e, want)
		}
	}
}

func TestK1ReadsEdges(t *testing.T) {
	guarded := sample.Keyed([]int{0, 2}, 2, 5) // done, if the two keys are the same
	guarded.Guards = []api.Guard{{Kind: api.Same, A: sample.Value(0), B: sample.Value(1)}}
	for _, c := range []struct {
		name string
		l    []api.Txn
		n    int
		want []int
	}{
		{"its own set does not count", []api.Txn{sample.Keyed([]int{3}, 3)}, 0, []int{-1}},
		{"nor does one behind it", []api.Txn{sample.Keyed([]int{3}, 4), sample.Keyed(nil, 3)}, 0, []int{-1}},
		{"the last one ahead counts", []api.Txn{sample.Keyed(nil, 3), sample.Keyed(nil, 3), sample.Keyed([]int{3}, 3), sample.Keyed(nil, 3)}, 2, []int{1}},
		{"whoever set the key, and no other one", []api.Txn{sample.Keyed(nil, 0, 1, 7), sample.Keyed(nil, 1), sample.Keyed([]int{2}, 4), sample.Keyed([]int{0, 1, 2, 7}, 5)}, 3, []int{0, 1, -1, 0}},
		{"who reads does not set", []api.Txn{sample.Keyed([]int{6}, 1), sample.Keyed([]int{6}, 2)}, 1, []int{-1}},
		{"who sets what lies there sets it", []api.Txn{sample.Keyed(nil, 5), sample.Keyed(nil, 5), sample.Keyed([]int{5}, 0)}, 2, []int{1}},
		{"one that is not done sets nothing", []api.Txn{sample.Keyed(nil, 2), guarded, sample.Keyed([]int{2, 5}, 0)}, 2, []int{0, -1}},
		{"one that is done by another's set sets it", []api.Txn{sample.Keyed(nil, 0), guarded, sample.Keyed([]int{2, 5}, 0)}, 2, []int{1, 1}},
		{"first key and last one", []api.Txn{sample.Keyed(nil, 0), sample.Keyed(nil, 7), sample.Keyed([]int{0, 7}, 3)}, 2, []int{0, 1}},
		{"the last one of all", append(sample.Marks(7), sample.Keyed([]int{7}, 7)), 7, []int{6}},
	} {
		s := []int{4, 1, 0, 9, 0, 5, 0, 0} // keys 0 and 2 are not the same, unless key 0 is set
		if by, e := Reads(s, c.l, c.n); !slices.Equal(by, c.want) || e != api.OK {
			t.Errorf("%s: Reads is %v, %d; must be %v", c.name, by, e, c.want)
		}
	}
}

func TestK1ReadsErrors(t *testing.T) {
	numbers := []int{math.MinInt64, -1, 0, 1, 3, 8, 9, math.MaxInt64}
	for _, n := range numbers {
		for _, s := range wrongStores() {
			readsTold(t, "no store", s, four(), n, api.ErrForm)
			for _, w := range sample.WrongLists() {
				readsTold(t, "no store, and a wrong list", s, w.Txns, n, api.ErrForm)
			}
		}
		for _, w := range sample.WrongLists() {
			readsTold(t, "a wrong list", five(), w.Txns, n, w.E)
		}
	}
	for _, l := range [][]api.Txn{nil, {}, four(), sample.Marks(api.MaxTxns), four()[:2]} {
		for _, n := range []int{math.MinInt64, -1, len(l), len(l) + 1, 1 << 32, math.MaxInt64} {
			readsTold(t, "no such transaction", five(), l, n, api.ErrNone)
		}
	}
}

// setBy goes back from n: the first one that was done and sets the key is told, and what it set.
func setBy(s []int, l []api.Txn, n, key int) (int, int) {
	value := s[key]
	for by := n - 1; by >= 0; by-- {
		_, r, _ := store.Apply(storeAhead(s, l, by), l[by])
		if r.Done && slices.ContainsFunc(l[by].Sets, func(x api.Set) bool { return x.Key == key }) {
			return by, storeAhead(s, l, by+1)[key]
		}
	}
	return -1, value
}

// storeAhead is what lies there when transaction n begins.
func storeAhead(s []int, l []api.Txn, n int) []int {
	for _, x := range l[:n] {
		s, _, _ = store.Apply(s, x)
	}
	return s
}

// What was read is what the one that is told has set; or what lay there, if none is told.
func TestK1ReadsDrawn(t *testing.T) {
	d := sample.Draw(12)
	told, none, notDone := 0, 0, 0
	for range 300 {
		s, l := d.Store(), d.Txns()
		_, results, _ := store.Serial(s, l)
		for n, x := range l {
			by, e := Reads(s, l, n)
			if len(by) != len(x.Reads) || e != api.OK {
				t.Fatalf("Reads(%v, %v, %d) is %v, %d", s, l, n, by, e)
			}
			if !results[n].Done {
				notDone++
			}
			for i, key := range x.Reads {
				want, value := setBy(s, l, n, key)
				if by[i] != want || results[n].Vals[i] != value {
					t.Fatalf("Reads(%v, %v, %d) tells %d of key %d, which read %d; must be %d, which set %d", s, l, n, by[i], key, results[n].Vals[i], want, value)
				}
				if want < 0 {
					none++
				} else {
					told++
				}
			}
		}
	}
	if told < 500 || none < 500 || notDone < 300 {
		t.Errorf("%d told, %d not, %d not done: the draw tells too little", told, none, notDone)
	}
}

func TestP2OnlyRead(t *testing.T) {
	l, s, end := sample.Roomy(four()), append(five(), 77)[:api.Keys], append(fourEnd(), 66)[:api.Keys]
	r := append(fourResults(), api.Result{Vals: []int{55}})[:4]
	for i := range r {
		r[i].Vals = append(slices.Clone(r[i].Vals), -9)[:len(r[i].Vals)]
	}
	audited(t, "with spare room", s, l, end, r, -1)
	Audit(s, l, end, r[:3])
	for n := -1; n <= len(l); n++ {
		Reads(s, l, n)
	}
	if !sample.Same(sample.Whole(l), sample.Whole(sample.Roomy(four()))) || !slices.Equal(s[:api.Keys+1], append(five(), 77)) || !slices.Equal(end[:api.Keys+1], append(fourEnd(), 66)) {
		t.Errorf("what was handed in is %v, %v, %v", sample.Whole(l), s[:api.Keys+1], end[:api.Keys+1])
	}
	if !sample.SameResults(r[:5], append(fourResults(), api.Result{Vals: []int{55}})) {
		t.Errorf("the results that were handed in are %v", r[:5])
	}
	for i := range r {
		if vals := r[i].Vals; vals[:len(vals)+1][len(vals)] != -9 {
			t.Errorf("behind the values of %d lies %v", i, vals[:len(vals)+1])
		}
	}
}

func TestP2NewMemory(t *testing.T) {
	l := four()
	by, _ := Reads(five(), l, 3)
	sample.Spoil(l)
	if !slices.Equal(by, []int{0, 0}) {
		t.Errorf("Reads' answer is %v then", by)
	}
	l = four()
	clear(by[:cap(by)])
	again, _ := Reads(five(), l, 0)
	again[0] = 99
	if !sample.Same(l, four()) {
		t.Errorf("Reads' answer shares memory with %v", l)
	}
}

func TestP3TheSameAgain(t *testing.T) {
	other := make([]int, api.Keys)
	for range 50 {
		Reads(other, four(), 3)
		Audit(other, four(), fourEnd(), fourResults())
		Reads(nil, nil, 0)
		audited(t, "again", five(), four(), fourEnd(), fourResults(), -1)
		if by, e := Reads(five(), four(), 3); !slices.Equal(by, []int{0, 0}) || e != api.OK {
			t.Fatalf("asked again Reads is %v, %d", by, e)
		}
	}
}
