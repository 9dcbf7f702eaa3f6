package sample

import (
	"reflect"
	"testing"

	"marchpast/api"
	"marchpast/txn"
)

func TestRightOnes(t *testing.T) {
	for _, x := range append(Marks(2), Pay(3), Note(), Keyed(nil, 0), Keyed([]int{0, 1, 2, 3}, 3, 4, 7)) {
		if e := txn.Check(x); e != api.OK {
			t.Errorf("%v: %d", x, e)
		}
	}
}

func TestWrongOnes(t *testing.T) {
	for _, want := range WrongKinds() {
		if e := txn.Check(Wrong(want)); e != want {
			t.Errorf("it is %d, and must be %d", e, want)
		}
	}
}

// A list must be wrong by its own error, or tests that lean on it would hold others to it.
func TestWrongLists(t *testing.T) {
	for i, w := range WrongLists() {
		if len(w.Txns) > api.MaxTxns {
			if w.E != api.ErrMany {
				t.Errorf("of %d, at %d, it is %d", len(w.Txns), i, w.E)
			}
			continue
		}
		var errs []api.Errno
		for _, x := range w.Txns {
			if e := txn.Check(x); e != api.OK {
				errs = append(errs, e)
			}
		}
		if len(errs) == 0 || errs[0] != w.E {
			t.Errorf("at %d there are %v, and it is %d", i, errs, w.E)
		}
	}
}

func TestLoose(t *testing.T) {
	d := Draw(1)
	var txns [api.MaxTxns + 1]int
	for range 200 {
		l := d.Loose()
		txns[len(l)]++
		for _, x := range l {
			if e := txn.Check(x); e != api.OK || len(x.Reads) > 2 || len(x.Sets) != 1 {
				t.Errorf("%v: %d", x, e)
			}
		}
	}
	for n, times := range txns {
		if times == 0 {
			t.Errorf("%d never come", n)
		}
	}
}

func TestMixed(t *testing.T) {
	d := Draw(1)
	loose, others := 0, 0
	for range 100 {
		for _, x := range d.Mixed() {
			if e := txn.Check(x); e != api.OK {
				t.Errorf("%v: %d", x, e)
			}
			if len(x.Reads) <= 2 && len(x.Sets) == 1 {
				loose++
			} else {
				others++
			}
		}
	}
	if loose < 100 || others < 20 {
		t.Errorf("%d loose ones and %d others", loose, others)
	}
}

// What is drawn must be right, or tests of it would be of errors alone; and it must reach all numbers of things.
func TestDrawn(t *testing.T) {
	d := Draw(1)
	var reads, guards, sets, txns [9]int
	for range 500 {
		l := d.Txns()
		txns[len(l)]++
		for _, x := range l {
			if e := txn.Check(x); e != api.OK {
				t.Errorf("%v: %d", x, e)
			}
			reads[len(x.Reads)]++
			guards[len(x.Guards)]++
			sets[len(x.Sets)]++
		}
	}
	for n := range 9 {
		if (txns[n] > 0) != (n <= api.MaxTxns) || (reads[n] > 0) != (n <= api.MaxReads) || (guards[n] > 0) != (n <= api.MaxGuards) || (sets[n] > 0) != (n > 0 && n <= api.MaxWrites) {
			t.Errorf("of %d: %d, %d, %d, %d", n, txns[n], reads[n], guards[n], sets[n])
		}
	}
	if a, b := Draw(7), Draw(7); !reflect.DeepEqual(a.Txns(), b.Txns()) || !reflect.DeepEqual(a.Store(), b.Store()) {
		t.Error("from the same start another one comes")
	}
}

func TestSame(t *testing.T) {
	l := []api.Txn{Pay(3), Mark(2)}
	empty := []api.Txn{Pay(3), {Reads: []int{}, Guards: []api.Guard{}, Sets: Mark(2).Sets}}
	if !Same(l, []api.Txn{Pay(3), Mark(2)}) || !Same(l, empty) {
		t.Error("the same are not the same")
	}
	for i, other := range [][]api.Txn{l[:1], {Pay(3), Mark(1)}, {Wrong(api.ErrForm), Mark(2)}, {Wrong(api.ErrMany), Mark(2)}} {
		if Same(l, other) {
			t.Errorf("others are the same: %d", i)
		}
	}
	r := []api.Result{{Done: true, Vals: []int{}}, {Vals: []int{1}}}
	if !SameResults(r, []api.Result{{Done: true}, {Vals: []int{1}}}) {
		t.Error("the same results are not the same")
	}
	for i, other := range [][]api.Result{r[:1], {{}, {Vals: []int{1}}}, {{Done: true}, {Vals: []int{2}}}} {
		if SameResults(r, other) {
			t.Errorf("other results are the same: %d", i)
		}
	}
}

func TestRoomy(t *testing.T) {
	l := []api.Txn{Pay(3), Mark(2)}
	r := Roomy(l)
	whole := Whole(r)
	if len(r) != 2 || len(whole) != 3 || len(whole[0].Reads) != 3 || len(whole[1].Guards) != 1 || len(whole[0].Sets) != 3 {
		t.Errorf("it is %v, and %v in all", r, whole)
	}
	Spoil(r)
	if reflect.DeepEqual(Whole(r), whole) || !reflect.DeepEqual(l, []api.Txn{Pay(3), Mark(2)}) {
		t.Errorf("spoilt it is %v, and %v", Whole(r), l)
	}
	if whole[0].Reads[1] != 0 || whole[0].Sets[2].Key != 0 || whole[2].Reads[0] != 0 {
		t.Errorf("what shares memory with what is spoilt is %v", whole)
	}
}
