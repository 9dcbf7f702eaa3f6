package order

import (
	"testing"

	"marchpast/api"
	"marchpast/sample"
)

func TestCheck(t *testing.T) {
	for n := range api.MaxTxns + 1 {
		if e := Check(sample.Marks(n)); e != api.OK {
			t.Errorf("of %d it is %d", n, e)
		}
	}
	if e := Check([]api.Txn{}); e != api.OK {
		t.Errorf("of none it is %d", e)
	}
}

func TestCheckMany(t *testing.T) {
	for _, n := range []int{api.MaxTxns + 1, 100, 1 << 16} {
		if e := Check(sample.Marks(n)); e != api.ErrMany {
			t.Errorf("of %d it is %d", n, e)
		}
	}
}

func TestCheckFirstError(t *testing.T) {
	for _, first := range sample.WrongKinds() {
		for _, later := range sample.WrongKinds() {
			l := sample.Marks(api.MaxTxns)
			l[3], l[7] = sample.Wrong(first), sample.Wrong(later)
			if e := Check(l); e != first {
				t.Errorf("%d ahead of %d: it is %d", first, later, e)
			}
			if e := Check(append(l, sample.Mark(8))); e != api.ErrMany {
				t.Errorf("too many, with %d and %d: it is %d", first, later, e)
			}
		}
	}
}

func TestCopy(t *testing.T) {
	want := []api.Txn{sample.Pay(3), sample.Note(), sample.Mark(1)}
	l := sample.Roomy(want)
	twice := append(l[:3:3], l[0]) // one and the same twice
	c := Copy(twice)
	if !sample.Same(c, append(want, want[0])) || !sample.Same(sample.Whole(l), sample.Whole(sample.Roomy(want))) {
		t.Errorf("the copy is %v, of %v", c, sample.Whole(l))
	}
	sample.Spoil(c[3:])
	if !sample.Same(c[:3], want) || !sample.Same(l, want) {
		t.Errorf("with the last one spoilt it is %v, of %v", c, l)
	}
	sample.Spoil(l)
	if !sample.Same(c[:3], want) {
		t.Errorf("with what was handed in spoilt it is %v", c)
	}
	if len(Copy(nil)) != 0 {
		t.Error("of none some come")
	}
}
