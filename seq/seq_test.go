package seq

import (
	"math"
	"reflect"
	"slices"
	"testing"

	"marchpast/api"
	"marchpast/sample"
)

// marks are a batch of marks of these numbers.
func marks(numbers ...int) []api.Txn {
	var l []api.Txn
	for _, n := range numbers {
		l = append(l, sample.Mark(n))
	}
	return l
}

// numbers of marks.
func numbers(l []api.Txn) []int {
	var out []int
	for _, x := range l {
		out = append(out, x.Sets[0].A.N)
	}
	return out
}

// told holds both calls against an error of the sites, whichever one From is asked of.
func told(t *testing.T, name string, sites [][][]api.Txn, want api.Errno) {
	t.Helper()
	if l, e := Merge(sites); len(l) != 0 || e != want {
		t.Errorf("%s: Merge is %v, %d; must be %d", name, l, e, want)
	}
	for _, n := range []int{math.MinInt64, -1, 0, 1, 100, math.MaxInt64} {
		if site, epoch, at, e := From(sites, n); site != 0 || epoch != 0 || at != 0 || e != want {
			t.Errorf("%s: From of %d is %d, %d, %d, %d; must be %d", name, n, site, epoch, at, e, want)
		}
	}
}

func TestE1MergeAndFrom(t *testing.T) {
	for _, c := range []struct {
		name  string
		sites [][][]api.Txn
		want  []int
		from  [][3]int
	}{
		{"no site", nil, nil, nil},
		{"empty sites", [][][]api.Txn{nil, {}, {nil, {}}}, nil, nil},
		{"one batch", [][][]api.Txn{{marks(4, 3, 4)}}, []int{4, 3, 4}, [][3]int{{0, 0, 0}, {0, 0, 1}, {0, 0, 2}}},
		{"the second site's first batch ahead of the first one's second", [][][]api.Txn{{marks(1), marks(2)}, {marks(3)}}, []int{1, 3, 2}, [][3]int{{0, 0, 0}, {1, 0, 0}, {0, 1, 0}}},
		{"sites of many lengths", [][][]api.Txn{{marks(1)}, {nil, marks(2, 3), marks(4)}, {marks(5), {}, marks(6, 7)}}, []int{1, 5, 2, 3, 4, 6, 7}, [][3]int{{0, 0, 0}, {2, 0, 0}, {1, 1, 0}, {1, 1, 1}, {1, 2, 0}, {2, 2, 0}, {2, 2, 1}}},
		{"no batch of the first site", [][][]api.Txn{nil, {marks(1)}, {marks(2)}}, []int{1, 2}, [][3]int{{1, 0, 0}, {2, 0, 0}}},
		{"the last epoch of the last site", [][][]api.Txn{{}, {}, {nil, nil, nil, nil, nil, marks(9)}}, []int{9}, [][3]int{{2, 5, 0}}},
		{"as many as may be", [][][]api.Txn{{marks(0), nil, nil, marks(1), nil, marks(2)}, {nil, marks(3), nil, nil, marks(4), nil}, {nil, nil, marks(5), marks(6), nil, marks(7)}}, []int{0, 3, 5, 1, 6, 4, 2, 7}, [][3]int{{0, 0, 0}, {1, 1, 0}, {2, 2, 0}, {0, 3, 0}, {2, 3, 0}, {1, 4, 0}, {0, 5, 0}, {2, 5, 0}}},
		{"a batch of all", [][][]api.Txn{{nil, sample.Marks(api.MaxTxns)}}, []int{0, 1, 2, 3, 4, 5, 6, 7}, [][3]int{{0, 1, 0}, {0, 1, 1}, {0, 1, 2}, {0, 1, 3}, {0, 1, 4}, {0, 1, 5}, {0, 1, 6}, {0, 1, 7}}},
	} {
		l, e := Merge(c.sites)
		if !slices.Equal(numbers(l), c.want) || e != api.OK {
			t.Errorf("%s: Merge is %v, %d; must be %v", c.name, numbers(l), e, c.want)
		}
		for n, want := range c.from {
			if site, epoch, at, e := From(c.sites, n); [3]int{site, epoch, at} != want || e != api.OK {
				t.Errorf("%s: From of %d is %d, %d, %d, %d; must be %v", c.name, n, site, epoch, at, e, want)
			}
		}
		for _, n := range []int{math.MinInt64, -1, len(c.want), len(c.want) + 1, 1 << 32, math.MaxInt64} {
			if site, epoch, at, e := From(c.sites, n); site != 0 || epoch != 0 || at != 0 || e != api.ErrNone {
				t.Errorf("%s: From of %d is %d, %d, %d, %d; must be ErrNone", c.name, n, site, epoch, at, e)
			}
		}
	}
}

// The transaction that From tells of is the one that Merge has there, whatever they are.
func TestE1Drawn(t *testing.T) {
	d := sample.Draw(5)
	for range 200 {
		sites := make([][][]api.Txn, 1+d.N(api.MaxSites))
		for _, x := range d.Txns() {
			site := d.N(len(sites))
			epoch := d.N(api.MaxEpochs)
			for len(sites[site]) <= epoch {
				sites[site] = append(sites[site], nil)
			}
			sites[site][epoch] = append(sites[site][epoch], x)
		}
		l, e := Merge(sites)
		if e != api.OK {
			t.Fatalf("Merge is %d", e)
		}
		last := [3]int{-1, 0, 0}
		for n, x := range l {
			site, epoch, at, e := From(sites, n)
			if e != api.OK || !sample.Same([]api.Txn{x}, sites[site][epoch][at:at+1]) {
				t.Fatalf("From of %d is %d, %d, %d, %d", n, site, epoch, at, e)
			}
			next := [3]int{epoch, site, at}
			if slices.Compare(last[:], next[:]) >= 0 {
				t.Fatalf("by epoch, site and place: %v stands ahead of %v", last, next)
			}
			last = next
		}
		if _, _, _, e := From(sites, len(l)); e != api.ErrNone {
			t.Fatalf("From behind all is %d", e)
		}
	}
}

func TestE1Many(t *testing.T) {
	wrong := []api.Txn{sample.Wrong(api.ErrKind)}
	for name, sites := range map[string][][][]api.Txn{
		"sites":                       make([][][]api.Txn, api.MaxSites+1),
		"sites by far":                make([][][]api.Txn, 1<<16),
		"sites behind a wrong one":    {{wrong}, nil, nil, nil},
		"epochs":                      {make([][]api.Txn, api.MaxEpochs+1)},
		"epochs of the last site":     {nil, nil, make([][]api.Txn, api.MaxEpochs+1)},
		"epochs behind a wrong one":   {{wrong}, make([][]api.Txn, api.MaxEpochs+1)},
		"epochs by far":               {make([][]api.Txn, 1<<16), nil},
		"transactions of a batch":     {{sample.Marks(api.MaxTxns + 1)}},
		"transactions of a site":      {{marks(1, 2, 3), marks(4, 5, 6), marks(7, 8, 9)}},
		"transactions of all":         {{marks(1, 2, 3)}, {marks(4, 5, 6)}, {nil, nil, nil, nil, nil, marks(7, 8, 9)}},
		"transactions behind wrong":   {{wrong}, {sample.Marks(api.MaxTxns)}},
		"transactions ahead of wrong": {{sample.Marks(api.MaxTxns)}, {wrong}},
	} {
		told(t, name, sites, api.ErrMany)
	}
}

func TestE1FirstError(t *testing.T) {
	for _, first := range sample.WrongKinds() {
		one := []api.Txn{sample.Wrong(first)}
		told(t, "a wrong one behind all", [][][]api.Txn{{marks(1, 2)}, {marks(3)}, {marks(4), nil, nil, nil, nil, append(marks(5), one...)}}, first)
		for _, later := range sample.WrongKinds() {
			other := []api.Txn{sample.Wrong(later)}
			told(t, "site by site", [][][]api.Txn{{marks(1), nil, one}, {other}}, first)
			told(t, "epoch by epoch", [][][]api.Txn{nil, {marks(1), one, other}, {other}}, first)
			told(t, "one by one", [][][]api.Txn{{marks(1), append(one, other...)}}, first)
		}
	}
}

// roomy are sites with spare room behind each list.
func roomy() [][][]api.Txn {
	batch := sample.Roomy([]api.Txn{sample.Pay(3), sample.Note()})
	site := append([][]api.Txn{batch, nil}, sample.Marks(1))[:2]
	return append([][][]api.Txn{site, {sample.Roomy(sample.Marks(2))}}, nil)[:2]
}

func TestP2OnlyRead(t *testing.T) {
	sites, want := roomy(), roomy()
	Merge(sites)
	From(sites, 2)
	if !reflect.DeepEqual(sites[:3], want[:3]) || !reflect.DeepEqual(sites[0][:3], want[0][:3]) {
		t.Errorf("what was handed in is %v", sites[:3])
	}
	for i := range sites {
		if !sample.Same(sample.Whole(sites[i][0]), sample.Whole(want[i][0])) {
			t.Errorf("of site %d it is %v", i, sample.Whole(sites[i][0]))
		}
	}
}

func TestP2NewMemory(t *testing.T) {
	pay := sample.Pay(3)
	batch := []api.Txn{pay, pay} // one and the same, handed in four times
	sites := [][][]api.Txn{{batch}, {batch}}
	l, _ := Merge(sites)
	sample.Spoil(l[1:2:2])
	if !reflect.DeepEqual(pay, sample.Pay(3)) {
		t.Errorf("what was handed in is %v", pay)
	}
	sample.Spoil(batch)
	want := []api.Txn{sample.Pay(3), {}, sample.Pay(3), sample.Pay(3)}
	if !sample.Same(l, want) {
		t.Errorf("the answer is %v then", l)
	}
}

func TestP3TheSameAgain(t *testing.T) {
	sites := [][][]api.Txn{{marks(1), marks(2)}, {marks(3)}}
	for range 50 {
		Merge([][][]api.Txn{{marks(7)}})
		Merge(make([][][]api.Txn, 9))
		l, e := Merge(sites)
		if site, epoch, at, f := From(sites, 2); !slices.Equal(numbers(l), []int{1, 3, 2}) || e != api.OK || site != 0 || epoch != 1 || at != 0 || f != api.OK {
			t.Fatalf("asked again it is %v, %d; %d, %d, %d, %d", numbers(l), e, site, epoch, at, f)
		}
	}
}
