package locks

import (
	"math"
	"slices"
	"testing"

	"marchpast/api"
	"marchpast/graph"
	"marchpast/sample"
)

func setsKey(x api.Txn, key int) bool {
	return slices.ContainsFunc(x.Sets, func(s api.Set) bool { return s.Key == key })
}

func wantsKey(x api.Txn, key int) bool { return setsKey(x, key) || slices.Contains(x.Reads, key) }

// dones are a number of truths, drawn.
func dones(d *sample.Draw, n int) []bool {
	done := make([]bool, n)
	often := 2 + d.N(4)
	for i := range done {
		done[i] = d.N(often) == 0
	}
	return done
}

func TestG1Queue(t *testing.T) {
	l := []api.Txn{sample.Pay(3), sample.Note(), sample.Mark(1), sample.Note(), sample.Pay(4)}
	for _, c := range []struct {
		done []bool
		key  int
		want []int
	}{
		{make([]bool, 5), 0, []int{0, 4}},
		{make([]bool, 5), 1, []int{0, 1, 3, 4}},
		{make([]bool, 5), 2, nil},
		{make([]bool, 5), 5, []int{1, 3}},
		{make([]bool, 5), 7, []int{2}},
		{[]bool{true, false, false, false, false}, 1, []int{1, 3, 4}},
		{[]bool{false, true, false, false, true}, 1, []int{0, 3}},
		{[]bool{true, false, true, false, false}, 7, nil},
		{[]bool{true, true, true, true, true}, 1, nil},
	} {
		if q, e := Queue(l, c.done, c.key); !slices.Equal(q, c.want) || e != api.OK {
			t.Errorf("Queue of key %d, %v done, is %v, %d; must be %v", c.key, c.done, q, e, c.want)
		}
	}
	for key := range api.Keys {
		if q, e := Queue(nil, nil, key); len(q) != 0 || e != api.OK {
			t.Errorf("Queue of none is %v, %d", q, e)
		}
		if q, e := Queue([]api.Txn{}, []bool{}, key); len(q) != 0 || e != api.OK {
			t.Errorf("Queue of none is %v, %d", q, e)
		}
	}
}

func TestG1Ready(t *testing.T) {
	pay, note, mark := sample.Pay(3), sample.Note(), sample.Mark(1)
	for _, c := range []struct {
		name string
		l    []api.Txn
		done []bool
		want []int
	}{
		{"none", nil, nil, nil},
		{"none, not nil", []api.Txn{}, []bool{}, nil},
		{"the beginning", []api.Txn{pay, note, mark}, make([]bool, 3), []int{0, 2}},
		{"the payment is done", []api.Txn{pay, note, mark}, []bool{true, false, false}, []int{1, 2}},
		{"all are done", []api.Txn{pay, note, mark}, []bool{true, true, true}, nil},
		{"who reads is in the way of who writes", []api.Txn{note, pay}, make([]bool, 2), []int{0}},
		{"readers alone", []api.Txn{sample.Keyed([]int{0}, 1), sample.Keyed([]int{0}, 2), sample.Keyed([]int{0}, 3)}, make([]bool, 3), []int{0, 1, 2}},
		{"one writes between readers", []api.Txn{sample.Keyed([]int{0}, 1), sample.Keyed(nil, 0), sample.Keyed([]int{0}, 3)}, make([]bool, 3), []int{0}},
		{"who wrote is done", []api.Txn{sample.Keyed([]int{0}, 1), sample.Keyed(nil, 0), sample.Keyed([]int{0}, 3)}, []bool{false, true, false}, []int{0, 2}},
		{"readers ahead are done", []api.Txn{sample.Keyed([]int{0}, 1), sample.Keyed(nil, 0), sample.Keyed([]int{0}, 3)}, []bool{true, false, false}, []int{1}},
		{"one of two readers ahead is done", []api.Txn{sample.Keyed([]int{0}, 1), sample.Keyed([]int{0}, 2), sample.Keyed(nil, 0)}, []bool{true, false, false}, []int{1}},
		{"one key of two is granted", []api.Txn{sample.Keyed(nil, 1), sample.Keyed(nil, 1, 2)}, make([]bool, 2), []int{0}},
		{"the last key is not granted", []api.Txn{sample.Keyed(nil, 7), sample.Keyed([]int{0, 1, 2, 7}, 3)}, make([]bool, 2), []int{0}},
		{"it waits for one that waits", []api.Txn{sample.Keyed(nil, 1), sample.Keyed([]int{1}, 2), sample.Keyed([]int{2}, 3)}, make([]bool, 3), []int{0}},
		{"what is behind is in nobody's way", []api.Txn{mark, note, pay}, []bool{false, false, false}, []int{0, 1}},
		{"marks", sample.Marks(8), make([]bool, 8), []int{0}},
		{"marks behind", sample.Marks(8), []bool{true, true, true, false, true, false, true, false}, []int{3}},
	} {
		if ready, e := Ready(c.l, c.done); !slices.Equal(ready, c.want) || e != api.OK {
			t.Errorf("%s: %v, %d; must be %v", c.name, ready, e, c.want)
		}
	}
}

// grantedByWords is as the promise says it, without the program's help.
func grantedByWords(l []api.Txn, queue []int, n, key int) bool {
	ahead := queue[:slices.Index(queue, n)]
	if setsKey(l[n], key) {
		return len(ahead) == 0
	}
	return !slices.ContainsFunc(ahead, func(m int) bool { return setsKey(l[m], key) })
}

func TestG1Drawn(t *testing.T) {
	d := sample.Draw(7)
	for range 400 {
		l := d.Mixed()
		done := dones(&d, len(l))
		waits := make([]bool, len(l))
		for key := range api.Keys {
			var want []int
			for n, x := range l {
				if !done[n] && wantsKey(x, key) {
					want = append(want, n)
				}
			}
			queue, e := Queue(l, done, key)
			if !slices.Equal(queue, want) || e != api.OK {
				t.Fatalf("Queue(%v, %v, %d) is %v, %d; must be %v", l, done, key, queue, e, want)
			}
			for _, n := range want {
				waits[n] = waits[n] || !grantedByWords(l, want, n, key)
			}
		}
		var want []int
		for n := range l {
			if !done[n] && !waits[n] {
				want = append(want, n)
			}
		}
		if ready, e := Ready(l, done); !slices.Equal(ready, want) || e != api.OK {
			t.Fatalf("Ready(%v, %v) is %v, %d; must be %v", l, done, ready, e, want)
		}
	}
}

func TestG2NoneAheadClashes(t *testing.T) {
	d := sample.Draw(71)
	several := 0
	for range 400 {
		l := d.Mixed()
		done := dones(&d, len(l))
		edges, _ := graph.Edges(l)
		var want []int
		for n := range l {
			inTheWay := slices.ContainsFunc(edges, func(edge api.Edge) bool { return edge.To == n && !done[edge.From] })
			if !done[n] && !inTheWay {
				want = append(want, n)
			}
		}
		ready, e := Ready(l, done)
		if !slices.Equal(ready, want) || e != api.OK {
			t.Fatalf("Ready(%v, %v) is %v, %d; must be %v", l, done, ready, e, want)
		}
		if (len(ready) == 0) == slices.Contains(done, false) {
			t.Fatalf("of %v, %v done, ready are %v", l, done, ready)
		}
		if len(ready) > 1 {
			several++
		}
		for i, n := range ready {
			for _, m := range ready[i+1:] {
				if clash, _ := graph.Clash(l[n], l[m]); clash {
					t.Fatalf("%d and %d of %v are ready, and clash", n, m, l)
				}
			}
		}
	}
	if several < 100 {
		t.Errorf("several are ready %d times: the draw tells too little", several)
	}
}

// told looks for zero values beside the error, of both calls.
func told(t *testing.T, name string, l []api.Txn, done []bool, want api.Errno) {
	t.Helper()
	if ready, e := Ready(l, done); len(ready) != 0 || e != want {
		t.Errorf("%s: Ready is %v, %d; must be %d", name, ready, e, want)
	}
	for _, key := range append(wrongKeys(), 0, 1, 5, 7) {
		if q, e := Queue(l, done, key); len(q) != 0 || e != want {
			t.Errorf("%s: Queue of key %d is %v, %d; must be %d", name, key, q, e, want)
		}
	}
}

func wrongKeys() []int {
	return []int{math.MinInt64, -1, api.Keys, api.Keys + 1, 1<<32 + 1, math.MaxInt64}
}

func TestG1ListErrors(t *testing.T) {
	for _, w := range sample.WrongLists() {
		told(t, "a truth for each", w.Txns, make([]bool, len(w.Txns)), w.E)
		told(t, "too few truths", w.Txns, nil, w.E)
		told(t, "too many truths", w.Txns, make([]bool, len(w.Txns)+1), w.E)
		done := slices.Repeat([]bool{true}, len(w.Txns))
		told(t, "all are done", w.Txns, done, w.E)
	}
}

func TestG1DoneErrors(t *testing.T) {
	for size := range api.MaxTxns + 1 {
		for _, n := range []int{0, 1, size - 1, size + 1, 2 * size, 1 << 12} {
			if n != size && n >= 0 {
				told(t, "wrong truths", sample.Marks(size), make([]bool, n, n+api.MaxTxns), api.ErrForm)
			}
		}
	}
	told(t, "no truths", sample.Marks(1), nil, api.ErrForm)
}

func TestG1KeyErrors(t *testing.T) {
	for size := range api.MaxTxns + 1 {
		for _, key := range wrongKeys() {
			if q, e := Queue(sample.Marks(size), make([]bool, size), key); len(q) != 0 || e != api.ErrRange {
				t.Errorf("of key %d, of %d transactions: %v, %d", key, size, q, e)
			}
		}
	}
}

func TestP2OnlyRead(t *testing.T) {
	l := []api.Txn{sample.Pay(3), sample.Note(), sample.Mark(2)}
	roomy, done := sample.Roomy(l), []bool{true, false, false, true}
	for _, room := range [][]bool{done[:3], done[:2], done} {
		Ready(roomy, room)
		for key := range api.Keys + 1 {
			Queue(roomy, room, key)
		}
	}
	if !sample.Same(sample.Whole(roomy), sample.Whole(sample.Roomy(l))) || !slices.Equal(done, []bool{true, false, false, true}) {
		t.Errorf("what was handed in is %v, %v", sample.Whole(roomy), done)
	}
}

func TestP2NewMemory(t *testing.T) {
	l, done := []api.Txn{sample.Pay(3), sample.Note(), sample.Mark(2)}, make([]bool, 3)
	ready, _ := Ready(l, done)
	queue, _ := Queue(l, done, 1)
	sample.Spoil(l)
	for i := range done {
		done[i] = true
	}
	if !slices.Equal(ready, []int{0, 2}) || !slices.Equal(queue, []int{0, 1}) {
		t.Errorf("the answers are %v, %v then", ready, queue)
	}
}

func TestP3TheSameAgain(t *testing.T) {
	l, done := []api.Txn{sample.Pay(3), sample.Note(), sample.Mark(2)}, make([]bool, 3)
	for range 50 {
		Ready(sample.Marks(3), []bool{true, false, true})
		ready, e := Ready(l, done)
		queue, f := Queue(l, done, 1)
		if !slices.Equal(ready, []int{0, 2}) || e != api.OK || !slices.Equal(queue, []int{0, 1}) || f != api.OK {
			t.Fatalf("asked again it is %v, %d, %v, %d", ready, e, queue, f)
		}
		clear(ready[:cap(ready)])
		clear(queue[:cap(queue)])
	}
}
