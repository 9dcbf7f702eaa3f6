package whole

import (
	"slices"
	"testing"

	"marchpast/api"
	"marchpast/audit"
	"marchpast/graph"
	"marchpast/locks"
	"marchpast/place"
	"marchpast/play"
	"marchpast/run"
	"marchpast/sample"
	"marchpast/steps"
	"marchpast/store"
	"marchpast/txn"
	"marchpast/wire"
)

func plan(shards int, l ...api.Txn) api.Plan { return api.Plan{Shards: shards, Txns: l} }

// clashless tells whether nobody of some clashes with another one of them.
func clashless(l []api.Txn, some []int) bool {
	for i, a := range some {
		for _, b := range some[:i] {
			if clash, _ := graph.Clash(l[a], l[b]); clash {
				return false
			}
		}
	}
	return true
}

// Whatever picks there are, the same comes as one after the other; if not all are done, one is ready; those that are ready do not clash.
func TestWholePicks(t *testing.T) {
	d := sample.Draw(21)
	several := 0
	for range 300 {
		s, l := d.Store(), d.Mixed()
		done := make([]bool, len(l))
		var picks []int
		for range l {
			ready, e := locks.Ready(l, done)
			if len(ready) == 0 || !clashless(l, ready) || e != api.OK {
				t.Fatalf("Ready(%v, %v) is %v, %d", l, done, ready, e)
			}
			if len(ready) > 1 {
				several++
			}
			n := ready[d.N(len(ready))]
			done[n] = true
			picks = append(picks, n)
		}
		wantEnd, want, _ := store.Serial(s, l)
		if end, r, e := run.Run(s, l, picks); !slices.Equal(end, wantEnd) || !sample.SameResults(r, want) || e != api.OK {
			t.Fatalf("Run(%v, %v, %v) is %v, %v, %d; must be %v, %v", s, l, picks, end, r, e, wantEnd, want)
		}
	}
	if several < 300 {
		t.Errorf("%d times several were ready: the draw tells too little", several)
	}
}

// After a swap of two that do not clash the same comes, in the store and of each transaction.
func TestWholeSwaps(t *testing.T) {
	d := sample.Draw(22)
	swaps := 0
	for range 300 {
		s, l := d.Store(), d.Mixed()
		wantEnd, want, _ := store.Serial(s, l)
		for n := range len(l) - 1 {
			swapped, e := graph.Swap(l, n)
			if e != api.OK {
				continue
			}
			swaps++
			end, r, _ := store.Serial(s, swapped)
			r[n], r[n+1] = r[n+1], r[n]
			if !slices.Equal(end, wantEnd) || !sample.SameResults(r, want) {
				t.Fatalf("of %v, %d swapped, comes %v, %v; must be %v, %v", l, n, end, r, wantEnd, want)
			}
		}
	}
	if swaps < 300 {
		t.Errorf("%d swaps: the draw tells too little", swaps)
	}
}

// However it is done, shard by shard, and however many shards there are, the same comes as one after the other; if it is not over something can be done.
func TestWholeSteps(t *testing.T) {
	d := sample.Draw(23)
	for range 80 {
		from, l := d.Store(), d.Mixed()
		wantEnd, want, _ := store.Serial(from, l)
		for shards := 1; shards <= api.MaxShards; shards++ {
			p := plan(shards, l...)
			s, _ := steps.Begin(p, from)
			for {
				can, e := steps.Can(p, s)
				over, f := steps.Over(p, s)
				if over != (len(can) == 0) || e != api.OK || f != api.OK {
					t.Fatalf("Can(%v, %v) is %v, %d, and Over %v, %d", p, s, can, e, over, f)
				}
				if over {
					break
				}
				s, _ = steps.Do(p, s, can[d.N(len(can))])
			}
			r, e := play.Results(p, s)
			if !slices.Equal(s.Store, wantEnd) || !sample.SameResults(r, want) || e != api.OK {
				t.Fatalf("of %v comes %v, %v, %d; must be %v, %v", p, s.Store, r, e, wantEnd, want)
			}
			if n, e := audit.Audit(from, l, s.Store, r); n != -1 || e != api.OK {
				t.Fatalf("of %v Audit is %d, %d", p, n, e)
			}
		}
	}
}

// Of two steps that can be done which is first does not matter.
func TestWholeTwoSteps(t *testing.T) {
	d := sample.Draw(24)
	pairs := 0
	for range 60 {
		p := d.Plan()
		s, _ := steps.Begin(p, d.Store())
		for {
			can, _ := steps.Can(p, s)
			if len(can) == 0 {
				break
			}
			for i, a := range can {
				for _, b := range can[:i] {
					pairs++
					if ab, ba := doBoth(p, s, a, b), doBoth(p, s, b, a); !sample.SameState(ab, ba) || len(ab.Store) == 0 {
						t.Fatalf("%v and %v of %v, %v: %v, the other way round %v", a, b, p, s, ab, ba)
					}
				}
			}
			s, _ = steps.Do(p, s, can[d.N(len(can))])
		}
	}
	if pairs < 500 {
		t.Errorf("%d pairs: the draw tells too little", pairs)
	}
}

// doBoth is without a store, if one of them can't be done.
func doBoth(p api.Plan, s api.State, a, b api.Step) api.State {
	s, _ = steps.Do(p, s, a)
	s, _ = steps.Do(p, s, b)
	return s
}

// How many shards there are changes nothing: not what plays come to, but how many steps they take.
func TestWholeShards(t *testing.T) {
	d := sample.Draw(25)
	for range 100 {
		from, l := d.Store(), d.Mixed()
		picks := make([]int, d.N(50))
		for i := range picks {
			picks[i] = d.N(200) - 100
		}
		first, _, _ := play.Play(plan(1, l...), from, nil)
		want, _ := play.Results(plan(1, l...), first)
		for shards := 1; shards <= api.MaxShards; shards++ {
			p := plan(shards, l...)
			s, n, e := play.Play(p, from, picks)
			r, f := play.Results(p, s)
			if !slices.Equal(s.Store, first.Store) || !sample.SameResults(r, want) || e != api.OK || f != api.OK || n != stepsOf(p) {
				t.Fatalf("Play(%v, %v, %v) is %v, %d, %d, its results %v, %d; must be %v, %v", p, from, picks, s, n, e, r, f, first.Store, want)
			}
		}
	}
}

// stepsOf is how often a transaction has a part at a shard, or is active there.
func stepsOf(p api.Plan) int {
	n := 0
	for i := range p.Txns {
		part, _ := place.Part(p, i)
		active, _ := place.Active(p, i)
		for _, at := range slices.Concat(part, active) {
			if at {
				n++
			}
		}
	}
	return n
}

// What was read is what the one that is told has set, whoever is picked first.
func TestWholeReads(t *testing.T) {
	d := sample.Draw(26)
	told := 0
	for range 200 {
		from, p := d.Store(), plan(1+d.N(api.MaxShards), d.Txns()...)
		s, _, _ := play.Play(p, from, []int{d.N(9), d.N(9), d.N(9), d.N(9), d.N(9), d.N(9)})
		for n, x := range p.Txns {
			by, e := audit.Reads(from, p.Txns, n)
			if len(by) != len(x.Reads) || e != api.OK {
				t.Fatalf("Reads(%v, %v, %d) is %v, %d", from, p.Txns, n, by, e)
			}
			for i, key := range x.Reads {
				want := from[key]
				if by[i] >= 0 {
					told++
					want = made(t, p.Txns[by[i]], s.Vals[by[i]], key)
				}
				if s.Vals[n][i] != want {
					t.Fatalf("of %v, %v transaction %d read %d from %d, which set %d", from, p, n, s.Vals[n][i], by[i], want)
				}
			}
		}
	}
	if told < 300 {
		t.Errorf("%d told: the draw tells too little", told)
	}
}

// made is what x sets the key to, of these values.
func made(t *testing.T, x api.Txn, vals []int, key int) int {
	t.Helper()
	at := slices.IndexFunc(x.Sets, func(set api.Set) bool { return set.Key == key })
	r, values, e := txn.Run(x, vals)
	if at < 0 || !r.Done || e != api.OK {
		t.Fatalf("%v did not set key %d: %v, %d", x, key, r, e)
	}
	return values[at]
}

// What is written is read as it was, and nothing else is: whatever bytes are read are those that are written of it.
func TestWholeBytes(t *testing.T) {
	d := sample.Draw(27)
	others := 0
	for range 300 {
		p := d.Plan()
		b, e := wire.Write(p)
		if read, f := wire.Read(b); read.Shards != p.Shards || !sample.Same(read.Txns, p.Txns) || e != api.OK || f != api.OK {
			t.Fatalf("%v is read as %v, %d, %d", p, read, e, f)
		}
		for range 20 {
			changed := []byte(b)
			changed[d.N(len(b))] = byte(d.N(256))
			read, e := wire.Read(string(changed))
			if e != api.OK {
				continue
			}
			others++
			if again, f := wire.Write(read); again != string(changed) || f != api.OK {
				t.Fatalf("%q is read as %v, and written as %q, %d", changed, read, again, f)
			}
		}
	}
	if others < 1000 {
		t.Errorf("%d others: the draw tells too little", others)
	}
}
