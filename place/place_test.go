package place

import (
	"math"
	"slices"
	"testing"

	"marchpast/api"
	"marchpast/sample"
)

func plan(shards int, l ...api.Txn) api.Plan { return api.Plan{Shards: shards, Txns: l} }

func wrongShards() []int {
	return []int{math.MinInt64, -1, 0, api.MaxShards + 1, 8, 1<<32 + 1, math.MaxInt64}
}

// told holds all four calls against an error of the plan, whatever key and number they are asked of.
func told(t *testing.T, name string, p api.Plan, want api.Errno) {
	t.Helper()
	if e := Check(p); e != want {
		t.Errorf("%s: Check is %d, must be %d", name, e, want)
	}
	for _, n := range []int{math.MinInt64, -1, 0, 1, 7, 8, 9, math.MaxInt64} {
		if shard, e := Shard(p, n); shard != 0 || e != want {
			t.Errorf("%s: Shard of %d is %d, %d, must be %d", name, n, shard, e, want)
		}
		if at, e := Part(p, n); len(at) != 0 || e != want {
			t.Errorf("%s: Part of %d is %v, %d, must be %d", name, n, at, e, want)
		}
		if at, e := Active(p, n); len(at) != 0 || e != want {
			t.Errorf("%s: Active of %d is %v, %d, must be %d", name, n, at, e, want)
		}
	}
}

func TestD1Check(t *testing.T) {
	for shards := 1; shards <= api.MaxShards; shards++ {
		for n := range api.MaxTxns + 1 {
			if e := Check(plan(shards, sample.Marks(n)...)); e != api.OK {
				t.Errorf("Check of %d shards and %d transactions is %d", shards, n, e)
			}
		}
	}
}

func TestD1Errors(t *testing.T) {
	many := sample.Marks(api.MaxTxns + 1)
	for _, shards := range wrongShards() {
		told(t, "wrong shards", plan(shards), api.ErrRange)
		told(t, "wrong shards, many", plan(shards, many...), api.ErrRange)
		for _, kind := range sample.WrongKinds() {
			told(t, "wrong shards, wrong one", plan(shards, sample.Wrong(kind)), api.ErrRange)
		}
	}
	for shards := 1; shards <= api.MaxShards; shards++ {
		told(t, "many", plan(shards, many...), api.ErrMany)
		for _, first := range sample.WrongKinds() {
			told(t, "wrong one of many", plan(shards, append([]api.Txn{sample.Wrong(first)}, many...)...), api.ErrMany)
			for _, later := range sample.WrongKinds() {
				told(t, "wrong ones", plan(shards, sample.Note(), sample.Wrong(first), sample.Wrong(later)), first)
			}
		}
	}
}

func TestD1Shard(t *testing.T) {
	for shards, want := range map[int][]int{
		1: {0, 0, 0, 0, 0, 0, 0, 0},
		2: {0, 1, 0, 1, 0, 1, 0, 1},
		3: {0, 1, 2, 0, 1, 2, 0, 1},
		4: {0, 1, 2, 3, 0, 1, 2, 3},
	} {
		for key, w := range want {
			for _, p := range []api.Plan{plan(shards), plan(shards, sample.Pay(3))} {
				if shard, e := Shard(p, key); shard != w || e != api.OK {
					t.Errorf("Shard of key %d of %d is %d, %d", key, shards, shard, e)
				}
			}
		}
		for _, key := range []int{math.MinInt64, -4, -1, api.Keys, api.Keys + 1, 1 << 32, math.MaxInt64} {
			if shard, e := Shard(plan(shards), key); shard != 0 || e != api.ErrRange {
				t.Errorf("Shard of key %d of %d is %d, %d", key, shards, shard, e)
			}
		}
	}
}

func TestD1PartAndActive(t *testing.T) {
	guarded := sample.Mark(1) // a guard of numbers alone has no key
	guarded.Guards = []api.Guard{{Kind: api.Below, A: sample.Number(1), B: sample.Number(0)}}
	for _, c := range []struct {
		name         string
		shards       int
		x            api.Txn
		part, active []bool
	}{
		{"pay", 1, sample.Pay(3), []bool{true}, []bool{true}},
		{"pay", 2, sample.Pay(3), []bool{true, true}, []bool{true, true}},
		{"pay", 3, sample.Pay(3), []bool{true, true, false}, []bool{true, true, false}},
		{"pay", 4, sample.Pay(3), []bool{true, true, false, false}, []bool{true, true, false, false}},
		{"note", 1, sample.Note(), []bool{true}, []bool{true}},
		{"note", 2, sample.Note(), []bool{false, true}, []bool{false, true}},
		{"note", 3, sample.Note(), []bool{false, true, true}, []bool{false, false, true}},
		{"note", 4, sample.Note(), []bool{false, true, false, false}, []bool{false, true, false, false}},
		{"mark", 2, sample.Mark(1), []bool{false, true}, []bool{false, true}},
		{"mark", 3, sample.Mark(1), []bool{false, true, false}, []bool{false, true, false}},
		{"mark", 4, sample.Mark(1), []bool{false, false, false, true}, []bool{false, false, false, true}},
		{"guarded", 4, guarded, []bool{false, false, false, true}, []bool{false, false, false, true}},
	} {
		p := plan(c.shards, sample.Mark(0), c.x)
		if at, e := Part(p, 1); !slices.Equal(at, c.part) || e != api.OK {
			t.Errorf("Part of %s of %d is %v, %d; must be %v", c.name, c.shards, at, e, c.part)
		}
		if at, e := Active(p, 1); !slices.Equal(at, c.active) || e != api.OK {
			t.Errorf("Active of %s of %d is %v, %d; must be %v", c.name, c.shards, at, e, c.active)
		}
	}
}

func TestD1Drawn(t *testing.T) {
	d := sample.Draw(4)
	for range 200 {
		p := plan(1+d.N(api.MaxShards), d.Txns()...)
		for n, x := range p.Txns {
			part, active := make([]bool, p.Shards), make([]bool, p.Shards)
			for _, key := range x.Reads {
				part[key%p.Shards] = true
			}
			for _, set := range x.Sets {
				part[set.Key%p.Shards], active[set.Key%p.Shards] = true, true
			}
			if at, e := Part(p, n); !slices.Equal(at, part) || e != api.OK {
				t.Fatalf("Part(%v, %d) is %v, %d; must be %v", p, n, at, e, part)
			}
			if at, e := Active(p, n); !slices.Equal(at, active) || e != api.OK {
				t.Fatalf("Active(%v, %d) is %v, %d; must be %v", p, n, at, e, active)
			}
		}
	}
}

func TestD1NoSuchTransaction(t *testing.T) {
	for _, l := range [][]api.Txn{nil, {}, sample.Marks(1), sample.Marks(3), sample.Marks(api.MaxTxns), sample.Marks(5)[:3]} {
		for _, n := range []int{math.MinInt64, -1, len(l), len(l) + 1, 1 << 32, math.MaxInt64} {
			if at, e := Part(plan(2, l...), n); len(at) != 0 || e != api.ErrNone {
				t.Errorf("Part of %d of %d is %v, %d", n, len(l), at, e)
			}
			if at, e := Active(plan(2, l...), n); len(at) != 0 || e != api.ErrNone {
				t.Errorf("Active of %d of %d is %v, %d", n, len(l), at, e)
			}
		}
	}
}

func TestP2OnlyReadAndNewMemory(t *testing.T) {
	l := []api.Txn{sample.Pay(3), sample.Note(), sample.Mark(2)}
	p := plan(3, sample.Roomy(l)...)
	Check(p)
	Shard(p, 5)
	part, _ := Part(p, 0)
	active, _ := Active(p, 0)
	if !sample.Same(sample.Whole(p.Txns), sample.Whole(sample.Roomy(l))) {
		t.Errorf("what was handed in is %v", sample.Whole(p.Txns))
	}
	clear(part)
	if again, _ := Part(p, 0); !slices.Equal(active, []bool{true, true, false}) || !slices.Equal(again, active) {
		t.Errorf("lists share memory: %v, %v", active, again)
	}
}

func TestP3TheSameAgain(t *testing.T) {
	p := plan(4, sample.Pay(3), sample.Note())
	for range 50 {
		Part(plan(2, sample.Mark(1)), 0)
		Part(plan(9), 0)
		part, e := Part(p, 1)
		active, f := Active(p, 0)
		if !slices.Equal(part, []bool{false, true, false, false}) || e != api.OK || !slices.Equal(active, []bool{true, true, false, false}) || f != api.OK {
			t.Fatalf("asked again it is %v, %d; %v, %d", part, e, active, f)
		}
	}
}
