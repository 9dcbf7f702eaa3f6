package play

import (
	"math"
	"math/big"
	"slices"
	"testing"

	"marchpast/api"
	"marchpast/sample"
	"marchpast/steps"
	"marchpast/store"
)

func five() []int { return []int{5, 1, 0, 0, 0, 0, 0, 0} }

func plan(shards int, l ...api.Txn) api.Plan { return api.Plan{Shards: shards, Txns: l} }

// three are a payment, a note and a mark: eight steps at two shards.
func three() api.Plan { return plan(2, sample.Pay(3), sample.Note(), sample.Mark(9)) }

// allSteps are one for each part, and one more where it is active.
func allSteps(p api.Plan) int {
	n := 0
	for _, x := range p.Txns {
		reads, writes := make([]bool, p.Shards), make([]bool, p.Shards)
		for _, key := range x.Reads {
			reads[key%p.Shards] = true
		}
		for _, set := range x.Sets {
			reads[set.Key%p.Shards], writes[set.Key%p.Shards] = true, true
		}
		for _, at := range slices.Concat(reads, writes) {
			if at {
				n++
			}
		}
	}
	return n
}

// pointed is the place of a pick, with numbers that do not go round.
func pointed(pick, number int) int {
	v := big.NewInt(int64(pick))
	if pick < 0 {
		v.Add(v, big.NewInt(1)).Abs(v)
	}
	return int(v.Mod(v, big.NewInt(int64(number))).Int64())
}

// told holds Play against an error, and looks for zero values beside it.
func told(t *testing.T, name string, p api.Plan, s, picks []int, want api.Errno) {
	t.Helper()
	if state, n, e := Play(p, s, picks); !sample.SameState(state, api.State{}) || n != 0 || e != want {
		t.Errorf("%s: %v, %d, %d; must be %d", name, state, n, e, want)
	}
}

func TestJ1Play(t *testing.T) {
	all := [][]bool{{true, true}, {false, true}, {false, true}}
	want := api.State{Store: []int{2, 4, 0, 0, 0, 4, 0, 9}, Read: all, Wrote: all, Vals: [][]int{{5, 1}, {4}, {}}}
	for _, picks := range [][]int{nil, {}, {2}, {-1, -2, -3}, {5, 4, 3, 2, 1, 0, 9, 9}, slices.Repeat([]int{7}, 100), make([]int, api.MaxPicks)} {
		if s, n, e := Play(three(), five(), picks); !sample.SameState(s, want) || n != 8 || e != api.OK {
			t.Errorf("of %v it is %v, %d, %d", picks, s, n, e)
		}
	}
}

func TestJ1PlayOfNone(t *testing.T) {
	for shards := 1; shards <= api.MaxShards; shards++ {
		for _, picks := range [][]int{nil, {0}, {-1}, {math.MinInt64}, make([]int, api.MaxPicks)} {
			if s, n, e := Play(plan(shards), five(), picks); !sample.SameState(s, api.State{Store: five()}) || n != 0 || e != api.OK {
				t.Errorf("of %v it is %v, %d, %d", picks, s, n, e)
			}
		}
	}
}

func TestJ1PlaceOf(t *testing.T) {
	for _, c := range []struct{ pick, number, want int }{
		{0, 3, 0}, {1, 3, 1}, {2, 3, 2}, {3, 3, 0}, {4, 3, 1}, {200, 3, 2}, {5, 1, 0},
		{-1, 3, 0}, {-2, 3, 1}, {-3, 3, 2}, {-4, 3, 0}, {-5, 3, 1}, {-7, 1, 0}, {-1, 1, 0},
		{math.MaxInt64, 10, 7}, {math.MinInt64, 10, 7}, {math.MinInt64 + 1, 10, 6}, {math.MaxInt64, 2, 1}, {math.MinInt64, 2, 1},
	} {
		if at := placeOf(c.number, c.pick); at != c.want || at != pointed(c.pick, c.number) {
			t.Errorf("%d of %d is %d, must be %d", c.pick, c.number, at, c.want)
		}
		if at := placeOf(c.number, c.pick, 1, 2); at != c.want {
			t.Errorf("%d of %d, others behind it, is %d, must be %d", c.pick, c.number, at, c.want)
		}
	}
	if at := placeOf(3); at != 0 {
		t.Errorf("without picks it is %d", at)
	}
}

// What comes in the end tells nothing of picks; a state on the way does.
func TestJ1OnTheWay(t *testing.T) {
	d := sample.Draw(101)
	others := 0
	for range 60 {
		p := d.Plan()
		s, _ := steps.Begin(p, five())
		for n := 0; ; n++ {
			can, _ := steps.Can(p, s)
			if len(can) == 0 {
				break
			}
			at, picks := 0, []int{d.N(41) - 20, 1, 2, 3}[:d.N(5)]
			if len(picks) > 0 {
				at = pointed(picks[0], len(can))
			}
			if at > 0 {
				others++
			}
			want, _ := steps.Do(p, s, can[at])
			if s = next(p, s, picks...); !sample.SameState(s, want) {
				t.Fatalf("after %d steps of %v, %v leads to %v; must be %v", n, p, picks, s, want)
			}
		}
	}
	if others < 100 {
		t.Errorf("%d others than the first: the draw tells too little", others)
	}
}

func TestJ1ManyPicks(t *testing.T) {
	for _, p := range []api.Plan{three(), plan(1)} {
		for _, pick := range []int{0, -1, math.MinInt64} {
			if _, _, e := Play(p, five(), slices.Repeat([]int{pick}, api.MaxPicks)); e != api.OK {
				t.Errorf("as many as may be: %d", e)
			}
			told(t, "one more", p, five(), slices.Repeat([]int{pick}, api.MaxPicks+1), api.ErrMany)
			told(t, "many more", p, five(), slices.Repeat([]int{pick}, 1<<16), api.ErrMany)
		}
	}
}

func TestJ1PlayErrors(t *testing.T) {
	for _, picks := range [][]int{nil, {0}, {-5, 99}, make([]int, api.MaxPicks+1)} {
		for _, s := range [][]int{nil, {}, make([]int, api.Keys-1, api.Keys), make([]int, api.Keys+1)} {
			told(t, "wrong store", three(), s, picks, api.ErrForm)
			told(t, "wrong shards", plan(0), s, picks, api.ErrRange)
			for _, w := range sample.WrongLists() {
				told(t, "wrong list and store", plan(2, w.Txns...), s, picks, w.E)
			}
		}
		for _, shards := range []int{math.MinInt64, -1, 0, api.MaxShards + 1, math.MaxInt64} {
			told(t, "wrong shards", plan(shards, sample.Pay(3)), five(), picks, api.ErrRange)
			told(t, "wrong shards, many", plan(shards, sample.Marks(9)...), five(), picks, api.ErrRange)
		}
		for _, w := range sample.WrongLists() {
			told(t, "wrong list", plan(2, w.Txns...), five(), picks, w.E)
		}
	}
}

func TestJ1Results(t *testing.T) {
	p := plan(2, sample.Pay(3), sample.Pay(3), sample.Note(), sample.Mark(9))
	s, _, _ := Play(p, five(), []int{3, 1})
	want := []api.Result{{Done: true, Vals: []int{5, 1}}, {Vals: []int{2, 4}}, {Done: true, Vals: []int{4}}, {Done: true}}
	if results, e := Results(p, s); !sample.SameResults(results, want) || e != api.OK {
		t.Errorf("it is %v, %d", results, e)
	}
	if results, e := Results(plan(3), api.State{Store: five()}); len(results) != 0 || e != api.OK {
		t.Errorf("of none it is %v, %d", results, e)
	}
}

// Results are what Vals say, wherever they come from, and whatever lies in Store.
func TestJ1ResultsOfVals(t *testing.T) {
	p := three()
	s, _, _ := Play(p, five(), nil)
	s.Vals[0], s.Vals[1], s.Store = []int{2, math.MinInt64}, []int{77}, make([]int, api.Keys)
	want := []api.Result{{Vals: []int{2, math.MinInt64}}, {Done: true, Vals: []int{77}}, {Done: true}}
	if results, e := Results(p, s); !sample.SameResults(results, want) || e != api.OK {
		t.Errorf("it is %v, %d", results, e)
	}
}

func TestJ1ResultsErrors(t *testing.T) {
	p := three()
	over, _, _ := Play(p, five(), nil)
	first, _ := steps.Begin(p, five())
	wrong := func(name string, p api.Plan, s api.State, want api.Errno) {
		t.Helper()
		if results, e := Results(p, s); len(results) != 0 || e != want {
			t.Errorf("%s: %v, %d; must be %d", name, results, e, want)
		}
	}
	for _, s := range []api.State{over, first, {}} {
		for _, w := range sample.WrongLists() {
			wrong("wrong list", plan(2, w.Txns...), s, w.E)
		}
		for _, shards := range []int{math.MinInt64, 0, api.MaxShards + 1, math.MaxInt64} {
			wrong("wrong shards", plan(shards, p.Txns...), s, api.ErrRange)
		}
		wrong("another number of shards", plan(3, p.Txns...), s, api.ErrForm)
		wrong("fewer transactions", plan(2, p.Txns[:2]...), s, api.ErrForm)
	}
	for name, turn := range map[string]func(s *api.State){
		"short store":         func(s *api.State) { s.Store = s.Store[1:] },
		"no Vals":             func(s *api.State) { s.Vals = nil },
		"one too few":         func(s *api.State) { s.Vals[0] = s.Vals[0][:1] },
		"one too many":        func(s *api.State) { s.Vals[2] = []int{0} },
		"read without a part": func(s *api.State) { s.Read[1][0] = true },
		"written, not read":   func(s *api.State) { s.Read[0][0] = false },
	} {
		s := sample.CopyState(over)
		turn(&s)
		wrong(name, p, s, api.ErrForm)
	}
	wrong("in the beginning", p, first, api.ErrLeft)
	for n := range p.Txns { // one write is left
		s := sample.CopyState(over)
		s.Wrote[n][1] = false
		wrong("one left", p, s, api.ErrLeft)
	}
	s := sample.CopyState(over)
	s.Read[2][1], s.Wrote[2][1] = false, false
	wrong("a read left", p, s, api.ErrLeft)
}

// At three shards the note only reads at shard 1: what is left there is a read.
func TestJ1LeftToRead(t *testing.T) {
	p := plan(3, sample.Note())
	s, _ := steps.Begin(p, five())
	for i, x := range []api.Step{{Kind: api.StepRead, Shard: 2}, {Kind: api.StepRead, Shard: 1}, {Kind: api.StepWrite, Shard: 2}} {
		if results, e := Results(p, s); len(results) != 0 || e != api.ErrLeft {
			t.Errorf("after %d steps it is %v, %d", i, results, e)
		}
		s, _ = steps.Do(p, s, x)
	}
	if results, e := Results(p, s); !sample.SameResults(results, []api.Result{{Done: true, Vals: []int{1}}}) || e != api.OK {
		t.Errorf("in the end it is %v, %d", results, e)
	}
}

// However it is picked, and however many shards there are, the same comes as one after the other.
func TestJ1AsOneAfterTheOther(t *testing.T) {
	d := sample.Draw(102)
	for range 150 {
		l, from := d.Mixed(), d.Store()
		end, want, _ := store.Serial(from, l)
		for shards := 1; shards <= api.MaxShards; shards++ {
			p := plan(shards, l...)
			picks := make([]int, d.N(60))
			for i := range picks {
				picks[i] = d.N(1000) - 500
			}
			s, n, e := Play(p, from, picks)
			if !slices.Equal(s.Store, end) || n != allSteps(p) || e != api.OK {
				t.Fatalf("Play(%v, %v, %v) is %v, %d, %d; must be %v, %d", p, from, picks, s, n, e, end, allSteps(p))
			}
			if over, e := steps.Over(p, s); !over || e != api.OK {
				t.Fatalf("Over(%v, %v) is %v, %d", p, s, over, e)
			}
			if results, e := Results(p, s); !sample.SameResults(results, want) || e != api.OK {
				t.Fatalf("Results(%v, %v) is %v, %d; must be %v", p, s, results, e, want)
			}
		}
	}
}

func TestP2OnlyRead(t *testing.T) {
	l := three().Txns
	p := plan(2, sample.Roomy(l)...)
	from, picks := append(five(), 77)[:api.Keys], []int{2, -9, 1, 66}
	state, _, _ := Play(p, from, picks[:3])
	s := sample.RoomyState(state)
	Results(p, s)
	Play(p, from[:3], picks[:3])
	if !sample.Same(sample.Whole(p.Txns), sample.Whole(sample.Roomy(l))) || !slices.Equal(from[:api.Keys+1], append(five(), 77)) || !slices.Equal(picks, []int{2, -9, 1, 66}) {
		t.Errorf("what was handed in is %v, %v, %v", sample.Whole(p.Txns), from[:api.Keys+1], picks)
	}
	if !sample.SameState(sample.WholeState(s), sample.WholeState(sample.RoomyState(state))) {
		t.Errorf("the state that was handed in is %v", sample.WholeState(s))
	}
}

func TestP2NewMemory(t *testing.T) {
	for _, p := range []api.Plan{three(), plan(2)} { // of none the state is the one of the beginning
		from, picks := append(five(), 77)[:api.Keys], []int{1, 2}
		s, _, _ := Play(p, from, picks)
		want := sample.CopyState(s)
		clear(from[:api.Keys+1])
		clear(picks)
		if !sample.SameState(s, want) || !sample.Apart(s) {
			t.Errorf("Play's answer shares memory: %v", s)
		}
	}
	p := three()
	s, _, _ := Play(p, five(), nil)
	roomy := sample.RoomyState(s)
	results, _ := Results(p, roomy)
	sample.SpoilState(roomy)
	sample.Spoil(p.Txns)
	clear(results[1].Vals[:cap(results[1].Vals)])
	want := []api.Result{{Done: true, Vals: []int{5, 1}}, {Done: true, Vals: []int{0}}, {Done: true}}
	if !sample.SameResults(results, want) {
		t.Errorf("Results' answer is %v then", results)
	}
}

func TestP3TheSameAgain(t *testing.T) {
	p, picks := plan(3, sample.Pay(3), sample.Mark(1), sample.Pay(3), sample.Note()), []int{4, -4, 4}
	s, n, e := Play(p, five(), picks)
	results, f := Results(p, s)
	for range 30 {
		Play(p, make([]int, api.Keys), picks[1:])
		Play(plan(9), nil, nil)
		Results(p, api.State{})
		s2, n2, e2 := Play(p, five(), picks)
		results2, f2 := Results(p, s2)
		if !sample.SameState(s, s2) || n != n2 || e != e2 || !sample.SameResults(results, results2) || f != f2 {
			t.Fatalf("asked again it is %v, %d, %d, %v, %d", s2, n2, e2, results2, f2)
		}
	}
}
