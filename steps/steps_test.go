package steps

import (
	"fmt"
	"math"
	"slices"
	"testing"

	"marchpast/api"
	"marchpast/sample"
	"marchpast/store"
	"marchpast/txn"
)

func five() []int { return []int{5, 1, 0, 9, 0, -2, 0, 0} }

func plan(shards int, l ...api.Txn) api.Plan { return api.Plan{Shards: shards, Txns: l} }

func read(n, shard int) api.Step { return api.Step{Kind: api.StepRead, Txn: n, Shard: shard} }

func write(n, shard int) api.Step { return api.Step{Kind: api.StepWrite, Txn: n, Shard: shard} }

// begun is the state of a right plan in the beginning, with these steps done.
func begun(t *testing.T, p api.Plan, steps ...api.Step) api.State {
	t.Helper()
	s, e := Begin(p, five())
	for _, x := range steps {
		if e != api.OK {
			break
		}
		s, e = Do(p, s, x)
	}
	if e != api.OK {
		t.Fatalf("%v of %v is %d", steps, p, e)
	}
	return s
}

// anySteps are right ones and others, of all kinds.
func anySteps() []api.Step {
	var all []api.Step
	for _, kind := range []int{math.MinInt64, -1, 0, api.StepRead, api.StepWrite, 3, 1<<32 + 1, math.MaxInt64} {
		for _, n := range []int{math.MinInt64, -1, 0, 1, 2, 3, 7, 8, math.MaxInt64} {
			for _, shard := range []int{math.MinInt64, -1, 0, 1, 2, 3, 4, math.MaxInt64} {
				all = append(all, api.Step{Kind: kind, Txn: n, Shard: shard})
			}
		}
	}
	return all
}

// told holds all calls of a state against an error, and looks for zero values beside it.
func told(t *testing.T, name string, p api.Plan, s api.State, want api.Errno) {
	t.Helper()
	if e := Check(p, s); e != want {
		t.Errorf("%s: Check is %d, must be %d", name, e, want)
	}
	if can, e := Can(p, s); len(can) != 0 || e != want {
		t.Errorf("%s: Can is %v, %d, must be %d", name, can, e, want)
	}
	if over, e := Over(p, s); over || e != want {
		t.Errorf("%s: Over is %v, %d, must be %d", name, over, e, want)
	}
	for _, x := range []api.Step{{}, read(0, 0), read(1, 1), write(0, 0), read(-1, 0), read(0, 9), {Kind: 3}} {
		if next, e := Do(p, s, x); !sample.SameState(next, api.State{}) || e != want {
			t.Errorf("%s: Do of %v is %v, %d, must be %d", name, x, next, e, want)
		}
	}
}

// holds compares all calls with what the words say of a right state.
func holds(t *testing.T, p api.Plan, s api.State, steps ...api.Step) {
	t.Helper()
	if e := Check(p, s); e != api.OK {
		t.Fatalf("Check(%v, %v) is %d", p, s, e)
	}
	if can, e := Can(p, s); !slices.Equal(can, wantCan(p, s)) || e != api.OK {
		t.Fatalf("Can(%v, %v) is %v, %d; must be %v", p, s, can, e, wantCan(p, s))
	}
	if over, e := Over(p, s); over != wantOver(p, s) || e != api.OK {
		t.Fatalf("Over(%v, %v) is %v, %d", p, s, over, e)
	}
	for _, x := range steps {
		var want api.State
		wantE := wantError(p, s, x)
		if wantE == api.OK {
			want = wantState(p, s, x)
		}
		if next, e := Do(p, s, x); !sample.SameState(next, want) || e != wantE {
			t.Fatalf("Do(%v, %v, %v) is %v, %d; must be %v, %d", p, s, x, next, e, want, wantE)
		}
	}
}

func TestI1Begin(t *testing.T) {
	p := plan(3, sample.Pay(3), sample.Note(), sample.Mark(9))
	none := [][]bool{{false, false, false}, {false, false, false}, {false, false, false}}
	want := api.State{Store: five(), Read: none, Wrote: none, Vals: [][]int{{0, 0}, {0}, {}}}
	if s, e := Begin(p, five()); !sample.SameState(s, want) || e != api.OK {
		t.Errorf("it is %v, %d", s, e)
	}
	for _, l := range [][]api.Txn{nil, {}} {
		if s, e := Begin(plan(1, l...), five()); !sample.SameState(s, api.State{Store: five()}) || e != api.OK {
			t.Errorf("of none it is %v, %d", s, e)
		}
	}
	for shards := 1; shards <= api.MaxShards; shards++ {
		for n := range api.MaxTxns + 1 {
			p := plan(shards, sample.Marks(n)...)
			s, e := Begin(p, five())
			if len(s.Read) != n || len(s.Wrote) != n || len(s.Vals) != n || e != api.OK || Check(p, s) != api.OK {
				t.Errorf("of %d at %d shards it is %v, %d", n, shards, s, e)
			}
		}
	}
}

// wrongPlans have the errors that a plan can have, and their transactions may be looked at or not.
func wrongPlans() map[string]struct {
	p api.Plan
	e api.Errno
} {
	type wrong = struct {
		p api.Plan
		e api.Errno
	}
	all := map[string]wrong{"zero": {api.Plan{}, api.ErrRange}}
	for _, shards := range []int{math.MinInt64, -1, 0, api.MaxShards + 1, 1<<32 + 1, math.MaxInt64} {
		all[fmt.Sprint(shards, " shards")] = wrong{plan(shards, sample.Pay(3), sample.Note()), api.ErrRange}
		all[fmt.Sprint(shards, " shards, many")] = wrong{plan(shards, sample.Marks(9)...), api.ErrRange}
		all[fmt.Sprint(shards, " shards, wrong one")] = wrong{plan(shards, sample.Wrong(api.ErrKind)), api.ErrRange}
	}
	for i, w := range sample.WrongLists() {
		all[fmt.Sprint("list ", i)] = wrong{plan(2, w.Txns...), w.E}
	}
	return all
}

func TestI1BeginErrors(t *testing.T) {
	stores := [][]int{nil, {}, make([]int, api.Keys-1, api.Keys), make([]int, api.Keys+1), make([]int, 1<<12)}
	for _, s := range stores {
		for _, p := range []api.Plan{plan(1), plan(2, sample.Pay(3), sample.Note())} {
			if state, e := Begin(p, s); !sample.SameState(state, api.State{}) || e != api.ErrForm {
				t.Errorf("with %d values it is %v, %d", len(s), state, e)
			}
		}
	}
	for name, w := range wrongPlans() {
		for _, s := range append(stores, five()) {
			if state, e := Begin(w.p, s); !sample.SameState(state, api.State{}) || e != w.e {
				t.Errorf("%s, with %d values: %v, %d; must be %d", name, len(s), state, e, w.e)
			}
		}
	}
}

func TestI1PlanErrorsAhead(t *testing.T) {
	right := begun(t, plan(2, sample.Pay(3), sample.Note()))
	for name, w := range wrongPlans() {
		told(t, name, w.p, right, w.e)
		told(t, name+", no state", w.p, api.State{}, w.e)
	}
}

// At three shards the note reads key 1 at shard 1, and sets key 5 at shard 2.
func TestI1Form(t *testing.T) {
	p := plan(3, sample.Pay(3), sample.Note(), sample.Mark(9))
	for name, turn := range map[string]func(s *api.State){
		"nothing":                     func(s *api.State) { *s = api.State{} },
		"store alone":                 func(s *api.State) { *s = api.State{Store: five()} },
		"no store":                    func(s *api.State) { s.Store = nil },
		"short store":                 func(s *api.State) { s.Store = s.Store[1:] },
		"long store":                  func(s *api.State) { s.Store = append(s.Store, 0) },
		"no Read":                     func(s *api.State) { s.Read = nil },
		"short Read":                  func(s *api.State) { s.Read = s.Read[:2] },
		"long Read":                   func(s *api.State) { s.Read = append(s.Read, make([]bool, 3)) },
		"longer by nothing":           func(s *api.State) { s.Read = append(s.Read, nil) },
		"no Wrote":                    func(s *api.State) { s.Wrote = nil },
		"short Wrote":                 func(s *api.State) { s.Wrote = s.Wrote[1:] },
		"long Wrote":                  func(s *api.State) { s.Wrote = append(s.Wrote, make([]bool, 3)) },
		"no Vals":                     func(s *api.State) { s.Vals = nil },
		"short Vals":                  func(s *api.State) { s.Vals = s.Vals[:2] },
		"long Vals":                   func(s *api.State) { s.Vals = append(s.Vals, nil) },
		"short row of Read":           func(s *api.State) { s.Read[0] = s.Read[0][:2] },
		"long row of Read":            func(s *api.State) { s.Read[2] = make([]bool, 4) },
		"no row of Read":              func(s *api.State) { s.Read[1] = nil },
		"short row of Wrote":          func(s *api.State) { s.Wrote[2] = s.Wrote[2][:2] },
		"long row of Wrote":           func(s *api.State) { s.Wrote[0] = make([]bool, 4) },
		"no row of Wrote":             func(s *api.State) { s.Wrote[1] = nil },
		"short row of Vals":           func(s *api.State) { s.Vals[0] = []int{1} },
		"long row of Vals":            func(s *api.State) { s.Vals[1] = []int{1, 2} },
		"no row of Vals":              func(s *api.State) { s.Vals[1] = nil },
		"a row of Vals without reads": func(s *api.State) { s.Vals[2] = []int{0} },
		"read without a part":         func(s *api.State) { s.Read[0][2] = true },
		"read without a part, later":  func(s *api.State) { s.Read[2][0] = true },
		"written without a part":      func(s *api.State) { s.Read[1], s.Wrote[1][0] = []bool{false, true, true}, true },
		"written where it only reads": func(s *api.State) { s.Read[1], s.Wrote[1][1] = []bool{false, true, true}, true },
		"written, nothing read":       func(s *api.State) { s.Wrote[1][2] = true },
		"written, read there alone":   func(s *api.State) { s.Read[1][2], s.Wrote[1][2] = true, true },
		"written, read elsewhere":     func(s *api.State) { s.Read[1][1], s.Wrote[1][2] = true, true },
		"half read, all written":      func(s *api.State) { s.Read[0][0], s.Wrote[0][0], s.Wrote[0][1] = true, true, true },
		"the last one wrote too soon": func(s *api.State) { s.Wrote[2][1] = true },
	} {
		s := begun(t, p)
		turn(&s)
		told(t, name, p, s, api.ErrForm)
	}
	for _, shards := range []int{2, 4} {
		told(t, "another number of shards", plan(shards, p.Txns...), begun(t, p), api.ErrForm)
	}
	told(t, "fewer transactions", plan(3, p.Txns[:2]...), begun(t, p), api.ErrForm)
	told(t, "more transactions", plan(3, append(sample.Marks(1), p.Txns...)...), begun(t, p), api.ErrForm)
	told(t, "none", plan(3), begun(t, p), api.ErrForm)
}

// Vals are anything, and so is what was read by whom ahead of whom.
func TestI1Right(t *testing.T) {
	p := plan(3, sample.Pay(3), sample.Note(), sample.Mark(9))
	for name, turn := range map[string]func(s *api.State){
		"begun":                func(s *api.State) {},
		"values, nothing read": func(s *api.State) { s.Vals = [][]int{{7, math.MinInt64}, {math.MaxInt64}, nil} },
		"half read":            func(s *api.State) { s.Read[0][1] = true },
		"behind one in its way": func(s *api.State) {
			s.Read[1], s.Wrote[1] = []bool{false, true, true}, []bool{false, false, true}
		},
		"written at one of two": func(s *api.State) { s.Read[0], s.Wrote[0][1] = []bool{true, true, false}, true },
		"written with no reads": func(s *api.State) { s.Read[2][1], s.Wrote[2][1] = true, true },
	} {
		s := begun(t, p)
		turn(&s)
		if e := Check(p, s); e != api.OK {
			t.Errorf("%s: %d", name, e)
		}
	}
	for _, s := range []api.State{{Store: five()}, {Store: five(), Read: [][]bool{}, Wrote: [][]bool{}, Vals: [][]int{}}} {
		holds(t, plan(2), s, anySteps()...)
	}
}

func TestI1Drawn(t *testing.T) {
	d := sample.Draw(91)
	right, wrong := 0, 0
	for range 600 {
		p := d.Plan()
		p.Txns = p.Txns[:min(3, len(p.Txns))]
		s := drawState(&d, p)
		for n := range p.Txns {
			if d.N(2) == 0 {
				s.Read[n][d.N(p.Shards)] = d.N(2) == 0
				s.Wrote[n][d.N(p.Shards)] = d.N(3) == 0
			}
		}
		if wantRight(p, s) {
			right++
			if e := Check(p, s); e != api.OK {
				t.Fatalf("Check(%v, %v) is %d", p, s, e)
			}
			continue
		}
		wrong++
		told(t, "drawn", p, s, api.ErrForm)
	}
	if right < 100 || wrong < 100 {
		t.Errorf("%d are right and %d wrong: the draw tells too little", right, wrong)
	}
}

func TestI2Can(t *testing.T) {
	p := plan(2, sample.Pay(3), sample.Note(), sample.Mark(9))
	for _, c := range []struct {
		name string
		done []api.Step
		want []api.Step
	}{
		{"in the beginning", nil, []api.Step{read(0, 0), read(0, 1), read(2, 1)}},
		{"half read: no write, and the note waits", []api.Step{read(0, 1)}, []api.Step{read(0, 0), read(2, 1)}},
		{"read", []api.Step{read(0, 1), read(0, 0)}, []api.Step{read(2, 1), write(0, 0), write(0, 1)}},
		{"written elsewhere", []api.Step{read(0, 0), read(0, 1), write(0, 0)}, []api.Step{read(2, 1), write(0, 1)}},
		{"written where the note reads", []api.Step{read(0, 0), read(0, 1), write(0, 1)},
			[]api.Step{read(1, 1), read(2, 1), write(0, 0)}},
		{"the mark alone", []api.Step{read(2, 1)}, []api.Step{read(0, 0), read(0, 1), write(2, 1)}},
		{"the mark over", []api.Step{read(2, 1), write(2, 1)}, []api.Step{read(0, 0), read(0, 1)}},
		{"all", []api.Step{read(2, 1), read(0, 0), write(2, 1), read(0, 1), write(0, 1), read(1, 1), write(1, 1), write(0, 0)}, nil},
	} {
		if can, e := Can(p, begun(t, p, c.done...)); !slices.Equal(can, c.want) || e != api.OK {
			t.Errorf("%s: %v, %d; must be %v", c.name, can, e, c.want)
		}
	}
}

// Each of two transactions at shard 0 of two: who waits, and for how long.
func TestI2WhoWaits(t *testing.T) {
	for _, c := range []struct {
		name        string
		ahead, one  api.Txn
		early, then bool // may it read in the beginning, and after the one ahead has read all?
	}{
		{"both only read key 0", sample.Keyed([]int{0}, 1), sample.Keyed([]int{0}, 3), true, true},
		{"it sets what is only read: gone when read", sample.Keyed([]int{0}, 1), sample.Keyed(nil, 0), false, true},
		{"it sets what is read, another key is set there", sample.Keyed([]int{0}, 2), sample.Keyed(nil, 0), false, false},
		{"it reads what is set", sample.Keyed(nil, 0), sample.Keyed([]int{0}, 1), false, false},
		{"both set it", sample.Keyed(nil, 0), sample.Keyed(nil, 0), false, false},
		{"other keys there", sample.Keyed([]int{0}, 2), sample.Keyed([]int{4}, 6), true, true},
		{"both only read key 0, and clash at shard 1", sample.Keyed([]int{0}, 1), sample.Keyed([]int{0}, 1), true, true},
		{"it has no keys there", sample.Keyed(nil, 1), sample.Keyed([]int{0}, 1), true, true},
	} {
		p := plan(2, c.ahead, c.one)
		s := begun(t, p)
		for _, want := range []bool{c.early, c.then} {
			can, e := Can(p, s)
			if slices.Contains(can, read(1, 0)) != want || e != api.OK {
				t.Errorf("%s: %v, %d", c.name, can, e)
			}
			for shard := range 2 {
				s.Read[0][shard] = partAt(p, 0, shard)
			}
		}
	}
}

func TestI2Drawn(t *testing.T) {
	d := sample.Draw(92)
	over, others := 0, 0
	for i := range 1200 {
		p := d.Plan()
		s := drawState(&d, p)
		if i%2 == 0 {
			s = reached(&d, p, 20)
		}
		holds(t, p, s)
		if wantOver(p, s) {
			over++
		} else {
			others++
		}
	}
	if over < 100 || others < 100 {
		t.Errorf("%d are over and %d not: the draw tells too little", over, others)
	}
}

func TestI3Do(t *testing.T) {
	p := plan(2, sample.Pay(3), sample.Note(), sample.Mark(9))
	s := begun(t, p)
	for i, c := range []struct {
		x    api.Step
		turn func(s *api.State)
	}{
		{read(0, 1), func(s *api.State) { s.Read[0][1], s.Vals[0][1] = true, 1 }},
		{read(2, 1), func(s *api.State) { s.Read[2][1] = true }},
		{read(0, 0), func(s *api.State) { s.Read[0][0], s.Vals[0][0] = true, 5 }},
		{write(2, 1), func(s *api.State) { s.Wrote[2][1], s.Store[7] = true, 9 }},
		{write(0, 1), func(s *api.State) { s.Wrote[0][1], s.Store[1] = true, 4 }},
		{read(1, 1), func(s *api.State) { s.Read[1][1], s.Vals[1][0] = true, 4 }},
		{write(0, 0), func(s *api.State) { s.Wrote[0][0], s.Store[0] = true, 2 }},
		{write(1, 1), func(s *api.State) { s.Wrote[1][1], s.Store[5] = true, 4 }},
	} {
		if over, e := Over(p, s); over || e != api.OK {
			t.Errorf("after %d steps Over is %v, %d", i, over, e)
		}
		want := sample.CopyState(s)
		c.turn(&want)
		next, e := Do(p, s, c.x)
		if !sample.SameState(next, want) || e != api.OK {
			t.Fatalf("%v gives %v, %d; must be %v", c.x, next, e, want)
		}
		s = next
	}
	if over, e := Over(p, s); !over || e != api.OK {
		t.Errorf("in the end Over is %v, %d", over, e)
	}
}

// If the guards do not hold it is written all the same, and nothing is set.
func TestI3NotDone(t *testing.T) {
	p := plan(2, sample.Pay(6))
	s := begun(t, p, read(0, 0), read(0, 1), write(0, 0), write(0, 1))
	if !slices.Equal(s.Store, five()) || !slices.Equal(s.Wrote[0], []bool{true, true}) {
		t.Errorf("it is %v", s)
	}
	if over, e := Over(p, s); !over || e != api.OK {
		t.Errorf("Over is %v, %d", over, e)
	}
}

// What is written comes from Vals, whatever lies in Store by then; a read takes no notice of what Vals were.
func TestI3FromVals(t *testing.T) {
	p := plan(2, sample.Pay(3))
	s := begun(t, p, read(0, 0))
	s.Vals[0] = []int{4, 99}
	s, e := Do(p, s, read(0, 1))
	if !slices.Equal(s.Vals[0], []int{4, 1}) || e != api.OK {
		t.Fatalf("Vals are %v, %d", s.Vals, e)
	}
	s.Store = []int{100, 100, 100, 100, 100, 100, 100, 100}
	s, e = Do(p, s, write(0, 1))
	if !slices.Equal(s.Store, []int{100, 4, 100, 100, 100, 100, 100, 100}) || e != api.OK {
		t.Fatalf("Store is %v, %d", s.Store, e)
	}
	s, e = Do(p, s, write(0, 0))
	if !slices.Equal(s.Store, []int{1, 4, 100, 100, 100, 100, 100, 100}) || e != api.OK {
		t.Fatalf("Store is %v, %d", s.Store, e)
	}
}

func TestI3Errors(t *testing.T) {
	p := plan(3, sample.Pay(3), sample.Note(), sample.Mark(9)) // the note reads at shard 1, and is active at 2
	s := begun(t, p, read(0, 1), read(2, 1), write(2, 1))
	for _, c := range []struct {
		x    api.Step
		want api.Errno
	}{
		{api.Step{}, api.ErrKind},
		{api.Step{Kind: 3, Txn: 0, Shard: 0}, api.ErrKind},
		{api.Step{Kind: -1, Txn: 9, Shard: 9}, api.ErrKind},
		{api.Step{Kind: math.MaxInt64, Txn: 0, Shard: 1}, api.ErrKind},
		{read(-1, 0), api.ErrNone},
		{read(3, 0), api.ErrNone},
		{read(math.MaxInt64, 0), api.ErrNone},
		{write(math.MinInt64, 0), api.ErrNone},
		{read(0, -1), api.ErrNone},
		{read(0, 3), api.ErrNone},
		{write(0, 3), api.ErrNone},
		{write(0, math.MinInt64), api.ErrNone},
		{read(0, 2), api.ErrNone},  // no part there
		{read(1, 0), api.ErrNone},  // no part, whoever is ahead
		{write(1, 0), api.ErrNone}, // no part
		{write(1, 1), api.ErrNone}, // a part, and not active
		{read(0, 1), api.ErrDone},
		{read(2, 1), api.ErrDone},
		{write(2, 1), api.ErrDone},
		{read(1, 1), api.ErrEarly},
		{write(0, 0), api.ErrEarly},
		{write(0, 1), api.ErrEarly},
		{write(1, 2), api.ErrEarly},
	} {
		if next, e := Do(p, s, c.x); !sample.SameState(next, api.State{}) || e != c.want {
			t.Errorf("%v is %v, %d; must be %d", c.x, next, e, c.want)
		}
	}
	holds(t, p, s, anySteps()...)
}

func TestI3Drawn(t *testing.T) {
	d := sample.Draw(93)
	times := map[api.Errno]int{}
	for i := range 300 {
		p := d.Plan()
		s := drawState(&d, p)
		if i%2 == 0 {
			s = reached(&d, p, 20)
		}
		var steps []api.Step
		for range 60 {
			x := api.Step{Kind: d.N(4), Txn: d.N(len(p.Txns)+2) - 1, Shard: d.N(p.Shards+2) - 1}
			times[wantError(p, s, x)]++
			steps = append(steps, x)
		}
		holds(t, p, s, append(steps, wantCan(p, s)...)...)
	}
	for _, e := range []api.Errno{api.OK, api.ErrKind, api.ErrNone, api.ErrDone, api.ErrEarly} {
		if times[e] < 100 {
			t.Errorf("%d comes %d times: the draw tells too little", e, times[e])
		}
	}
}

// asOneAfterTheOther holds a state that is over against chapter 3.
func asOneAfterTheOther(t *testing.T, p api.Plan, from []int, s api.State) {
	t.Helper()
	end, want, _ := store.Serial(from, p.Txns)
	var results []api.Result
	for n, x := range p.Txns {
		result, _, _ := txn.Run(x, s.Vals[n])
		results = append(results, result)
	}
	if !slices.Equal(s.Store, end) || !sample.SameResults(results, want) {
		t.Fatalf("of %v and %v comes %v, %v; must be %v, %v", p, from, s.Store, results, end, want)
	}
}

// Each state is gone to once, by whichever steps; there are many more ways than states.
func TestI4AllWays(t *testing.T) {
	d := sample.Draw(94)
	plans := []api.Plan{plan(2, sample.Pay(3), sample.Note(), sample.Mark(9)), plan(3, sample.Pay(3), sample.Pay(3), sample.Note())}
	for range 80 {
		l := d.Mixed()
		plans = append(plans, plan(1+d.N(api.MaxShards), l[:min(3, len(l))]...))
	}
	states, ends := 0, 0
	for _, p := range plans {
		from := d.Store()
		first, _ := Begin(p, from)
		seen := map[string]bool{}
		for work := []api.State{first}; len(work) > 0; work = work[1:] {
			s := work[0]
			states++
			can, _ := Can(p, s)
			over, _ := Over(p, s)
			if over != (len(can) == 0) {
				t.Fatalf("Over(%v, %v) is %v, and %v can be done", p, s, over, can)
			}
			if over {
				ends++
				asOneAfterTheOther(t, p, from, s)
			}
			for _, x := range can {
				next, e := Do(p, s, x)
				if e != api.OK || Check(p, next) != api.OK {
					t.Fatalf("Do(%v, %v, %v) is %v, %d", p, s, x, next, e)
				}
				if key := fmt.Sprint(next); !seen[key] {
					seen[key] = true
					work = append(work, next)
				}
			}
		}
	}
	if ends != len(plans) || states < 2000 {
		t.Errorf("%d ends of %d plans, %d states", ends, len(plans), states)
	}
}

func TestI4Drawn(t *testing.T) {
	d := sample.Draw(95)
	for range 400 {
		p, from := d.Plan(), d.Store()
		s, _ := Begin(p, from)
		for {
			can, e := Can(p, s)
			if e != api.OK {
				t.Fatalf("Can(%v, %v) is %d", p, s, e)
			}
			if len(can) == 0 {
				break
			}
			s, _ = Do(p, s, can[d.N(len(can))])
		}
		if over, e := Over(p, s); !over || e != api.OK {
			t.Fatalf("nothing can be done, and Over(%v, %v) is %v, %d", p, s, over, e)
		}
		asOneAfterTheOther(t, p, from, s)
	}
}

// Also where no steps lead something can be done, if it is right and not over.
func TestI4SomethingCanBeDone(t *testing.T) {
	d := sample.Draw(96)
	for range 600 {
		p := d.Plan()
		s := drawState(&d, p)
		can, _ := Can(p, s)
		if over, e := Over(p, s); over != (len(can) == 0) || e != api.OK {
			t.Fatalf("Over(%v, %v) is %v, %d, and %v can be done", p, s, over, e, can)
		}
	}
}

func TestI4WhichIsFirst(t *testing.T) {
	d := sample.Draw(97)
	pairs := 0
	for range 400 {
		p := d.Plan()
		s := reached(&d, p, 15)
		can, _ := Can(p, s)
		for i, x := range can {
			for _, y := range can[:i] {
				pairs++
				afterX, _ := Do(p, s, x)
				afterY, _ := Do(p, s, y)
				xy, e := Do(p, afterX, y)
				yx, f := Do(p, afterY, x)
				if !sample.SameState(xy, yx) || e != api.OK || f != api.OK {
					t.Fatalf("in %v of %v, %v then %v is %v, %d; the other way %v, %d", s, p, x, y, xy, e, yx, f)
				}
			}
		}
	}
	if pairs < 500 {
		t.Errorf("%d pairs: the draw tells too little", pairs)
	}
}

func TestP2OnlyRead(t *testing.T) {
	l := []api.Txn{sample.Pay(3), sample.Note(), sample.Mark(9)}
	p := plan(2, sample.Roomy(l)...)
	before := begun(t, p, read(0, 0), read(0, 1), read(2, 1))
	from := append(five(), 77)[:api.Keys]
	Begin(p, from)
	s := sample.RoomyState(before)
	Check(p, s)
	Can(p, s)
	Over(p, s)
	for _, x := range append(anySteps(), wantCan(p, s)...) {
		Do(p, s, x)
	}
	if !sample.SameState(sample.WholeState(s), sample.WholeState(sample.RoomyState(before))) {
		t.Errorf("the state that was handed in is %v", sample.WholeState(s))
	}
	if !sample.Same(sample.Whole(p.Txns), sample.Whole(sample.Roomy(l))) || !slices.Equal(from[:api.Keys+1], append(five(), 77)) {
		t.Errorf("what was handed in is %v, %v", sample.Whole(p.Txns), from[:api.Keys+1])
	}
}

func TestP2NewMemory(t *testing.T) {
	l := []api.Txn{sample.Pay(3), sample.Note(), sample.Mark(9)}
	p := plan(2, sample.Roomy(l)...)
	from := append(five(), 77)[:api.Keys]
	s, _ := Begin(p, from)
	clear(from[:api.Keys+1])
	if !slices.Equal(s.Store, five()) || !sample.Apart(s) {
		t.Errorf("Begin's answer shares memory: %v", s)
	}
	for _, x := range []api.Step{read(0, 0), read(2, 1), read(0, 1), write(2, 1), write(0, 0)} {
		roomy := sample.RoomyState(s)
		want := wantState(p, s, x)
		next, _ := Do(p, roomy, x)
		can, _ := Can(p, roomy)
		wantSteps := wantCan(p, s)
		sample.SpoilState(roomy)
		if !sample.SameState(next, want) || !sample.Apart(next) || !slices.Equal(can, wantSteps) {
			t.Fatalf("with what was handed in spoilt %v gives %v, and Can %v", x, next, can)
		}
		s = next
	}
}

// One and the same list may be handed in for several transactions.
func TestP2SharedIn(t *testing.T) {
	p := plan(2, sample.Mark(1), sample.Mark(2), sample.Pay(3))
	row := []bool{false, false}
	s := api.State{Store: five(), Read: [][]bool{row, row, row}, Wrote: [][]bool{row, row, row}, Vals: [][]int{nil, nil, {0, 0}}}
	want := wantState(p, s, read(0, 1))
	if next, e := Do(p, s, read(0, 1)); !sample.SameState(next, want) || !sample.Apart(next) || e != api.OK {
		t.Errorf("it is %v, %d; must be %v", next, e, want)
	}
}

func TestP3TheSameAgain(t *testing.T) {
	p := plan(2, sample.Pay(3), sample.Note(), sample.Mark(9))
	s := begun(t, p, read(0, 0))
	can, _ := Can(p, s)
	next, _ := Do(p, s, read(0, 1))
	for range 50 {
		Begin(plan(4), five())
		Can(p, next)
		Do(p, next, write(0, 0))
		Do(p, s, write(0, 0))
		Over(plan(9), s)
		again, e := Can(p, s)
		once, f := Do(p, s, read(0, 1))
		if !slices.Equal(can, again) || e != api.OK || !sample.SameState(next, once) || f != api.OK {
			t.Fatalf("asked again it is %v, %d, %v, %d", again, e, once, f)
		}
	}
}
