package sample

import (
	"testing"

	"marchpast/api"
	"marchpast/place"
)

func state() api.State {
	return api.State{
		Store: []int{1, 2, 3, 4, 5, 6, 7, 8},
		Read:  [][]bool{{true, false}, {false, false}},
		Wrote: [][]bool{{false, false}, {false, false}},
		Vals:  [][]int{{0, 0}, {}},
	}
}

func otherStates() []api.State {
	var others []api.State
	for _, turn := range []func(s *api.State){
		func(s *api.State) { s.Store[7] = 9 },
		func(s *api.State) { s.Store = s.Store[:7] },
		func(s *api.State) { s.Read[1][1] = true },
		func(s *api.State) { s.Read = s.Read[:1] },
		func(s *api.State) { s.Wrote[0][1] = true },
		func(s *api.State) { s.Wrote[0] = s.Wrote[0][:1] },
		func(s *api.State) { s.Vals[0][1] = 1 },
		func(s *api.State) { s.Vals[1] = []int{0} },
		func(s *api.State) { s.Vals = append(s.Vals, nil) },
	} {
		s := state()
		turn(&s)
		others = append(others, s)
	}
	return others
}

func TestSameState(t *testing.T) {
	empty := state()
	empty.Vals[1] = nil
	if !SameState(state(), state()) || !SameState(state(), empty) || !SameState(api.State{}, api.State{Read: [][]bool{}}) {
		t.Error("the same are not the same")
	}
	for i, other := range otherStates() {
		if SameState(state(), other) || SameState(other, state()) {
			t.Errorf("others are the same: %d", i)
		}
	}
}

func TestRoomyState(t *testing.T) {
	r := RoomyState(state())
	whole := WholeState(r)
	if !SameState(r, state()) || len(whole.Store) != api.Keys+1 || len(whole.Read) != 3 || len(whole.Wrote[0]) != 3 || len(whole.Vals[1]) != 1 {
		t.Errorf("it is %v, and %v in all", r, whole)
	}
	SpoilState(r)
	if SameState(WholeState(r), WholeState(RoomyState(state()))) || whole.Store[8] != 8 || whole.Vals[0][2] != 8 || whole.Read[1][2] {
		t.Errorf("spoilt it is %v, and what shares memory with it is %v", WholeState(r), whole)
	}
}

func TestCopyState(t *testing.T) {
	s := state()
	copied := CopyState(s)
	SpoilState(s)
	if !SameState(copied, state()) || !Apart(copied) {
		t.Errorf("it is %v", copied)
	}
}

func TestApart(t *testing.T) {
	roomy := RoomyState(state())
	if !Apart(roomy) || !SameState(WholeState(roomy), WholeState(RoomyState(state()))) || !Apart(api.State{}) {
		t.Errorf("%v is not apart", roomy)
	}
	row, list := make([]bool, 4), make([]int, 12)
	for i, turn := range []func(s *api.State){
		func(s *api.State) { s.Read[1] = s.Read[0] },
		func(s *api.State) { s.Wrote = s.Read },
		func(s *api.State) { s.Wrote[1] = s.Read[0] },
		func(s *api.State) { s.Vals[0] = s.Store[:2] },
		func(s *api.State) { s.Read[0], s.Read[1] = row[:2], row[2:] }, // one in the spare room of the other
		func(s *api.State) { s.Store, s.Vals[0] = list[:8], list[10:] },
	} {
		s := state()
		turn(&s)
		if Apart(s) {
			t.Errorf("they share memory, and are apart: %d", i)
		}
	}
}

func TestPlans(t *testing.T) {
	d := Draw(1)
	var shards [api.MaxShards + 1]int
	for range 100 {
		p := d.Plan()
		shards[p.Shards]++
		if e := place.Check(p); e != api.OK {
			t.Errorf("%v: %d", p, e)
		}
	}
	for n, times := range shards {
		if (times > 0) != (n > 0) {
			t.Errorf("%d shards come %d times", n, times)
		}
	}
}
