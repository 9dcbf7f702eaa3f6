package steps

import (
	"slices"

	"marchpast/api"
	"marchpast/sample"
	"marchpast/txn"
)

// What the chapter's words say, key by key, without the program's help.

func sets(x api.Txn, key int) bool {
	return slices.ContainsFunc(x.Sets, func(s api.Set) bool { return s.Key == key })
}

func has(x api.Txn, key int) bool { return sets(x, key) || slices.Contains(x.Reads, key) }

// keysAt are those that lie at the shard.
func keysAt(p api.Plan, shard int) []int {
	var keys []int
	for key := range api.Keys {
		if key%p.Shards == shard {
			keys = append(keys, key)
		}
	}
	return keys
}

func partAt(p api.Plan, n, shard int) bool {
	return slices.ContainsFunc(keysAt(p, shard), func(key int) bool { return has(p.Txns[n], key) })
}

func activeAt(p api.Plan, n, shard int) bool {
	return slices.ContainsFunc(keysAt(p, shard), func(key int) bool { return sets(p.Txns[n], key) })
}

func clashAt(p api.Plan, n, m, shard int) bool {
	return slices.ContainsFunc(keysAt(p, shard), func(key int) bool {
		x, y := p.Txns[n], p.Txns[m]
		return has(x, key) && has(y, key) && (sets(x, key) || sets(y, key))
	})
}

func goneFrom(p api.Plan, s api.State, n, shard int) bool {
	return !partAt(p, n, shard) ||
		activeAt(p, n, shard) && s.Wrote[n][shard] ||
		!activeAt(p, n, shard) && s.Read[n][shard]
}

func readEverywhere(p api.Plan, s api.State, n int) bool {
	for shard := range p.Shards {
		if partAt(p, n, shard) && !s.Read[n][shard] {
			return false
		}
	}
	return true
}

func mayRead(p api.Plan, s api.State, n, shard int) bool {
	for ahead := range n {
		if !goneFrom(p, s, ahead, shard) && clashAt(p, ahead, n, shard) {
			return false
		}
	}
	return partAt(p, n, shard) && !s.Read[n][shard]
}

func mayWrite(p api.Plan, s api.State, n, shard int) bool {
	return activeAt(p, n, shard) && !s.Wrote[n][shard] && readEverywhere(p, s, n)
}

// wantRight is of a right plan, and of lists as long as they must be.
func wantRight(p api.Plan, s api.State) bool {
	for n := range p.Txns {
		for shard := range p.Shards {
			if (s.Read[n][shard] || s.Wrote[n][shard]) && !partAt(p, n, shard) ||
				s.Wrote[n][shard] && !activeAt(p, n, shard) ||
				s.Wrote[n][shard] && !readEverywhere(p, s, n) {
				return false
			}
		}
	}
	return true
}

func wantCan(p api.Plan, s api.State) []api.Step {
	var can []api.Step
	for n := range p.Txns {
		for shard := range p.Shards {
			if mayRead(p, s, n, shard) {
				can = append(can, api.Step{Kind: api.StepRead, Txn: n, Shard: shard})
			}
		}
	}
	for n := range p.Txns {
		for shard := range p.Shards {
			if mayWrite(p, s, n, shard) {
				can = append(can, api.Step{Kind: api.StepWrite, Txn: n, Shard: shard})
			}
		}
	}
	return can
}

func wantOver(p api.Plan, s api.State) bool {
	for n := range p.Txns {
		for shard := range p.Shards {
			if !goneFrom(p, s, n, shard) {
				return false
			}
		}
	}
	return true
}

func wantError(p api.Plan, s api.State, x api.Step) api.Errno {
	if x.Kind != api.StepRead && x.Kind != api.StepWrite {
		return api.ErrKind
	}
	if x.Txn < 0 || x.Txn > len(p.Txns)-1 || x.Shard < 0 || x.Shard > p.Shards-1 {
		return api.ErrNone
	}
	at, done, may := partAt, s.Read, mayRead
	if x.Kind == api.StepWrite {
		at, done, may = activeAt, s.Wrote, mayWrite
	}
	switch {
	case !at(p, x.Txn, x.Shard):
		return api.ErrNone
	case done[x.Txn][x.Shard]:
		return api.ErrDone
	case !may(p, s, x.Txn, x.Shard):
		return api.ErrEarly
	}
	return api.OK
}

// wantState is of a step that may be done.
func wantState(p api.Plan, s api.State, x api.Step) api.State {
	s = sample.CopyState(s)
	one := p.Txns[x.Txn]
	if x.Kind == api.StepRead {
		s.Read[x.Txn][x.Shard] = true
		for _, key := range keysAt(p, x.Shard) {
			if i := slices.Index(one.Reads, key); i >= 0 {
				s.Vals[x.Txn][i] = s.Store[key]
			}
		}
		return s
	}
	s.Wrote[x.Txn][x.Shard] = true
	result, made, _ := txn.Run(one, s.Vals[x.Txn])
	for i, set := range one.Sets {
		if result.Done && slices.Contains(keysAt(p, x.Shard), set.Key) {
			s.Store[set.Key] = made[i]
		}
	}
	return s
}

// drawState is right, and may be one to which no steps lead.
func drawState(d *sample.Draw, p api.Plan) api.State {
	s, _ := Begin(p, d.Store())
	for n := range p.Txns {
		all, often := d.N(3) > 0, 1+d.N(3)
		for shard := range p.Shards {
			s.Read[n][shard] = partAt(p, n, shard) && (all || d.N(2) == 0)
		}
		for shard := range p.Shards {
			s.Wrote[n][shard] = activeAt(p, n, shard) && readEverywhere(p, s, n) && d.N(often) == 0
		}
		for i := range s.Vals[n] {
			s.Vals[n][i] = d.N(30) - 12
		}
	}
	return s
}

// reached is where some steps lead, drawn ones of those that may be.
func reached(d *sample.Draw, p api.Plan, most int) api.State {
	s, _ := Begin(p, d.Store())
	for range d.N(most) {
		can := wantCan(p, s)
		if len(can) == 0 {
			break
		}
		s = wantState(p, s, can[d.N(len(can))])
	}
	return s
}
