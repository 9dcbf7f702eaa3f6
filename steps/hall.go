package steps

import (
	"slices"

	"marchpast/api"
	"marchpast/fault"
	"marchpast/place"
	"marchpast/store"
	"marchpast/txn"
)

// hall is where the transactions of a plan march: it has what the plan and the state have,
// and what the plan says of each transaction, asked once, since each step asks for it many times.
type hall struct {
	*api.Plan
	api.State
	part, active [][]bool
	locks        [][]api.Lock
}

// hallOf leaves by Check's errors, so that whoever has a hall may look anywhere in it.
func hallOf(p api.Plan, s api.State) *hall {
	fault.Leave(place.Check(p), store.Check(s.Store))
	h := &hall{Plan: &p, State: s}
	fault.Leave(h.formError())
	for _, x := range h.Txns {
		alone := api.Plan{Shards: h.Shards, Txns: []api.Txn{x}} // chapter 4 checks all of a plan each time
		h.part = append(h.part, fault.Got(place.Part(alone, 0)))
		h.active = append(h.active, fault.Got(place.Active(alone, 0)))
		h.locks = append(h.locks, fault.Got(txn.Locks(x)))
	}
	fault.Leave(h.truthError())
	return h
}

func (h *hall) formError() api.Errno {
	txns := len(h.Txns)
	if len(h.Read) != txns || len(h.Wrote) != txns || len(h.Vals) != txns {
		return api.ErrForm
	}
	for n, x := range h.Txns {
		if len(h.Read[n]) != h.Shards || len(h.Wrote[n]) != h.Shards || len(h.Vals[n]) != len(x.Reads) {
			return api.ErrForm
		}
	}
	return api.OK
}

// truthError wants lists that are as long as they must be.
func (h *hall) truthError() api.Errno {
	for n := range h.Txns {
		for shard := range h.Shards {
			if h.Read[n][shard] && !h.part[n][shard] {
				return api.ErrForm
			}
			if h.Wrote[n][shard] && !(h.active[n][shard] && h.readAll(n)) {
				return api.ErrForm
			}
		}
	}
	return api.OK
}

func (h *hall) readAll(n int) bool {
	for shard, part := range h.part[n] {
		if part && !h.Read[n][shard] {
			return false
		}
	}
	return true
}

func (h *hall) gone(n, shard int) bool {
	switch {
	case !h.part[n][shard]:
		return true
	case h.active[n][shard]:
		return h.Wrote[n][shard]
	}
	return h.Read[n][shard]
}

// can are the steps of one kind that may be, in their order.
func (h *hall) can(kind int) []api.Step {
	var can []api.Step
	for n := range h.Txns {
		for shard := range h.Shards {
			if x := (api.Step{Kind: kind, Txn: n, Shard: shard}); h.stepError(x) == api.OK {
				can = append(can, x)
			}
		}
	}
	return can
}

func (h *hall) stepError(x api.Step) api.Errno {
	switch {
	case x.Kind != api.StepRead && x.Kind != api.StepWrite:
		return api.ErrKind
	case !h.belongs(x):
		return api.ErrNone
	case h.done(x):
		return api.ErrDone
	case !h.may(x):
		return api.ErrEarly
	}
	return api.OK
}

// belongs tells whether x is one of the steps of the plan, to be done once.
func (h *hall) belongs(x api.Step) bool {
	if x.Txn < 0 || x.Txn >= len(h.Txns) || x.Shard < 0 || x.Shard >= h.Shards {
		return false
	}
	if x.Kind == api.StepRead {
		return h.part[x.Txn][x.Shard]
	}
	return h.active[x.Txn][x.Shard]
}

func (h *hall) done(x api.Step) bool {
	if x.Kind == api.StepRead {
		return h.Read[x.Txn][x.Shard]
	}
	return h.Wrote[x.Txn][x.Shard]
}

// may wants a step that belongs to the plan and is not done.
func (h *hall) may(x api.Step) bool {
	if x.Kind == api.StepRead {
		return !h.blocked(x.Txn, x.Shard)
	}
	return h.readAll(x.Txn)
}

// blocked tells whether one ahead of n, not gone from there, is in its way.
func (h *hall) blocked(n, shard int) bool {
	for ahead := range n {
		if !h.gone(ahead, shard) && h.clash(ahead, n, shard) {
			return true
		}
	}
	return false
}

// clash asks for locks, not for graph.Clash, since only keys that lie at the shard count.
func (h *hall) clash(ahead, n, shard int) bool {
	return slices.ContainsFunc(h.locks[ahead], func(a api.Lock) bool {
		return h.lies(a.Key, shard) && slices.ContainsFunc(h.locks[n], func(b api.Lock) bool {
			return a.Key == b.Key && (a.Write || b.Write)
		})
	})
}

// lies asks of a plan without transactions, since they have no say in where a key lies.
func (h *hall) lies(key, shard int) bool {
	return fault.Got(place.Shard(api.Plan{Shards: h.Shards}, key)) == shard
}

// read changes the state, which must be the program's own; so does write.
func (h *hall) read(n, shard int) {
	h.Read[n][shard] = true
	for i, key := range h.Txns[n].Reads {
		if h.lies(key, shard) {
			h.Vals[n][i] = h.Store[key]
		}
	}
}

func (h *hall) write(n, shard int) {
	h.Wrote[n][shard] = true
	_, made, e := txn.Run(h.Txns[n], h.Vals[n])
	fault.Leave(e)
	for i, v := range made { // none are made, if the guards do not hold
		if key := h.Txns[n].Sets[i].Key; h.lies(key, shard) {
			h.Store[key] = v
		}
	}
}
