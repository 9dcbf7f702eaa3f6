// Package sample has transactions of which the tests of several layers are made. No layer uses it.
package sample

import (
	"slices"

	"marchpast/api"
)

// Number is the operand n.
func Number(n int) api.Operand { return api.Operand{Kind: api.Num, N: n} }

// Value is the operand that was read at place n.
func Value(n int) api.Operand { return api.Operand{Kind: api.Read, N: n} }

// Pay is the payment of n from key 0 to key 1, if key 0 has as many.
func Pay(n int) api.Txn {
	return api.Txn{
		Reads:  []int{0, 1},
		Guards: []api.Guard{{Kind: api.NoAbove, A: Number(n), B: Value(0)}},
		Sets: []api.Set{
			{Key: 0, Op: api.Sub, A: Value(0), B: Number(n)},
			{Key: 1, Op: api.Add, A: Value(1), B: Number(n)},
		},
	}
}

// Note sets key 5 to what key 1 is.
func Note() api.Txn {
	return api.Txn{Reads: []int{1}, Sets: []api.Set{{Key: 5, Op: api.Put, A: Value(0), B: Number(0)}}}
}

// Mark sets key 7 to n, and reads nothing.
func Mark(n int) api.Txn {
	return api.Txn{Sets: []api.Set{{Key: 7, Op: api.Put, A: Number(n), B: Number(0)}}}
}

// Keyed reads these keys, and puts numbers into those.
func Keyed(reads []int, sets ...int) api.Txn {
	x := api.Txn{Reads: reads}
	for _, key := range sets {
		x.Sets = append(x.Sets, api.Set{Key: key, Op: api.Put, A: Number(key), B: Number(0)})
	}
	return x
}

// Marks are n transactions that can be told from each other by what they set.
func Marks(n int) []api.Txn {
	var l []api.Txn
	for i := range n {
		l = append(l, Mark(i))
	}
	return l
}

// WrongKinds are the errors that a transaction can have.
func WrongKinds() []api.Errno {
	return []api.Errno{api.ErrMany, api.ErrRange, api.ErrForm, api.ErrKind}
}

// Wrong is a transaction that has this error, one of WrongKinds, and no other.
func Wrong(e api.Errno) api.Txn {
	x := Pay(3)
	switch e {
	case api.ErrMany:
		x.Guards = append(x.Guards, x.Guards[0], x.Guards[0])
	case api.ErrRange:
		x.Sets[1].Key = api.Keys
	case api.ErrForm:
		x.Reads = []int{1, 0}
	case api.ErrKind:
		x.Sets[0].Op = 0
	}
	return x
}

// WrongList is a list that no layer takes, and the error that it is told by.
type WrongList struct {
	Txns []api.Txn
	E    api.Errno
}

// WrongLists have the errors that transactions in their order can have, each also ahead of others.
func WrongLists() []WrongList {
	lists := []WrongList{{Marks(api.MaxTxns + 1), api.ErrMany}, {Marks(1 << 12), api.ErrMany}}
	for _, first := range WrongKinds() {
		lists = append(lists,
			WrongList{[]api.Txn{Wrong(first)}, first},
			WrongList{append(Marks(api.MaxTxns-1), Wrong(first)), first},
			WrongList{append(Marks(api.MaxTxns), Wrong(first)), api.ErrMany},
			WrongList{append([]api.Txn{Wrong(first)}, Marks(api.MaxTxns)...), api.ErrMany})
		for _, later := range WrongKinds() {
			lists = append(lists, WrongList{[]api.Txn{Note(), Wrong(first), Mark(1), Wrong(later)}, first})
		}
	}
	return lists
}

// Draw gives numbers that look like no rule, the same ones for the same start.
type Draw uint64

// N is from 0 to n - 1.
func (d *Draw) N(n int) int {
	*d = *d*6364136223846793005 + 1442695040888963407
	return int(uint64(*d) >> 33 % uint64(n))
}

// Store has small values of both signs.
func (d *Draw) Store() []int {
	s := make([]int, api.Keys)
	for key := range s {
		s[key] = d.N(30) - 12
	}
	return s
}

// Txns are at most MaxTxns, and right.
func (d *Draw) Txns() []api.Txn {
	var l []api.Txn
	for range d.N(api.MaxTxns + 1) {
		l = append(l, d.Txn())
	}
	return l
}

// Loose are at most MaxTxns, and right, with so few keys each that many of them are not in each other's way.
func (d *Draw) Loose() []api.Txn {
	var l []api.Txn
	for range d.N(api.MaxTxns + 1) {
		l = append(l, d.txn(d.N(3), 1))
	}
	return l
}

// Mixed are Loose, mostly, or Txns.
func (d *Draw) Mixed() []api.Txn {
	if d.N(3) == 0 {
		return d.Txns()
	}
	return d.Loose()
}

// Plan has any number of shards that may be, and Mixed transactions.
func (d *Draw) Plan() api.Plan {
	return api.Plan{Shards: 1 + d.N(api.MaxShards), Txns: d.Mixed()}
}

// Txn is right; of its guards some hold and some do not.
func (d *Draw) Txn() api.Txn { return d.txn(d.N(api.MaxReads+1), 1+d.N(api.MaxWrites)) }

func (d *Draw) txn(reads, sets int) api.Txn {
	x := api.Txn{Reads: d.keys(reads)}
	for range d.N(api.MaxGuards + 1) {
		x.Guards = append(x.Guards, api.Guard{Kind: api.Same + d.N(api.NoAbove), A: d.operand(x), B: d.operand(x)})
	}
	for _, key := range d.keys(sets) {
		x.Sets = append(x.Sets, api.Set{Key: key, Op: api.Put + d.N(api.Most), A: d.operand(x), B: d.operand(x)})
	}
	return x
}

// keys are n, rising: each key is taken as often as those that are left leave room for it.
func (d *Draw) keys(n int) []int {
	var l []int
	for key := range api.Keys {
		if d.N(api.Keys-key) < n-len(l) {
			l = append(l, key)
		}
	}
	return l
}

func (d *Draw) operand(x api.Txn) api.Operand {
	if len(x.Reads) > 0 && d.N(3) > 0 {
		return Value(d.N(len(x.Reads)))
	}
	return Number(d.N(20) - 8)
}

// Same holds lists against each other; one without elements may be nil or not.
func Same(a, b []api.Txn) bool {
	return slices.EqualFunc(a, b, func(x, y api.Txn) bool {
		return slices.Equal(x.Reads, y.Reads) && slices.Equal(x.Guards, y.Guards) && slices.Equal(x.Sets, y.Sets)
	})
}

// SameResults holds what transactions told against each other; a list without elements may be nil or not.
func SameResults(a, b []api.Result) bool {
	return slices.EqualFunc(a, b, func(x, y api.Result) bool { return x.Done == y.Done && slices.Equal(x.Vals, y.Vals) })
}

// Roomy is l, new, with spare room behind each list, in which something lies.
func Roomy(l []api.Txn) []api.Txn {
	out := make([]api.Txn, len(l), len(l)+1)
	for i, x := range l {
		out[i] = api.Txn{
			Reads:  withRoom(x.Reads, -9),
			Guards: withRoom(x.Guards, api.Guard{Kind: -9}),
			Sets:   withRoom(x.Sets, api.Set{Key: -9}),
		}
	}
	out[:len(l)+1][len(l)] = api.Txn{Reads: []int{-9}}
	return out
}

func withRoom[T any](l []T, behind T) []T {
	return append(append(make([]T, 0, len(l)+1), l...), behind)[:len(l)]
}

// Whole is l with each list as long as its room, to look at what lies behind.
func Whole(l []api.Txn) []api.Txn {
	var out []api.Txn
	for _, x := range l[:cap(l)] {
		out = append(out, api.Txn{
			Reads:  x.Reads[:cap(x.Reads)],
			Guards: x.Guards[:cap(x.Guards)],
			Sets:   x.Sets[:cap(x.Sets)],
		})
	}
	return out
}

// Spoil writes over each list of l, so that whoever shares memory with it is found out.
func Spoil(l []api.Txn) {
	for i := range l[:cap(l)] {
		x := &l[:cap(l)][i]
		clear(x.Reads[:cap(x.Reads)])
		clear(x.Guards[:cap(x.Guards)])
		clear(x.Sets[:cap(x.Sets)])
		*x = api.Txn{}
	}
}
