// Package txn: transactions: see doc/02-txn.md.
package txn

import (
	"slices"

	"marchpast/api"
	"marchpast/fault"
	"marchpast/vals"
)

// Check: see the chapter.
func Check(x api.Txn) api.Errno {
	_, e := fault.Caught(func() bool {
		checkKeys(x)
		checkGuards(x)
		checkSets(x)
		return true
	})
	return e
}

// Locks: see the chapter.
func Locks(x api.Txn) ([]api.Lock, api.Errno) {
	if e := Check(x); e != api.OK {
		return nil, e
	}
	var locks []api.Lock
	keys := setKeys(x)
	for key := range api.Keys { // going by key gives them rising, and none twice
		write := slices.Contains(keys, key)
		if write || slices.Contains(x.Reads, key) {
			locks = append(locks, api.Lock{Key: key, Write: write})
		}
	}
	return locks, api.OK
}

// Run: see the chapter.
func Run(x api.Txn, read []int) (api.Result, []int, api.Errno) {
	o, e := fault.Caught(func() outcome {
		fault.Leave(Check(x), countError(x, read))
		return outcomeOf(x, read)
	})
	return o.result, o.made, e
}

// outcome is all that a run tells, so that with an error all of it is zero at once.
type outcome struct {
	result api.Result
	made   []int
}

func outcomeOf(x api.Txn, read []int) outcome {
	o := outcome{result: api.Result{Done: guardsHold(x, read), Vals: slices.Clone(read)}}
	if o.result.Done {
		o.made = setValues(x, read)
	}
	return o
}

func guardsHold(x api.Txn, read []int) bool {
	for _, g := range x.Guards {
		if !fault.Got(vals.Holds(g.Kind, value(g.A, read), value(g.B, read))) {
			return false
		}
	}
	return true
}

// setValues are made of what was read alone: no set sees what another one makes.
func setValues(x api.Txn, read []int) []int {
	var made []int
	for _, s := range x.Sets {
		made = append(made, fault.Got(vals.Reckon(s.Op, value(s.A, read), value(s.B, read))))
	}
	return made
}

func value(o api.Operand, read []int) int { return fault.Got(vals.Value(o, read)) }

// checkKeys counts first, so that what comes after goes through short lists.
func checkKeys(x api.Txn) {
	fault.Leave(manyError(x))
	keys := setKeys(x)
	fault.Leave(rangeError(x.Reads), rangeError(keys), riseError(x.Reads), riseError(keys))
}

func checkGuards(x api.Txn) {
	for _, g := range x.Guards {
		_, kind := vals.Holds(g.Kind, 0, 0) // which kinds there are, chapter 1 alone knows
		fault.Leave(kind, vals.Check(g.A, len(x.Reads)), vals.Check(g.B, len(x.Reads)))
	}
}

func checkSets(x api.Txn) {
	for _, s := range x.Sets {
		_, op := vals.Reckon(s.Op, 0, 0)
		fault.Leave(op, vals.Check(s.A, len(x.Reads)), vals.Check(s.B, len(x.Reads)))
	}
}

func setKeys(x api.Txn) []int {
	var keys []int
	for _, s := range x.Sets {
		keys = append(keys, s.Key)
	}
	return keys
}

func manyError(x api.Txn) api.Errno {
	sets := len(x.Sets)
	if len(x.Reads) > api.MaxReads || len(x.Guards) > api.MaxGuards || sets > api.MaxWrites || sets == 0 {
		return api.ErrMany
	}
	return api.OK
}

func rangeError(keys []int) api.Errno {
	for _, key := range keys {
		if key < 0 || key >= api.Keys {
			return api.ErrRange
		}
	}
	return api.OK
}

func riseError(keys []int) api.Errno {
	for i := 1; i < len(keys); i++ {
		if keys[i-1] >= keys[i] {
			return api.ErrForm
		}
	}
	return api.OK
}

func countError(x api.Txn, read []int) api.Errno {
	if len(read) != len(x.Reads) {
		return api.ErrRange
	}
	return api.OK
}
