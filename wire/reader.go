package wire

import (
	"marchpast/api"
	"marchpast/fault"
)

// reader has the bytes that are not read yet; where one is missing it leaves.
type reader struct{ left string }

func (r *reader) plan() api.Plan {
	return api.Plan{Shards: r.number(), Txns: readList(r, r.txn)}
}

func (r *reader) txn() api.Txn {
	return api.Txn{Reads: readList(r, r.number), Guards: readList(r, r.guard), Sets: readList(r, r.set)}
}

func (r *reader) guard() api.Guard {
	return api.Guard{Kind: r.number(), A: r.operand(), B: r.operand()}
}

func (r *reader) set() api.Set {
	return api.Set{Key: r.number(), Op: r.number(), A: r.operand(), B: r.operand()}
}

func (r *reader) operand() api.Operand { return api.Operand{Kind: r.number(), N: r.value()} }

func (r *reader) value() int {
	var v uint64
	for range valueBytes {
		v = v<<8 | uint64(r.number())
	}
	return int(v)
}

func (r *reader) number() int {
	if r.left == "" {
		fault.Leave(api.ErrForm)
	}
	n := int(r.left[0])
	r.left = r.left[1:]
	return n
}

// readList ends with the bytes, however many there are said to be.
func readList[T any](r *reader, read func() T) []T {
	var l []T
	for range r.number() {
		l = append(l, read())
	}
	return l
}
