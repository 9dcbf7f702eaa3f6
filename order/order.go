// Package order has what all layers ask of transactions in their order: is each of them right, and a copy of them.
package order

import (
	"slices"

	"marchpast/api"
	"marchpast/txn"
)

// Check is ErrMany, if there are more than MaxTxns, or the first one's error.
func Check(l []api.Txn) api.Errno {
	if len(l) > api.MaxTxns {
		return api.ErrMany
	}
	for _, x := range l {
		if e := txn.Check(x); e != api.OK {
			return e
		}
	}
	return api.OK
}

// Copy shares no memory with l, and no two lists of it share any: an answer may be made of it.
func Copy(l []api.Txn) []api.Txn {
	var copies []api.Txn
	for _, x := range l {
		copies = append(copies, api.Txn{
			Reads:  slices.Clone(x.Reads),
			Guards: slices.Clone(x.Guards),
			Sets:   slices.Clone(x.Sets),
		})
	}
	return copies
}
