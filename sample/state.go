package sample

import (
	"slices"

	"marchpast/api"
)

// SameState holds states against each other; a list without elements may be nil or not.
func SameState(a, b api.State) bool {
	return slices.Equal(a.Store, b.Store) && sameRows(a.Read, b.Read) && sameRows(a.Wrote, b.Wrote) && sameRows(a.Vals, b.Vals)
}

func sameRows[T comparable](a, b [][]T) bool { return slices.EqualFunc(a, b, slices.Equal[[]T]) }

// RoomyState is s, new, with spare room behind each list, in which something lies.
func RoomyState(s api.State) api.State {
	return api.State{
		Store: withRoom(s.Store, -9),
		Read:  roomyRows(s.Read, true),
		Wrote: roomyRows(s.Wrote, true),
		Vals:  roomyRows(s.Vals, -9),
	}
}

func roomyRows[T any](rows [][]T, behind T) [][]T {
	var roomy [][]T
	for _, row := range rows {
		roomy = append(roomy, withRoom(row, behind))
	}
	return withRoom(roomy, []T{behind})
}

// WholeState is s with each list as long as its room, to look at what lies behind.
func WholeState(s api.State) api.State {
	return api.State{
		Store: s.Store[:cap(s.Store)],
		Read:  wholeRows(s.Read),
		Wrote: wholeRows(s.Wrote),
		Vals:  wholeRows(s.Vals),
	}
}

func wholeRows[T any](rows [][]T) [][]T {
	var whole [][]T
	for _, row := range rows[:cap(rows)] {
		whole = append(whole, row[:cap(row)])
	}
	return whole
}

// CopyState shares no memory with s, and no two lists of it share any.
func CopyState(s api.State) api.State {
	return api.State{Store: slices.Clone(s.Store), Read: copyRows(s.Read), Wrote: copyRows(s.Wrote), Vals: copyRows(s.Vals)}
}

func copyRows[T any](rows [][]T) [][]T {
	var copies [][]T
	for _, row := range rows {
		copies = append(copies, slices.Clone(row))
	}
	return copies
}

// SpoilState writes over each list of s, so that whoever shares memory with it is found out.
func SpoilState(s api.State) {
	for _, flip := range flips(s) {
		flip()
	}
	clear(s.Read[:cap(s.Read)])
	clear(s.Wrote[:cap(s.Wrote)])
	clear(s.Vals[:cap(s.Vals)])
}

// Apart tells whether no two lists of s share memory: what is changed in one is seen in no other one.
func Apart(s api.State) bool {
	before := CopyState(s)
	for _, flip := range flips(s) {
		flip()
		if changed(before, s) > 1 {
			return false
		}
		flip()
	}
	return true
}

// flips change, and change back, one list of s each, the spare room behind it too.
func flips(s api.State) []func() {
	other := func(v int) int { return ^v }
	not := func(b bool) bool { return !b }
	all := []func(){flipOf(s.Store, other)}
	for _, row := range s.Vals {
		all = append(all, flipOf(row, other))
	}
	for _, row := range slices.Concat(s.Read, s.Wrote) {
		all = append(all, flipOf(row, not))
	}
	return all
}

func flipOf[T any](l []T, other func(T) T) func() {
	return func() {
		for i, v := range l[:cap(l)] {
			l[:cap(l)][i] = other(v)
		}
	}
}

// changed is how many lists are not the same; both must have as many.
func changed(a, b api.State) int {
	n := changedRows(a.Read, b.Read) + changedRows(a.Wrote, b.Wrote) + changedRows(a.Vals, b.Vals)
	if !slices.Equal(a.Store, b.Store) {
		n++
	}
	return n
}

func changedRows[T comparable](a, b [][]T) int {
	n := 0
	for i := range a {
		if !slices.Equal(a[i], b[i]) {
			n++
		}
	}
	return n
}
