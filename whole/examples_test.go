package whole

import (
	"slices"
	"testing"

	"marchpast/api"
	"marchpast/audit"
	"marchpast/desk"
	"marchpast/graph"
	"marchpast/locks"
	"marchpast/place"
	"marchpast/play"
	"marchpast/run"
	"marchpast/sample"
	"marchpast/seq"
	"marchpast/steps"
	"marchpast/store"
	"marchpast/txn"
	"marchpast/vals"
	"marchpast/wire"
)

func five() []int { return []int{5, 1, 0, 0, 0, 0, 0, 0} }

// three are a payment, a note and a mark, at two shards.
func three() api.Plan { return plan(2, sample.Pay(3), sample.Note(), sample.Mark(9)) }

// must tells which example does not hold.
func must(t *testing.T, example int, holds bool) {
	t.Helper()
	if !holds {
		t.Errorf("example %d does not hold", example)
	}
}

func TestExamplesOfOrder(t *testing.T) {
	most, _ := vals.Reckon(api.Most, 3, 7)
	must(t, 1, most == 7)

	paid, made, _ := txn.Run(sample.Pay(3), []int{5, 1})
	unpaid, none, _ := txn.Run(sample.Pay(3), []int{2, 1})
	must(t, 2, paid.Done && slices.Equal(made, []int{2, 4}) && !unpaid.Done && len(none) == 0)

	_, r, _ := store.Serial(five(), []api.Txn{sample.Pay(3), sample.Pay(3)})
	must(t, 3, len(r) == 2 && r[0].Done && !r[1].Done)

	shard, _ := place.Shard(plan(2), 5)
	must(t, 4, shard == 1)

	merged, _ := seq.Merge([][][]api.Txn{{{sample.Mark(0)}, {sample.Mark(2)}}, {{sample.Mark(1)}}})
	must(t, 5, sample.Same(merged, sample.Marks(3)))

	clash, _ := graph.Clash(sample.Pay(3), sample.Note())
	free, e := graph.Clash(sample.Note(), sample.Mark(9))
	must(t, 6, clash && !free && e == api.OK)
}

func TestExamplesOfMarching(t *testing.T) {
	ready, _ := locks.Ready(three().Txns, []bool{true, false, false})
	must(t, 7, slices.Equal(ready, []int{1, 2}))

	wantEnd, want, _ := store.Serial(five(), three().Txns)
	end, r, e := run.Run(five(), three().Txns, []int{2, 0, 1})
	must(t, 8, slices.Equal(end, wantEnd) && sample.SameResults(r, want) && e == api.OK)

	begun, _ := steps.Begin(three(), five())
	can, _ := steps.Can(three(), begun)
	must(t, 9, slices.Equal(can, []api.Step{{Kind: api.StepRead, Txn: 0, Shard: 0}, {Kind: api.StepRead, Txn: 0, Shard: 1}, {Kind: api.StepRead, Txn: 2, Shard: 1}}))

	for _, picks := range [][]int{nil, {2, 1}, {-3, 100, 7, 7, 7, 7, 7, 7, 7}} {
		_, n, e := play.Play(three(), five(), picks)
		must(t, 10, n == 8 && e == api.OK)
	}

	by, _ := audit.Reads(five(), three().Txns, 1)
	must(t, 11, slices.Equal(by, []int{0}))

	b, _ := wire.Write(three())
	must(t, 12, len(b) == 113)

	given, e := desk.Play(b, "put 0 5\nput 1 1\nrest\naudit\n")
	must(t, 13, given == "ok\nok\n8\n-1\n" && e == api.OK)
}
