package txn

import (
	"math"
	"reflect"
	"slices"
	"testing"

	"marchpast/api"
)

func number(n int) api.Operand { return api.Operand{Kind: api.Num, N: n} }

func place(n int) api.Operand { return api.Operand{Kind: api.Read, N: n} }

// full is right, and has as many guards and sets as there may be, and one read less.
func full() api.Txn {
	return api.Txn{
		Reads:  []int{0, 2, 5},
		Guards: []api.Guard{{Kind: api.NoAbove, A: number(3), B: place(0)}, {Kind: api.Unlike, A: place(1), B: place(2)}},
		Sets: []api.Set{
			{Key: 1, Op: api.Sub, A: place(0), B: number(3)},
			{Key: 2, Op: api.Put, A: place(2), B: place(0)},
			{Key: 7, Op: api.Mul, A: place(1), B: place(2)},
		},
	}
}

// flaw is a way in which a transaction is not as it must be.
type flaw struct {
	name string
	want api.Errno
	make func(x *api.Txn)
}

// flaws in the order in which they must be told.
func flaws() []flaw {
	l := []flaw{
		{"many reads", api.ErrMany, func(x *api.Txn) { x.Reads = append(x.Reads, 6, 7) }},
		{"many guards", api.ErrMany, func(x *api.Txn) { x.Guards = append(x.Guards, x.Guards[0]) }},
		{"many sets", api.ErrMany, func(x *api.Txn) { x.Sets = append(x.Sets, make([]api.Set, 4)...) }},
		{"no set", api.ErrMany, func(x *api.Txn) { x.Sets = nil }},
		{"empty sets", api.ErrMany, func(x *api.Txn) { x.Sets = []api.Set{} }},
		{"read below 0", api.ErrRange, func(x *api.Txn) { x.Reads[0] = -1 }},
		{"read of Keys", api.ErrRange, func(x *api.Txn) { x.Reads[2] = api.Keys }},
		{"key below 0", api.ErrRange, func(x *api.Txn) { x.Sets[0].Key = -1 }},
		{"key of Keys", api.ErrRange, func(x *api.Txn) { x.Sets[2].Key = api.Keys }},
		{"read far above", api.ErrRange, func(x *api.Txn) { x.Reads[1] = math.MaxInt64 }},
		{"key far below", api.ErrRange, func(x *api.Txn) { x.Sets[1].Key = math.MinInt64 }},
		{"reads fall", api.ErrForm, func(x *api.Txn) { x.Reads[2] = 1 }},
		{"read twice", api.ErrForm, func(x *api.Txn) { x.Reads[1] = x.Reads[0] }},
		{"keys fall", api.ErrForm, func(x *api.Txn) { x.Sets[2].Key = 0 }},
		{"key twice", api.ErrForm, func(x *api.Txn) { x.Sets[1].Key = x.Sets[0].Key }},
	}
	for i := range api.MaxGuards {
		for _, kind := range []int{0, 5, -1, math.MaxInt64} {
			l = append(l, flaw{"guard's kind", api.ErrKind, func(x *api.Txn) { x.Guards[i].Kind = kind }})
		}
		l = append(l, operandFlaws("guard's A", func(x *api.Txn) *api.Operand { return &x.Guards[i].A })...)
		l = append(l, operandFlaws("guard's B", func(x *api.Txn) *api.Operand { return &x.Guards[i].B })...)
	}
	for i := range api.MaxWrites {
		for _, op := range []int{0, 7, -1, math.MaxInt64} {
			l = append(l, flaw{"set's op", api.ErrKind, func(x *api.Txn) { x.Sets[i].Op = op }})
		}
		l = append(l, operandFlaws("set's A", func(x *api.Txn) *api.Operand { return &x.Sets[i].A })...)
		l = append(l, operandFlaws("set's B", func(x *api.Txn) *api.Operand { return &x.Sets[i].B })...)
	}
	return l
}

func operandFlaws(name string, of func(x *api.Txn) *api.Operand) []flaw {
	return []flaw{
		{name + " of kind 0", api.ErrKind, func(x *api.Txn) { of(x).Kind = 0 }},
		{name + " of kind 3", api.ErrKind, func(x *api.Txn) { of(x).Kind = 3 }},
		{name + " below 0", api.ErrRange, func(x *api.Txn) { *of(x) = place(-1) }},
		{name + " behind the reads", api.ErrRange, func(x *api.Txn) { *of(x) = place(3) }},
	}
}

// told holds all three calls against the error that they must tell, and looks for zero values beside it.
func told(t *testing.T, name string, x api.Txn, read []int, want api.Errno) {
	t.Helper()
	if e := Check(x); e != want {
		t.Errorf("%s: Check is %d, must be %d", name, e, want)
	}
	if l, e := Locks(x); e != want || len(l) != 0 {
		t.Errorf("%s: Locks is %v, %d, must be %d", name, l, e, want)
	}
	if r, made, e := Run(x, read); e != want || r.Done || len(r.Vals) != 0 || len(made) != 0 {
		t.Errorf("%s: Run is %v, %v, %d, must be %d", name, r, made, e, want)
	}
}

func TestB1Right(t *testing.T) {
	four := full()
	four.Reads = []int{0, 2, 5, 7}
	four.Sets[0].A = place(3)
	bare := api.Txn{Sets: []api.Set{{Key: 0, Op: api.Put, A: number(math.MinInt64), B: number(math.MaxInt64)}}}
	empty := api.Txn{Reads: []int{}, Guards: []api.Guard{}, Sets: bare.Sets}
	edge := api.Txn{Reads: []int{0, 7}, Sets: []api.Set{{Key: 0, Op: api.Most, A: place(0), B: place(1)}, {Key: 7, Op: api.Least, A: place(1), B: place(0)}}}
	for i, x := range []api.Txn{full(), four, bare, empty, edge} {
		if e := Check(x); e != api.OK {
			t.Errorf("%d: Check is %d", i, e)
		}
	}
	for kind := api.Same; kind <= api.NoAbove; kind++ {
		x := full()
		x.Guards[1].Kind = kind
		if e := Check(x); e != api.OK {
			t.Errorf("guard of kind %d: Check is %d", kind, e)
		}
	}
	for op := api.Put; op <= api.Most; op++ {
		x := full()
		x.Sets[1].Op = op
		if e := Check(x); e != api.OK {
			t.Errorf("set of op %d: Check is %d", op, e)
		}
	}
}

func TestB1EachFlaw(t *testing.T) {
	for _, f := range flaws() {
		x := full()
		f.make(&x)
		told(t, f.name, x, []int{4, 5, 6}, f.want)
		told(t, f.name+", no values", x, nil, f.want) // ahead of Run's own ErrRange
	}
}

func TestB1FirstFlaw(t *testing.T) {
	l := flaws()
	for i, first := range l {
		for _, later := range l[i+1:] {
			x := full()
			later.make(&x)
			first.make(&x)
			told(t, first.name+" ahead of "+later.name, x, []int{4, 5, 6}, first.want)
		}
	}
}

// Without reads no place is right.
func TestB1NoReads(t *testing.T) {
	x := api.Txn{Sets: []api.Set{{Key: 3, Op: api.Put, A: number(1), B: place(0)}}}
	told(t, "B of no reads", x, nil, api.ErrRange)
	x = api.Txn{Guards: []api.Guard{{Kind: api.Same, A: place(0), B: number(0)}}, Sets: []api.Set{{Key: 3, Op: api.Put, A: number(1), B: number(0)}}}
	told(t, "guard of no reads", x, nil, api.ErrRange)
}

// Lists that are far too long are only counted.
func TestB1LongLists(t *testing.T) {
	x := full()
	x.Reads = make([]int, 1<<20)
	told(t, "long reads", x, nil, api.ErrMany)
	x = full()
	x.Sets = make([]api.Set, 1<<16)
	told(t, "long sets", x, nil, api.ErrMany)
}

func TestB2Locks(t *testing.T) {
	set := func(keys ...int) []api.Set {
		var l []api.Set
		for _, k := range keys {
			l = append(l, api.Set{Key: k, Op: api.Put, A: number(1), B: number(0)})
		}
		return l
	}
	for _, c := range []struct {
		reads []int
		sets  []api.Set
		want  []api.Lock
	}{
		{nil, set(7), []api.Lock{{Key: 7, Write: true}}},
		{[]int{0, 1}, set(0, 1), []api.Lock{{Key: 0, Write: true}, {Key: 1, Write: true}}},
		{[]int{7}, set(0), []api.Lock{{Key: 0, Write: true}, {Key: 7}}},
		{[]int{0}, set(7), []api.Lock{{Key: 0}, {Key: 7, Write: true}}},
		{[]int{1, 3, 5, 7}, set(0, 3, 6), []api.Lock{{Key: 0, Write: true}, {Key: 1}, {Key: 3, Write: true}, {Key: 5}, {Key: 6, Write: true}, {Key: 7}}},
		{[]int{0, 1, 2, 3}, set(5, 6, 7), []api.Lock{{Key: 0}, {Key: 1}, {Key: 2}, {Key: 3}, {Key: 5, Write: true}, {Key: 6, Write: true}, {Key: 7, Write: true}}},
	} {
		l, e := Locks(api.Txn{Reads: c.reads, Sets: c.sets})
		if !slices.Equal(l, c.want) || e != api.OK {
			t.Errorf("Locks of %v, %v is %v, %d; must be %v", c.reads, c.sets, l, e, c.want)
		}
	}
}

// A guard that does not hold keeps no key from being locked: locks come ahead of what is read.
func TestB2LocksHangOnNoGuard(t *testing.T) {
	x := full()
	x.Guards[0] = api.Guard{Kind: api.Below, A: number(1), B: number(0)}
	l, e := Locks(x)
	want := []api.Lock{{Key: 0}, {Key: 1, Write: true}, {Key: 2, Write: true}, {Key: 5}, {Key: 7, Write: true}}
	if !slices.Equal(l, want) || e != api.OK {
		t.Errorf("Locks is %v, %d; must be %v", l, e, want)
	}
}

func TestB2Run(t *testing.T) {
	for _, c := range []struct {
		read []int
		done bool
		made []int
	}{
		{[]int{4, 5, 6}, true, []int{1, 6, 30}},
		{[]int{3, 5, 6}, true, []int{0, 6, 30}},
		{[]int{2, 5, 6}, false, nil},
		{[]int{4, 6, 6}, false, nil},
		{[]int{2, 6, 6}, false, nil},
		{[]int{math.MaxInt64, math.MinInt64, -1}, true, []int{math.MaxInt64 - 3, -1, math.MinInt64}},
		{[]int{math.MinInt64, 1, 2}, false, nil},
	} {
		r, made, e := Run(full(), c.read)
		if r.Done != c.done || !slices.Equal(r.Vals, c.read) || !slices.Equal(made, c.made) || e != api.OK {
			t.Errorf("Run of %v is %v, %v, %d; must be %v, %v", c.read, r, made, e, c.done, c.made)
		}
	}
}

func TestB2RunGoesRound(t *testing.T) {
	x := api.Txn{Reads: []int{4}, Sets: []api.Set{
		{Key: 0, Op: api.Sub, A: place(0), B: number(1)},
		{Key: 4, Op: api.Add, A: place(0), B: place(0)},
		{Key: 5, Op: api.Mul, A: number(-1), B: place(0)},
	}}
	r, made, e := Run(x, []int{math.MinInt64})
	if !r.Done || !slices.Equal(made, []int{math.MaxInt64, 0, math.MinInt64}) || e != api.OK {
		t.Errorf("Run is %v, %v, %d", r, made, e)
	}
}

// All sets are made of what was read, so two keys can change values.
func TestB2SetsDoNotSeeEachOther(t *testing.T) {
	x := api.Txn{Reads: []int{1, 6}, Sets: []api.Set{
		{Key: 1, Op: api.Put, A: place(1), B: number(0)},
		{Key: 6, Op: api.Put, A: place(0), B: number(0)},
	}}
	r, made, e := Run(x, []int{10, 20})
	if !r.Done || !slices.Equal(r.Vals, []int{10, 20}) || !slices.Equal(made, []int{20, 10}) || e != api.OK {
		t.Errorf("Run is %v, %v, %d", r, made, e)
	}
}

func TestB2RunWithoutReads(t *testing.T) {
	x := api.Txn{Sets: []api.Set{{Key: 7, Op: api.Put, A: number(9), B: number(0)}}}
	for _, read := range [][]int{nil, {}} {
		r, made, e := Run(x, read)
		if !r.Done || len(r.Vals) != 0 || !slices.Equal(made, []int{9}) || e != api.OK {
			t.Errorf("Run is %v, %v, %d", r, made, e)
		}
	}
	if r, made, e := Run(x, []int{1}); r.Done || len(r.Vals) != 0 || len(made) != 0 || e != api.ErrRange {
		t.Errorf("Run with a value too many is %v, %v, %d", r, made, e)
	}
}

func TestB2RunWrongCount(t *testing.T) {
	for _, read := range [][]int{nil, {}, {4}, {4, 5}, {4, 5, 6, 7}, {4, 5, 6, 7, 8}, make([]int, 1000)} {
		r, made, e := Run(full(), read)
		if r.Done || len(r.Vals) != 0 || len(made) != 0 || e != api.ErrRange {
			t.Errorf("Run of %d values is %v, %v, %d", len(read), r, made, e)
		}
	}
}

// roomy is full with spare room behind each list.
func roomy() api.Txn {
	x := full()
	x.Reads = append(x.Reads, 99, 98)[:3]
	x.Guards = append(x.Guards, api.Guard{Kind: 97})[:2]
	x.Sets = append(x.Sets, api.Set{Key: 96})[:3]
	return x
}

func TestP2OnlyRead(t *testing.T) {
	whole := func(x api.Txn) api.Txn {
		return api.Txn{Reads: x.Reads[:5], Guards: x.Guards[:3], Sets: x.Sets[:4]}
	}
	x, read := roomy(), []int{4, 5, 6, 95}[:3]
	Check(x)
	Locks(x)
	Run(x, read)
	if !reflect.DeepEqual(whole(x), whole(roomy())) || !slices.Equal(read[:4], []int{4, 5, 6, 95}) {
		t.Errorf("what was handed in is %v, %v", whole(x), read[:4])
	}
}

func TestP2NewMemory(t *testing.T) {
	x, read := full(), []int{4, 5, 6}
	r, made, _ := Run(x, read)
	locks, _ := Locks(x)
	read[0], x.Reads[0], x.Sets[0].Key = 40, 1, 0
	if r.Vals[0] != 4 || made[0] != 1 || locks[0].Key != 0 {
		t.Errorf("a later change of what was handed in is seen: %v, %v, %v", r, made, locks)
	}
	r.Vals = append(r.Vals, 1, 2, 3)
	r.Vals[1] = 50
	made = append(made, 1, 2, 3)
	made[2] = 60
	if read[1] != 5 || made[2] != 60 || r.Vals[1] != 50 || r.Vals[2] != 6 || made[1] != 6 {
		t.Errorf("lists share memory: %v, %v, %v", read, r, made)
	}
}

func TestP3TheSameAgain(t *testing.T) {
	x, read := full(), []int{4, 5, 6}
	r, made, e := Run(x, read)
	locks, f := Locks(x)
	for range 50 {
		Run(full(), []int{2, 5, 6})
		Run(api.Txn{}, nil)
		r2, made2, e2 := Run(x, read)
		locks2, f2 := Locks(x)
		if !reflect.DeepEqual(r, r2) || !slices.Equal(made, made2) || e != e2 || !slices.Equal(locks, locks2) || f != f2 {
			t.Fatalf("asked again it is %v, %v, %d; %v, %d", r2, made2, e2, locks2, f2)
		}
	}
}
