package wire

import (
	"encoding/binary"
	"math"
	"slices"
	"strings"
	"testing"

	"marchpast/api"
	"marchpast/place"
	"marchpast/sample"
)

func plan(shards int, l ...api.Txn) api.Plan { return api.Plan{Shards: shards, Txns: l} }

// three are a payment, a note and a mark.
func three() api.Plan { return plan(2, sample.Pay(3), sample.Note(), sample.Mark(9)) }

func samePlan(a, b api.Plan) bool { return a.Shards == b.Shards && sample.Same(a.Txns, b.Txns) }

// bytesOf are the bytes of a plan by the words, be it right or not; each number but a value must fit into a byte.
func bytesOf(p api.Plan) string {
	b := []byte{byte(p.Shards), byte(len(p.Txns))}
	operand := func(o api.Operand) { b = binary.BigEndian.AppendUint64(append(b, byte(o.Kind)), uint64(o.N)) }
	for _, x := range p.Txns {
		b = append(b, byte(len(x.Reads)))
		for _, key := range x.Reads {
			b = append(b, byte(key))
		}
		b = append(b, byte(len(x.Guards)))
		for _, g := range x.Guards {
			b = append(b, byte(g.Kind))
			operand(g.A)
			operand(g.B)
		}
		b = append(b, byte(len(x.Sets)))
		for _, s := range x.Sets {
			b = append(b, byte(s.Key), byte(s.Op))
			operand(s.A)
			operand(s.B)
		}
	}
	return string(b)
}

// both holds Write and Read against each other's answer.
func both(t *testing.T, name string, p api.Plan, b string) {
	t.Helper()
	if written, e := Write(p); written != b || e != api.OK {
		t.Errorf("%s: Write is %q, %d; must be %q", name, written, e, b)
	}
	if read, e := Read(b); !samePlan(read, p) || e != api.OK {
		t.Errorf("%s: Read is %v, %d; must be %v", name, read, e, p)
	}
}

// refused holds Read against an error, and looks for a zero value beside it.
func refused(t *testing.T, name, b string, want api.Errno) {
	t.Helper()
	if p, e := Read(b); !samePlan(p, api.Plan{}) || e != want {
		t.Errorf("%s: Read of %q is %v, %d; must be %d", name, b, p, e, want)
	}
}

func TestL1Bytes(t *testing.T) {
	both(t, "none", plan(3), "\x03\x00")
	both(t, "a mark", plan(1, sample.Mark(9)), "\x01\x01"+"\x00"+"\x00"+"\x01"+"\x07\x01"+"\x01\x00\x00\x00\x00\x00\x00\x00\x09"+"\x01\x00\x00\x00\x00\x00\x00\x00\x00")
	both(t, "a note", plan(4, sample.Note()), "\x04\x01"+"\x01\x01"+"\x00"+"\x01"+"\x05\x01"+"\x02\x00\x00\x00\x00\x00\x00\x00\x00"+"\x01\x00\x00\x00\x00\x00\x00\x00\x00")
	both(t, "a payment", plan(2, sample.Pay(258)), "\x02\x01"+"\x02\x00\x01"+
		"\x01"+"\x04"+"\x01\x00\x00\x00\x00\x00\x00\x01\x02"+"\x02\x00\x00\x00\x00\x00\x00\x00\x00"+
		"\x02"+"\x00\x03"+"\x02\x00\x00\x00\x00\x00\x00\x00\x00"+"\x01\x00\x00\x00\x00\x00\x00\x01\x02"+
		"\x01\x02"+"\x02\x00\x00\x00\x00\x00\x00\x00\x01"+"\x01\x00\x00\x00\x00\x00\x00\x01\x02")
}

func TestL1Values(t *testing.T) {
	for n, bytes := range map[int]string{
		0:                  "\x00\x00\x00\x00\x00\x00\x00\x00",
		1:                  "\x00\x00\x00\x00\x00\x00\x00\x01",
		255:                "\x00\x00\x00\x00\x00\x00\x00\xff",
		256:                "\x00\x00\x00\x00\x00\x00\x01\x00",
		-1:                 "\xff\xff\xff\xff\xff\xff\xff\xff",
		-2:                 "\xff\xff\xff\xff\xff\xff\xff\xfe",
		-256:               "\xff\xff\xff\xff\xff\xff\xff\x00",
		0x0123456789abcdef: "\x01\x23\x45\x67\x89\xab\xcd\xef",
		1 << 31:            "\x00\x00\x00\x00\x80\x00\x00\x00",
		1 << 32:            "\x00\x00\x00\x01\x00\x00\x00\x00",
		math.MaxInt64:      "\x7f\xff\xff\xff\xff\xff\xff\xff",
		math.MinInt64:      "\x80\x00\x00\x00\x00\x00\x00\x00",
		math.MinInt64 + 1:  "\x80\x00\x00\x00\x00\x00\x00\x01",
	} {
		both(t, "a value", plan(1, sample.Mark(n)), "\x01\x01\x00\x00\x01\x07\x01\x01"+bytes+"\x01"+strings.Repeat("\x00", 8))
	}
}

func TestL1HowMany(t *testing.T) {
	if b, e := Write(three()); len(b) != 113 || e != api.OK {
		t.Errorf("three have %d bytes, %d", len(b), e)
	}
	both(t, "three", three(), bytesOf(three()))
	x := sample.Keyed([]int{0, 3, 6, 7}, 1, 2, 7) // as much of all as may be
	for range api.MaxGuards {
		x.Guards = append(x.Guards, api.Guard{Kind: api.Below, A: sample.Number(-1), B: sample.Value(3)})
	}
	most := plan(api.MaxShards, slices.Repeat([]api.Txn{x}, api.MaxTxns)...)
	if b, e := Write(most); len(b) != 842 || e != api.OK {
		t.Errorf("the longest has %d bytes, %d", len(b), e)
	}
	both(t, "the longest", most, bytesOf(most))
}

func TestL1WriteErrors(t *testing.T) {
	wrong := func(name string, p api.Plan, want api.Errno) {
		t.Helper()
		if b, e := Write(p); b != "" || e != want {
			t.Errorf("%s: Write is %q, %d; must be %d", name, b, e, want)
		}
	}
	for _, shards := range []int{math.MinInt64, -1, 0, api.MaxShards + 1, 256, 258, math.MaxInt64} {
		wrong("wrong shards", plan(shards), api.ErrRange)
		wrong("wrong shards", plan(shards, sample.Pay(3)), api.ErrRange)
		for _, w := range sample.WrongLists() {
			wrong("wrong shards and list", plan(shards, w.Txns...), api.ErrRange)
		}
	}
	for shards := 1; shards <= api.MaxShards; shards++ {
		for _, w := range sample.WrongLists() {
			wrong("wrong list", plan(shards, w.Txns...), w.E)
		}
	}
}

func TestL1ReadMany(t *testing.T) {
	right := bytesOf(three())
	for _, c := range []string{"\x00", "\x01", "a", "\xff"} {
		refused(t, "as many as may be", strings.Repeat(c, api.MaxBytes), api.ErrForm)
		refused(t, "one more", strings.Repeat(c, api.MaxBytes+1), api.ErrMany)
		refused(t, "many more", strings.Repeat(c, 1<<20), api.ErrMany)
		refused(t, "a plan, and as many as may be", right+strings.Repeat(c, api.MaxBytes-len(right)), api.ErrForm)
		refused(t, "a plan, and one more", right+strings.Repeat(c, api.MaxBytes-len(right)+1), api.ErrMany)
	}
}

// What lacks its last bytes, or has others behind or ahead, is none.
func TestL1ReadPieces(t *testing.T) {
	for _, p := range []api.Plan{three(), plan(4), plan(1, sample.Mark(0))} {
		b := bytesOf(p)
		for n := range len(b) {
			refused(t, "a piece", b[:n], api.ErrForm)
		}
		for c := range 256 {
			refused(t, "one behind", b+string([]byte{byte(c)}), api.ErrForm)
		}
		refused(t, "twice", b+b, api.ErrForm)
		refused(t, "a line feed ahead", "\n"+b, api.ErrForm)
	}
	refused(t, "nothing", "", api.ErrForm)
	refused(t, "said to be 255", "\x01\xff", api.ErrForm)
	refused(t, "reads said to be 255", "\x01\x01\xff", api.ErrForm)
	refused(t, "all said to be 255", strings.Repeat("\xff", 1000), api.ErrForm)
}

// Bytes of a plan that is not right are bytes of none, whatever is not right.
func TestL1ReadWrongPlans(t *testing.T) {
	for _, shards := range []int{0, api.MaxShards + 1, 6, 128, 255} {
		refused(t, "wrong shards", bytesOf(plan(shards)), api.ErrForm)
		refused(t, "wrong shards", bytesOf(plan(shards, three().Txns...)), api.ErrForm)
	}
	for shards := 1; shards <= api.MaxShards; shards++ {
		for _, w := range sample.WrongLists() {
			if len(w.Txns) < 256 {
				refused(t, "wrong list", bytesOf(plan(shards, w.Txns...)), api.ErrForm)
			}
		}
		both(t, "as many as may be", plan(shards, sample.Marks(api.MaxTxns)...), bytesOf(plan(shards, sample.Marks(api.MaxTxns)...)))
	}
	for name, turn := range map[string]func(x *api.Txn){
		"five reads":              func(x *api.Txn) { x.Reads = []int{0, 1, 2, 3, 4} },
		"no set":                  func(x *api.Txn) { x.Sets = nil },
		"four sets":               func(x *api.Txn) { x.Sets = sample.Keyed(nil, 0, 1, 2, 3).Sets },
		"a read of no key":        func(x *api.Txn) { x.Reads[1] = api.Keys },
		"a read of key 255":       func(x *api.Txn) { x.Reads[1] = 255 },
		"a read twice":            func(x *api.Txn) { x.Reads[1] = 0 },
		"a set twice":             func(x *api.Txn) { x.Sets[1].Key = 0 },
		"sets that fall":          func(x *api.Txn) { slices.Reverse(x.Sets) },
		"a guard of no kind":      func(x *api.Txn) { x.Guards[0].Kind = 5 },
		"an operand of no kind":   func(x *api.Txn) { x.Guards[0].B.Kind = 3 },
		"a place that is none":    func(x *api.Txn) { x.Sets[1].A.N = 2 },
		"a place below 0":         func(x *api.Txn) { x.Sets[1].A.N = -1 },
		"a place, 2^32 beside it": func(x *api.Txn) { x.Sets[1].A.N = 1<<32 + 1 },
		"a place, 2^63 beside it": func(x *api.Txn) { x.Sets[1].A.N = math.MinInt64 + 1 },
	} {
		x := sample.Pay(3)
		turn(&x)
		refused(t, name, bytesOf(plan(2, x)), api.ErrForm)
		refused(t, name+", others about", bytesOf(plan(2, sample.Note(), x, sample.Mark(1))), api.ErrForm)
	}
}

func TestL2WrittenAndRead(t *testing.T) {
	d := sample.Draw(13)
	for range 500 {
		p := d.Plan()
		for _, x := range p.Txns { // values of all sizes
			for i := range x.Sets {
				if o := &x.Sets[i].A; o.Kind == api.Num {
					o.N = d.N(1<<31) << d.N(40) * (d.N(3) - 1)
				}
			}
		}
		both(t, "drawn", p, bytesOf(p))
	}
}

// strict holds Read of any bytes against L2: a plan of which these are the bytes, or none.
func strict(t *testing.T, b string) api.Errno {
	t.Helper()
	p, e := Read(b)
	if e != api.OK {
		refused(t, "changed", b, api.ErrForm)
		return e
	}
	if place.Check(p) != api.OK || bytesOf(p) != b {
		t.Fatalf("Read of %q is %v", b, p)
	}
	return api.OK
}

func TestL2ShortBytes(t *testing.T) {
	for first := range 256 {
		strict(t, string([]byte{byte(first)}))
		for second := range 256 {
			want := api.ErrForm
			if first >= 1 && first <= api.MaxShards && second == 0 {
				want = api.OK
			}
			if b := string([]byte{byte(first), byte(second)}); strict(t, b) != want {
				t.Errorf("%q is read otherwise than %d", b, want)
			}
		}
	}
}

// Each byte of three is changed into each other one; how many of these are right is counted by hand.
func TestL2OneByteChanged(t *testing.T) {
	x := three()
	b := bytesOf(x)
	right := 0
	for at := range len(b) {
		for c := range 256 {
			changed := []byte(b)
			changed[at] = byte(c)
			if strict(t, string(changed)) == api.OK && byte(c) != b[at] {
				right++
			}
		}
	}
	// 3 other numbers of shards; each of the 8 bytes of the 6 operands that are numbers;
	// 3 other kinds of the guard, 5 other operations of each of 4 sets; the other place, of the 3 that are among two reads;
	// the 4 places taken as numbers, and the note's number 0 as a place;
	// 6 other second reads of the payment and 7 others of the note; 6 other second keys of the payment, 7 of the note, 7 of the mark.
	if want := 3 + 6*8*255 + 3 + 4*5 + 3 + 4 + 1 + 6 + 7 + 6 + 7 + 7; right != want {
		t.Errorf("%d changed ones are right, must be %d", right, want)
	}
}

// Of plans that are right but for a thing or two all that are right are read, and nothing else is.
func TestL2NearlyRight(t *testing.T) {
	d := sample.Draw(14)
	counts := map[api.Errno]int{}
	for range 6000 {
		p := plan(d.N(6), d.Loose()...)
		for range d.N(3) {
			spoilOne(&d, &p)
		}
		b := bytesOf(p)
		e := strict(t, b)
		counts[e]++
		if right := place.Check(p) == api.OK; right != (e == api.OK) {
			t.Fatalf("Read of %q is %d; the plan is %v", b, e, p)
		}
		if read, _ := Read(b); e == api.OK && !samePlan(read, p) {
			t.Fatalf("Read of %q is %v; must be %v", b, read, p)
		}
	}
	if counts[api.OK] < 1000 || counts[api.ErrForm] < 1000 {
		t.Errorf("%v: the draw tells too little", counts)
	}
}

// spoilOne changes one number of a transaction, mostly into one that may not be.
func spoilOne(d *sample.Draw, p *api.Plan) {
	if len(p.Txns) == 0 {
		return
	}
	x := &p.Txns[d.N(len(p.Txns))]
	set := &x.Sets[0]
	switch d.N(6) {
	case 0:
		x.Reads = append(x.Reads, d.N(10))
	case 1:
		set.Key = d.N(10)
	case 2:
		set.Op = d.N(9)
	case 3:
		set.A = api.Operand{Kind: d.N(4), N: d.N(5) - 1}
	case 4:
		set.B.Kind = d.N(4)
	case 5:
		x.Sets = append(x.Sets, api.Set{Key: d.N(10), Op: api.Put, A: sample.Number(1), B: sample.Number(2)})
	}
}

// Bytes that were drawn, small ones mostly, so that some of them are a plan.
func TestL2DrawnBytes(t *testing.T) {
	d := sample.Draw(15)
	for range 20000 {
		b := make([]byte, d.N(60))
		for i := range b {
			if b[i] = byte(d.N(3)); d.N(9) == 0 {
				b[i] = byte(d.N(256))
			}
		}
		strict(t, string(b))
	}
}

func TestP2OnlyRead(t *testing.T) {
	p := plan(2, sample.Roomy(three().Txns)...)
	Write(p)
	Write(plan(0, p.Txns...))
	if !sample.Same(sample.Whole(p.Txns), sample.Whole(sample.Roomy(three().Txns))) {
		t.Errorf("what was handed in is %v", sample.Whole(p.Txns))
	}
}

func TestP2NewMemory(t *testing.T) {
	p := three()
	b, _ := Write(p)
	sample.Spoil(p.Txns)
	if b != bytesOf(three()) {
		t.Errorf("Write's answer is %q then", b)
	}
	for n := range three().Txns { // what is written over one is seen in no other one
		p, _ := Read(bytesOf(three()))
		want := three()
		sample.Spoil(p.Txns[n : n+1 : n+1])
		sample.Spoil(want.Txns[n : n+1 : n+1])
		if !samePlan(p, want) {
			t.Errorf("Read's answer is %v then", p)
		}
	}
	p, _ = Read(bytesOf(three()))
	clear(p.Txns[0].Reads[:cap(p.Txns[0].Reads)])
	clear(p.Txns[0].Guards[:cap(p.Txns[0].Guards)])
	if !slices.Equal(p.Txns[0].Sets, three().Txns[0].Sets) || !slices.Equal(p.Txns[1].Reads, three().Txns[1].Reads) {
		t.Errorf("lists of Read's answer share memory: %v", p)
	}
	if again, _ := Read(bytesOf(three())); !samePlan(again, three()) {
		t.Errorf("another answer of Read is %v then", again)
	}
}

func TestP3TheSameAgain(t *testing.T) {
	for range 50 {
		Write(plan(1, sample.Mark(4)))
		Write(plan(0))
		Read("\x02\x00")
		Read("\x02\x05\x01")
		both(t, "again", three(), bytesOf(three()))
	}
}
