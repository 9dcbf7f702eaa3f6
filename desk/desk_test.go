package desk

import (
	"fmt"
	"regexp"
	"strconv"
	"strings"
	"testing"

	"marchpast/api"
	"marchpast/audit"
	"marchpast/play"
	"marchpast/sample"
	"marchpast/steps"
	"marchpast/store"
	"marchpast/wire"
)

func plan(shards int, l ...api.Txn) api.Plan { return api.Plan{Shards: shards, Txns: l} }

// three are a payment, a note and a mark: eight steps at two shards.
func three() api.Plan { return plan(2, sample.Pay(3), sample.Note(), sample.Mark(9)) }

func bytesOf(p api.Plan) string {
	b, _ := wire.Write(p)
	return b
}

// script has a line feed behind each line.
func script(lines ...string) string {
	t := ""
	for _, line := range lines {
		t += line + "\n"
	}
	return t
}

// gives holds Play against lines: what is asked, and what is given, by turns.
func gives(t *testing.T, name string, p api.Plan, asked ...string) {
	t.Helper()
	var lines, want []string
	for i := 0; i < len(asked); i += 2 {
		lines, want = append(lines, asked[i]), append(want, asked[i+1])
	}
	if given, e := Play(bytesOf(p), script(lines...)); given != script(want...) || e != api.OK {
		t.Errorf("%s: it gives\n%s, %d; must be\n%s", name, given, e, script(want...))
	}
}

// refused holds Play against an error, and looks for a zero value beside it.
func refused(t *testing.T, name, b, text string, want api.Errno) {
	t.Helper()
	if given, e := Play(b, text); given != "" || e != want {
		t.Errorf("%s: it gives %q, %d; must be %d", name, given, e, want)
	}
}

func TestM1PlanErrors(t *testing.T) {
	texts := []string{"", "\n", "can\n", "can", strings.Repeat("x", api.MaxBytes+1), strings.Repeat("\n", api.MaxLines+1)}
	for _, text := range texts {
		for _, b := range []string{"", "\x02", "\x00\x00", "\x05\x00", "\x02\x01", "\x02\x00\n", bytesOf(three())[1:], strings.Repeat("\x01", api.MaxBytes)} {
			refused(t, "no plan", b, text, api.ErrForm)
		}
		refused(t, "too many bytes", strings.Repeat("\x01", api.MaxBytes+1), text, api.ErrMany)
		refused(t, "too many bytes behind a plan", bytesOf(three())+strings.Repeat("\n", api.MaxBytes), text, api.ErrMany)
	}
}

func TestM1ScriptErrors(t *testing.T) {
	for _, b := range []string{bytesOf(three()), "\x01\x00"} {
		for _, text := range []string{"can", "x", " ", "can\nstore", "\n\ncan", "can\n\r", "\x00"} {
			refused(t, "no line feed at the end", b, text, api.ErrForm)
		}
		lines := strings.Repeat("store\n", api.MaxLines)
		refused(t, "a line too many", b, lines+"\n", api.ErrMany)
		refused(t, "many lines too many", b, strings.Repeat(lines, 10), api.ErrMany)
		refused(t, "a line too many, and no line feed", b, lines+"\nx", api.ErrMany)
		refused(t, "as many lines as may be, and no line feed", b, lines+"x", api.ErrForm)
		long := strings.Repeat("x", api.MaxBytes-1)
		refused(t, "a byte too many", b, "x"+long+"\n", api.ErrMany)
		refused(t, "a byte too many, and no line feed", b, "xx"+long, api.ErrMany)
		refused(t, "as many bytes as may be, and no line feed", b, "x"+long, api.ErrForm)
		if given, e := Play(b, long+"\n"); given != "error 1\n" || e != api.OK {
			t.Errorf("as many bytes as may be: %q, %d", given, e)
		}
		if given, e := Play(b, strings.Repeat("\n", api.MaxLines)); given != strings.Repeat("error 1\n", api.MaxLines) || e != api.OK {
			t.Errorf("as many lines as may be: %q, %d", given, e)
		}
		if given, e := Play(b, ""); given != "" || e != api.OK {
			t.Errorf("no lines: %q, %d", given, e)
		}
	}
}

func TestM1Beginning(t *testing.T) {
	gives(t, "three", three(),
		"store", "0 0 0 0 0 0 0 0",
		"can", "read 0 0; read 0 1; read 2 1",
		"audit", "error 8",
		"rest", "8",
		"store", "0 0 0 0 0 0 0 9",
		"audit", "-1")
	for shards := 1; shards <= api.MaxShards; shards++ {
		gives(t, "none", plan(shards),
			"can", "over",
			"store", "0 0 0 0 0 0 0 0",
			"audit", "-1",
			"rest", "0",
			"read 0 0", "error 5",
			"put 7 -9", "ok",
			"store", "0 0 0 0 0 0 0 -9",
			"can", "over",
			"audit", "-1")
	}
}

func TestM1StepByStep(t *testing.T) {
	gives(t, "three", three(),
		"put 0 5", "ok",
		"put 1 1", "ok",
		"store", "5 1 0 0 0 0 0 0",
		"read 2 1", "ok",
		"can", "read 0 0; read 0 1; write 2 1",
		"write 2 1", "ok",
		"store", "5 1 0 0 0 0 0 9",
		"read 0 1", "ok",
		"can", "read 0 0",
		"read 0 0", "ok",
		"can", "write 0 0; write 0 1",
		"write 0 1", "ok",
		"store", "5 4 0 0 0 0 0 9",
		"can", "read 1 1; write 0 0",
		"read 1 1", "ok",
		"can", "write 0 0; write 1 1",
		"write 0 0", "ok",
		"audit", "error 8",
		"write 1 1", "ok",
		"can", "over",
		"store", "2 4 0 0 0 4 0 9",
		"audit", "-1",
		"rest", "0",
		"can", "over")
}

// A step tells Do's errors, and changes nothing with one of them.
func TestM1StepErrors(t *testing.T) {
	gives(t, "three", three(),
		"read 1 1", "error 6",
		"write 0 0", "error 6",
		"read 1 0", "error 5",
		"write 2 0", "error 5",
		"read 3 0", "error 5",
		"read 0 2", "error 5",
		"write 999999 0", "error 5",
		"write 0 999999", "error 5",
		"can", "read 0 0; read 0 1; read 2 1",
		"read 2 1", "ok",
		"read 2 1", "error 7",
		"write 2 1", "ok",
		"write 2 1", "error 7",
		"read 2 1", "error 7",
		"can", "read 0 0; read 0 1",
		"store", "0 0 0 0 0 0 0 9")
}

// A value is put among what lies there by then, of steps that are done too, and all begins anew.
func TestM1PutBeginsAnew(t *testing.T) {
	gives(t, "on the way", three(),
		"put 0 7", "ok",
		"read 0 0", "ok",
		"read 0 1", "ok",
		"write 0 0", "ok",
		"store", "4 0 0 0 0 0 0 0",
		"put 6 8", "ok",
		"store", "4 0 0 0 0 0 8 0",
		"can", "read 0 0; read 0 1; read 2 1",
		"write 0 1", "error 6",
		"rest", "8",
		"store", "1 3 0 0 0 3 8 9",
		"audit", "-1",
		"put 1 -50", "ok", // when it is over
		"can", "read 0 0; read 0 1; read 2 1",
		"audit", "error 8",
		"store", "1 -50 0 0 0 3 8 9",
		"rest", "8",
		"store", "1 -50 0 0 0 -50 8 9",
		"audit", "-1",
		"put 1 -50", "ok", // the value that lies there
		"can", "read 0 0; read 0 1; read 2 1")
}

func TestM1PutErrors(t *testing.T) {
	gives(t, "three", three(),
		"put 0 5", "ok",
		"read 0 0", "ok",
		"put 8 1", "error 3",
		"put 9 -1", "error 3",
		"put 10 0", "error 3",
		"put 999999 999999", "error 3",
		"put 8 01", "error 1",
		"put 8 x", "error 1",
		"put 8", "error 1",
		"put 8 1 1", "error 1",
		"put -1 5", "error 1",
		"put 0 x", "error 1",
		"can", "read 0 1; read 2 1",
		"store", "5 0 0 0 0 0 0 0",
		"put 7 1", "ok",
		"can", "read 0 0; read 0 1; read 2 1")
}

func TestM1Rest(t *testing.T) {
	gives(t, "after some steps", three(),
		"put 0 3", "ok",
		"read 2 1", "ok",
		"read 0 1", "ok",
		"rest", "6",
		"can", "over",
		"store", "0 3 0 0 0 3 0 9",
		"audit", "-1",
		"rest", "0",
		"store", "0 3 0 0 0 3 0 9",
		"audit", "-1")
	gives(t, "one shard", plan(1, three().Txns...), "rest", "6", "can", "over")
	gives(t, "three shards", plan(3, three().Txns...), "rest", "9", "can", "over") // the note reads at one and sets at another
}

func TestM1Numbers(t *testing.T) {
	both := []string{"", "00", "01", "007", "+1", "1.0", "1e2", "0x1", "1_0", "x", "1x", "1000000", "0000001", "9999999999999999999999", "1\t", "\v1", "\r", "\x00", "٣", "１", "--1", "- 1", "1-", "-", "−1"}
	for _, word := range both {
		for _, line := range []string{"put 0 " + word, "put " + word + " 0", "read " + word + " 0", "read 0 " + word, "write " + word + " 0", "write 0 " + word} {
			gives(t, "wrong number", three(), line, "error 1", "store", "0 0 0 0 0 0 0 0", "can", "read 0 0; read 0 1; read 2 1")
		}
	}
	for _, word := range []string{"-0", "-00", "-01", "-1000000", "-9223372036854775808", "-9223372036854775809"} {
		gives(t, "wrong value", three(), "put 0 "+word, "error 1")
	}
	for _, word := range []string{"-0", "-1", "-999999"} {
		gives(t, "a sign", three(), "put "+word+" 0", "error 1", "read "+word+" 0", "error 1", "read 0 "+word, "error 1", "write "+word+" 0", "error 1", "write 0 "+word, "error 1")
	}
	for _, word := range []string{"0", "1", "9", "10", "100000", "999999", "-1", "-9", "-10", "-100000", "-999999"} {
		gives(t, "a value", three(), "put 0 1", "ok", "put 0 "+word, "ok", "store", word+" 0 0 0 0 0 0 0")
	}
	for key := range api.Keys {
		row := make([]string, api.Keys)
		for i := range row {
			row[i] = "0"
		}
		row[key] = "-7"
		gives(t, "a key", three(), "put "+strconv.Itoa(key)+" -7", "ok", "store", strings.Join(row, " "))
	}
}

func TestM1NoLines(t *testing.T) {
	for _, line := range []string{
		"", " ", "  ", "\t", "x", "error", "ok", "over", "error 1",
		"can ", " can", "can can", "can 0", "can 0 0", "CAN", "Can", "can\r", "can\t", "can;", "cans", "ca", "can\x00",
		"store ", " store", "store 0", "store 0 0", "stores", "STORE",
		"rest ", " rest", "rest 1", "rest 0 0", "rests",
		"audit ", " audit", "audit 0", "audit 0 0", "audits",
		"put", "put ", "put 0", "put 0 ", "put 0 1 ", "put  0 1", "put 0  1", " put 0 1", "put 0 1 2", "put\t0\t1", "put,0,1", "puts 0 1", "PUT 0 1", "put=0 1",
		"read", "read 0", "read 0 0 ", "read  0 0", "read 0  0", " read 0 0", "read 0 0 0", "read 0,0", "reads 0 0", "READ 0 0", "read 0 0;", "read 0 0; read 0 1",
		"write", "write 2", "write 2 1 ", "write  2 1", "writes 2 1", "do 0 0", "1 0 0", " 0 0", "0 0",
	} {
		gives(t, fmt.Sprintf("%q", line), three(),
			"put 0 4", "ok", "read 2 1", "ok",
			line, "error 1",
			"store", "4 0 0 0 0 0 0 0", "can", "read 0 0; read 0 1; write 2 1")
	}
}

// model is the desk by the words, its lines taken apart by patterns.
type model struct {
	p     api.Plan
	begun []int
	s     api.State
}

var (
	putLine  = regexp.MustCompile(`^put (0|[1-9][0-9]{0,5}) (0|-?[1-9][0-9]{0,5})$`)
	stepLine = regexp.MustCompile(`^(read|write) (0|[1-9][0-9]{0,5}) (0|[1-9][0-9]{0,5})$`)
)

func (m *model) line(line string) string {
	if f := putLine.FindStringSubmatch(line); f != nil {
		key, _ := strconv.Atoi(f[1])
		value, _ := strconv.Atoi(f[2])
		if key > 7 {
			return "error 3"
		}
		m.begun = append([]int{}, m.s.Store...)
		m.begun[key] = value
		m.s, _ = steps.Begin(m.p, m.begun)
		return "ok"
	}
	if f := stepLine.FindStringSubmatch(line); f != nil {
		n, _ := strconv.Atoi(f[2])
		shard, _ := strconv.Atoi(f[3])
		s, e := steps.Do(m.p, m.s, api.Step{Kind: map[string]int{"read": 1, "write": 2}[f[1]], Txn: n, Shard: shard})
		if e != api.OK {
			return fmt.Sprintf("error %d", e)
		}
		m.s = s
		return "ok"
	}
	can, _ := steps.Can(m.p, m.s)
	switch line {
	case "can":
		return m.can(can)
	case "store":
		return strings.Trim(fmt.Sprint(m.s.Store), "[]")
	case "rest":
		n := 0
		for ; len(can) > 0; n++ {
			m.s, _ = steps.Do(m.p, m.s, can[0])
			can, _ = steps.Can(m.p, m.s)
		}
		return fmt.Sprint(n)
	case "audit":
		r, e := play.Results(m.p, m.s)
		if e != api.OK {
			return fmt.Sprintf("error %d", e)
		}
		n, _ := audit.Audit(m.begun, m.p.Txns, m.s.Store, r)
		return fmt.Sprint(n)
	}
	return "error 1"
}

func (m *model) can(can []api.Step) string {
	text := ""
	for i, x := range can {
		if i > 0 {
			text += "; "
		}
		text += fmt.Sprintf("%s %d %d", []string{"", "read", "write"}[x.Kind], x.Txn, x.Shard)
	}
	if text == "" {
		return "over"
	}
	return text
}

// drawnLine is a right one mostly; of steps mostly one that can be done.
func (m *model) drawnLine(d *sample.Draw) string {
	can, _ := steps.Can(m.p, m.s)
	switch k := d.N(20); {
	case k < 9 && len(can) > 0:
		x := can[d.N(len(can))]
		return fmt.Sprintf("%s %d %d", []string{"", "read", "write"}[x.Kind], x.Txn, x.Shard)
	case k < 12:
		return fmt.Sprintf("%s %d %d", []string{"read", "write"}[d.N(2)], d.N(9), d.N(5))
	case k < 14:
		return fmt.Sprintf("put %d %d", d.N(9), d.N(40)-15)
	case k < 18:
		return []string{"can", "store", "audit", "store"}[k-14]
	case k == 18 && d.N(4) == 0:
		return "rest"
	}
	return []string{"", "can ", "put 0", "rest 1", "put 0 -0", "read 0 00", "Store", "over"}[d.N(8)]
}

func TestM1Drawn(t *testing.T) {
	d := sample.Draw(16)
	counts := map[string]int{}
	for range 400 {
		m := model{p: d.Plan(), begun: make([]int, api.Keys)}
		m.s, _ = steps.Begin(m.p, m.begun)
		var lines, want []string
		for range d.N(api.MaxLines + 1) {
			line := m.drawnLine(&d)
			lines, want = append(lines, line), append(want, m.line(line))
			counts[want[len(want)-1]]++
		}
		if given, e := Play(bytesOf(m.p), script(lines...)); given != script(want...) || e != api.OK {
			t.Fatalf("of %v, %q it gives %q, %d; must be %q", m.p, lines, given, e, want)
		}
	}
	for _, given := range []string{"ok", "over", "-1", "error 1", "error 3", "error 5", "error 6", "error 7", "error 8"} {
		if counts[given] < 20 {
			t.Errorf("%q %d times: the draw tells too little", given, counts[given])
		}
	}
}

// However it is played, what it comes to is what comes one after the other, and the audit finds nothing.
func TestM1AsOneAfterTheOther(t *testing.T) {
	d := sample.Draw(17)
	for range 200 {
		p, from := d.Plan(), d.Store()
		var lines []string
		for key, v := range from {
			lines = append(lines, fmt.Sprintf("put %d %d", key, v))
		}
		s, _ := steps.Begin(p, from)
		for range d.N(20) {
			can, _ := steps.Can(p, s)
			if len(can) == 0 {
				break
			}
			x := can[d.N(len(can))]
			lines = append(lines, fmt.Sprintf("%s %d %d", []string{"", "read", "write"}[x.Kind], x.Txn, x.Shard))
			s, _ = steps.Do(p, s, x)
		}
		end, _, _ := store.Serial(from, p.Txns)
		given, e := Play(bytesOf(p), script(append(lines, "rest", "store", "audit")...))
		got := strings.Split(given, "\n")
		if e != api.OK || len(got) != len(lines)+4 || got[len(lines)+1] != strings.Trim(fmt.Sprint(end), "[]") || got[len(lines)+2] != "-1" {
			t.Fatalf("of %v, %q it gives %q, %d; must come to %v", p, lines, given, e, end)
		}
	}
}

// Each line gives one, and a line feed behind it, whatever the bytes.
func TestM2LineByLine(t *testing.T) {
	d := sample.Draw(18)
	for range 2000 {
		b := make([]byte, d.N(300))
		for i := range b {
			if b[i] = byte(d.N(256)); d.N(20) == 0 {
				b[i] = '\n'
			}
		}
		text := string(b) + "\n"
		if strings.Count(text, "\n") > api.MaxLines {
			continue
		}
		given, e := Play(bytesOf(three()), text)
		if e != api.OK || strings.Count(given, "\n") != strings.Count(text, "\n") || !strings.HasSuffix(given, "\n") || strings.Contains(given, "\n\n") {
			t.Fatalf("of %q it gives %q, %d", text, given, e)
		}
	}
}

func TestP3TheSameAgain(t *testing.T) {
	text := script("put 0 5", "read 0 0", "can", "rest", "store", "audit")
	first, e := Play(bytesOf(three()), text)
	for range 30 {
		Play(bytesOf(plan(3, sample.Mark(1))), script("put 7 7", "rest"))
		Play(bytesOf(three()), script("put 0 9", "read 2 1"))
		Play("", "")
		if again, f := Play(bytesOf(three()), text); again != first || e != f {
			t.Fatalf("asked again it gives %q, %d", again, f)
		}
	}
}
