package desk

import (
	"slices"
	"strconv"
	"strings"

	"marchpast/api"
	"marchpast/audit"
	"marchpast/fault"
	"marchpast/play"
	"marchpast/steps"
)

// Words that a line may begin with, and that steps are told by.
const (
	readWord  = "read"
	writeWord = "write"
)

// clerk does what the lines say; begun is what lay there when the state was begun.
type clerk struct {
	plan  api.Plan
	begun []int
	state api.State
}

// answer is where a line with an error is left; the next one finds all as it was.
func (c *clerk) answer(line string) string {
	words := strings.Split(line, " ")
	given, e := fault.Caught(func() string { return c.obey(words[0], words[1:]...) })
	if e != api.OK {
		return "error " + strconv.Itoa(int(e))
	}
	return given
}

// obey leaves by a line's error, ahead of all changes.
func (c *clerk) obey(word string, numbers ...string) string {
	switch len(numbers) {
	case 0:
		return c.tell(word)
	case 2:
		return c.change(word, numbers[0], numbers[1])
	}
	return noLine()
}

func (c *clerk) tell(word string) string {
	switch word {
	case "can":
		return c.can()
	case "store":
		return textOf(c.state.Store)
	case "rest":
		return strconv.Itoa(c.rest())
	case "audit":
		return strconv.Itoa(c.audit())
	}
	return noLine()
}

// change looks at all numbers first, since a line that is none of these has ErrForm, whatever else it has.
func (c *clerk) change(word, first, second string) string {
	switch word {
	case "put":
		c.put(numberOf(first), valueOf(second))
	case readWord:
		c.do(api.Step{Kind: api.StepRead, Txn: numberOf(first), Shard: numberOf(second)})
	case writeWord:
		c.do(api.Step{Kind: api.StepWrite, Txn: numberOf(first), Shard: numberOf(second)})
	default:
		return noLine()
	}
	return "ok"
}

// noLine leaves: what was handed in is none of the lines that there are.
func noLine() string { return fault.Got("", api.ErrForm) }

// begin keeps s, which must be the program's own.
func (c *clerk) begin(s []int) {
	c.state = fault.Got(steps.Begin(c.plan, s))
	c.begun = s
}

func (c *clerk) put(key, value int) {
	if key >= api.Keys {
		fault.Leave(api.ErrRange)
	}
	s := slices.Clone(c.state.Store)
	s[key] = value
	c.begin(s)
}

func (c *clerk) do(x api.Step) { c.state = fault.Got(steps.Do(c.plan, c.state, x)) }

func (c *clerk) over() bool { return fault.Got(steps.Over(c.plan, c.state)) }

func (c *clerk) open() []api.Step { return fault.Got(steps.Can(c.plan, c.state)) }

func (c *clerk) can() string {
	if c.over() {
		return "over"
	}
	var each []string
	for _, x := range c.open() {
		each = append(each, wordOf(x.Kind)+" "+textOf([]int{x.Txn, x.Shard}))
	}
	return strings.Join(each, "; ")
}

// rest ends, since each step is done once; chapter 9 promises that there is one, as long as it is not over.
func (c *clerk) rest() int {
	count := 0
	for !c.over() {
		c.do(c.open()[0])
		count++
	}
	return count
}

func (c *clerk) audit() int {
	results := fault.Got(play.Results(c.plan, c.state))
	return fault.Got(audit.Audit(c.begun, c.plan.Txns, c.state.Store, results))
}
