package tests

import (
	"math"
	"math/rand"
	"reflect"
	"slices"
	"strconv"
	"strings"
	"testing"

	"loop.example/g00343/impl"
)

// tellNumbers is numbers with a blank between.
func tellNumbers(list []int64) string {
	var words []string
	for _, number := range list {
		words = append(words, strconv.FormatInt(number, 10))
	}
	return strings.Join(words, " ")
}

// tellRun tells all that a run has: its Status, Now and variables, the flows that tokens are on, and the nodes with their dues; or the code alone.
func tellRun(g impl.Graph, got impl.RunResult) string {
	if got.Code != 0 {
		if !reflect.DeepEqual(got, impl.RunResult{Code: got.Code}) {
			return "a code and a run"
		}
		return "code " + strconv.FormatInt(got.Code, 10)
	}
	r := got.Run
	if len(r.Marks) != len(g.Flows) || len(r.Dues) != len(g.Nodes) || r.Status < 1 || r.Status > 3 {
		return "no run"
	}
	var flows, dues []string
	for i, f := range g.Flows {
		if r.Marks[i] != 0 {
			flows = append(flows, strconv.FormatInt(f.From, 10)+">"+strconv.FormatInt(f.To, 10))
		}
	}
	for at, due := range r.Dues {
		if due != 0 {
			dues = append(dues, strconv.Itoa(at)+":"+strconv.FormatInt(due, 10))
		}
	}
	if len(flows) == 0 {
		flows = []string{"-"}
	}
	if len(dues) == 0 {
		dues = []string{"-"}
	}
	status := []string{"live", "ended", "failed"}[r.Status-1]
	return strings.Join([]string{status + " " + strconv.FormatInt(r.Now, 10), tellNumbers(r.Vars), strings.Join(flows, " "), strings.Join(dues, " ")}, " | ")
}

func readNumbers(t *testing.T, words []string) []int64 {
	t.Helper()
	var list []int64
	for _, word := range words {
		number, err := strconv.ParseInt(word, 10, 64)
		if err != nil {
			t.Fatal(err)
		}
		list = append(list, number)
	}
	return list
}

// act does to a run what a line tells: "start", "done", "mail" or "tick" and a number, with variables behind a ":".
func act(t *testing.T, g impl.Graph, r impl.Run, line string) impl.RunResult {
	t.Helper()
	told, behind, has := strings.Cut(line, ":")
	words := strings.Fields(told)
	number, vars := readNumbers(t, words[1:])[0], r.Vars
	if has {
		vars = readNumbers(t, strings.Fields(behind))
	}
	switch words[0] {
	case "start":
		return impl.StartRun(g, vars, number)
	case "done":
		return impl.DoneRun(g, r, number, vars)
	case "mail":
		return impl.MailRun(g, r, number)
	case "tick":
		return impl.TickRun(g, r, number)
	}
	t.Fatalf("%q is no act", line)
	return impl.RunResult{}
}

// runCase is a process as it is written, and what is done to a run of it: each line has behind "=>" what tellRun tells then. With a code the run stays as it was.
type runCase struct {
	why, text string
	lines     []string
}

func askRunCases(t *testing.T, cases []runCase) {
	t.Helper()
	for _, c := range cases {
		g := slowGraphOf(readProc(t, c.text))
		askLines(t, c.why, g, c.lines)
		// Whatever the Steps of the nodes are.
		askLines(t, c.why, otherSteps(g, func() int64 { return 0 }), c.lines)
	}
}

func askLines(t *testing.T, why string, g impl.Graph, lines []string) {
	t.Helper()
	var r impl.Run
	for _, line := range lines {
		told, want, _ := strings.Cut(line, " => ")
		got := act(t, g, r, told)
		if tellRun(g, got) != want {
			t.Errorf("%s: %s: %s, want %s", why, told, tellRun(g, got), want)
		}
		if got.Code == 0 {
			r = got.Run
		}
		if fault := impl.RunFault(g, r); fault != 0 {
			t.Errorf("%s: %s: the fault %d", why, told, fault)
		}
	}
}

func TestRunConstants(t *testing.T) {
	if impl.RunLive != 1 || impl.RunEnded != 2 || impl.RunFailed != 3 || impl.MaxTime != 1000000 {
		t.Error("a constant is another one")
	}
}

func TestRunsOfLoneNodes(t *testing.T) {
	askRunCases(t, []runCase{
		{"a task", `<task name="a"/>`, []string{
			"start 0: 5 0 0 0 => live 0 | 5 0 0 0 | 0>1 | -",
			"done 1: 1 2 3 4 => ended 0 | 1 2 3 4 | - | -",
		}},
		{"a task with variables at their bounds", `<task name="a"/>`, []string{
			"start 1000000: -1000000 1000000 0 0 => live 1000000 | -1000000 1000000 0 0 | 0>1 | -",
			"done 1: 1000000 -1000000 1000000 -1000000 => ended 1000000 | 1000000 -1000000 1000000 -1000000 | - | -",
		}},
		{"a wait", `<wait msg="9"/>`, []string{
			"start 7: 0 0 0 1 => live 7 | 0 0 0 1 | 0>1 | -",
			"mail 8 => code 4",
			"mail 9 => ended 7 | 0 0 0 1 | - | -",
		}},
		{"a wait for 0", `<wait msg="0"/>`, []string{
			"start 7: 0 0 0 1 => live 7 | 0 0 0 1 | 0>1 | -",
			"mail 1 => code 4",
			"mail 0 => ended 7 | 0 0 0 1 | - | -",
		}},
		{"a timer", `<timer ticks="99"/>`, []string{
			"start 0: 0 0 0 0 => live 0 | 0 0 0 0 | 0>1 | 1:99",
			"tick 0 => live 0 | 0 0 0 0 | 0>1 | 1:99",
			"tick 98 => live 98 | 0 0 0 0 | 0>1 | 1:99",
			"tick 98 => live 98 | 0 0 0 0 | 0>1 | 1:99",
			"tick 99 => ended 99 | 0 0 0 0 | - | -",
		}},
		{"a timer that is passed by far", `<timer ticks="1"/>`, []string{
			"start 3: 0 0 0 0 => live 3 | 0 0 0 0 | 0>1 | 1:4",
			"tick 1000000 => ended 1000000 | 0 0 0 0 | - | -",
		}},
		{"a set", `<set var="3" to="(v0+2)"/>`, []string{
			"start 1: 5 0 0 9 => ended 1 | 5 0 0 7 | - | -",
		}},
		{"a seq of each", `<seq><set var="0" to="1"/><task name="a"/><wait msg="2"/><set var="0" to="(v0*10)"/><timer ticks="3"/><set var="1" to="(v0-1)"/></seq>`, []string{
			"start 0: 0 0 0 0 => live 0 | 1 0 0 0 | 1>2 | -",
			"done 2: 4 4 4 4 => live 0 | 4 4 4 4 | 2>3 | -",
			"tick 5 => live 5 | 4 4 4 4 | 2>3 | -",
			"mail 2 => live 5 | 40 4 4 4 | 4>5 | 5:8",
			"tick 8 => ended 8 | 40 39 4 4 | - | -",
		}},
		{"the document's example", `<guard ticks="3"><task name="a"/><task name="b"/></guard>`, []string{
			"start 0: 0 0 0 0 => live 0 | 0 0 0 0 | 1>2 | 1:3",
			"tick 3 => live 3 | 0 0 0 0 | 1>4 | -",
			"done 2 => code 4",
			"done 4 => ended 3 | 0 0 0 0 | - | -",
		}},
	})
}

func TestRunsThatFail(t *testing.T) {
	askRunCases(t, []runCase{
		{"a set up to the bounds", `<seq><set var="2" to="(v0+0)"/><set var="3" to="(0-v0)"/></seq>`, []string{
			"start 0: 1000000 1 2 3 => ended 0 | 1000000 1 1000000 -1000000 | - | -",
		}},
		{"a set above the bounds", `<set var="2" to="(v0+1)"/>`, []string{
			"start 0: 1000000 1 2 3 => failed 0 | 1000000 1 2 3 | - | -",
		}},
		{"a set below the bounds", `<set var="2" to="(v0-1)"/>`, []string{
			"start 0: -1000000 1 2 3 => failed 0 | -1000000 1 2 3 | - | -",
		}},
		{"a set by 0", `<set var="2" to="(v0/v1)"/>`, []string{
			"start 9: 1 0 2 3 => failed 9 | 1 0 2 3 | - | -",
			"tick 9 => failed 9 | 1 0 2 3 | - | -",
		}},
		{"a set behind one that has no error", `<seq><set var="2" to="7"/><set var="1" to="(v2/v0)"/><set var="3" to="8"/></seq>`, []string{
			"start 0: 0 1 2 3 => failed 0 | 0 1 7 3 | - | -",
		}},
		{"a set behind a task", `<seq><task name="a"/><set var="1" to="(1/v0)"/></seq>`, []string{
			"start 0: 0 0 0 0 => live 0 | 0 0 0 0 | 0>1 | -",
			"done 1: 0 5 6 7 => failed 0 | 0 5 6 7 | - | -",
		}},
		{"a set beside others that wait", `<and><timer ticks="5"/><guard ticks="6"><wait msg="1"/><wait msg="2"/></guard><seq><task name="a"/><set var="1" to="(1/v0)"/></seq></and>`, []string{
			"start 0: 0 0 0 0 => live 0 | 0 0 0 0 | 1>2 1>8 3>4 | 2:5 3:6",
			"done 8 => failed 0 | 0 0 0 0 | - | -",
		}},
		{"a set behind a timer", `<and><seq><timer ticks="2"/><set var="1" to="(1/v0)"/></seq><timer ticks="3"/></and>`, []string{
			"start 0: 0 0 0 0 => live 0 | 0 0 0 0 | 1>2 1>4 | 2:2 4:3",
			"tick 7 => failed 7 | 0 0 0 0 | - | -",
		}},
		{"a split", `<xor><task if="((1/v0)=1)" name="a"/><task name="b"/></xor>`, []string{
			"start 0: 0 0 0 0 => failed 0 | 0 0 0 0 | - | -",
		}},
		{"a split whose second Cond has an error", `<xor><task if="(v1=1)" name="a"/><task if="((1/v0)=1)" name="b"/><task name="c"/></xor>`, []string{
			"start 0: 0 0 0 0 => failed 0 | 0 0 0 0 | - | -",
		}},
		// What stands behind the flow that is taken is not asked.
		{"a split whose second Cond would have an error", `<xor><task if="(v1=1)" name="a"/><task if="((1/v0)=1)" name="b"/><task name="c"/></xor>`, []string{
			"start 0: 0 1 0 0 => live 0 | 0 1 0 0 | 1>2 | -",
		}},
		{"a split behind a wait", `<seq><wait msg="3"/><xor><task if="((v0*v0)=1)" name="a"/><task name="b"/></xor></seq>`, []string{
			"start 0: 1001 0 0 0 => live 0 | 1001 0 0 0 | 0>1 | -",
			"mail 3 => failed 0 | 1001 0 0 0 | - | -",
		}},
	})
}

func TestRunsOfSplits(t *testing.T) {
	three := `<xor><task if="(v0=1)" name="a"/><task if="(v1=1)" name="b"/><task name="c"/></xor>`
	askRunCases(t, []runCase{
		{"the first Cond is yes", three, []string{
			"start 0: 1 0 0 0 => live 0 | 1 0 0 0 | 1>2 | -",
			"done 3 => code 4",
			"done 2 => ended 0 | 1 0 0 0 | - | -",
		}},
		{"both are", three, []string{
			"start 0: 1 1 0 0 => live 0 | 1 1 0 0 | 1>2 | -",
		}},
		{"the second Cond is yes", three, []string{
			"start 0: 0 1 0 0 => live 0 | 0 1 0 0 | 1>3 | -",
			"done 3 => ended 0 | 0 1 0 0 | - | -",
		}},
		{"only the last flow has none", three, []string{
			"start 0: 0 0 0 0 => live 0 | 0 0 0 0 | 1>4 | -",
			"done 2 => code 4",
			"done 4 => ended 0 | 0 0 0 0 | - | -",
		}},
		{"the variables are those of what was done", `<seq><task name="z"/>` + three + `</seq>`, []string{
			"start 0: 1 0 0 0 => live 0 | 1 0 0 0 | 0>1 | -",
			"done 1: 0 1 0 0 => live 0 | 0 1 0 0 | 2>4 | -",
		}},
		{"a split that leads to a timer, and to one that leads on", `<xor><timer if="(v0=1)" ticks="4"/><xor if="(v0=2)"><wait if="(v1=1)" msg="1"/><guard ticks="5"><task name="a"/><task name="b"/></guard></xor><set var="3" to="3"/></xor>`, []string{
			"start 6: 1 0 0 0 => live 6 | 1 0 0 0 | 1>2 | 2:10",
			"start 6: 2 1 0 0 => live 6 | 2 1 0 0 | 3>4 | -",
			"start 6: 2 0 0 0 => live 6 | 2 0 0 0 | 5>6 | 5:11",
			"start 6: 3 0 0 0 => ended 6 | 3 0 0 3 | - | -",
		}},
	})
}

func TestRunsOfForks(t *testing.T) {
	two := `<seq><and><task name="a"/><task name="b"/></and><task name="c"/></seq>`
	askRunCases(t, []runCase{
		{"the first side ends first", two, []string{
			"start 0: 0 0 0 0 => live 0 | 0 0 0 0 | 1>2 1>3 | -",
			"done 2: 1 0 0 0 => live 0 | 1 0 0 0 | 1>3 2>4 | -",
			"done 2 => code 4",
			"done 3: 1 2 0 0 => live 0 | 1 2 0 0 | 4>5 | -",
			"done 5 => ended 0 | 1 2 0 0 | - | -",
		}},
		{"the second side ends first", two, []string{
			"start 0: 0 0 0 0 => live 0 | 0 0 0 0 | 1>2 1>3 | -",
			"done 3 => live 0 | 0 0 0 0 | 1>2 3>4 | -",
			"done 5 => code 4",
			"done 2 => live 0 | 0 0 0 0 | 4>5 | -",
		}},
		{"three sides, of which two end at once", `<and><set var="0" to="1"/><wait msg="4"/><set var="1" to="2"/></and>`, []string{
			"start 0: 0 0 0 0 => live 0 | 1 2 0 0 | 1>3 2>5 4>5 | -",
			"mail 4 => ended 0 | 1 2 0 0 | - | -",
		}},
		{"all sides end at once", `<and><set var="0" to="1"/><set var="1" to="(v0+1)"/></and>`, []string{
			"start 0: 0 0 0 0 => ended 0 | 1 2 0 0 | - | -",
		}},
		// The node of the least number goes first: all of the first side ahead of the second one.
		{"which node goes first", `<and><seq><set var="0" to="1"/><set var="1" to="((v0+v2)+10)"/></seq><set var="2" to="5"/></and>`, []string{
			"start 0: 0 0 0 0 => ended 0 | 1 11 5 0 | - | -",
		}},
		{"which node goes first, behind a task", `<seq><task name="a"/><and><and><set var="0" to="(v0+1)"/><set var="1" to="(v0+v2)"/></and><set var="2" to="(v0+v1)"/></and><set var="3" to="v2"/></seq>`, []string{
			"start 0: 9 9 9 9 => live 0 | 9 9 9 9 | 0>1 | -",
			"done 1: 0 0 7 0 => ended 0 | 1 8 9 9 | - | -",
		}},
		{"a side that fails behind one that is over", `<and><set var="0" to="1"/><set var="1" to="(1/0)"/><set var="2" to="2"/></and>`, []string{
			"start 0: 0 0 0 0 => failed 0 | 1 0 0 0 | - | -",
		}},
		{"forks in forks", `<and><and><task name="a"/><task name="b"/></and><and><wait msg="1"/><timer ticks="2"/></and></and>`, []string{
			"start 0: 0 0 0 0 => live 0 | 0 0 0 0 | 2>3 2>4 6>7 6>8 | 8:2",
			"done 4 => live 0 | 0 0 0 0 | 2>3 4>5 6>7 6>8 | 8:2",
			"tick 2 => live 2 | 0 0 0 0 | 2>3 4>5 6>7 8>9 | -",
			"mail 1 => live 2 | 0 0 0 0 | 2>3 4>5 9>10 | -",
			"done 3 => ended 2 | 0 0 0 0 | - | -",
		}},
	})
}

func TestRunsOfMessages(t *testing.T) {
	askRunCases(t, []runCase{
		{"two waits for the same message", `<and><wait msg="1"/><wait msg="1"/></and>`, []string{
			"start 0: 0 0 0 0 => live 0 | 0 0 0 0 | 1>2 1>3 | -",
			"mail 1 => live 0 | 0 0 0 0 | 1>3 2>4 | -",
			"mail 1 => ended 0 | 0 0 0 0 | - | -",
			"mail 1 => code 4",
		}},
		{"two waits, one of which no token is at", `<and><seq><task name="a"/><wait msg="1"/></seq><wait msg="1"/></and>`, []string{
			"start 0: 0 0 0 0 => live 0 | 0 0 0 0 | 1>2 1>4 | -",
			"mail 1 => live 0 | 0 0 0 0 | 1>2 4>5 | -",
			"mail 1 => code 4",
			"done 2 => live 0 | 0 0 0 0 | 2>3 4>5 | -",
			"mail 1 => ended 0 | 0 0 0 0 | - | -",
		}},
		{"two waits, one behind the other", `<seq><wait msg="1"/><wait msg="1"/></seq>`, []string{
			"start 0: 0 0 0 0 => live 0 | 0 0 0 0 | 0>1 | -",
			"mail 1 => live 0 | 0 0 0 0 | 1>2 | -",
			"mail 1 => ended 0 | 0 0 0 0 | - | -",
		}},
		{"a wait, and others with such an Arg", `<and><timer ticks="3"/><set var="3" to="3"/><guard ticks="3"><task name="a"/><task name="b"/></guard><wait msg="3"/></and>`, []string{
			"start 0: 0 0 0 0 => live 0 | 0 0 0 3 | 1>2 1>9 3>10 4>5 | 2:3 4:3",
			"mail 3 => live 0 | 0 0 0 3 | 1>2 3>10 4>5 9>10 | 2:3 4:3",
			"mail 3 => code 4",
		}},
		{"no message", `<wait msg="5"/>`, []string{
			"start 0: 0 0 0 0 => live 0 | 0 0 0 0 | 0>1 | -",
			"mail -1 => code 3",
			"mail 10 => code 3",
			"mail 9223372036854775807 => code 3",
			"mail -9223372036854775808 => code 3",
			"mail 0 => code 4",
			"mail 9 => code 4",
		}},
	})
}

func TestRunsOfGuards(t *testing.T) {
	one := `<seq><guard ticks="7"><task name="a"/><task name="b"/></guard><task name="c"/></seq>`
	askRunCases(t, []runCase{
		{"over in time", one, []string{
			"start 1: 0 0 0 0 => live 1 | 0 0 0 0 | 1>2 | 1:8",
			"tick 7 => live 7 | 0 0 0 0 | 1>2 | 1:8",
			"done 2 => live 7 | 0 0 0 0 | 5>6 | -",
			"tick 20 => live 20 | 0 0 0 0 | 5>6 | -",
			"done 6 => ended 20 | 0 0 0 0 | - | -",
		}},
		{"its due comes first", one, []string{
			"start 1: 0 0 0 0 => live 1 | 0 0 0 0 | 1>2 | 1:8",
			"tick 8 => live 8 | 0 0 0 0 | 1>4 | -",
			"done 2 => code 4",
			"tick 9 => live 9 | 0 0 0 0 | 1>4 | -",
			"done 4 => live 9 | 0 0 0 0 | 5>6 | -",
		}},
		{"a first side that is over at once", `<guard ticks="7"><set var="0" to="1"/><set var="1" to="1"/></guard>`, []string{
			"start 0: 0 0 0 0 => ended 0 | 1 0 0 0 | - | -",
		}},
		{"a second side that begins with a timer", `<guard ticks="3"><task name="a"/><timer ticks="4"/></guard>`, []string{
			"start 0: 0 0 0 0 => live 0 | 0 0 0 0 | 1>2 | 1:3",
			"tick 5 => live 5 | 0 0 0 0 | 1>4 | 4:9",
			"tick 8 => live 8 | 0 0 0 0 | 1>4 | 4:9",
			"tick 9 => ended 9 | 0 0 0 0 | - | -",
		}},
		{"both sides begin with a timer", `<guard ticks="3"><timer ticks="4"/><timer ticks="5"/></guard>`, []string{
			"start 0: 0 0 0 0 => live 0 | 0 0 0 0 | 1>2 | 1:3 2:4",
			"tick 4 => live 4 | 0 0 0 0 | 1>4 | 4:9",
		}},
		// Of the same dues that of the least node: the guard stands ahead of what is in it.
		{"a timer with the due of its guard", `<guard ticks="3"><seq><timer ticks="3"/><set var="0" to="1"/></seq><set var="1" to="1"/></guard>`, []string{
			"start 0: 0 0 0 0 => live 0 | 0 0 0 0 | 1>2 | 1:3 2:3",
			"tick 3 => ended 3 | 0 1 0 0 | - | -",
		}},
		{"a timer that is over ahead of its guard", `<guard ticks="3"><seq><timer ticks="2"/><set var="0" to="1"/></seq><set var="1" to="1"/></guard>`, []string{
			"start 0: 0 0 0 0 => live 0 | 0 0 0 0 | 1>2 | 1:3 2:2",
			"tick 9 => ended 9 | 1 0 0 0 | - | -",
		}},
		{"a timer that is made by another one in a guard", `<guard ticks="3"><seq><timer ticks="2"/><timer ticks="1"/></seq><task name="a"/></guard>`, []string{
			"start 0: 0 0 0 0 => live 0 | 0 0 0 0 | 1>2 | 1:3 2:2",
			"tick 9 => live 9 | 0 0 0 0 | 1>5 | -",
		}},
		{"a guard whose first side is over when its due comes", `<and><guard ticks="3"><task name="a"/><set var="1" to="1"/></guard><task name="b"/></and>`, []string{
			"start 0: 0 0 0 0 => live 0 | 0 0 0 0 | 1>7 2>3 | 2:3",
			"done 3 => live 0 | 0 0 0 0 | 1>7 6>8 | -",
			"tick 3 => live 3 | 0 0 0 0 | 1>7 6>8 | -",
		}},
		{"guards side by side", `<and><guard ticks="3"><task name="a"/><task name="b"/></guard><guard ticks="3"><task name="c"/><task name="d"/></guard></and>`, []string{
			"start 0: 0 0 0 0 => live 0 | 0 0 0 0 | 2>3 7>8 | 2:3 7:3",
			"tick 2 => live 2 | 0 0 0 0 | 2>3 7>8 | 2:3 7:3",
			"done 8 => live 2 | 0 0 0 0 | 2>3 11>12 | 2:3",
			"tick 3 => live 3 | 0 0 0 0 | 2>5 11>12 | -",
			"done 5 => ended 3 | 0 0 0 0 | - | -",
		}},
		{"all tokens of a fork are cancelled", `<and><guard ticks="4"><and><task name="a"/><wait msg="1"/><timer ticks="9"/><seq><set var="0" to="1"/><guard ticks="8"><task name="b"/><timer ticks="1"/></guard></seq></and><set var="1" to="1"/></guard><task name="c"/></and>`, []string{
			"start 0: 0 0 0 0 => live 0 | 1 0 0 0 | 1>17 3>4 3>5 3>6 8>9 | 2:4 6:9 8:8",
			"done 4 => live 0 | 1 0 0 0 | 1>17 3>5 3>6 4>13 8>9 | 2:4 6:9 8:8",
			"tick 3 => live 3 | 1 0 0 0 | 1>17 3>5 3>6 4>13 8>9 | 2:4 6:9 8:8",
			"tick 4 => live 4 | 1 1 0 0 | 1>17 16>18 | -",
			"mail 1 => code 4",
			"done 9 => code 4",
			"tick 99 => live 99 | 1 1 0 0 | 1>17 16>18 | -",
			"done 17 => ended 99 | 1 1 0 0 | - | -",
		}},
	})
}

// guardsIn is a guard in the first side of a guard, with a set instead of the inner one's side.
func guardsIn(outer, inner string) string {
	return `<guard ticks="` + outer + `"><guard ticks="` + inner + `"><task name="a"/><set var="0" to="7"/></guard><task name="c"/></guard>`
}

func TestRunsOfGuardsInGuards(t *testing.T) {
	askRunCases(t, []runCase{
		{"the outer one is over first", guardsIn("3", "5"), []string{
			"start 0: 0 0 0 0 => live 0 | 0 0 0 0 | 2>3 | 1:3 2:5",
			"tick 3 => live 3 | 0 0 0 0 | 1>8 | -",
			"tick 5 => live 5 | 0 0 0 0 | 1>8 | -",
		}},
		{"the outer one is over first, and a tick goes past both", guardsIn("3", "5"), []string{
			"start 0: 0 0 0 0 => live 0 | 0 0 0 0 | 2>3 | 1:3 2:5",
			"tick 9 => live 9 | 0 0 0 0 | 1>8 | -",
		}},
		{"the inner one is over first", guardsIn("5", "3"), []string{
			"start 0: 0 0 0 0 => live 0 | 0 0 0 0 | 2>3 | 1:5 2:3",
			"tick 3 => ended 3 | 7 0 0 0 | - | -",
		}},
		{"the inner one is over first, and a tick goes past both", guardsIn("5", "3"), []string{
			"start 0: 0 0 0 0 => live 0 | 0 0 0 0 | 2>3 | 1:5 2:3",
			"tick 9 => ended 9 | 7 0 0 0 | - | -",
		}},
		{"both have the same due", guardsIn("5", "5"), []string{
			"start 0: 0 0 0 0 => live 0 | 0 0 0 0 | 2>3 | 1:5 2:5",
			"tick 5 => live 5 | 0 0 0 0 | 1>8 | -",
		}},
		{"both are in time", guardsIn("5", "5"), []string{
			"start 0: 0 0 0 0 => live 0 | 0 0 0 0 | 2>3 | 1:5 2:5",
			"done 3 => ended 0 | 0 0 0 0 | - | -",
		}},
		{"the second side of the inner one is cancelled", `<guard ticks="5"><guard ticks="3"><task name="a"/><timer ticks="9"/></guard><task name="c"/></guard>`, []string{
			"start 0: 0 0 0 0 => live 0 | 0 0 0 0 | 2>3 | 1:5 2:3",
			"tick 4 => live 4 | 0 0 0 0 | 2>5 | 1:5 5:13",
			"tick 5 => live 5 | 0 0 0 0 | 1>8 | -",
		}},
		{"the second side of the inner one, in one tick", `<guard ticks="5"><guard ticks="3"><task name="a"/><timer ticks="9"/></guard><task name="c"/></guard>`, []string{
			"start 0: 0 0 0 0 => live 0 | 0 0 0 0 | 2>3 | 1:5 2:3",
			"tick 7 => live 7 | 0 0 0 0 | 1>8 | -",
		}},
		{"the second side of the inner one is in time", `<guard ticks="5"><guard ticks="3"><task name="a"/><task name="b"/></guard><task name="c"/></guard>`, []string{
			"start 0: 0 0 0 0 => live 0 | 0 0 0 0 | 2>3 | 1:5 2:3",
			"tick 4 => live 4 | 0 0 0 0 | 2>5 | 1:5",
			"done 5 => ended 4 | 0 0 0 0 | - | -",
		}},
		{"a guard in the second side", `<guard ticks="3"><task name="a"/><guard ticks="3"><task name="b"/><task name="c"/></guard></guard>`, []string{
			"start 0: 0 0 0 0 => live 0 | 0 0 0 0 | 1>2 | 1:3",
			"tick 3 => live 3 | 0 0 0 0 | 4>5 | 4:6",
			"tick 5 => live 5 | 0 0 0 0 | 4>5 | 4:6",
			"tick 6 => live 6 | 0 0 0 0 | 4>7 | -",
			"done 7 => ended 6 | 0 0 0 0 | - | -",
		}},
		// Two guards in a first side: the close of the outer one is not that of the last open node ahead of it.
		{"guards behind one another in a guard", `<guard ticks="9"><seq><guard ticks="5"><task name="a"/><task name="b"/></guard><guard ticks="5"><task name="c"/><task name="d"/></guard></seq><task name="e"/></guard>`, []string{
			"start 0: 0 0 0 0 => live 0 | 0 0 0 0 | 2>3 | 1:9 2:5",
			"done 3 => live 0 | 0 0 0 0 | 7>8 | 1:9 7:5",
			"tick 5 => live 5 | 0 0 0 0 | 7>10 | 1:9",
			"tick 8 => live 8 | 0 0 0 0 | 7>10 | 1:9",
			"done 10 => ended 8 | 0 0 0 0 | - | -",
		}},
		{"guards behind one another in a guard that is over", `<guard ticks="9"><seq><guard ticks="5"><task name="a"/><task name="b"/></guard><guard ticks="5"><task name="c"/><task name="d"/></guard></seq><task name="e"/></guard>`, []string{
			"start 0: 0 0 0 0 => live 0 | 0 0 0 0 | 2>3 | 1:9 2:5",
			"tick 8 => live 8 | 0 0 0 0 | 2>5 | 1:9",
			"done 5 => live 8 | 0 0 0 0 | 7>8 | 1:9 7:13",
			"tick 9 => live 9 | 0 0 0 0 | 1>13 | -",
		}},
	})
}

func TestRunsInTime(t *testing.T) {
	sides := func(first, second string) string {
		return `<and><seq><timer ticks="` + first + `"/><set var="0" to="(v1+1)"/></seq><seq><timer ticks="` + second + `"/><set var="1" to="(v0+1)"/></seq></and>`
	}
	askRunCases(t, []runCase{
		{"two timers with the same due", sides("3", "3"), []string{
			"start 0: 0 0 0 0 => live 0 | 0 0 0 0 | 1>2 1>4 | 2:3 4:3",
			"tick 3 => ended 3 | 1 2 0 0 | - | -",
		}},
		{"a tick past two dues, the first of the first node", sides("3", "5"), []string{
			"start 0: 0 0 0 0 => live 0 | 0 0 0 0 | 1>2 1>4 | 2:3 4:5",
			"tick 9 => ended 9 | 1 2 0 0 | - | -",
		}},
		// It settles behind each due: the set of the second side goes ahead of that of the first one.
		{"a tick past two dues, the first of the second node", sides("5", "3"), []string{
			"start 0: 0 0 0 0 => live 0 | 0 0 0 0 | 1>2 1>4 | 2:5 4:3",
			"tick 9 => ended 9 | 2 1 0 0 | - | -",
		}},
		{"a tick past one of two", sides("5", "3"), []string{
			"start 0: 0 0 0 0 => live 0 | 0 0 0 0 | 1>2 1>4 | 2:5 4:3",
			"tick 4 => live 4 | 0 1 0 0 | 1>2 5>6 | 2:5",
		}},
		// A due that is made in a tick counts from there, and is never over in it.
		{"a tick past a due that makes one", `<seq><timer ticks="3"/><timer ticks="2"/><timer ticks="1"/></seq>`, []string{
			"start 0: 0 0 0 0 => live 0 | 0 0 0 0 | 0>1 | 1:3",
			"tick 10 => live 10 | 0 0 0 0 | 1>2 | 2:12",
			"tick 1000 => live 1000 | 0 0 0 0 | 2>3 | 3:1001",
			"tick 1001 => ended 1001 | 0 0 0 0 | - | -",
		}},
		{"a tick past several dues, one of which is made by another", `<and><seq><timer ticks="3"/><timer ticks="2"/></seq><timer ticks="4"/><guard ticks="1"><task name="a"/><timer ticks="1"/></guard></and>`, []string{
			"start 0: 0 0 0 0 => live 0 | 0 0 0 0 | 1>2 1>4 5>6 | 2:3 4:4 5:1",
			"tick 4 => live 4 | 0 0 0 0 | 2>3 4>10 5>8 | 3:6 8:5",
			"tick 5 => live 5 | 0 0 0 0 | 2>3 4>10 9>10 | 3:6",
			"tick 6 => ended 6 | 0 0 0 0 | - | -",
		}},
		{"a timer ahead of a guard with the same due", `<and><seq><timer ticks="3"/><set var="0" to="(v1+1)"/></seq><guard ticks="3"><task name="a"/><set var="1" to="(v0+1)"/></guard></and>`, []string{
			"start 0: 0 0 0 0 => live 0 | 0 0 0 0 | 1>2 4>5 | 2:3 4:3",
			"tick 3 => ended 3 | 1 2 0 0 | - | -",
		}},
		{"the end of a tick that fails halfway", `<and><seq><timer ticks="5"/><set var="0" to="1"/></seq><seq><timer ticks="3"/><set var="1" to="(1/0)"/></seq></and>`, []string{
			"start 0: 0 0 0 0 => live 0 | 0 0 0 0 | 1>2 1>4 | 2:5 4:3",
			"tick 9 => failed 9 | 0 0 0 0 | - | -",
		}},
		{"the last time", `<and><timer ticks="99"/><guard ticks="99"><task name="a"/><timer ticks="98"/></guard></and>`, []string{
			"start 1000000: 0 0 0 0 => live 1000000 | 0 0 0 0 | 1>2 3>4 | 2:1000099 3:1000099",
			"tick 1000001 => code 3",
			"tick 999999 => code 3",
			"tick 1000000 => live 1000000 | 0 0 0 0 | 1>2 3>4 | 2:1000099 3:1000099",
			"done 4 => live 1000000 | 0 0 0 0 | 1>2 7>8 | 2:1000099",
		}},
		{"a due up to the last time", `<timer ticks="2"/>`, []string{
			"start 999998: 0 0 0 0 => live 999998 | 0 0 0 0 | 0>1 | 1:1000000",
			"tick 1000000 => ended 1000000 | 0 0 0 0 | - | -",
			"tick 1000000 => ended 1000000 | 0 0 0 0 | - | -",
			"tick 1000001 => code 3",
		}},
		{"times that are none", `<task name="a"/>`, []string{
			"start 5: 0 0 0 0 => live 5 | 0 0 0 0 | 0>1 | -",
			"tick 4 => code 3",
			"tick 0 => code 3",
			"tick -1 => code 3",
			"tick 1000001 => code 3",
			"tick 9223372036854775807 => code 3",
			"tick -9223372036854775808 => code 3",
			"tick 5 => live 5 | 0 0 0 0 | 0>1 | -",
		}},
	})
}

// Time goes on for what has ended or failed too; nothing else is done to it.
func TestRunsThatAreNotLive(t *testing.T) {
	askRunCases(t, []runCase{
		{"ended", `<seq><task name="a"/><wait msg="1"/></seq>`, []string{
			"start 0: 0 0 0 0 => live 0 | 0 0 0 0 | 0>1 | -",
			"done 1 => live 0 | 0 0 0 0 | 1>2 | -",
			"mail 1 => ended 0 | 0 0 0 0 | - | -",
			"done 1 => code 4",
			"done 1: 0 0 0 => code 2",
			"done 1: 0 0 0 1000001 => code 3",
			"done 2 => code 4",
			"mail 1 => code 4",
			"mail 10 => code 3",
			"tick 5 => ended 5 | 0 0 0 0 | - | -",
			"tick 4 => code 3",
			"tick 1000000 => ended 1000000 | 0 0 0 0 | - | -",
		}},
		{"failed", `<seq><task name="a"/><set var="0" to="(1/0)"/></seq>`, []string{
			"start 0: 0 0 0 0 => live 0 | 0 0 0 0 | 0>1 | -",
			"done 1: 1 2 3 4 => failed 0 | 1 2 3 4 | - | -",
			"done 1 => code 4",
			"done 2 => code 4",
			"mail 1 => code 4",
			"mail -1 => code 3",
			"tick 0 => failed 0 | 1 2 3 4 | - | -",
			"tick 7 => failed 7 | 1 2 3 4 | - | -",
		}},
	})
}

func cloneRun(r impl.Run) impl.Run {
	r.Vars, r.Marks, r.Dues = slices.Clone(r.Vars), slices.Clone(r.Marks), slices.Clone(r.Dues)
	return r
}

// bareRun is a live run without tokens and dues.
func bareRun(g impl.Graph, now int64) impl.Run {
	return impl.Run{Status: impl.RunLive, Now: now, Vars: make([]int64, 4), Marks: make([]int64, len(g.Flows)), Dues: make([]int64, len(g.Nodes))}
}

// flowsAt is how many flows lead to a node, and how many of them have a token.
func flowsAt(g impl.Graph, r impl.Run, node int) (int, int) {
	all, marked := 0, 0
	for i, f := range g.Flows {
		if f.To == int64(node) {
			all++
			marked += int(r.Marks[i])
		}
	}
	return all, marked
}

func slowMayGo(g impl.Graph, r impl.Run, node int) bool {
	all, marked := flowsAt(g, r, node)
	switch g.Nodes[node].Kind {
	case impl.GTask, impl.GWait, impl.GTimer:
		return false
	case impl.GMeet:
		return marked == all
	}
	return marked > 0
}

// slowRunFault tells it once more, of a graph whose code of BlockOf is sound.
func slowRunFault(g impl.Graph, sound int64, r impl.Run) int64 {
	if sound != 0 {
		return sound
	}
	if r.Status != 1 && r.Status != 2 && r.Status != 3 || r.Now < 0 || r.Now > 1000000 {
		return impl.ErrRange
	}
	if fault := impl.VarsFault(r.Vars); fault != 0 {
		return fault
	}
	if len(r.Marks) != len(g.Flows) || len(r.Dues) != len(g.Nodes) {
		return impl.ErrMany
	}
	if slices.ContainsFunc(r.Marks, func(mark int64) bool { return mark < 0 || mark > 1 }) {
		return impl.ErrRange
	}
	if slices.ContainsFunc(r.Dues, func(due int64) bool { return due < 0 || due > r.Now+99 }) {
		return impl.ErrRange
	}
	if r.Status != impl.RunLive && (slices.Contains(r.Marks, 1) || slices.Max(r.Dues) > 0) {
		return impl.ErrForm
	}
	for node, n := range g.Nodes {
		_, marked := flowsAt(g, r, node)
		if r.Dues[node] != 0 && n.Kind != impl.GTimer && n.Kind != impl.GOpen {
			return impl.ErrForm
		}
		if n.Kind == impl.GTimer && (r.Dues[node] != 0) != (marked > 0) {
			return impl.ErrForm
		}
		if r.Status == impl.RunLive && slowMayGo(g, r, node) {
			return impl.ErrForm
		}
	}
	return 0
}

// slowGame tells the game once more. It knows the close of an open node by the Step of both, so each Step has to be of one step alone.
type slowGame struct {
	g impl.Graph
	r impl.Run
}

func (s *slowGame) put(i int) {
	s.r.Marks[i] = 1
	if to := s.g.Flows[i].To; s.g.Nodes[to].Kind == impl.GTimer {
		s.r.Dues[to] = s.r.Now + s.g.Nodes[to].Arg
	}
}

func (s *slowGame) flowsFrom(node int) []int {
	var list []int
	for i, f := range s.g.Flows {
		if f.From == int64(node) {
			list = append(list, i)
		}
	}
	return list
}

// take takes all tokens away that are on flows to nodes from first to last.
func (s *slowGame) take(first, last int) {
	for i, f := range s.g.Flows {
		if f.To >= int64(first) && f.To <= int64(last) {
			s.r.Marks[i] = 0
		}
	}
}

// partner is the other one of an open node and its close.
func (s *slowGame) partner(node int) int {
	kind := impl.GOpen + impl.GClose - s.g.Nodes[node].Kind
	return slices.IndexFunc(s.g.Nodes, func(n impl.GNode) bool { return n.Kind == kind && n.Step == s.g.Nodes[node].Step })
}

// halt ends a run. One that is not live has no tokens, or promise 9 would not hold of a run that has others beside the one that comes to the end.
func (s *slowGame) halt(status int64) {
	s.r.Status = status
	clear(s.r.Marks)
	clear(s.r.Dues)
}

func (s *slowGame) goNode(node int) {
	n, flows := s.g.Nodes[node], s.flowsFrom(node)
	s.take(node, node)
	switch n.Kind {
	case impl.GEnd:
		s.halt(impl.RunEnded)
		return
	case impl.GSet:
		value := slowEval(n.Expr, s.r.Vars)
		if value.Code != 0 {
			s.halt(impl.RunFailed)
			return
		}
		s.r.Vars[n.Arg] = value.Value
	case impl.GSplit:
		for len(s.g.Flows[flows[0]].Cond) > 0 {
			answer := slowEval(s.g.Flows[flows[0]].Cond, s.r.Vars)
			if answer.Code != 0 {
				s.halt(impl.RunFailed)
				return
			}
			if answer.Value == 1 {
				break
			}
			flows = flows[1:]
		}
		flows = flows[:1]
	case impl.GOpen:
		s.r.Dues[node] = s.r.Now + n.Arg
		flows = flows[:1]
	case impl.GClose:
		s.r.Dues[s.partner(node)] = 0
	}
	for _, i := range flows {
		s.put(i)
	}
}

func (s *slowGame) settle() impl.RunResult {
	for s.r.Status == impl.RunLive {
		node := 0
		for node < len(s.g.Nodes) && !slowMayGo(s.g, s.r, node) {
			node++
		}
		if node == len(s.g.Nodes) {
			break
		}
		s.goNode(node)
	}
	return impl.RunResult{Run: s.r}
}

// goOn takes the token at a task, a wait or a timer to its flow.
func (s *slowGame) goOn(node int) {
	s.take(node, node)
	s.put(s.flowsFrom(node)[0])
}

func slowStart(g impl.Graph, vars []int64, now int64) impl.RunResult {
	s := slowGame{g, bareRun(g, now)}
	s.r.Vars = slices.Clone(vars)
	s.put(0)
	return s.settle()
}

// slowOpen is the tasks, waits and timers that a token is at.
func slowOpen(g impl.Graph, r impl.Run) []int64 {
	var list []int64
	for node, n := range g.Nodes {
		if _, marked := flowsAt(g, r, node); marked > 0 && slices.Contains([]int64{impl.GTask, impl.GWait, impl.GTimer}, n.Kind) {
			list = append(list, int64(node))
		}
	}
	return list
}

func slowDone(g impl.Graph, r impl.Run, node int64, vars []int64) impl.RunResult {
	if !slices.Contains(slowOpen(g, r), node) || g.Nodes[node].Kind != impl.GTask {
		return impl.RunResult{Code: impl.ErrNone}
	}
	s := slowGame{g, cloneRun(r)}
	s.r.Vars = slices.Clone(vars)
	s.goOn(int(node))
	return s.settle()
}

func slowMail(g impl.Graph, r impl.Run, msg int64) impl.RunResult {
	for _, node := range slowOpen(g, r) {
		if g.Nodes[node].Kind == impl.GWait && g.Nodes[node].Arg == msg {
			s := slowGame{g, cloneRun(r)}
			s.goOn(int(node))
			return s.settle()
		}
	}
	return impl.RunResult{Code: impl.ErrNone}
}

func slowTick(g impl.Graph, r impl.Run, now int64) impl.RunResult {
	s := slowGame{g, cloneRun(r)}
	s.r.Now = now
	for s.r.Status == impl.RunLive {
		first := -1
		for node, due := range s.r.Dues {
			if due != 0 && due <= now && (first < 0 || due < s.r.Dues[first]) {
				first = node
			}
		}
		if first < 0 {
			break
		}
		s.r.Dues[first] = 0
		if s.g.Nodes[first].Kind == impl.GTimer {
			s.goOn(first)
		} else {
			s.take(first+1, s.partner(first))
			clear(s.r.Dues[first+1 : s.partner(first)+1])
			s.put(s.flowsFrom(first)[1])
		}
		s.settle()
	}
	return impl.RunResult{Run: s.r}
}

func sameRunResults(a, b impl.RunResult) bool {
	return a.Code == b.Code && reflect.DeepEqual(a.Run, b.Run)
}

// askRun asks one answer of a graph, and of one with other Steps, against what is told once more; a run in it has no fault.
func askRun(t *testing.T, why string, g impl.Graph, want impl.RunResult, ask func(g impl.Graph) impl.RunResult) impl.RunResult {
	t.Helper()
	got := ask(g)
	if !sameRunResults(got, want) {
		t.Fatalf("%s, of %s: %s, want %s", why, tellGraph(g), tellRun(g, got), tellRun(g, want))
	}
	if other := ask(otherSteps(g, func() int64 { return 23 })); !sameRunResults(other, want) {
		t.Fatalf("%s, of %s with other Steps: %s, want %s", why, tellGraph(g), tellRun(g, other), tellRun(g, want))
	}
	// Promise 9: whatever is done a run has no fault.
	if got.Code == 0 && (impl.RunFault(g, got.Run) != 0 || slowRunFault(g, 0, got.Run) != 0) {
		t.Fatalf("%s, of %s: %s has the fault %d", why, tellGraph(g), tellRun(g, got), impl.RunFault(g, got.Run))
	}
	return got
}

func askStart(t *testing.T, g impl.Graph, vars []int64, now int64) impl.RunResult {
	t.Helper()
	return askRun(t, "start", g, slowStart(g, vars, now), func(g impl.Graph) impl.RunResult { return impl.StartRun(g, vars, now) })
}

// Promise 9: what was done is not open any more.
func askClosed(t *testing.T, g impl.Graph, got impl.RunResult, node int64) {
	t.Helper()
	open := impl.OpenNodes(g, got.Run)
	if open.Code != 0 || !slices.Equal(open.List, slowOpen(g, got.Run)) || slices.Contains(open.List, node) {
		t.Fatalf("%d was done, open is %v in %s", node, open, tellRun(g, got))
	}
}

func askDone(t *testing.T, g impl.Graph, r impl.Run, node int64, vars []int64) impl.RunResult {
	t.Helper()
	why := "done " + strconv.FormatInt(node, 10) + " of " + tellRun(g, impl.RunResult{Run: r})
	got := askRun(t, why, g, slowDone(g, r, node, vars), func(g impl.Graph) impl.RunResult { return impl.DoneRun(g, r, node, vars) })
	if got.Code == 0 {
		askClosed(t, g, got, node)
	}
	return got
}

func askMail(t *testing.T, g impl.Graph, r impl.Run, msg int64) impl.RunResult {
	t.Helper()
	why := "mail " + strconv.FormatInt(msg, 10) + " to " + tellRun(g, impl.RunResult{Run: r})
	got := askRun(t, why, g, slowMail(g, r, msg), func(g impl.Graph) impl.RunResult { return impl.MailRun(g, r, msg) })
	for _, node := range slowOpen(g, r) {
		if g.Nodes[node].Kind == impl.GWait && g.Nodes[node].Arg == msg {
			askClosed(t, g, got, node)
			break
		}
	}
	return got
}

// Promise 9: when time goes on nothing is over that is still waited for.
func askTick(t *testing.T, g impl.Graph, r impl.Run, now int64) impl.RunResult {
	t.Helper()
	why := "tick " + strconv.FormatInt(now, 10) + " of " + tellRun(g, impl.RunResult{Run: r})
	got := askRun(t, why, g, slowTick(g, r, now), func(g impl.Graph) impl.RunResult { return impl.TickRun(g, r, now) })
	if got.Code != 0 || got.Run.Now != now {
		t.Fatalf("%s: %s", why, tellRun(g, got))
	}
	for node, due := range got.Run.Dues {
		if due != 0 && due <= now {
			t.Fatalf("%s: %d is over in %s", why, node, tellRun(g, got))
		}
	}
	for _, node := range impl.OpenNodes(g, got.Run).List {
		if g.Nodes[node].Kind == impl.GTimer && got.Run.Dues[node] <= now {
			t.Fatalf("%s: %d is over, and open in %s", why, node, tellRun(g, got))
		}
	}
	return got
}

// mildProc is p with short times, few messages, and mostly with expressions that seldom have an error.
func mildProc(r *rand.Rand, p []impl.Step) []impl.Step {
	p = cloneProc(p)
	for i := range p {
		if p[i].Kind == impl.StepTimer || p[i].Kind == impl.StepGuard {
			p[i].Arg = 1 + p[i].Arg%6
		}
		if p[i].Kind == impl.StepWait {
			p[i].Arg %= 3
		}
		part := variable(int64(r.Intn(4)))
		if r.Intn(4) == 0 {
			part = pair(impl.ExprDiv, num(9), part)
		}
		if len(p[i].Expr) > 0 && r.Intn(8) > 0 {
			p[i].Expr = pair(impl.ExprAdd, pair(impl.ExprDiv, part, num(2)), num(int64(r.Intn(9))))
		}
		if len(p[i].Cond) > 0 && r.Intn(8) > 0 {
			p[i].Cond = pair(impl.ExprLess, part, num(int64(r.Intn(9))))
		}
	}
	return p
}

// someVars is variables of small numbers, or of any.
func someVars(r *rand.Rand) []int64 {
	if r.Intn(8) == 0 {
		return randomVars(r)
	}
	return []int64{int64(r.Intn(9)), int64(r.Intn(9)), int64(r.Intn(9)), int64(r.Intn(9)) - 4}
}

// someAct does something to a run, most often something that it waits for.
func someAct(t *testing.T, rnd *rand.Rand, g impl.Graph, r impl.Run, count map[string]int) impl.Run {
	t.Helper()
	open := slowOpen(g, r)
	node := int64(rnd.Intn(len(g.Nodes)+2)) - 1
	if len(open) > 0 && rnd.Intn(8) > 0 {
		node = open[rnd.Intn(len(open))]
	}
	kind := []int64{impl.GTask, impl.GWait, impl.GTimer}[rnd.Intn(3)]
	if slices.Contains(open, node) && rnd.Intn(4) > 0 {
		kind = g.Nodes[node].Kind
	}
	var got impl.RunResult
	switch kind {
	case impl.GTask:
		got = askDone(t, g, r, node, someVars(rnd))
		count["done"]++
	case impl.GWait:
		msg := int64(rnd.Intn(3))
		if node >= 0 && node < int64(len(g.Nodes)) && g.Nodes[node].Kind == impl.GWait {
			msg = g.Nodes[node].Arg
		}
		got = askMail(t, g, r, msg)
		count["mail"]++
	default:
		now := r.Now + int64(rnd.Intn(4))
		if due := r.Dues[rnd.Intn(len(r.Dues))]; due != 0 && rnd.Intn(2) == 0 {
			now = max(r.Now, due+int64(rnd.Intn(3))-1)
		}
		got = askTick(t, g, r, min(now, impl.MaxTime))
		count["tick"]++
	}
	if got.Code != 0 {
		count["code"]++
		return r
	}
	count[[]string{"live", "ended", "failed"}[got.Run.Status-1]]++
	cancelled, more := 0, 0
	for _, was := range open {
		if _, marked := flowsAt(g, got.Run, int(was)); marked == 0 {
			cancelled++
		}
	}
	for _, is := range slowOpen(g, got.Run) {
		if !slices.Contains(open, is) {
			more++
		}
	}
	if got.Run.Status == impl.RunLive && cancelled > 1 {
		count["several gone"]++
	}
	if got.Run.Status == impl.RunLive && more > 1 {
		count["several more"]++
	}
	return got.Run
}

func askCounts(t *testing.T, count map[string]int, least int, words ...string) {
	t.Helper()
	for _, word := range words {
		if count[word] < least {
			t.Errorf("%s: %d of %v", word, count[word], count)
		}
	}
}

// Promise 9, of many runs.
func TestRunsHaveNoFault(t *testing.T) {
	rnd := rand.New(rand.NewSource(60))
	count := map[string]int{}
	for i := range 2500 {
		p := greatProc(rnd)
		if i%4 > 0 {
			p = mildProc(rnd, p)
		}
		g := slowGraphOf(p)
		now := []int64{0, 1, 100, 999900, 999999, 1000000}[rnd.Intn(6)]
		r := askStart(t, g, someVars(rnd), now).Run
		for step := 0; step < 20 && (r.Status == impl.RunLive || rnd.Intn(3) == 0); step++ {
			r = someAct(t, rnd, g, r, count)
		}
	}
	askCounts(t, count, 50, "done", "mail", "tick", "code", "live", "ended", "failed", "several gone", "several more")
}

// smallProcs are processes with few nodes, of each kind.
func smallProcs(t *testing.T) [][]impl.Step {
	t.Helper()
	var procs [][]impl.Step
	for _, text := range []string{
		`<task name="a"/>`, `<wait msg="1"/>`, `<timer ticks="2"/>`, `<set var="0" to="(v1+1)"/>`,
		`<seq><timer ticks="1"/><task name="a"/></seq>`,
		`<seq><task name="a"/><timer ticks="2"/><set var="1" to="(9/v0)"/></seq>`,
		`<and><timer ticks="2"/><wait msg="1"/></and>`,
		`<seq><and><task name="a"/><task name="b"/></and><timer ticks="1"/></seq>`,
		`<xor><timer if="(v0=0)" ticks="2"/><task name="a"/></xor>`,
		`<xor><task if="((1/v0)=1)" name="a"/><wait if="(v0=2)" msg="2"/><set var="1" to="(v0/v1)"/></xor>`,
		`<guard ticks="2"><task name="a"/><timer ticks="1"/></guard>`,
		`<guard ticks="2"><timer ticks="2"/><set var="0" to="5"/></guard>`,
		`<seq><guard ticks="1"><wait msg="1"/><wait msg="1"/></guard><wait msg="1"/></seq>`,
	} {
		procs = append(procs, readProc(t, text))
	}
	return procs
}

// eachRun tells each run of a graph with tokens on any flows, and one of some dues at each node that may have one, or at all of them.
func eachRun(g impl.Graph, now int64, status int64, atAll bool, dues []int64, tell func(r impl.Run)) {
	r := bareRun(g, now)
	r.Status = status
	var fill func(node int)
	fill = func(node int) {
		if node == len(g.Nodes) {
			tell(r)
			return
		}
		fill(node + 1)
		if kind := g.Nodes[node].Kind; atAll || kind == impl.GTimer || kind == impl.GOpen {
			for _, due := range dues {
				r.Dues[node] = due
				fill(node + 1)
			}
			r.Dues[node] = 0
		}
	}
	for choice := range 1 << len(g.Flows) {
		for i := range g.Flows {
			r.Marks[i] = int64(choice >> i & 1)
		}
		fill(0)
	}
}

// Each choice of tokens and dues in some small graphs.
func TestRunFaultOfEachSmallRun(t *testing.T) {
	count := map[int64]int{}
	for _, p := range smallProcs(t) {
		g := slowGraphOf(p)
		atAll := len(g.Nodes) < 6
		for status := int64(0); status <= 4; status++ {
			eachRun(g, 1, status, atAll, []int64{1}, func(r impl.Run) {
				want := slowRunFault(g, 0, r)
				count[want]++
				if got := impl.RunFault(g, r); got != want {
					t.Fatalf("RunFault(%s, %v) = %d, want %d", tellGraph(g), r, got, want)
				}
			})
		}
	}
	if count[0] < 100 || count[impl.ErrForm] < 1000 || count[impl.ErrRange] < 1000 {
		t.Error(count)
	}
}

// Promise 9, of each run of some small graphs that has no fault, also where no run comes to it: whatever is done to it.
func TestWhateverIsDoneToEachSmallRun(t *testing.T) {
	count := map[int64]int{}
	for _, p := range smallProcs(t) {
		g := slowGraphOf(p)
		eachRun(g, 5, impl.RunLive, false, []int64{4, 5, 7}, func(r impl.Run) {
			if slowRunFault(g, 0, r) != 0 {
				return
			}
			for node := int64(-1); node <= int64(len(g.Nodes)); node++ {
				count[askDone(t, g, r, node, []int64{2, 0, 1, 1}).Run.Status]++
			}
			for msg := range int64(3) {
				count[askMail(t, g, r, msg).Run.Status]++
			}
			for _, now := range []int64{5, 6, 7, 8} {
				count[askTick(t, g, r, now).Run.Status]++
			}
		})
	}
	if count[0] < 100 || count[impl.RunLive] < 100 || count[impl.RunEnded] < 100 || count[impl.RunFailed] < 20 {
		t.Error(count)
	}
}

// strayRun is some run without a fault, whether one comes to it or not; false where that was not found.
func strayRun(rnd *rand.Rand, g impl.Graph) (impl.Run, bool) {
	r := bareRun(g, int64(rnd.Intn(40)))
	r.Vars = someVars(rnd)
	for i, f := range g.Flows {
		if kind := g.Nodes[f.To].Kind; rnd.Intn(3) == 0 && slices.Contains([]int64{impl.GTask, impl.GWait, impl.GTimer, impl.GMeet}, kind) {
			r.Marks[i] = 1
			if kind == impl.GTimer {
				r.Dues[f.To] = 1 + int64(rnd.Intn(int(r.Now)+20))
			}
		}
	}
	for node, n := range g.Nodes {
		if n.Kind == impl.GOpen && rnd.Intn(2) == 0 {
			r.Dues[node] = 1 + int64(rnd.Intn(int(r.Now)+20))
		}
	}
	return r, slowRunFault(g, 0, r) == 0
}

// Promise 9, of runs that no run comes to, with tokens anywhere.
func TestStrayRunsHaveNoFault(t *testing.T) {
	rnd := rand.New(rand.NewSource(61))
	count := map[string]int{}
	for range 2500 {
		g := slowGraphOf(mildProc(rnd, greatProc(rnd)))
		r, ok := strayRun(rnd, g)
		if !ok {
			count["none"]++
			continue
		}
		for step := 0; step < 8 && (r.Status == impl.RunLive || rnd.Intn(3) == 0); step++ {
			r = someAct(t, rnd, g, r, count)
		}
	}
	askCounts(t, count, 20, "done", "mail", "tick", "code", "live", "ended", "failed", "several gone", "several more")
}

// What comes to the end leaves nothing behind, though tokens were anywhere; a run without any may go on for ever.
func TestStrayRuns(t *testing.T) {
	line := slowGraphOf(readProc(t, `<seq><task name="a"/><timer ticks="3"/><guard ticks="4"><task name="b"/><task name="c"/></guard></seq>`))
	r := bareRun(line, 2)
	if got := tellRun(line, askTick(t, line, r, 9)); got != "live 9 | 0 0 0 0 | - | -" {
		t.Errorf("a tick of no tokens: %s", got)
	}
	if open := impl.OpenNodes(line, r); open.Code != 0 || len(open.List) != 0 {
		t.Errorf("OpenNodes of no tokens: %v", open)
	}
	// Tokens at both tasks, at the timer and at what is done instead.
	r.Marks, r.Dues = []int64{1, 1, 0, 1, 1, 0, 0, 0, 0}, []int64{0, 0, 5, 4, 0, 0, 0, 0, 0}
	if open := impl.OpenNodes(line, r); open.Code != 0 || !slices.Equal(open.List, []int64{1, 2, 4, 6}) {
		t.Fatalf("OpenNodes of four tokens: %v of %s", open, tellGraph(line))
	}
	for what, want := range map[string]string{
		"done 6": "ended 2 | 0 0 0 0 | - | -",
		"done 4": "ended 2 | 0 0 0 0 | - | -",
		// The token that comes to the timer is one with that which is there, and its time begins again.
		"done 1": "live 2 | 0 0 0 0 | 1>2 3>4 3>6 | 2:5 3:4",
		// What is done instead has a token already, and gets no second one.
		"tick 4": "live 4 | 0 0 0 0 | 0>1 1>2 3>6 | 2:5",
		"tick 9": "live 9 | 0 0 0 0 | 0>1 3>4 3>6 | 3:13",
	} {
		got := act(t, line, r, what)
		if told := tellRun(line, got); told != want || impl.RunFault(line, got.Run) != 0 {
			t.Errorf("%s: %s, want %s", what, told, want)
		}
	}
	r.Now = 3
	if got := tellRun(line, act(t, line, r, "done 1")); got != "live 3 | 0 0 0 0 | 1>2 3>4 3>6 | 2:6 3:4" {
		t.Errorf("a timer that is come to again: %s", got)
	}
	// Dues that lie ahead of Now are over as soon as time is asked for.
	r.Now = 50
	if got := tellRun(line, act(t, line, r, "tick 50")); got != "live 50 | 0 0 0 0 | 0>1 3>4 3>6 | 3:54" {
		t.Errorf("dues ahead of Now: %s", got)
	}
}

// All that may come of some small processes, one step behind the other.
func TestAllThatMayComeOfSmallProcs(t *testing.T) {
	texts := []string{
		guardsIn("2", "2"), guardsIn("3", "2"), guardsIn("2", "3"),
		`<and><guard ticks="2"><timer ticks="1"/><task name="a"/></guard><seq><timer ticks="2"/><wait msg="1"/></seq></and>`,
		`<guard ticks="3"><and><task name="a"/><seq><timer ticks="2"/><task name="b"/></seq></and><and><wait msg="1"/><wait msg="1"/></and></guard>`,
		`<and><xor><task if="(v0=0)" name="a"/><set var="1" to="(v1+1)"/></xor><seq><wait msg="0"/><set var="0" to="(v0+1)"/><xor><task if="(v1=0)" name="b"/><timer ticks="1"/></xor></seq></and>`,
	}
	ended := 0
	for _, text := range texts {
		g := slowGraphOf(readProc(t, text))
		seen := map[string]int{}
		work := []impl.Run{askStart(t, g, make([]int64, 4), 0).Run}
		for len(work) > 0 {
			r := work[0]
			work = work[1:]
			if told := tellRun(g, impl.RunResult{Run: r}); seen[told] > 0 || r.Now > 8 {
				continue
			} else {
				seen[told]++
			}
			if r.Status == impl.RunEnded {
				ended++
				continue
			}
			if len(slowOpen(g, r)) == 0 {
				t.Fatalf("of %s nothing is open in %s", tellGraph(g), tellRun(g, impl.RunResult{Run: r}))
			}
			for node := range int64(len(g.Nodes)) {
				if got := askDone(t, g, r, node, r.Vars); got.Code == 0 {
					work = append(work, got.Run)
				}
			}
			for msg := range int64(2) {
				if got := askMail(t, g, r, msg); got.Code == 0 {
					work = append(work, got.Run)
				}
			}
			for more := range int64(4) {
				work = append(work, askTick(t, g, r, r.Now+more).Run)
			}
		}
	}
	if ended < 20 {
		t.Error(ended)
	}
}

// wideProc is 10 guards, 10 tasks and an and of three more: the most flows that 24 steps come to.
func wideProc() []impl.Step {
	p := guardTree(10)
	// The last task becomes the and: its flows are among the last ones.
	at := int64(len(p)) - 1
	p[at] = andAt(p[at].Parent)
	return append(p, taskAt(at), taskAt(at), taskAt(at))
}

// Tokens are on each flow of the graph that has the most of them.
func TestRunsOfTheMostFlows(t *testing.T) {
	for _, p := range [][]impl.Step{wideProc(), fullGuards(), sidesOf(impl.StepAnd, 23), seqOf(24)} {
		g := slowGraphOf(p)
		if fault := impl.ProcFault(p); fault != 0 || !impl.SoundGraph(g) {
			t.Fatal(fault)
		}
		if len(p) == 24 && p[0].Kind == impl.StepGuard && len(g.Flows) != 58 {
			t.Errorf("%d flows", len(g.Flows))
		}
		for i, f := range g.Flows {
			r := bareRun(g, 1)
			r.Marks[i] = 1
			want := slowRunFault(g, 0, r)
			if got := impl.RunFault(g, r); got != want {
				t.Errorf("a token on the flow %d of %d: %d, want %d", i, len(g.Flows), got, want)
			}
			if kind := g.Nodes[f.To].Kind; kind == impl.GTask {
				got := askDone(t, g, r, f.To, []int64{1, 2, 3, 4})
				if got.Code != 0 || !reflect.DeepEqual(got.Run.Vars, []int64{1, 2, 3, 4}) {
					t.Errorf("done %d: %s", f.To, tellRun(g, got))
				}
				askTick(t, g, r, 50)
			}
		}
		r := askStart(t, g, make([]int64, 4), 0).Run
		for r.Status == impl.RunLive {
			r = askTick(t, g, r, r.Now+1).Run
			if open := slowOpen(g, r); len(open) > 0 {
				r = askDone(t, g, r, open[len(open)-1], r.Vars).Run
			}
		}
	}
}

// faultyRun is a graph and a run of it that may have a fault.
type faultyRun struct {
	g impl.Graph
	r impl.Run
}

// baseRun is a live run that has a token at a task, at a timer and at a meet, and an open node with a due.
func baseRun(t *testing.T) faultyRun {
	t.Helper()
	g := slowGraphOf(readProc(t, `<and><guard ticks="9"><seq><task name="a"/><wait msg="1"/></seq><task name="b"/></guard><timer ticks="7"/><task name="c"/></and>`))
	r := impl.StartRun(g, []int64{1, 2, 3, 4}, 10)
	r = impl.DoneRun(g, r.Run, 9, []int64{1, 2, 3, 4})
	if told := tellRun(g, r); told != "live 10 | 1 2 3 4 | 1>8 2>3 9>10 | 2:19 8:17" {
		t.Fatalf("%s of %s", told, tellGraph(g))
	}
	return faultyRun{g, r.Run}
}

// at is list with another number at a place.
func at(list []int64, place int, number int64) []int64 {
	list = slices.Clone(list)
	list[place] = number
	return list
}

// askFaulty asks each function of a run: those that ask the RunFault first tell it, whatever else they are given.
func askFaulty(t *testing.T, why string, x faultyRun, want int64) {
	t.Helper()
	if got := impl.RunFault(x.g, x.r); got != want {
		t.Errorf("RunFault of %s = %d, want %d", why, got, want)
	}
	if slow := slowRunFault(x.g, slowBlockOf(x.g).Code, x.r); slow != want {
		t.Errorf("the test's own fault of %s = %d, want %d", why, slow, want)
	}
	if want == 0 {
		return
	}
	none := impl.RunResult{Code: want}
	for _, vars := range [][]int64{nil, {1, 2, 3, 4}, {1, 2, 3, 1000001}} {
		for _, node := range []int64{-1, 1, 3} {
			if got := impl.DoneRun(x.g, x.r, node, vars); !reflect.DeepEqual(got, none) {
				t.Errorf("DoneRun of %s = %v, want the code %d", why, got, want)
			}
		}
	}
	for _, number := range []int64{-1, 1, 10, 11, 1000001} {
		if got := impl.MailRun(x.g, x.r, number); !reflect.DeepEqual(got, none) {
			t.Errorf("MailRun of %s = %v, want the code %d", why, got, want)
		}
		if got := impl.TickRun(x.g, x.r, number); !reflect.DeepEqual(got, none) {
			t.Errorf("TickRun of %s = %v, want the code %d", why, got, want)
		}
	}
	if got := impl.OpenNodes(x.g, x.r); got.Code != want || len(got.List) != 0 {
		t.Errorf("OpenNodes of %s = %v, want the code %d", why, got, want)
	}
}

func TestRunFaultOfNumbers(t *testing.T) {
	base := baseRun(t)
	ask := func(why string, want int64, change func(r *impl.Run)) {
		t.Helper()
		x := faultyRun{base.g, cloneRun(base.r)}
		change(&x.r)
		askFaulty(t, why, x, want)
	}
	ask("nothing wrong", 0, func(r *impl.Run) {})
	for _, status := range []int64{math.MinInt64, -1, 0, 4, 5, 257, 1<<32 + 1, math.MaxInt64} {
		ask("the Status "+strconv.FormatInt(status, 10), impl.ErrRange, func(r *impl.Run) { r.Status = status })
	}
	for now, want := range map[int64]int64{-1: impl.ErrRange, math.MinInt64: impl.ErrRange, 1000001: impl.ErrRange, math.MaxInt64: impl.ErrRange, math.MaxInt64 - 98: impl.ErrRange, 1000000: 0, 999999: 0, 11: 0} {
		ask("the time "+strconv.FormatInt(now, 10), want, func(r *impl.Run) { r.Now = now })
	}
	for _, n := range []int{0, 1, 3, 5, 100} {
		ask(strconv.Itoa(n)+" variables", impl.ErrMany, func(r *impl.Run) { r.Vars = make([]int64, n) })
	}
	for number, want := range map[int64]int64{-1000000: 0, 1000000: 0, -1000001: impl.ErrRange, 1000001: impl.ErrRange, math.MinInt64: impl.ErrRange, math.MaxInt64: impl.ErrRange} {
		for place := range 4 {
			ask("the variable "+strconv.FormatInt(number, 10), want, func(r *impl.Run) { r.Vars[place] = number })
		}
	}
	ask("no marks", impl.ErrMany, func(r *impl.Run) { r.Marks = nil })
	ask("a mark too few", impl.ErrMany, func(r *impl.Run) { r.Marks = r.Marks[1:] })
	ask("a mark too many", impl.ErrMany, func(r *impl.Run) { r.Marks = append(r.Marks, 0) })
	ask("no dues", impl.ErrMany, func(r *impl.Run) { r.Dues = nil })
	ask("a due too few", impl.ErrMany, func(r *impl.Run) { r.Dues = r.Dues[:len(r.Dues)-1] })
	ask("a due too many", impl.ErrMany, func(r *impl.Run) { r.Dues = append(r.Dues, 0) })
	ask("very many marks", impl.ErrMany, func(r *impl.Run) { r.Marks = make([]int64, 100000) })
	ask("marks and dues the other way round", impl.ErrMany, func(r *impl.Run) { r.Marks, r.Dues = r.Dues, r.Marks })
	for _, mark := range []int64{math.MinInt64, -1, 2, 3, 257, 1 << 32, 1<<32 + 1, math.MaxInt64} {
		for place := range base.r.Marks {
			ask("the mark "+strconv.FormatInt(mark, 10), impl.ErrRange, func(r *impl.Run) { r.Marks[place] = mark })
		}
	}
	for _, due := range []int64{math.MinInt64, -1, 110, 111, 1 << 32, math.MaxInt64} {
		for place := range base.r.Dues {
			ask("the due "+strconv.FormatInt(due, 10), impl.ErrRange, func(r *impl.Run) { r.Dues[place] = due })
		}
	}
	for _, due := range []int64{1, 9, 10, 11, 108, 109} {
		ask("the due "+strconv.FormatInt(due, 10), 0, func(r *impl.Run) { r.Dues[2], r.Dues[8] = due, due })
	}
	ask("dues above the last time", 0, func(r *impl.Run) { r.Now, r.Dues[2], r.Dues[8] = 1000000, 1000099, 1000001 })
	ask("a due above them", impl.ErrRange, func(r *impl.Run) { r.Now, r.Dues[2] = 1000000, 1000100 })
}

func TestRunFaultOfForms(t *testing.T) {
	base := baseRun(t)
	ask := func(why string, want int64, change func(r *impl.Run)) {
		t.Helper()
		x := faultyRun{base.g, cloneRun(base.r)}
		change(&x.r)
		askFaulty(t, why, x, want)
	}
	for status := int64(2); status <= 3; status++ {
		for place := range base.r.Marks {
			ask("a mark of a run that is not live", impl.ErrForm, func(r *impl.Run) {
				*r = bareRun(base.g, 10)
				r.Status, r.Marks[place] = status, 1
			})
		}
		for place := range base.r.Dues {
			ask("a due of a run that is not live", impl.ErrForm, func(r *impl.Run) {
				*r = bareRun(base.g, 10)
				r.Status, r.Dues[place] = status, 1
			})
		}
		ask("a live run with another Status", impl.ErrForm, func(r *impl.Run) { r.Status = status })
		ask("a run that is not live", 0, func(r *impl.Run) {
			*r = bareRun(base.g, 10)
			r.Status = status
		})
	}
	for place, n := range base.g.Nodes {
		if n.Kind != impl.GTimer && n.Kind != impl.GOpen {
			ask("a due at a "+nodeWords[n.Kind-1], impl.ErrForm, func(r *impl.Run) { r.Dues[place] = 12 })
		}
	}
	ask("a timer with a token and no due", impl.ErrForm, func(r *impl.Run) { r.Dues[8] = 0 })
	ask("a timer with a due and no token", impl.ErrForm, func(r *impl.Run) { r.Marks[2] = 0 })
	ask("a timer with neither", 0, func(r *impl.Run) { r.Marks[2], r.Dues[8] = 0, 0 })
	// An open node has a due or has none, whatever its first side does.
	ask("an open node without a due", 0, func(r *impl.Run) { r.Dues[2] = 0 })
	ask("an open node with a due and no token in it", 0, func(r *impl.Run) { r.Marks[4] = 0 })
	ask("no tokens and no dues", 0, func(r *impl.Run) { *r = bareRun(base.g, 10) })
	may := map[int64]int{}
	for i, f := range base.g.Flows {
		kind := base.g.Nodes[f.To].Kind
		want := int64(impl.ErrForm)
		if slices.Contains([]int64{impl.GTask, impl.GWait, impl.GTimer, impl.GMeet}, kind) {
			want = 0
		}
		may[kind]++
		ask("a token at a "+nodeWords[kind-1], want, func(r *impl.Run) {
			*r = bareRun(base.g, 10)
			r.Marks[i] = 1
			if kind == impl.GTimer {
				r.Dues[f.To] = 11
			}
		})
	}
	if len(may) != 9 {
		t.Error(may)
	}
	ask("all but one token at a meet", 0, func(r *impl.Run) {
		*r = bareRun(base.g, 10)
		r.Marks[10], r.Marks[11] = 1, 1
	})
	ask("all tokens at a meet", impl.ErrForm, func(r *impl.Run) {
		*r = bareRun(base.g, 10)
		r.Marks[9], r.Marks[10], r.Marks[11] = 1, 1, 1
	})
	for _, text := range []string{`<set var="0" to="1"/>`, `<xor><task if="(v0=1)" name="a"/><task name="b"/></xor>`, `<guard ticks="1"><task name="a"/><task name="b"/></guard>`, `<and><task name="a"/><task name="b"/></and>`} {
		g := slowGraphOf(readProc(t, text))
		r := bareRun(g, 0)
		r.Marks[0] = 1
		askFaulty(t, "a token at the first node of "+text, faultyRun{g, r}, impl.ErrForm)
	}
}

// Several faults at once: the one that the document names first tells the code.
func TestRunFaultOfSeveral(t *testing.T) {
	unsound := func(x *faultyRun) {
		x.g = cloneGraph(x.g)
		x.g.Nodes[1].Kind = impl.GSplit
	}
	vars := func(numbers ...int64) func(x *faultyRun) { return func(x *faultyRun) { x.r.Vars = numbers } }
	for _, faults := range [][]spoilt[faultyRun]{
		{
			{impl.ErrForm, unsound},
			{impl.ErrRange, func(x *faultyRun) { x.r.Status = 0 }},
			{impl.ErrRange, func(x *faultyRun) { x.r.Now = -1 }},
			{impl.ErrMany, vars(1, 2, 3)},
			{impl.ErrMany, func(x *faultyRun) { x.r.Marks = x.r.Marks[1:] }},
			{impl.ErrRange, func(x *faultyRun) { x.r.Dues = at(x.r.Dues, 8, -1) }},
			{impl.ErrForm, func(x *faultyRun) { x.r.Dues = at(x.r.Dues, 3, 1) }},
		},
		{
			{impl.ErrForm, unsound},
			{impl.ErrRange, func(x *faultyRun) { x.r.Now = 1000001 }},
			{impl.ErrRange, vars(1, 2, 3, 1000001)},
			{impl.ErrMany, func(x *faultyRun) { x.r.Dues = append(slices.Clone(x.r.Dues), 500) }},
			{impl.ErrRange, func(x *faultyRun) { x.r.Marks = at(x.r.Marks, 3, 2) }},
			{impl.ErrForm, func(x *faultyRun) { x.r.Status = impl.RunEnded }},
		},
		{
			{impl.ErrMany, func(x *faultyRun) { x.g.Flows = make([]impl.Flow, 81) }},
			{impl.ErrRange, func(x *faultyRun) { x.r.Status = 4 }},
			{impl.ErrMany, vars()},
			{impl.ErrForm, func(x *faultyRun) { x.r.Dues = at(x.r.Dues, 8, 0) }},
		},
		{
			{impl.ErrText, func(x *faultyRun) {
				x.g = cloneGraph(x.g)
				x.g.Nodes[3].Name = ""
			}},
			{impl.ErrForm, unsound},
			{impl.ErrRange, func(x *faultyRun) { x.r.Now = -1 }},
			{impl.ErrForm, func(x *faultyRun) { x.r.Status = impl.RunFailed }},
		},
	} {
		askSeveral(baseRun(t), faults, func(x faultyRun, want int64) { askFaulty(t, "several faults", x, want) })
	}
}

// Graphs that have a fault, and graphs that are sound just if they are those of a process.
func TestRunsOfWrongGraphs(t *testing.T) {
	line := lineOf(3)
	graphs := map[string]struct {
		g    impl.Graph
		want int64
	}{
		"no nodes":                 {impl.Graph{}, impl.ErrMany},
		"61 nodes":                 {lineOf(61), impl.ErrMany},
		"81 flows":                 {impl.Graph{Nodes: line.Nodes, Flows: make([]impl.Flow, 81)}, impl.ErrMany},
		"a kind that is none":      {impl.Graph{Nodes: []impl.GNode{{}, {}}}, impl.ErrForm},
		"a flow to no place":       {impl.Graph{Nodes: line.Nodes, Flows: []impl.Flow{flow(0, 3)}}, impl.ErrRange},
		"a task without a name":    {impl.Graph{Nodes: []impl.GNode{{Kind: impl.GTask}, {Kind: impl.GEnd}}}, impl.ErrText},
		"a start and an end alone": {lineOf(2), impl.ErrForm},
		"no flows":                 {impl.Graph{Nodes: line.Nodes}, impl.ErrForm},
		"a flow that leads back":   {impl.Graph{Nodes: line.Nodes, Flows: []impl.Flow{flow(0, 1), flow(1, 1)}}, impl.ErrForm},
		"80 flows":                 {impl.Graph{Nodes: line.Nodes, Flows: make([]impl.Flow, 80)}, impl.ErrForm},
		"60 nodes":                 {lineOf(60), impl.ErrForm},
		"a close without an open":  {graphFrom([]int64{impl.GStart, impl.GClose, impl.GEnd}, 0, 1, 1, 2), impl.ErrForm},
		"a timer of 0 ticks":       {impl.Graph{Nodes: []impl.GNode{{Kind: impl.GStart}, {Kind: impl.GTimer}, {Kind: impl.GEnd}}, Flows: line.Flows}, impl.ErrForm},
		"a set that is a bool":     {impl.Graph{Nodes: []impl.GNode{{Kind: impl.GStart}, {Kind: impl.GSet, Expr: yes()}, {Kind: impl.GEnd}}, Flows: line.Flows}, impl.ErrForm},
	}
	for why, c := range graphs {
		for _, r := range []impl.Run{{}, bareRun(c.g, 0), {Status: 9, Now: -1}} {
			askFaulty(t, why, faultyRun{c.g, r}, c.want)
		}
		for _, vars := range [][]int64{nil, {1, 2, 3, 4}, {1, 2, 3, 1000001}} {
			for _, now := range []int64{-1, 0, 1000001} {
				if got := impl.StartRun(c.g, vars, now); !reflect.DeepEqual(got, impl.RunResult{Code: c.want}) {
					t.Errorf("StartRun of %s = %v, want the code %d", why, got, c.want)
				}
			}
		}
	}
}

func TestStartRunWrong(t *testing.T) {
	g := lineOf(3)
	for _, c := range []struct {
		why  string
		vars []int64
		now  int64
		want int64
	}{
		{"now 0", []int64{0, 0, 0, 0}, 0, 0},
		{"now MaxTime", []int64{0, 0, 0, 0}, 1000000, 0},
		{"now one more", []int64{0, 0, 0, 0}, 1000001, impl.ErrRange},
		{"now below 0", []int64{0, 0, 0, 0}, -1, impl.ErrRange},
		{"now far below", []int64{0, 0, 0, 0}, math.MinInt64, impl.ErrRange},
		{"now far above", []int64{0, 0, 0, 0}, math.MaxInt64, impl.ErrRange},
		{"variables at their bounds", []int64{1000000, -1000000, 1000000, -1000000}, 0, 0},
		{"a variable above", []int64{0, 0, 0, 1000001}, 0, impl.ErrRange},
		{"a variable below", []int64{-1000001, 0, 0, 0}, 0, impl.ErrRange},
		{"no variables", nil, 0, impl.ErrMany},
		{"three variables", []int64{0, 0, 0}, 0, impl.ErrMany},
		{"five variables", []int64{0, 0, 0, 0, 0}, 0, impl.ErrMany},
		{"three variables, and no time", []int64{0, 0, 0}, -1, impl.ErrMany},
		{"five variables, one above", []int64{0, 0, 0, 0, 1000001}, 0, impl.ErrMany},
	} {
		got := impl.StartRun(g, c.vars, c.now)
		if got.Code != c.want || c.want != 0 && !reflect.DeepEqual(got.Run, impl.Run{}) {
			t.Errorf("StartRun of %s = %v, want the code %d", c.why, got, c.want)
		}
		if c.want == 0 && (got.Run.Status != impl.RunLive || got.Run.Now != c.now || !slices.Equal(got.Run.Vars, c.vars) || !slices.Equal(got.Run.Marks, []int64{1, 0})) {
			t.Errorf("StartRun of %s = %v", c.why, got)
		}
	}
}

func TestDoneRunWrong(t *testing.T) {
	x := baseRun(t)
	right := []int64{9, 8, 7, 6}
	for node, n := range x.g.Nodes {
		want := int64(impl.ErrNone)
		if node == 3 {
			want = 0
		}
		if got := impl.DoneRun(x.g, x.r, int64(node), right); got.Code != want {
			t.Errorf("DoneRun of a %s at %d = %v, want the code %d", nodeWords[n.Kind-1], node, got, want)
		}
	}
	for _, node := range []int64{math.MinInt64, -1, int64(len(x.g.Nodes)), 60, 1<<32 + 3, math.MaxInt64} {
		if got := impl.DoneRun(x.g, x.r, node, right); !reflect.DeepEqual(got, impl.RunResult{Code: impl.ErrNone}) {
			t.Errorf("DoneRun at %d = %v", node, got)
		}
	}
	for _, c := range []struct {
		vars []int64
		want int64
	}{
		{nil, impl.ErrMany}, {right[:3], impl.ErrMany}, {[]int64{1, 2, 3, 4, 5}, impl.ErrMany}, {[]int64{1, 2, 3, 4, 1000001}, impl.ErrMany},
		{[]int64{0, 0, 1000001, 0}, impl.ErrRange}, {[]int64{0, -1000001, 0, 0}, impl.ErrRange}, {[]int64{0, 0, 0, math.MinInt64}, impl.ErrRange},
		{[]int64{1000000, -1000000, 0, 0}, 0},
	} {
		// The variables are asked ahead of the node.
		for _, node := range []int64{3, 4, 9, -1} {
			want := c.want
			if want == 0 && node != 3 {
				want = impl.ErrNone
			}
			if got := impl.DoneRun(x.g, x.r, node, c.vars); got.Code != want || want != 0 && !reflect.DeepEqual(got.Run, impl.Run{}) {
				t.Errorf("DoneRun at %d with %v = %v, want the code %d", node, c.vars, got, want)
			}
		}
	}
}

func TestOpenNodes(t *testing.T) {
	x := baseRun(t)
	if got := impl.OpenNodes(x.g, x.r); got.Code != 0 || !slices.Equal(got.List, []int64{3, 8}) {
		t.Errorf("OpenNodes = %v", got)
	}
	all := slowGraphOf(readProc(t, `<and><task name="a"/><wait msg="1"/><timer ticks="7"/><task name="b"/></and>`))
	r := impl.StartRun(all, make([]int64, 4), 0).Run
	if got := impl.OpenNodes(all, r); got.Code != 0 || !slices.Equal(got.List, []int64{2, 3, 4, 5}) {
		t.Errorf("OpenNodes of each kind = %v", got)
	}
	for status := int64(2); status <= 3; status++ {
		over := bareRun(all, 3)
		over.Status = status
		if got := impl.OpenNodes(all, over); got.Code != 0 || len(got.List) != 0 {
			t.Errorf("OpenNodes of the Status %d = %v", status, got)
		}
	}
}

func TestSameRuns(t *testing.T) {
	base := func() impl.Run {
		return impl.Run{Status: 1, Now: 2, Vars: []int64{3, 4}, Marks: []int64{5, 6}, Dues: []int64{7, 8}}
	}
	if !impl.SameRuns(base(), base()) {
		t.Error("the same are not the same")
	}
	for why, change := range map[string]func(r *impl.Run){
		"Status":       func(r *impl.Run) { r.Status = 2 },
		"Now":          func(r *impl.Run) { r.Now = 3 },
		"a var":        func(r *impl.Run) { r.Vars[1] = 5 },
		"a var more":   func(r *impl.Run) { r.Vars = append(r.Vars, 0) },
		"a var less":   func(r *impl.Run) { r.Vars = r.Vars[:1] },
		"no vars":      func(r *impl.Run) { r.Vars = nil },
		"a mark":       func(r *impl.Run) { r.Marks[0] = 6 },
		"a mark more":  func(r *impl.Run) { r.Marks = append(r.Marks, 0) },
		"a mark less":  func(r *impl.Run) { r.Marks = r.Marks[1:] },
		"no marks":     func(r *impl.Run) { r.Marks = nil },
		"a due":        func(r *impl.Run) { r.Dues[1] = 7 },
		"a due more":   func(r *impl.Run) { r.Dues = append(r.Dues, 0) },
		"a due less":   func(r *impl.Run) { r.Dues = r.Dues[:1] },
		"no dues":      func(r *impl.Run) { r.Dues = nil },
		"lists turned": func(r *impl.Run) { r.Marks, r.Dues = r.Dues, r.Marks },
	} {
		other := base()
		change(&other)
		if impl.SameRuns(base(), other) || impl.SameRuns(other, base()) {
			t.Errorf("the same in spite of %s", why)
		}
		if !impl.SameRuns(other, cloneRun(other)) {
			t.Errorf("not the same as itself: %s", why)
		}
	}
	// Nothing is asked, and nil is the same as no element.
	none := impl.Run{Vars: []int64{}, Marks: []int64{}, Dues: []int64{}}
	if !impl.SameRuns(impl.Run{}, none) || !impl.SameRuns(none, impl.Run{}) || impl.SameRuns(none, base()) {
		t.Error("of no elements")
	}
}

// askToken asks all that the chapter has functions for.
func askToken(g impl.Graph, r, other impl.Run, node int64, vars []int64, number int64) []any {
	return []any{
		impl.RunFault(g, r), impl.StartRun(g, vars, number), impl.DoneRun(g, r, node, vars), impl.MailRun(g, r, number),
		impl.TickRun(g, r, number), impl.OpenNodes(g, r), impl.SameRuns(r, other), impl.SameRuns(r, r),
	}
}

// spoilRun makes one thing of r another one, right or wrong.
func spoilRun(rnd *rand.Rand, r impl.Run) impl.Run {
	r = cloneRun(r)
	lists := []*[]int64{&r.Vars, &r.Marks, &r.Dues}
	list := lists[rnd.Intn(3)]
	switch rnd.Intn(7) {
	case 0:
		r.Status = wildNumber(rnd)
	case 1:
		r.Now = wildNumber(rnd)
	case 2, 3, 4:
		if len(*list) > 0 {
			(*list)[rnd.Intn(len(*list))] = wildNumber(rnd)
		}
	case 5:
		*list = append(*list, wildNumber(rnd))
	case 6:
		*list = (*list)[:rnd.Intn(len(*list)+1)]
	}
	return r
}

// someRun is a run of g, where that is sound, that was played on for a while or spoilt.
func someRun(rnd *rand.Rand, g impl.Graph) impl.Run {
	r := impl.StartRun(g, someVars(rnd), int64(rnd.Intn(100))).Run
	for range rnd.Intn(6) {
		node := int64(rnd.Intn(len(g.Nodes) + 1))
		for _, got := range []impl.RunResult{impl.DoneRun(g, r, node, someVars(rnd)), impl.MailRun(g, r, int64(rnd.Intn(10))), impl.TickRun(g, r, r.Now+int64(rnd.Intn(20)))} {
			if got.Code == 0 && rnd.Intn(2) == 0 {
				r = got.Run
			}
		}
	}
	for range rnd.Intn(3) {
		r = spoilRun(rnd, r)
	}
	return r
}

// Promise 1: every function answers at every argument and changes none, with nothing beside a code.
func TestRunsAnswerAtEachArgument(t *testing.T) {
	rnd := rand.New(rand.NewSource(62))
	count := map[int64]int{}
	for i := range 6000 {
		g := slowGraphOf(mildProc(rnd, randomProc(rnd, 1+rnd.Intn(24))))
		r := someRun(rnd, g)
		if i%3 == 0 {
			g = spoilGraph(rnd, g)
		}
		if i%9 == 0 {
			makeWild(rnd, g)
		}
		other, vars := spoilRun(rnd, r), someVars(rnd)
		node, number := wildNumber(rnd), wildNumber(rnd)
		if i%5 == 0 {
			vars = append(vars[:rnd.Intn(4)], wildNumber(rnd), wildNumber(rnd))
		}
		if i%7 == 0 {
			node, number = int64(rnd.Intn(len(g.Nodes)+1)), int64(rnd.Intn(100))
		}
		before, beforeRun, beforeOther, beforeVars := cloneGraph(g), cloneRun(r), cloneRun(other), slices.Clone(vars)
		sound := slowBlockOf(g).Code
		if got, want := impl.RunFault(g, r), slowRunFault(g, sound, r); got != want {
			t.Fatalf("RunFault(%v, %v) = %d, want %d", g, r, got, want)
		}
		for _, answer := range askToken(g, r, other, node, vars, number) {
			switch a := answer.(type) {
			case impl.RunResult:
				count[a.Code]++
				if a.Code != 0 && !reflect.DeepEqual(a.Run, impl.Run{}) || a.Code == 0 && slowRunFault(g, sound, a.Run) != 0 {
					t.Fatalf("of %v and %v: %v", g, r, a)
				}
			case impl.IntsResult:
				if a.Code != 0 && len(a.List) != 0 {
					t.Fatalf("of %v and %v: %v", g, r, a)
				}
			}
		}
		if !reflect.DeepEqual(g, before) || !reflect.DeepEqual(r, beforeRun) || !reflect.DeepEqual(other, beforeOther) || !reflect.DeepEqual(vars, beforeVars) {
			t.Fatalf("changed: %v, %v, %v, %v, before %v, %v, %v, %v", g, r, other, vars, before, beforeRun, beforeOther, beforeVars)
		}
	}
	for _, code := range []int64{impl.OK, impl.ErrForm, impl.ErrMany, impl.ErrRange, impl.ErrNone} {
		if count[code] < 100 {
			t.Error(count)
		}
	}
}

// roomy is list with room behind it, all of it 77.
func roomy(list []int64) []int64 {
	room := slices.Repeat([]int64{77}, len(list)+40)
	copy(room, list)
	return room[:len(list)]
}

// listsOfRun is all of the room of each list.
func listsOfRun(r impl.Run) [][]int64 {
	return [][]int64{r.Vars[:cap(r.Vars)], r.Marks[:cap(r.Marks)], r.Dues[:cap(r.Dues)]}
}

// Promise 1: a run is new memory, no two lists of it share any, and neither an argument nor the room behind it is written to.
func TestRunsAreNewMemory(t *testing.T) {
	text := `<and><guard ticks="9"><seq><task name="a"/><wait msg="1"/></seq><timer ticks="3"/></guard><timer ticks="7"/><wait msg="2"/></and>`
	g := slowGraphOf(readProc(t, text))
	g.Nodes, g.Flows = append(make([]impl.GNode, 0, 90), g.Nodes...), append(make([]impl.Flow, 0, 90), g.Flows...)
	before := cloneGraph(g)
	vars := roomy([]int64{1, 2, 3, 4})
	r := impl.StartRun(g, vars, 5).Run
	r.Vars, r.Marks, r.Dues = roomy(r.Vars), roomy(r.Marks), roomy(r.Dues)
	over := bareRun(g, 5)
	over.Status, over.Vars, over.Marks, over.Dues = impl.RunEnded, roomy(over.Vars), roomy(over.Marks), roomy(over.Dues)
	given := append(append(listsOfRun(r), listsOfRun(over)...), vars[:cap(vars)])
	var kept [][]int64
	for _, list := range given {
		kept = append(kept, slices.Clone(list))
	}
	for why, ask := range map[string]func() impl.RunResult{
		"StartRun":                        func() impl.RunResult { return impl.StartRun(g, vars, 5) },
		"DoneRun":                         func() impl.RunResult { return impl.DoneRun(g, r, 3, vars) },
		"DoneRun with the run's own":      func() impl.RunResult { return impl.DoneRun(g, r, 3, r.Vars) },
		"MailRun":                         func() impl.RunResult { return impl.MailRun(g, r, 2) },
		"TickRun":                         func() impl.RunResult { return impl.TickRun(g, r, 20) },
		"TickRun to Now itself":           func() impl.RunResult { return impl.TickRun(g, r, 5) },
		"TickRun of a run that has ended": func() impl.RunResult { return impl.TickRun(g, over, 5) },
	} {
		first, second := ask(), ask()
		want := cloneRun(second.Run)
		if first.Code != 0 || !impl.SameRuns(first.Run, want) {
			t.Fatalf("%s: %v and %v", why, first, second)
		}
		for i, list := range listsOfRun(first.Run) {
			for j := range list {
				list[j] = int64(1000 + i)
			}
		}
		for i, list := range listsOfRun(first.Run) {
			if slices.ContainsFunc(list, func(number int64) bool { return number != int64(1000+i) }) {
				t.Errorf("%s: two lists of one answer share memory", why)
			}
		}
		if !impl.SameRuns(second.Run, want) || !impl.SameRuns(ask().Run, want) {
			t.Errorf("%s: two answers share memory", why)
		}
		if !reflect.DeepEqual(given, kept) || !reflect.DeepEqual(g, before) {
			t.Errorf("%s: an argument was written to", why)
		}
		askRoomBehindGraph(t, g)
	}
	open := impl.OpenNodes(g, r).List
	clear(open[:cap(open)])
	if got := impl.OpenNodes(g, r).List; !slices.Equal(got, []int64{3, 8, 9}) || !reflect.DeepEqual(given, kept) {
		t.Errorf("OpenNodes is shared: %v", got)
	}
}

// Promise 1: an answer hangs on the arguments alone, not on what was asked ahead of it.
func TestRunsHangOnArgumentsAlone(t *testing.T) {
	rnd := rand.New(rand.NewSource(63))
	type given struct {
		g            impl.Graph
		r, other     impl.Run
		node, number int64
		vars         []int64
	}
	var all []given
	var first [][]any
	for range 200 {
		g := slowGraphOf(mildProc(rnd, randomProc(rnd, 1+rnd.Intn(24))))
		x := given{g, someRun(rnd, g), someRun(rnd, g), int64(rnd.Intn(len(g.Nodes))), int64(rnd.Intn(200)), someVars(rnd)}
		all = append(all, x)
		first = append(first, askToken(x.g, x.r, x.other, x.node, x.vars, x.number))
	}
	for i := len(all) - 1; i >= 0; i-- {
		x := all[i]
		for range 3 {
			// A clone lies elsewhere, and has more room: no answer hangs on an address or a capacity.
			r := impl.Run{Status: x.r.Status, Now: x.r.Now, Vars: roomy(x.r.Vars), Marks: roomy(x.r.Marks), Dues: roomy(x.r.Dues)}
			if got := askToken(cloneGraph(x.g), r, cloneRun(x.other), x.node, roomy(x.vars), x.number); !reflect.DeepEqual(got, first[i]) {
				t.Errorf("%v, and ahead of that %v", got, first[i])
			}
		}
	}
}
