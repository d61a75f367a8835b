package tests

import (
	"math"
	"math/rand"
	"reflect"
	"slices"
	"strconv"
	"strings"
	"testing"

	"loop.example/g00343/impl"
)

// tellChart tells all that a chart has: its Status, Now and variables, an act for each step, and the steps with their dues; or the code alone.
func tellChart(p []impl.Step, got impl.ChartResult) string {
	if got.Code != 0 {
		if !reflect.DeepEqual(got, impl.ChartResult{Code: got.Code}) {
			return "a code and a chart"
		}
		return "code " + strconv.FormatInt(got.Code, 10)
	}
	c := got.Chart
	if len(c.Acts) != len(p) || len(c.Dues) != len(p) || c.Status < 1 || c.Status > 3 {
		return "no chart"
	}
	acts, dues := "", []string{}
	for at := range p {
		acts += strconv.FormatInt(c.Acts[at], 10)
		if c.Dues[at] != 0 {
			dues = append(dues, strconv.Itoa(at)+":"+strconv.FormatInt(c.Dues[at], 10))
		}
	}
	if len(dues) == 0 {
		dues = []string{"-"}
	}
	status := []string{"live", "ended", "failed"}[c.Status-1]
	return strings.Join([]string{status + " " + strconv.FormatInt(c.Now, 10), tellNumbers(c.Vars), acts, strings.Join(dues, " ")}, " | ")
}

// actChart does to a chart what a line tells: "start", "done", "mail" or "tick" and a number, with variables behind a ":".
func actChart(t *testing.T, p []impl.Step, c impl.Chart, line string) impl.ChartResult {
	t.Helper()
	told, behind, has := strings.Cut(line, ":")
	words := strings.Fields(told)
	number, vars := readNumbers(t, words[1:])[0], c.Vars
	if has {
		vars = readNumbers(t, strings.Fields(behind))
	}
	switch words[0] {
	case "start":
		return impl.StartChart(p, vars, number)
	case "done":
		return impl.DoneChart(p, c, number, vars)
	case "mail":
		return impl.MailChart(p, c, number)
	case "tick":
		return impl.TickChart(p, c, number)
	}
	t.Fatalf("%q is no act", line)
	return impl.ChartResult{}
}

// chartCase is a process as it is written, and what is done to a chart of it: each line has behind "=>" what tellChart tells then. With a code the chart stays as it was.
type chartCase struct {
	why, text string
	lines     []string
}

func askChartCases(t *testing.T, cases []chartCase) {
	t.Helper()
	for _, c := range cases {
		p := readProc(t, c.text)
		var chart impl.Chart
		for _, line := range c.lines {
			told, want, _ := strings.Cut(line, " => ")
			got := actChart(t, p, chart, told)
			if tellChart(p, got) != want {
				t.Errorf("%s: %s: %s, want %s", c.why, told, tellChart(p, got), want)
			}
			if got.Code == 0 {
				chart = got.Chart
			}
			if fault := impl.ChartFault(p, chart); fault != 0 {
				t.Errorf("%s: %s: the fault %d", c.why, told, fault)
			}
		}
	}
}

func TestChartConstants(t *testing.T) {
	if impl.ActIdle != 0 || impl.ActOn != 1 || impl.ActOver != 2 {
		t.Error("a constant is another one")
	}
}

func TestChartsOfLoneSteps(t *testing.T) {
	askChartCases(t, []chartCase{
		{"a task", `<task name="a"/>`, []string{
			"start 0: 5 0 0 0 => live 0 | 5 0 0 0 | 1 | -",
			"done 0: 1 2 3 4 => ended 0 | 1 2 3 4 | 0 | -",
		}},
		{"a task with variables at their bounds", `<task name="a"/>`, []string{
			"start 1000000: -1000000 1000000 0 0 => live 1000000 | -1000000 1000000 0 0 | 1 | -",
			"done 0: 1000000 -1000000 1000000 -1000000 => ended 1000000 | 1000000 -1000000 1000000 -1000000 | 0 | -",
		}},
		{"a wait", `<wait msg="9"/>`, []string{
			"start 7: 0 0 0 1 => live 7 | 0 0 0 1 | 1 | -",
			"mail 8 => code 4",
			"done 0 => code 4",
			"mail 9 => ended 7 | 0 0 0 1 | 0 | -",
		}},
		{"a wait for 0", `<wait msg="0"/>`, []string{
			"start 7: 0 0 0 1 => live 7 | 0 0 0 1 | 1 | -",
			"mail 1 => code 4",
			"mail 0 => ended 7 | 0 0 0 1 | 0 | -",
		}},
		{"a timer", `<timer ticks="99"/>`, []string{
			"start 0: 0 0 0 0 => live 0 | 0 0 0 0 | 1 | 0:99",
			"done 0 => code 4",
			"tick 0 => live 0 | 0 0 0 0 | 1 | 0:99",
			"tick 98 => live 98 | 0 0 0 0 | 1 | 0:99",
			"tick 98 => live 98 | 0 0 0 0 | 1 | 0:99",
			"tick 99 => ended 99 | 0 0 0 0 | 0 | -",
		}},
		{"a timer that is passed by far", `<timer ticks="1"/>`, []string{
			"start 3: 0 0 0 0 => live 3 | 0 0 0 0 | 1 | 0:4",
			"tick 1000000 => ended 1000000 | 0 0 0 0 | 0 | -",
		}},
		{"a set", `<set var="3" to="(v0+2)"/>`, []string{
			"start 1: 5 0 0 9 => ended 1 | 5 0 0 7 | 0 | -",
		}},
		{"a seq of each", `<seq><set var="0" to="1"/><task name="a"/><wait msg="2"/><set var="0" to="(v0*10)"/><timer ticks="3"/><set var="1" to="(v0-1)"/></seq>`, []string{
			"start 0: 0 0 0 0 => live 0 | 1 0 0 0 | 1010000 | -",
			"done 2: 4 4 4 4 => live 0 | 4 4 4 4 | 1001000 | -",
			"tick 5 => live 5 | 4 4 4 4 | 1001000 | -",
			"mail 2 => live 5 | 40 4 4 4 | 1000010 | 5:8",
			"tick 8 => ended 8 | 40 39 4 4 | 0000000 | -",
		}},
		{"the document's example", `<guard ticks="3"><task name="a"/><task name="b"/></guard>`, []string{
			"start 0: 0 0 0 0 => live 0 | 0 0 0 0 | 110 | 0:3",
			"tick 3 => live 3 | 0 0 0 0 | 101 | -",
			"done 1 => code 4",
			"done 2 => ended 3 | 0 0 0 0 | 000 | -",
		}},
	})
}

func TestChartsOfSeqs(t *testing.T) {
	askChartCases(t, []chartCase{
		{"a seq of one", `<seq><task name="a"/></seq>`, []string{
			"start 0: 0 0 0 0 => live 0 | 0 0 0 0 | 11 | -",
			"done 1 => ended 0 | 0 0 0 0 | 00 | -",
		}},
		{"seqs of one in seqs of one", `<seq><seq><seq><timer ticks="2"/></seq></seq></seq>`, []string{
			"start 1: 0 0 0 0 => live 1 | 0 0 0 0 | 1111 | 3:3",
			"tick 3 => ended 3 | 0 0 0 0 | 0000 | -",
		}},
		{"seqs in seqs", `<seq><seq><task name="a"/><task name="b"/></seq><seq><wait msg="1"/></seq><task name="c"/></seq>`, []string{
			"start 0: 0 0 0 0 => live 0 | 0 0 0 0 | 1110000 | -",
			"done 2 => live 0 | 0 0 0 0 | 1101000 | -",
			"done 2 => code 4",
			"done 3 => live 0 | 0 0 0 0 | 1000110 | -",
			"mail 1 => live 0 | 0 0 0 0 | 1000001 | -",
			"done 6 => ended 0 | 0 0 0 0 | 0000000 | -",
		}},
		{"sets alone", `<seq><set var="0" to="1"/><set var="1" to="(v0+1)"/></seq>`, []string{
			"start 0: 0 0 0 0 => ended 0 | 1 2 0 0 | 000 | -",
		}},
		{"sets alone in seqs, behind them a task", `<seq><seq><set var="0" to="1"/></seq><seq><set var="1" to="(v0+1)"/><seq><set var="2" to="(v1+1)"/></seq></seq><task name="a"/></seq>`, []string{
			"start 0: 0 0 0 0 => live 0 | 1 2 3 0 | 10000001 | -",
			"done 7 => ended 0 | 1 2 3 0 | 00000000 | -",
		}},
		{"many sets behind a task", `<seq><task name="a"/>` + strings.Repeat(`<set var="0" to="(v0+1)"/>`, 22) + `</seq>`, []string{
			"start 0: 0 0 0 0 => live 0 | 0 0 0 0 | 110000000000000000000000 | -",
			"done 1: 5 0 0 0 => ended 0 | 27 0 0 0 | 000000000000000000000000 | -",
		}},
	})
}

func TestChartsThatFail(t *testing.T) {
	askChartCases(t, []chartCase{
		{"a set up to the bounds", `<seq><set var="2" to="(v0+0)"/><set var="3" to="(0-v0)"/></seq>`, []string{
			"start 0: 1000000 1 2 3 => ended 0 | 1000000 1 1000000 -1000000 | 000 | -",
		}},
		{"a set above the bounds", `<set var="2" to="(v0+1)"/>`, []string{
			"start 0: 1000000 1 2 3 => failed 0 | 1000000 1 2 3 | 0 | -",
		}},
		{"a set below the bounds", `<set var="2" to="(v0-1)"/>`, []string{
			"start 0: -1000000 1 2 3 => failed 0 | -1000000 1 2 3 | 0 | -",
		}},
		{"a set by 0", `<set var="2" to="(v0/v1)"/>`, []string{
			"start 9: 1 0 2 3 => failed 9 | 1 0 2 3 | 0 | -",
			"tick 9 => failed 9 | 1 0 2 3 | 0 | -",
		}},
		{"a set behind one that has no error", `<seq><set var="2" to="7"/><set var="1" to="(v2/v0)"/><set var="3" to="8"/></seq>`, []string{
			"start 0: 0 1 2 3 => failed 0 | 0 1 7 3 | 0000 | -",
		}},
		{"a set behind a task", `<seq><task name="a"/><set var="1" to="(1/v0)"/></seq>`, []string{
			"start 0: 0 0 0 0 => live 0 | 0 0 0 0 | 110 | -",
			"done 1: 0 5 6 7 => failed 0 | 0 5 6 7 | 000 | -",
		}},
		{"a set beside others that wait", `<and><timer ticks="5"/><guard ticks="6"><wait msg="1"/><wait msg="2"/></guard><seq><task name="a"/><set var="1" to="(1/v0)"/></seq></and>`, []string{
			"start 0: 0 0 0 0 => live 0 | 0 0 0 0 | 11110110 | 1:5 2:6",
			"done 6 => failed 0 | 0 0 0 0 | 00000000 | -",
		}},
		{"a set behind a timer", `<and><seq><timer ticks="2"/><set var="1" to="(1/v0)"/></seq><timer ticks="3"/></and>`, []string{
			"start 0: 0 0 0 0 => live 0 | 0 0 0 0 | 11101 | 2:2 4:3",
			"tick 7 => failed 7 | 0 0 0 0 | 00000 | -",
		}},
		// Nothing more happens: the sides behind it are not entered.
		{"the first side of an and", `<and><set var="0" to="(1/0)"/><task name="a"/><timer ticks="1"/><set var="1" to="1"/></and>`, []string{
			"start 0: 5 5 0 0 => failed 0 | 5 5 0 0 | 00000 | -",
		}},
		{"the first side of an and in an and", `<and><and><seq><set var="1" to="3"/><set var="0" to="(1/0)"/></seq><guard ticks="1"><task name="a"/><task name="b"/></guard></and><set var="2" to="1"/></and>`, []string{
			"start 0: 5 5 0 0 => failed 0 | 5 3 0 0 | 000000000 | -",
		}},
		{"the first kid of a guard", `<seq><guard ticks="4"><set var="0" to="(1/0)"/><set var="1" to="1"/></guard><set var="2" to="1"/></seq>`, []string{
			"start 0: 5 5 0 0 => failed 0 | 5 5 0 0 | 00000 | -",
		}},
		{"the second kid of a guard", `<guard ticks="4"><task name="a"/><set var="1" to="(1/0)"/></guard>`, []string{
			"start 0: 5 5 0 0 => live 0 | 5 5 0 0 | 110 | 0:4",
			"tick 4 => failed 4 | 5 5 0 0 | 000 | -",
		}},
		{"a choice", `<xor><task if="((1/v0)=1)" name="a"/><task name="b"/></xor>`, []string{
			"start 0: 0 0 0 0 => failed 0 | 0 0 0 0 | 000 | -",
		}},
		{"a choice whose second Cond has an error", `<xor><task if="(v1=1)" name="a"/><task if="((1/v0)=1)" name="b"/><task name="c"/></xor>`, []string{
			"start 0: 0 0 0 0 => failed 0 | 0 0 0 0 | 0000 | -",
		}},
		// What stands behind the kid that is entered is not asked.
		{"a choice whose second Cond would have an error", `<xor><task if="(v1=1)" name="a"/><task if="((1/v0)=1)" name="b"/><task name="c"/></xor>`, []string{
			"start 0: 0 1 0 0 => live 0 | 0 1 0 0 | 1100 | -",
		}},
		{"a choice behind a wait", `<seq><wait msg="3"/><xor><task if="((v0*v0)=1)" name="a"/><task name="b"/></xor></seq>`, []string{
			"start 0: 1001 0 0 0 => live 0 | 1001 0 0 0 | 11000 | -",
			"mail 3 => failed 0 | 1001 0 0 0 | 00000 | -",
		}},
		{"a choice in the first side of an and", `<and><xor><task if="((1/v0)=1)" name="a"/><task name="b"/></xor><timer ticks="2"/></and>`, []string{
			"start 0: 0 0 0 0 => failed 0 | 0 0 0 0 | 00000 | -",
		}},
	})
}

func TestChartsOfChoices(t *testing.T) {
	three := `<xor><task if="(v0=1)" name="a"/><task if="(v1=1)" name="b"/><task name="c"/></xor>`
	sets := `<seq><xor><set if="(v0=1)" var="1" to="7"/><set if="(v0=2)" var="2" to="8"/><set var="3" to="9"/></xor><task name="a"/></seq>`
	askChartCases(t, []chartCase{
		{"the first Cond is yes", three, []string{
			"start 0: 1 0 0 0 => live 0 | 1 0 0 0 | 1100 | -",
			"done 2 => code 4",
			"done 1 => ended 0 | 1 0 0 0 | 0000 | -",
		}},
		{"both are", three, []string{
			"start 0: 1 1 0 0 => live 0 | 1 1 0 0 | 1100 | -",
		}},
		{"the second Cond is yes", three, []string{
			"start 0: 0 1 0 0 => live 0 | 0 1 0 0 | 1010 | -",
			"done 2 => ended 0 | 0 1 0 0 | 0000 | -",
		}},
		{"only the last kid has none", three, []string{
			"start 0: 0 0 0 0 => live 0 | 0 0 0 0 | 1001 | -",
			"done 1 => code 4",
			"done 3 => ended 0 | 0 0 0 0 | 0000 | -",
		}},
		{"the variables are those of what was done", `<seq><task name="z"/>` + three + `</seq>`, []string{
			"start 0: 1 0 0 0 => live 0 | 1 0 0 0 | 110000 | -",
			"done 1: 0 1 0 0 => live 0 | 0 1 0 0 | 101010 | -",
		}},
		{"sets alone", `<xor><set if="(v0=1)" var="1" to="7"/><set var="2" to="8"/></xor>`, []string{
			"start 0: 1 0 0 0 => ended 0 | 1 7 0 0 | 000 | -",
			"start 0: 0 0 0 0 => ended 0 | 0 0 8 0 | 000 | -",
		}},
		{"sets alone, behind them a task", sets, []string{
			"start 0: 1 0 0 0 => live 0 | 1 7 0 0 | 100001 | -",
			"start 0: 2 0 0 0 => live 0 | 2 0 8 0 | 100001 | -",
			"start 0: 3 0 0 0 => live 0 | 3 0 0 9 | 100001 | -",
		}},
		{"a timer, and a choice in it", `<xor><timer if="(v0=1)" ticks="4"/><xor if="(v0=2)"><wait if="(v1=1)" msg="1"/><guard ticks="5"><task name="a"/><task name="b"/></guard></xor><set var="3" to="3"/></xor>`, []string{
			"start 6: 1 0 0 0 => live 6 | 1 0 0 0 | 11000000 | 1:10",
			"start 6: 2 1 0 0 => live 6 | 2 1 0 0 | 10110000 | -",
			"start 6: 2 0 0 0 => live 6 | 2 0 0 0 | 10101100 | 4:11",
			"start 6: 3 0 0 0 => ended 6 | 3 0 0 3 | 00000000 | -",
		}},
	})
}

func TestChartsOfAnds(t *testing.T) {
	two := `<seq><and><task name="a"/><task name="b"/></and><task name="c"/></seq>`
	askChartCases(t, []chartCase{
		{"the first kid is over first", two, []string{
			"start 0: 0 0 0 0 => live 0 | 0 0 0 0 | 11110 | -",
			"done 2: 1 0 0 0 => live 0 | 1 0 0 0 | 11210 | -",
			"done 2 => code 4",
			"done 3: 1 2 0 0 => live 0 | 1 2 0 0 | 10001 | -",
			"done 4 => ended 0 | 1 2 0 0 | 00000 | -",
		}},
		{"the second kid is over first", two, []string{
			"start 0: 0 0 0 0 => live 0 | 0 0 0 0 | 11110 | -",
			"done 3 => live 0 | 0 0 0 0 | 11120 | -",
			"done 4 => code 4",
			"done 3 => code 4",
			"done 2 => live 0 | 0 0 0 0 | 10001 | -",
		}},
		{"three kids, of which two are over at once", `<and><set var="0" to="1"/><wait msg="4"/><set var="1" to="2"/></and>`, []string{
			"start 0: 0 0 0 0 => live 0 | 1 2 0 0 | 1212 | -",
			"mail 4 => ended 0 | 1 2 0 0 | 0000 | -",
		}},
		{"all kids are over at once", `<and><set var="0" to="1"/><set var="1" to="(v0+1)"/></and>`, []string{
			"start 0: 0 0 0 0 => ended 0 | 1 2 0 0 | 000 | -",
		}},
		{"all kids are over at once, behind them a task", `<seq><and><set var="0" to="1"/><seq><set var="1" to="(v0+1)"/></seq><set var="2" to="(v1+1)"/></and><task name="a"/></seq>`, []string{
			"start 0: 0 0 0 0 => live 0 | 1 2 3 0 | 1000001 | -",
		}},
		// The last one that is over has a set as its last step, which is over as it is entered.
		{"the last one is over as it is entered", `<seq><and><set var="0" to="1"/><seq><task name="a"/><set var="1" to="(v0+1)"/></seq><task name="c"/></and><task name="b"/></seq>`, []string{
			"start 0: 0 0 0 0 => live 0 | 1 0 0 0 | 11211010 | -",
			"done 6 => live 0 | 1 0 0 0 | 11211020 | -",
			"done 4 => live 0 | 1 2 0 0 | 10000001 | -",
		}},
		{"the first one is over as it is entered, and the last one", `<and><set var="0" to="1"/><seq><and><set var="1" to="2"/><set var="2" to="3"/></and><set var="3" to="4"/></seq></and>`, []string{
			"start 0: 0 0 0 0 => ended 0 | 1 2 3 4 | 0000000 | -",
		}},
		// Kids are entered one behind the other: all of the first one ahead of the second one.
		{"who is entered first", `<and><seq><set var="0" to="1"/><set var="1" to="((v0+v2)+10)"/></seq><set var="2" to="5"/></and>`, []string{
			"start 0: 0 0 0 0 => ended 0 | 1 11 5 0 | 00000 | -",
		}},
		{"who is entered first, behind a task", `<seq><task name="a"/><and><and><set var="0" to="(v0+1)"/><set var="1" to="(v0+v2)"/></and><set var="2" to="(v0+v1)"/></and><set var="3" to="v2"/></seq>`, []string{
			"start 0: 9 9 9 9 => live 0 | 9 9 9 9 | 11000000 | -",
			"done 1: 0 0 7 0 => ended 0 | 1 8 9 9 | 00000000 | -",
		}},
		{"a kid that fails behind one that is over", `<and><set var="0" to="1"/><set var="1" to="(1/0)"/><set var="2" to="2"/></and>`, []string{
			"start 0: 0 0 0 0 => failed 0 | 1 0 0 0 | 0000 | -",
		}},
		{"ands in ands", `<and><and><task name="a"/><task name="b"/></and><and><wait msg="1"/><timer ticks="2"/></and></and>`, []string{
			"start 0: 0 0 0 0 => live 0 | 0 0 0 0 | 1111111 | 6:2",
			"done 3 => live 0 | 0 0 0 0 | 1112111 | 6:2",
			"tick 2 => live 2 | 0 0 0 0 | 1112112 | -",
			"mail 1 => live 2 | 0 0 0 0 | 1112200 | -",
			"done 2 => ended 2 | 0 0 0 0 | 0000000 | -",
		}},
	})
}

// A StepAnd whose kids are over in each order.
func TestChartsOfAndsInEachOrder(t *testing.T) {
	p := readProc(t, `<seq><and><task name="a"/><seq><task name="b"/><set var="0" to="(v0+1)"/></seq><task name="c"/></and><task name="d"/></seq>`)
	for _, order := range [][]int64{{2, 4, 6}, {2, 6, 4}, {4, 2, 6}, {4, 6, 2}, {6, 2, 4}, {6, 4, 2}} {
		c := impl.StartChart(p, make([]int64, 4), 0).Chart
		acts := []int64{1, 1, 1, 1, 1, 0, 1, 0}
		for i, at := range order {
			if !slices.Equal(c.Acts, acts) {
				t.Errorf("ahead of %d of %v: %v, want %v", at, order, c.Acts, acts)
			}
			c = impl.DoneChart(p, c, at, c.Vars).Chart
			acts[at] = impl.ActOver
			if at == 4 {
				acts[3], acts[4] = impl.ActOver, impl.ActIdle
			}
			if i == 2 {
				acts = []int64{1, 0, 0, 0, 0, 0, 0, 1}
			}
		}
		if !slices.Equal(c.Acts, acts) || c.Vars[0] != 1 {
			t.Errorf("behind %v: %v", order, c)
		}
	}
}

func TestChartsOfMessages(t *testing.T) {
	askChartCases(t, []chartCase{
		{"two waits for the same message", `<and><wait msg="1"/><wait msg="1"/></and>`, []string{
			"start 0: 0 0 0 0 => live 0 | 0 0 0 0 | 111 | -",
			"mail 1 => live 0 | 0 0 0 0 | 121 | -",
			"mail 1 => ended 0 | 0 0 0 0 | 000 | -",
			"mail 1 => code 4",
		}},
		{"two waits, one of which is not on", `<and><seq><task name="a"/><wait msg="1"/></seq><wait msg="1"/></and>`, []string{
			"start 0: 0 0 0 0 => live 0 | 0 0 0 0 | 11101 | -",
			"mail 1 => live 0 | 0 0 0 0 | 11102 | -",
			"mail 1 => code 4",
			"done 2 => live 0 | 0 0 0 0 | 11012 | -",
			"mail 1 => ended 0 | 0 0 0 0 | 00000 | -",
		}},
		{"two waits, one behind the other", `<seq><wait msg="1"/><wait msg="1"/></seq>`, []string{
			"start 0: 0 0 0 0 => live 0 | 0 0 0 0 | 110 | -",
			"mail 1 => live 0 | 0 0 0 0 | 101 | -",
			"mail 1 => ended 0 | 0 0 0 0 | 000 | -",
		}},
		{"a wait, and others with such an Arg", `<and><timer ticks="3"/><set var="3" to="3"/><guard ticks="3"><task name="a"/><task name="b"/></guard><wait msg="3"/></and>`, []string{
			"start 0: 0 0 0 0 => live 0 | 0 0 0 3 | 1121101 | 1:3 3:3",
			"mail 3 => live 0 | 0 0 0 3 | 1121102 | 1:3 3:3",
			"mail 3 => code 4",
		}},
		{"a wait in each kid of a guard", `<seq><guard ticks="2"><wait msg="5"/><wait msg="5"/></guard><wait msg="5"/></seq>`, []string{
			"start 0: 0 0 0 0 => live 0 | 0 0 0 0 | 11100 | 1:2",
			"tick 2 => live 2 | 0 0 0 0 | 11010 | -",
			"mail 5 => live 2 | 0 0 0 0 | 10001 | -",
			"mail 5 => ended 2 | 0 0 0 0 | 00000 | -",
		}},
		{"no message", `<wait msg="5"/>`, []string{
			"start 0: 0 0 0 0 => live 0 | 0 0 0 0 | 1 | -",
			"mail -1 => code 3",
			"mail 10 => code 3",
			"mail 9223372036854775807 => code 3",
			"mail -9223372036854775808 => code 3",
			"mail 0 => code 4",
			"mail 9 => code 4",
		}},
	})
}

func TestChartsOfGuards(t *testing.T) {
	one := `<seq><guard ticks="7"><task name="a"/><task name="b"/></guard><task name="c"/></seq>`
	askChartCases(t, []chartCase{
		{"over in time", one, []string{
			"start 1: 0 0 0 0 => live 1 | 0 0 0 0 | 11100 | 1:8",
			"tick 7 => live 7 | 0 0 0 0 | 11100 | 1:8",
			"done 2 => live 7 | 0 0 0 0 | 10001 | -",
			"tick 20 => live 20 | 0 0 0 0 | 10001 | -",
			"done 4 => ended 20 | 0 0 0 0 | 00000 | -",
		}},
		{"its due comes first", one, []string{
			"start 1: 0 0 0 0 => live 1 | 0 0 0 0 | 11100 | 1:8",
			"tick 8 => live 8 | 0 0 0 0 | 11010 | -",
			"done 2 => code 4",
			"tick 9 => live 9 | 0 0 0 0 | 11010 | -",
			"done 3 => live 9 | 0 0 0 0 | 10001 | -",
		}},
		{"a first kid that is over at once", `<guard ticks="7"><set var="0" to="1"/><set var="1" to="1"/></guard>`, []string{
			"start 0: 0 0 0 0 => ended 0 | 1 0 0 0 | 000 | -",
		}},
		{"a first kid that is over at once, behind the guard a task", `<seq><guard ticks="7"><seq><set var="0" to="1"/></seq><set var="1" to="1"/></guard><task name="a"/></seq>`, []string{
			"start 0: 0 0 0 0 => live 0 | 1 0 0 0 | 100001 | -",
			"tick 7 => live 7 | 1 0 0 0 | 100001 | -",
		}},
		{"a second kid that is over at once", `<seq><guard ticks="7"><task name="a"/><seq><set var="1" to="1"/></seq></guard><task name="b"/></seq>`, []string{
			"start 0: 0 0 0 0 => live 0 | 0 0 0 0 | 111000 | 1:7",
			"tick 7 => live 7 | 0 1 0 0 | 100001 | -",
		}},
		{"a second kid that begins with a timer", `<guard ticks="3"><task name="a"/><timer ticks="4"/></guard>`, []string{
			"start 0: 0 0 0 0 => live 0 | 0 0 0 0 | 110 | 0:3",
			"tick 5 => live 5 | 0 0 0 0 | 101 | 2:9",
			"tick 8 => live 8 | 0 0 0 0 | 101 | 2:9",
			"tick 9 => ended 9 | 0 0 0 0 | 000 | -",
		}},
		{"both kids begin with a timer", `<guard ticks="3"><timer ticks="4"/><seq><timer ticks="5"/><task name="a"/></seq></guard>`, []string{
			"start 0: 0 0 0 0 => live 0 | 0 0 0 0 | 11000 | 0:3 1:4",
			"tick 4 => live 4 | 0 0 0 0 | 10110 | 3:9",
		}},
		// Of the same dues that of the least step: the guard stands ahead of what is in it.
		{"a timer with the due of its guard", `<guard ticks="3"><seq><timer ticks="3"/><set var="0" to="1"/></seq><set var="1" to="1"/></guard>`, []string{
			"start 0: 0 0 0 0 => live 0 | 0 0 0 0 | 11100 | 0:3 2:3",
			"tick 3 => ended 3 | 0 1 0 0 | 00000 | -",
		}},
		{"a timer that is over ahead of its guard", `<guard ticks="3"><seq><timer ticks="2"/><set var="0" to="1"/></seq><set var="1" to="1"/></guard>`, []string{
			"start 0: 0 0 0 0 => live 0 | 0 0 0 0 | 11100 | 0:3 2:2",
			"tick 9 => ended 9 | 1 0 0 0 | 00000 | -",
		}},
		{"a timer that is made by another one in a guard", `<guard ticks="3"><seq><timer ticks="2"/><timer ticks="1"/></seq><task name="a"/></guard>`, []string{
			"start 0: 0 0 0 0 => live 0 | 0 0 0 0 | 11100 | 0:3 2:2",
			"tick 9 => live 9 | 0 0 0 0 | 10001 | -",
		}},
		{"a guard whose first kid is over when its due comes", `<and><guard ticks="3"><task name="a"/><set var="1" to="1"/></guard><task name="b"/></and>`, []string{
			"start 0: 0 0 0 0 => live 0 | 0 0 0 0 | 11101 | 1:3",
			"done 2 => live 0 | 0 0 0 0 | 12001 | -",
			"tick 3 => live 3 | 0 0 0 0 | 12001 | -",
		}},
		{"guards side by side", `<and><guard ticks="3"><task name="a"/><task name="b"/></guard><guard ticks="3"><task name="c"/><task name="d"/></guard></and>`, []string{
			"start 0: 0 0 0 0 => live 0 | 0 0 0 0 | 1110110 | 1:3 4:3",
			"tick 2 => live 2 | 0 0 0 0 | 1110110 | 1:3 4:3",
			"done 5 => live 2 | 0 0 0 0 | 1110200 | 1:3",
			"tick 3 => live 3 | 0 0 0 0 | 1101200 | -",
			"done 3 => ended 3 | 0 0 0 0 | 0000000 | -",
		}},
		{"all of an and is idle, also what is over", `<and><guard ticks="4"><and><task name="a"/><wait msg="1"/><timer ticks="9"/><seq><set var="0" to="1"/><guard ticks="8"><task name="b"/><timer ticks="1"/></guard></seq></and><set var="1" to="1"/></guard><task name="c"/></and>`, []string{
			"start 0: 0 0 0 0 => live 0 | 1 0 0 0 | 1111111011001 | 1:4 5:9 8:8",
			"done 3 => live 0 | 1 0 0 0 | 1112111011001 | 1:4 5:9 8:8",
			"tick 3 => live 3 | 1 0 0 0 | 1112111011001 | 1:4 5:9 8:8",
			"tick 4 => live 4 | 1 1 0 0 | 1200000000001 | -",
			"mail 1 => code 4",
			"done 9 => code 4",
			"tick 99 => live 99 | 1 1 0 0 | 1200000000001 | -",
			"done 12 => ended 99 | 1 1 0 0 | 0000000000000 | -",
		}},
		{"all of an and is idle, and the second kid is on", `<guard ticks="4"><and><task name="a"/><wait msg="1"/><timer ticks="9"/></and><wait msg="1"/></guard>`, []string{
			"start 0: 0 0 0 0 => live 0 | 0 0 0 0 | 111110 | 0:4 4:9",
			"mail 1 => live 0 | 0 0 0 0 | 111210 | 0:4 4:9",
			"mail 1 => code 4",
			"tick 4 => live 4 | 0 0 0 0 | 100001 | -",
			"tick 9 => live 9 | 0 0 0 0 | 100001 | -",
			"mail 1 => ended 9 | 0 0 0 0 | 000000 | -",
		}},
	})
}

func TestChartsOfGuardsInGuards(t *testing.T) {
	later := `<guard ticks="5"><guard ticks="3"><task name="a"/><timer ticks="9"/></guard><task name="c"/></guard>`
	row := `<guard ticks="9"><seq><guard ticks="5"><task name="a"/><task name="b"/></guard><guard ticks="5"><task name="c"/><task name="d"/></guard></seq><task name="e"/></guard>`
	askChartCases(t, []chartCase{
		{"the outer one is over first", guardsIn("3", "5"), []string{
			"start 0: 0 0 0 0 => live 0 | 0 0 0 0 | 11100 | 0:3 1:5",
			"tick 3 => live 3 | 0 0 0 0 | 10001 | -",
			"tick 5 => live 5 | 0 0 0 0 | 10001 | -",
		}},
		{"the outer one is over first, and a tick goes past both", guardsIn("3", "5"), []string{
			"start 0: 0 0 0 0 => live 0 | 0 0 0 0 | 11100 | 0:3 1:5",
			"tick 9 => live 9 | 0 0 0 0 | 10001 | -",
		}},
		{"the inner one is over first", guardsIn("5", "3"), []string{
			"start 0: 0 0 0 0 => live 0 | 0 0 0 0 | 11100 | 0:5 1:3",
			"tick 3 => ended 3 | 7 0 0 0 | 00000 | -",
		}},
		{"the inner one is over first, and a tick goes past both", guardsIn("5", "3"), []string{
			"start 0: 0 0 0 0 => live 0 | 0 0 0 0 | 11100 | 0:5 1:3",
			"tick 9 => ended 9 | 7 0 0 0 | 00000 | -",
		}},
		{"both have the same due", guardsIn("5", "5"), []string{
			"start 0: 0 0 0 0 => live 0 | 0 0 0 0 | 11100 | 0:5 1:5",
			"tick 5 => live 5 | 0 0 0 0 | 10001 | -",
		}},
		{"both are in time", guardsIn("5", "5"), []string{
			"start 0: 0 0 0 0 => live 0 | 0 0 0 0 | 11100 | 0:5 1:5",
			"done 2 => ended 0 | 0 0 0 0 | 00000 | -",
		}},
		{"the second kid of the inner one is idle", later, []string{
			"start 0: 0 0 0 0 => live 0 | 0 0 0 0 | 11100 | 0:5 1:3",
			"tick 4 => live 4 | 0 0 0 0 | 11010 | 0:5 3:13",
			"tick 5 => live 5 | 0 0 0 0 | 10001 | -",
		}},
		{"the second kid of the inner one, in one tick", later, []string{
			"start 0: 0 0 0 0 => live 0 | 0 0 0 0 | 11100 | 0:5 1:3",
			"tick 7 => live 7 | 0 0 0 0 | 10001 | -",
		}},
		{"the second kid of the inner one is in time", `<guard ticks="5"><guard ticks="3"><task name="a"/><task name="b"/></guard><task name="c"/></guard>`, []string{
			"start 0: 0 0 0 0 => live 0 | 0 0 0 0 | 11100 | 0:5 1:3",
			"tick 4 => live 4 | 0 0 0 0 | 11010 | 0:5",
			"done 3 => ended 4 | 0 0 0 0 | 00000 | -",
		}},
		{"a guard in the second kid", `<guard ticks="3"><task name="a"/><guard ticks="3"><task name="b"/><task name="c"/></guard></guard>`, []string{
			"start 0: 0 0 0 0 => live 0 | 0 0 0 0 | 11000 | 0:3",
			"tick 3 => live 3 | 0 0 0 0 | 10110 | 2:6",
			"tick 5 => live 5 | 0 0 0 0 | 10110 | 2:6",
			"tick 6 => live 6 | 0 0 0 0 | 10101 | -",
			"done 4 => ended 6 | 0 0 0 0 | 00000 | -",
		}},
		{"guards behind one another in a guard", row, []string{
			"start 0: 0 0 0 0 => live 0 | 0 0 0 0 | 111100000 | 0:9 2:5",
			"done 3 => live 0 | 0 0 0 0 | 110001100 | 0:9 5:5",
			"tick 5 => live 5 | 0 0 0 0 | 110001010 | 0:9",
			"tick 8 => live 8 | 0 0 0 0 | 110001010 | 0:9",
			"done 7 => ended 8 | 0 0 0 0 | 000000000 | -",
		}},
		{"guards behind one another in a guard that is over", row, []string{
			"start 0: 0 0 0 0 => live 0 | 0 0 0 0 | 111100000 | 0:9 2:5",
			"tick 8 => live 8 | 0 0 0 0 | 111010000 | 0:9",
			"done 4 => live 8 | 0 0 0 0 | 110001100 | 0:9 5:13",
			"tick 9 => live 9 | 0 0 0 0 | 100000001 | -",
		}},
	})
}

func TestChartsInTime(t *testing.T) {
	sides := func(first, second string) string {
		return `<and><seq><timer ticks="` + first + `"/><set var="0" to="(v1+1)"/></seq><seq><timer ticks="` + second + `"/><set var="1" to="(v0+1)"/></seq></and>`
	}
	askChartCases(t, []chartCase{
		{"two timers with the same due", sides("3", "3"), []string{
			"start 0: 0 0 0 0 => live 0 | 0 0 0 0 | 1110110 | 2:3 5:3",
			"tick 3 => ended 3 | 1 2 0 0 | 0000000 | -",
		}},
		{"a tick past two dues, the first of the first step", sides("3", "5"), []string{
			"start 0: 0 0 0 0 => live 0 | 0 0 0 0 | 1110110 | 2:3 5:5",
			"tick 9 => ended 9 | 1 2 0 0 | 0000000 | -",
		}},
		{"a tick past two dues, the first of the second step", sides("5", "3"), []string{
			"start 0: 0 0 0 0 => live 0 | 0 0 0 0 | 1110110 | 2:5 5:3",
			"tick 9 => ended 9 | 2 1 0 0 | 0000000 | -",
		}},
		{"a tick past one of two", sides("5", "3"), []string{
			"start 0: 0 0 0 0 => live 0 | 0 0 0 0 | 1110110 | 2:5 5:3",
			"tick 4 => live 4 | 0 1 0 0 | 1110200 | 2:5",
		}},
		// A due that is made in a tick counts from there, and is never over in it.
		{"a tick past a due that makes one", `<seq><timer ticks="3"/><timer ticks="2"/><timer ticks="1"/></seq>`, []string{
			"start 0: 0 0 0 0 => live 0 | 0 0 0 0 | 1100 | 1:3",
			"tick 10 => live 10 | 0 0 0 0 | 1010 | 2:12",
			"tick 1000 => live 1000 | 0 0 0 0 | 1001 | 3:1001",
			"tick 1001 => ended 1001 | 0 0 0 0 | 0000 | -",
		}},
		{"a tick past several dues, one of which is made by another", `<and><seq><timer ticks="3"/><timer ticks="2"/></seq><timer ticks="4"/><guard ticks="1"><task name="a"/><timer ticks="1"/></guard></and>`, []string{
			"start 0: 0 0 0 0 => live 0 | 0 0 0 0 | 11101110 | 2:3 4:4 5:1",
			"tick 4 => live 4 | 0 0 0 0 | 11012101 | 3:6 7:5",
			"tick 5 => live 5 | 0 0 0 0 | 11012200 | 3:6",
			"tick 6 => ended 6 | 0 0 0 0 | 00000000 | -",
		}},
		{"a timer ahead of a guard with the same due", `<and><seq><timer ticks="3"/><set var="0" to="(v1+1)"/></seq><guard ticks="3"><task name="a"/><set var="1" to="(v0+1)"/></guard></and>`, []string{
			"start 0: 0 0 0 0 => live 0 | 0 0 0 0 | 1110110 | 2:3 4:3",
			"tick 3 => ended 3 | 1 2 0 0 | 0000000 | -",
		}},
		{"a tick that fails halfway", `<and><seq><timer ticks="5"/><set var="0" to="1"/></seq><seq><timer ticks="3"/><set var="1" to="(1/0)"/></seq></and>`, []string{
			"start 0: 0 0 0 0 => live 0 | 0 0 0 0 | 1110110 | 2:5 5:3",
			"tick 9 => failed 9 | 0 0 0 0 | 0000000 | -",
		}},
		{"the last time", `<and><timer ticks="99"/><guard ticks="99"><task name="a"/><timer ticks="98"/></guard></and>`, []string{
			"start 1000000: 0 0 0 0 => live 1000000 | 0 0 0 0 | 11110 | 1:1000099 2:1000099",
			"tick 1000001 => code 3",
			"tick 999999 => code 3",
			"tick 1000000 => live 1000000 | 0 0 0 0 | 11110 | 1:1000099 2:1000099",
			"done 3 => live 1000000 | 0 0 0 0 | 11200 | 1:1000099",
		}},
		{"a due up to the last time", `<timer ticks="2"/>`, []string{
			"start 999998: 0 0 0 0 => live 999998 | 0 0 0 0 | 1 | 0:1000000",
			"tick 1000000 => ended 1000000 | 0 0 0 0 | 0 | -",
			"tick 1000000 => ended 1000000 | 0 0 0 0 | 0 | -",
			"tick 1000001 => code 3",
		}},
		{"times that are none", `<task name="a"/>`, []string{
			"start 5: 0 0 0 0 => live 5 | 0 0 0 0 | 1 | -",
			"tick 4 => code 3",
			"tick 0 => code 3",
			"tick -1 => code 3",
			"tick 1000001 => code 3",
			"tick 9223372036854775807 => code 3",
			"tick -9223372036854775808 => code 3",
			"tick 5 => live 5 | 0 0 0 0 | 1 | -",
		}},
	})
}

// Time goes on for what has ended or failed too; nothing else is done to it.
func TestChartsThatAreNotLive(t *testing.T) {
	askChartCases(t, []chartCase{
		{"ended", `<seq><task name="a"/><wait msg="1"/></seq>`, []string{
			"start 0: 0 0 0 0 => live 0 | 0 0 0 0 | 110 | -",
			"done 1 => live 0 | 0 0 0 0 | 101 | -",
			"mail 1 => ended 0 | 0 0 0 0 | 000 | -",
			"done 1 => code 4",
			"done 1: 0 0 0 => code 2",
			"done 1: 0 0 0 1000001 => code 3",
			"done 2 => code 4",
			"mail 1 => code 4",
			"mail 10 => code 3",
			"tick 5 => ended 5 | 0 0 0 0 | 000 | -",
			"tick 4 => code 3",
			"tick 1000000 => ended 1000000 | 0 0 0 0 | 000 | -",
		}},
		{"failed", `<seq><task name="a"/><set var="0" to="(1/0)"/></seq>`, []string{
			"start 0: 0 0 0 0 => live 0 | 0 0 0 0 | 110 | -",
			"done 1: 1 2 3 4 => failed 0 | 1 2 3 4 | 000 | -",
			"done 1 => code 4",
			"done 2 => code 4",
			"mail 1 => code 4",
			"mail -1 => code 3",
			"tick 0 => failed 0 | 1 2 3 4 | 000 | -",
			"tick 7 => failed 7 | 1 2 3 4 | 000 | -",
		}},
	})
}

// A chart need not be one that a start comes to: dues ahead of Now are over as soon as time is asked for, and a choice may have any kid on.
func TestStrayCharts(t *testing.T) {
	p := readProc(t, `<and><xor><timer if="(v0=1)" ticks="3"/><task name="a"/></xor><guard ticks="4"><timer ticks="9"/><timer ticks="2"/></guard></and>`)
	c := impl.Chart{Status: impl.RunLive, Now: 50, Vars: []int64{0, 0, 0, 0}, Acts: []int64{1, 1, 1, 0, 1, 1, 0}, Dues: []int64{0, 0, 149, 0, 7, 6, 0}}
	for line, want := range map[string]string{
		"tick 50":  "live 50 | 0 0 0 0 | 1110200 | 2:149",
		"tick 148": "live 148 | 0 0 0 0 | 1110200 | 2:149",
		"tick 149": "ended 149 | 0 0 0 0 | 0000000 | -",
	} {
		if got := tellChart(p, actChart(t, p, c, line)); got != want {
			t.Errorf("%s: %s, want %s", line, got, want)
		}
	}
	c.Dues[4], c.Dues[5] = 6, 6
	if got := tellChart(p, actChart(t, p, c, "tick 50")); got != "live 50 | 0 0 0 0 | 1110101 | 2:149 6:52" {
		t.Errorf("two dues ahead of Now: %s", got)
	}
}

func cloneChart(c impl.Chart) impl.Chart {
	c.Vars, c.Acts, c.Dues = slices.Clone(c.Vars), slices.Clone(c.Acts), slices.Clone(c.Dues)
	return c
}

// bareChart is a live chart in which nothing is on.
func bareChart(p []impl.Step, now int64) impl.Chart {
	return impl.Chart{Status: impl.RunLive, Now: now, Vars: make([]int64, 4), Acts: make([]int64, len(p)), Dues: make([]int64, len(p))}
}

func kidsIn(p []impl.Step, at int64) []int64 {
	var kids []int64
	for i, s := range p {
		if s.Parent == at {
			kids = append(kids, int64(i))
		}
	}
	return kids
}

// slowChartFault tells it once more, of a process whose ProcFault is fault.
func slowChartFault(p []impl.Step, fault int64, c impl.Chart) int64 {
	if fault != 0 {
		return fault
	}
	if c.Status != 1 && c.Status != 2 && c.Status != 3 || c.Now < 0 || c.Now > 1000000 {
		return impl.ErrRange
	}
	if fault := impl.VarsFault(c.Vars); fault != 0 {
		return fault
	}
	if len(c.Acts) != len(p) || len(c.Dues) != len(p) {
		return impl.ErrMany
	}
	if slices.Min(c.Acts) < 0 || slices.Max(c.Acts) > 2 || slices.Min(c.Dues) < 0 || slices.Max(c.Dues) > c.Now+99 {
		return impl.ErrRange
	}
	if c.Status != impl.RunLive {
		if slices.Max(c.Acts) > 0 || slices.Max(c.Dues) > 0 {
			return impl.ErrForm
		}
		return 0
	}
	for at := range p {
		if !slowStepFits(p, c, int64(at)) {
			return impl.ErrForm
		}
	}
	return 0
}

// slowStepFits asks, of a live chart, all that the document says of one step and what is above it.
func slowStepFits(p []impl.Step, c impl.Chart, at int64) bool {
	s, act, due := p[at], c.Acts[at], c.Dues[at]
	kids := kidsIn(p, at)
	on := slices.DeleteFunc(slices.Clone(kids), func(kid int64) bool { return c.Acts[kid] != 1 })
	if at == 0 && act != 1 {
		return false
	}
	for _, up := range placesUp(p, at) {
		if up != at && c.Acts[up] != 1 && act != 0 {
			return false
		}
	}
	if act == 2 && p[s.Parent].Kind != impl.StepAnd {
		return false
	}
	if act != 1 {
		return due == 0
	}
	switch s.Kind {
	case impl.StepSeq, impl.StepXor:
		return len(on) == 1 && due == 0
	case impl.StepAnd:
		idle := slices.ContainsFunc(kids, func(kid int64) bool { return c.Acts[kid] == 0 })
		return !idle && len(on) > 0 && due == 0
	case impl.StepGuard:
		return len(on) == 1 && (due != 0) == (on[0] == kids[0])
	case impl.StepTimer:
		return due != 0
	case impl.StepSet:
		return false
	}
	return due == 0
}

// slowCourse tells once more what charts do: entering answers whether that is over at once, and what is over is followed up by a loop.
type slowCourse struct {
	p []impl.Step
	c impl.Chart
}

func (s *slowCourse) idle(at int64) {
	for i := range s.p {
		if slices.Contains(placesUp(s.p, int64(i)), at) {
			s.c.Acts[i], s.c.Dues[i] = 0, 0
		}
	}
}

func (s *slowCourse) fail() bool {
	s.c.Status = impl.RunFailed
	clear(s.c.Acts)
	clear(s.c.Dues)
	return false
}

// enter is true where the step is over at once, and then it is idle again.
func (s *slowCourse) enter(at int64) bool {
	step, kids := s.p[at], kidsIn(s.p, at)
	s.c.Acts[at] = 1
	over := false
	switch step.Kind {
	case impl.StepSeq:
		over = s.enterFrom(kids)
	case impl.StepAnd:
		over = s.enterAll(kids)
	case impl.StepXor:
		for len(s.p[kids[0]].Cond) > 0 {
			answer := slowEval(s.p[kids[0]].Cond, s.c.Vars)
			if answer.Code != 0 {
				return s.fail()
			}
			if answer.Value == 1 {
				break
			}
			kids = kids[1:]
		}
		over = s.enter(kids[0])
	case impl.StepGuard:
		s.c.Dues[at] = s.c.Now + step.Arg
		over = s.enter(kids[0])
	case impl.StepTimer:
		s.c.Dues[at] = s.c.Now + step.Arg
	case impl.StepSet:
		value := slowEval(step.Expr, s.c.Vars)
		if value.Code != 0 {
			return s.fail()
		}
		s.c.Vars[step.Arg] = value.Value
		over = true
	}
	if over {
		s.idle(at)
	}
	return over
}

// enterFrom enters one behind the other as long as they are over at once.
func (s *slowCourse) enterFrom(kids []int64) bool {
	for _, kid := range kids {
		if !s.enter(kid) {
			return false
		}
	}
	return true
}

func (s *slowCourse) enterAll(kids []int64) bool {
	all := true
	for _, kid := range kids {
		if s.enter(kid) {
			s.c.Acts[kid] = 2
		} else if s.c.Status != impl.RunLive {
			return false
		} else {
			all = false
		}
	}
	return all
}

// end is the chart where the first step is over, or not.
func (s *slowCourse) end(over bool) impl.ChartResult {
	if over {
		s.c.Status = impl.RunEnded
	}
	return impl.ChartResult{Chart: s.c}
}

// goOn follows up that a step is over.
func (s *slowCourse) goOn(at int64) impl.ChartResult {
	for {
		s.idle(at)
		up := s.p[at].Parent
		if up < 0 {
			return s.end(true)
		}
		kids := kidsIn(s.p, up)
		switch s.p[up].Kind {
		case impl.StepSeq:
			if !s.enterFrom(kids[slices.Index(kids, at)+1:]) {
				return s.end(false)
			}
		case impl.StepAnd:
			s.c.Acts[at] = 2
			if slices.ContainsFunc(kids, func(kid int64) bool { return s.c.Acts[kid] != 2 }) {
				return s.end(false)
			}
		}
		at = up
	}
}

func slowStartChart(p []impl.Step, vars []int64, now int64) impl.ChartResult {
	s := slowCourse{p, bareChart(p, now)}
	s.c.Vars = slices.Clone(vars)
	return s.end(s.enter(0))
}

// slowOpenSteps is the tasks, waits and timers that are on.
func slowOpenSteps(p []impl.Step, c impl.Chart) []int64 {
	var list []int64
	for at, s := range p {
		if c.Acts[at] == 1 && slices.Contains([]int64{impl.StepTask, impl.StepWait, impl.StepTimer}, s.Kind) {
			list = append(list, int64(at))
		}
	}
	return list
}

func slowDoneChart(p []impl.Step, c impl.Chart, step int64, vars []int64) impl.ChartResult {
	if !slices.Contains(slowOpenSteps(p, c), step) || p[step].Kind != impl.StepTask {
		return impl.ChartResult{Code: impl.ErrNone}
	}
	s := slowCourse{p, cloneChart(c)}
	s.c.Vars = slices.Clone(vars)
	return s.goOn(step)
}

// slowFirstWait is -1 where none waits.
func slowFirstWait(p []impl.Step, c impl.Chart, msg int64) int64 {
	for _, at := range slowOpenSteps(p, c) {
		if p[at].Kind == impl.StepWait && p[at].Arg == msg {
			return at
		}
	}
	return -1
}

func slowMailChart(p []impl.Step, c impl.Chart, msg int64) impl.ChartResult {
	at := slowFirstWait(p, c, msg)
	if at < 0 {
		return impl.ChartResult{Code: impl.ErrNone}
	}
	s := slowCourse{p, cloneChart(c)}
	return s.goOn(at)
}

func slowTickChart(p []impl.Step, c impl.Chart, now int64) impl.ChartResult {
	s := slowCourse{p, cloneChart(c)}
	s.c.Now = now
	for s.c.Status == impl.RunLive {
		first := int64(-1)
		for at, due := range s.c.Dues {
			if due != 0 && due <= now && (first < 0 || due < s.c.Dues[first]) {
				first = int64(at)
			}
		}
		if first < 0 {
			break
		}
		if p[first].Kind == impl.StepTimer {
			s.goOn(first)
			continue
		}
		kids := kidsIn(p, first)
		s.c.Dues[first] = 0
		s.idle(kids[0])
		if s.enter(kids[1]) {
			s.goOn(first)
		}
	}
	return impl.ChartResult{Chart: s.c}
}

func sameChartResults(a, b impl.ChartResult) bool {
	return a.Code == b.Code && reflect.DeepEqual(a.Chart, b.Chart)
}

// askChart asks one answer against what is told once more. Promise 10: whatever is done a chart has no fault.
func askChart(t *testing.T, why string, p []impl.Step, got, want impl.ChartResult) {
	t.Helper()
	if !sameChartResults(got, want) {
		t.Fatalf("%s, of %s: %s, want %s", why, impl.ProcText(p).Text, tellChart(p, got), tellChart(p, want))
	}
	if got.Code == 0 && (impl.ChartFault(p, got.Chart) != 0 || slowChartFault(p, 0, got.Chart) != 0) {
		t.Fatalf("%s, of %s: %s has the fault %d", why, impl.ProcText(p).Text, tellChart(p, got), impl.ChartFault(p, got.Chart))
	}
}

func askStartChart(t *testing.T, p []impl.Step, vars []int64, now int64) impl.ChartResult {
	t.Helper()
	got := impl.StartChart(p, vars, now)
	askChart(t, "start", p, got, slowStartChart(p, vars, now))
	return got
}

// askReached asks, of c and what came of it, promise 10: what was done is not open any more, and nobody else was reached, unless the chart has failed.
func askReached(t *testing.T, why string, p []impl.Step, c impl.Chart, got impl.ChartResult, done int64) {
	t.Helper()
	open := impl.OpenSteps(p, got.Chart)
	if open.Code != 0 || !slices.Equal(open.List, slowOpenSteps(p, got.Chart)) || slices.Contains(open.List, done) {
		t.Fatalf("%s: %d was done, open is %v in %s", why, done, open, tellChart(p, got))
	}
	for _, was := range slowOpenSteps(p, c) {
		if got.Chart.Status != impl.RunFailed && was != done && !slices.Contains(open.List, was) {
			t.Fatalf("%s: %d was done, and %d is not open any more in %s", why, done, was, tellChart(p, got))
		}
	}
	if got.Chart.Now != c.Now {
		t.Fatalf("%s: the time is %d", why, got.Chart.Now)
	}
}

func askDoneChart(t *testing.T, p []impl.Step, c impl.Chart, step int64, vars []int64) impl.ChartResult {
	t.Helper()
	why := "done " + strconv.FormatInt(step, 10) + " of " + tellChart(p, impl.ChartResult{Chart: c})
	got := impl.DoneChart(p, c, step, vars)
	askChart(t, why, p, got, slowDoneChart(p, c, step, vars))
	if got.Code == 0 {
		askReached(t, why, p, c, got, step)
	}
	return got
}

// Promise 10: a message reaches the first that waits for it, and nobody else.
func askMailChart(t *testing.T, p []impl.Step, c impl.Chart, msg int64) impl.ChartResult {
	t.Helper()
	why := "mail " + strconv.FormatInt(msg, 10) + " to " + tellChart(p, impl.ChartResult{Chart: c})
	got := impl.MailChart(p, c, msg)
	askChart(t, why, p, got, slowMailChart(p, c, msg))
	if got.Code == 0 {
		askReached(t, why, p, c, got, slowFirstWait(p, c, msg))
	}
	return got
}

func askTickChart(t *testing.T, p []impl.Step, c impl.Chart, now int64) impl.ChartResult {
	t.Helper()
	why := "tick " + strconv.FormatInt(now, 10) + " of " + tellChart(p, impl.ChartResult{Chart: c})
	got := impl.TickChart(p, c, now)
	askChart(t, why, p, got, slowTickChart(p, c, now))
	if got.Code != 0 || got.Chart.Now != now {
		t.Fatalf("%s: %s", why, tellChart(p, got))
	}
	for at, due := range got.Chart.Dues {
		if due != 0 && due <= now {
			t.Fatalf("%s: %d is over in %s", why, at, tellChart(p, got))
		}
	}
	return got
}

// someChartAct does something to a chart, most often something that it waits for.
func someChartAct(t *testing.T, rnd *rand.Rand, p []impl.Step, c impl.Chart, count map[string]int) impl.Chart {
	t.Helper()
	open := slowOpenSteps(p, c)
	step := int64(rnd.Intn(len(p)+2)) - 1
	if len(open) > 0 && rnd.Intn(8) > 0 {
		step = open[rnd.Intn(len(open))]
	}
	kind := []int64{impl.StepTask, impl.StepWait, impl.StepTimer}[rnd.Intn(3)]
	if slices.Contains(open, step) && rnd.Intn(4) > 0 {
		kind = p[step].Kind
	}
	var got impl.ChartResult
	switch kind {
	case impl.StepTask:
		got = askDoneChart(t, p, c, step, someVars(rnd))
		count["done"]++
	case impl.StepWait:
		msg := int64(rnd.Intn(3))
		if step >= 0 && step < int64(len(p)) && p[step].Kind == impl.StepWait {
			msg = p[step].Arg
		}
		got = askMailChart(t, p, c, msg)
		count["mail"]++
	default:
		now := c.Now + int64(rnd.Intn(4))
		if due := c.Dues[rnd.Intn(len(p))]; due != 0 && rnd.Intn(2) == 0 {
			now = max(c.Now, due+int64(rnd.Intn(3))-1)
		}
		got = askTickChart(t, p, c, min(now, impl.MaxTime))
		count["tick"]++
	}
	if got.Code != 0 {
		count["code"]++
		return c
	}
	countChart(p, c, got.Chart, count)
	return got.Chart
}

// countChart counts what came of a chart: its Status, and whether several steps that were open are not so any more, several more are, or a step is over beside others.
func countChart(p []impl.Step, was, is impl.Chart, count map[string]int) {
	count[[]string{"live", "ended", "failed"}[is.Status-1]]++
	before, behind := slowOpenSteps(p, was), slowOpenSteps(p, is)
	gone, more := 0, 0
	for _, at := range before {
		if !slices.Contains(behind, at) {
			gone++
		}
	}
	for _, at := range behind {
		if !slices.Contains(before, at) {
			more++
		}
	}
	if is.Status == impl.RunLive && gone > 1 {
		count["several gone"]++
	}
	if is.Status == impl.RunLive && more > 1 {
		count["several more"]++
	}
	if slices.Contains(is.Acts, impl.ActOver) {
		count["over"]++
	}
}

// Promise 10, of many charts.
func TestChartsHaveNoFault(t *testing.T) {
	rnd := rand.New(rand.NewSource(70))
	count := map[string]int{}
	for i := range 2500 {
		p := greatProc(rnd)
		if i%4 > 0 {
			p = mildProc(rnd, p)
		}
		now := []int64{0, 1, 100, 999900, 999999, 1000000}[rnd.Intn(6)]
		c := askStartChart(t, p, someVars(rnd), now).Chart
		for step := 0; step < 20 && (c.Status == impl.RunLive || rnd.Intn(3) == 0); step++ {
			c = someChartAct(t, rnd, p, c, count)
		}
	}
	askCounts(t, count, 50, "done", "mail", "tick", "code", "live", "ended", "failed", "several gone", "several more", "over")
}

// stray makes a step on, and what has to be on below it, whether a chart comes to that or not; sets are over only as kids of a StepAnd, so it is false where a set would be on.
func stray(rnd *rand.Rand, p []impl.Step, c impl.Chart, at int64) bool {
	c.Acts[at] = impl.ActOn
	kids := kidsIn(p, at)
	due := 1 + int64(rnd.Intn(int(c.Now)+99))
	switch p[at].Kind {
	case impl.StepSet:
		return false
	case impl.StepTimer:
		c.Dues[at] = due
	case impl.StepSeq, impl.StepXor, impl.StepGuard:
		one := rnd.Intn(len(kids))
		if p[at].Kind == impl.StepGuard && one == 0 {
			c.Dues[at] = due
		}
		return stray(rnd, p, c, kids[one])
	case impl.StepAnd:
		on := kids[rnd.Intn(len(kids))]
		for _, kid := range kids {
			c.Acts[kid] = impl.ActOver
			if (kid == on || rnd.Intn(2) == 0) && !stray(rnd, p, c, kid) {
				return false
			}
		}
	}
	return true
}

// strayChart is some chart without a fault, whether a start comes to it or not; false where that was not found.
func strayChart(rnd *rand.Rand, p []impl.Step) (impl.Chart, bool) {
	for range 9 {
		c := bareChart(p, int64(rnd.Intn(40)))
		c.Vars = someVars(rnd)
		if stray(rnd, p, c, 0) {
			return c, true
		}
	}
	return impl.Chart{}, false
}

// Promise 10, of charts that no start comes to.
func TestStrayChartsHaveNoFault(t *testing.T) {
	rnd := rand.New(rand.NewSource(71))
	count := map[string]int{}
	for i := range 4000 {
		p := greatProc(rnd)
		if i%4 > 0 {
			p = mildProc(rnd, p)
		}
		c, ok := strayChart(rnd, p)
		if !ok {
			continue
		}
		if fault := impl.ChartFault(p, c); fault != 0 || slowChartFault(p, 0, c) != 0 {
			t.Fatalf("of %s: %v has the fault %d", impl.ProcText(p).Text, c, fault)
		}
		for step := 0; step < 8 && (c.Status == impl.RunLive || rnd.Intn(3) == 0); step++ {
			c = someChartAct(t, rnd, p, c, count)
		}
	}
	askCounts(t, count, 20, "done", "mail", "tick", "code", "live", "ended", "failed", "several gone", "several more", "over")
}

// smallCharts are processes with few steps, of each kind.
func smallCharts(t *testing.T) [][]impl.Step {
	t.Helper()
	procs := smallProcs(t)
	for _, text := range []string{
		`<seq><task name="a"/></seq>`,
		`<and><set var="0" to="1"/><task name="a"/><wait msg="1"/></and>`,
		`<and><and><task name="a"/><timer ticks="2"/></and><wait msg="1"/></and>`,
		`<guard ticks="2"><and><task name="a"/><timer ticks="3"/></and><wait msg="1"/></guard>`,
		`<guard ticks="2"><guard ticks="3"><task name="a"/><set var="0" to="7"/></guard><timer ticks="1"/></guard>`,
		`<guard ticks="2"><seq><task name="a"/></seq><seq><set var="1" to="(1/v0)"/></seq></guard>`,
		`<seq><seq><task name="a"/></seq><xor><wait if="(v0=2)" msg="1"/><task name="b"/></xor></seq>`,
	} {
		procs = append(procs, readProc(t, text))
	}
	return procs
}

// eachChart tells each chart of a process with any acts, and one of some dues at each step that may have one, or at all of them.
func eachChart(p []impl.Step, now int64, status int64, atAll bool, dues []int64, tell func(c impl.Chart)) {
	c := bareChart(p, now)
	c.Status = status
	var fill func(at int)
	fill = func(at int) {
		if at == len(p) {
			tell(c)
			return
		}
		for act := range int64(3) {
			c.Acts[at], c.Dues[at] = act, 0
			fill(at + 1)
			if kind := p[at].Kind; atAll || kind == impl.StepTimer || kind == impl.StepGuard {
				for _, due := range dues {
					c.Dues[at] = due
					fill(at + 1)
				}
			}
		}
	}
	fill(0)
}

// Each choice of acts and dues in some small processes.
func TestChartFaultOfEachSmallChart(t *testing.T) {
	count := map[int64]int{}
	for _, p := range smallCharts(t) {
		for status := int64(0); status <= 4; status++ {
			eachChart(p, 1, status, len(p) < 5, []int64{1}, func(c impl.Chart) {
				want := slowChartFault(p, 0, c)
				count[want]++
				if got := impl.ChartFault(p, c); got != want {
					t.Fatalf("ChartFault(%s, %v) = %d, want %d", impl.ProcText(p).Text, c, got, want)
				}
			})
		}
	}
	if count[0] < 80 || count[impl.ErrForm] < 10000 || count[impl.ErrRange] < 10000 {
		t.Error(count)
	}
}

// Promise 10, of each chart of some small processes that has no fault, also where no start comes to it: whatever is done to it.
func TestWhateverIsDoneToEachSmallChart(t *testing.T) {
	count := map[int64]int{}
	for _, p := range smallCharts(t) {
		eachChart(p, 5, impl.RunLive, false, []int64{4, 5, 7}, func(c impl.Chart) {
			if slowChartFault(p, 0, c) != 0 {
				return
			}
			for step := int64(-1); step <= int64(len(p)); step++ {
				count[askDoneChart(t, p, c, step, []int64{2, 0, 1, 1}).Chart.Status]++
			}
			for msg := range int64(3) {
				count[askMailChart(t, p, c, msg).Chart.Status]++
			}
			for _, now := range []int64{5, 6, 7, 8} {
				count[askTickChart(t, p, c, now).Chart.Status]++
			}
		})
	}
	if count[0] < 500 || count[impl.RunLive] < 100 || count[impl.RunEnded] < 50 || count[impl.RunFailed] < 4 {
		t.Error(count)
	}
}

// All that may come of some small processes, one step behind the other: what is live has something open.
func TestAllThatMayComeOfSmallCharts(t *testing.T) {
	ended := 0
	for _, text := range []string{
		guardsIn("2", "2"), guardsIn("3", "2"), guardsIn("2", "3"),
		`<and><guard ticks="2"><timer ticks="1"/><task name="a"/></guard><seq><timer ticks="2"/><wait msg="1"/></seq></and>`,
		`<guard ticks="3"><and><task name="a"/><seq><timer ticks="2"/><task name="b"/></seq></and><and><wait msg="1"/><wait msg="1"/></and></guard>`,
		`<and><xor><task if="(v0=0)" name="a"/><set var="1" to="(v1+1)"/></xor><seq><wait msg="0"/><set var="0" to="(v0+1)"/><xor><task if="(v1=0)" name="b"/><timer ticks="1"/></xor></seq></and>`,
	} {
		p := readProc(t, text)
		seen := map[string]int{}
		work := []impl.Chart{askStartChart(t, p, make([]int64, 4), 0).Chart}
		for len(work) > 0 {
			c := work[0]
			work = work[1:]
			told := tellChart(p, impl.ChartResult{Chart: c})
			if seen[told] > 0 || c.Now > 8 {
				continue
			}
			seen[told]++
			if c.Status == impl.RunEnded {
				ended++
				continue
			}
			if len(slowOpenSteps(p, c)) == 0 {
				t.Fatalf("of %s nothing is open in %s", text, told)
			}
			for step := range int64(len(p)) {
				if got := askDoneChart(t, p, c, step, c.Vars); got.Code == 0 {
					work = append(work, got.Chart)
				}
			}
			for msg := range int64(2) {
				if got := askMailChart(t, p, c, msg); got.Code == 0 {
					work = append(work, got.Chart)
				}
			}
			for more := range int64(4) {
				work = append(work, askTickChart(t, p, c, c.Now+more).Chart)
			}
		}
	}
	if ended < 20 {
		t.Error(ended)
	}
}

// The most steps, and the most steps from one up: each of them is on, is done, and the chart comes to its end.
func TestChartsOfTheMostSteps(t *testing.T) {
	nest := nestOf(7)
	for len(nest) < 24 {
		nest = append(nest, taskAt(0))
	}
	for _, p := range [][]impl.Step{wideProc(), fullGuards(), sidesOf(impl.StepAnd, 23), seqOf(24), nest} {
		if fault := impl.ProcFault(p); fault != 0 {
			t.Fatal(fault)
		}
		for _, last := range []bool{false, true} {
			c := askStartChart(t, p, make([]int64, 4), 0).Chart
			for c.Status == impl.RunLive {
				open := slowOpenSteps(p, c)
				step := open[0]
				if last {
					step = open[len(open)-1]
				}
				c = askDoneChart(t, p, c, step, c.Vars).Chart
				c = askTickChart(t, p, c, c.Now+1).Chart
			}
			if c.Status != impl.RunEnded {
				t.Errorf("of %s: %v", impl.ProcText(p).Text, c)
			}
		}
	}
}

// faultyChart is a process and a chart of it that may have a fault.
type faultyChart struct {
	p []impl.Step
	c impl.Chart
}

// baseChart is a live chart with a guard, a seq, a xor and a timer that are on beside a task that is over.
func baseChart(t *testing.T) faultyChart {
	t.Helper()
	p := readProc(t, `<and><guard ticks="9"><seq><task name="a"/><set var="0" to="1"/><wait msg="1"/></seq><task name="b"/></guard><timer ticks="7"/><task name="c"/><xor><task if="(v0=9)" name="d"/><wait msg="2"/></xor></and>`)
	c := impl.StartChart(p, []int64{1, 2, 3, 4}, 10)
	c = impl.DoneChart(p, c.Chart, 8, []int64{1, 2, 3, 4})
	if told := tellChart(p, c); told != "live 10 | 1 2 3 4 | 111100012101 | 1:19 7:17" {
		t.Fatal(told)
	}
	return faultyChart{p, c.Chart}
}

// askFaultyChart asks each function of a chart: those that ask the ChartFault first tell it, whatever else they are given.
func askFaultyChart(t *testing.T, why string, x faultyChart, want int64) {
	t.Helper()
	if got := impl.ChartFault(x.p, x.c); got != want {
		t.Errorf("ChartFault of %s = %d, want %d", why, got, want)
	}
	if slow := slowChartFault(x.p, slowProcFault(x.p), x.c); slow != want {
		t.Errorf("the test's own fault of %s = %d, want %d", why, slow, want)
	}
	if want == 0 {
		return
	}
	none := impl.ChartResult{Code: want}
	for _, vars := range [][]int64{nil, {1, 2, 3, 4}, {1, 2, 3, 1000001}} {
		for _, step := range []int64{-1, 0, 3, 6} {
			if got := impl.DoneChart(x.p, x.c, step, vars); !reflect.DeepEqual(got, none) {
				t.Errorf("DoneChart of %s = %v, want the code %d", why, got, want)
			}
		}
	}
	for _, number := range []int64{-1, 1, 2, 10, 11, 1000001} {
		if got := impl.MailChart(x.p, x.c, number); !reflect.DeepEqual(got, none) {
			t.Errorf("MailChart of %s = %v, want the code %d", why, got, want)
		}
		if got := impl.TickChart(x.p, x.c, number); !reflect.DeepEqual(got, none) {
			t.Errorf("TickChart of %s = %v, want the code %d", why, got, want)
		}
	}
	if got := impl.OpenSteps(x.p, x.c); got.Code != want || len(got.List) != 0 {
		t.Errorf("OpenSteps of %s = %v, want the code %d", why, got, want)
	}
}

func TestChartFaultOfNumbers(t *testing.T) {
	base := baseChart(t)
	ask := func(why string, want int64, change func(c *impl.Chart)) {
		t.Helper()
		x := faultyChart{base.p, cloneChart(base.c)}
		change(&x.c)
		askFaultyChart(t, why, x, want)
	}
	ask("nothing wrong", 0, func(c *impl.Chart) {})
	for _, status := range []int64{math.MinInt64, -1, 0, 4, 5, 257, 1<<32 + 1, math.MaxInt64} {
		ask("the Status "+strconv.FormatInt(status, 10), impl.ErrRange, func(c *impl.Chart) { c.Status = status })
	}
	for now, want := range map[int64]int64{-1: impl.ErrRange, math.MinInt64: impl.ErrRange, 1000001: impl.ErrRange, math.MaxInt64: impl.ErrRange, math.MaxInt64 - 98: impl.ErrRange, 1000000: 0, 999999: 0, 11: 0, 0: 0} {
		ask("the time "+strconv.FormatInt(now, 10), want, func(c *impl.Chart) { c.Now = now })
	}
	for _, n := range []int{0, 1, 3, 5, 100} {
		ask(strconv.Itoa(n)+" variables", impl.ErrMany, func(c *impl.Chart) { c.Vars = make([]int64, n) })
	}
	for number, want := range map[int64]int64{-1000000: 0, 1000000: 0, -1000001: impl.ErrRange, 1000001: impl.ErrRange, math.MinInt64: impl.ErrRange, math.MaxInt64: impl.ErrRange} {
		for place := range 4 {
			ask("the variable "+strconv.FormatInt(number, 10), want, func(c *impl.Chart) { c.Vars[place] = number })
		}
	}
	ask("no acts", impl.ErrMany, func(c *impl.Chart) { c.Acts = nil })
	ask("an act too few", impl.ErrMany, func(c *impl.Chart) { c.Acts = c.Acts[:len(c.Acts)-1] })
	ask("an act too many", impl.ErrMany, func(c *impl.Chart) { c.Acts = append(c.Acts, 0) })
	ask("no dues", impl.ErrMany, func(c *impl.Chart) { c.Dues = nil })
	ask("a due too few", impl.ErrMany, func(c *impl.Chart) { c.Dues = c.Dues[:len(c.Dues)-1] })
	ask("a due too many", impl.ErrMany, func(c *impl.Chart) { c.Dues = append(c.Dues, 0) })
	ask("very many of both", impl.ErrMany, func(c *impl.Chart) { c.Acts, c.Dues = make([]int64, 100000), make([]int64, 100000) })
	for place := range base.p {
		for _, act := range []int64{math.MinInt64, -1, 3, 4, 257, 1 << 32, 1<<32 + 1, math.MaxInt64} {
			ask("the act "+strconv.FormatInt(act, 10), impl.ErrRange, func(c *impl.Chart) { c.Acts[place] = act })
		}
		for _, due := range []int64{math.MinInt64, -1, 110, 111, 1 << 32, math.MaxInt64} {
			ask("the due "+strconv.FormatInt(due, 10), impl.ErrRange, func(c *impl.Chart) { c.Dues[place] = due })
		}
	}
	for _, due := range []int64{1, 9, 10, 11, 108, 109} {
		ask("the due "+strconv.FormatInt(due, 10), 0, func(c *impl.Chart) { c.Dues[1], c.Dues[7] = due, due })
	}
	ask("dues above the last time", 0, func(c *impl.Chart) { c.Now, c.Dues[1], c.Dues[7] = 1000000, 1000099, 1000001 })
	ask("a due above them", impl.ErrRange, func(c *impl.Chart) { c.Now, c.Dues[1] = 1000000, 1000100 })
	ask("dues at the time 0 and 99", 0, func(c *impl.Chart) { c.Now, c.Dues[1], c.Dues[7] = 0, 99, 1 })
	ask("a due at the time 0 and 100", impl.ErrRange, func(c *impl.Chart) { c.Now, c.Dues[1] = 0, 100 })
}

// setActs makes some acts of a chart others, by pairs of a step and its act.
func setActs(c *impl.Chart, pairs ...int64) {
	for i := 0; i < len(pairs); i += 2 {
		c.Acts[pairs[i]] = pairs[i+1]
	}
}

func TestChartFaultOfForms(t *testing.T) {
	base := baseChart(t)
	ask := func(why string, want int64, change func(c *impl.Chart)) {
		t.Helper()
		x := faultyChart{base.p, cloneChart(base.c)}
		change(&x.c)
		askFaultyChart(t, why, x, want)
	}
	ask("nothing on", impl.ErrForm, func(c *impl.Chart) { *c = bareChart(base.p, 10) })
	ask("the first step idle", impl.ErrForm, func(c *impl.Chart) { c.Acts[0] = 0 })
	ask("the first step over", impl.ErrForm, func(c *impl.Chart) { c.Acts[0] = 2 })
	ask("the first step over, and nothing else", impl.ErrForm, func(c *impl.Chart) {
		*c = bareChart(base.p, 10)
		c.Acts[0] = 2
	})
	ask("a step on below one that is over", impl.ErrForm, func(c *impl.Chart) { c.Acts[9] = 2 })
	ask("the same with nothing below it", 0, func(c *impl.Chart) { setActs(c, 9, 2, 11, 0) })
	ask("a step on below a seq that is idle", impl.ErrForm, func(c *impl.Chart) {
		setActs(c, 2, 0, 6, 1)
		c.Dues[1] = 0
	})
	ask("no kid of a seq on", impl.ErrForm, func(c *impl.Chart) { c.Acts[3] = 0 })
	ask("two kids of a seq on", impl.ErrForm, func(c *impl.Chart) { c.Acts[5] = 1 })
	ask("another kid of a seq on", 0, func(c *impl.Chart) { setActs(c, 3, 0, 5, 1) })
	ask("a kid of a seq over", impl.ErrForm, func(c *impl.Chart) { c.Acts[5] = 2 })
	ask("a set over in a seq", impl.ErrForm, func(c *impl.Chart) { c.Acts[4] = 2 })
	ask("a set on", impl.ErrForm, func(c *impl.Chart) { setActs(c, 3, 0, 4, 1) })
	ask("no kid of a xor on", impl.ErrForm, func(c *impl.Chart) { c.Acts[11] = 0 })
	ask("two kids of a xor on", impl.ErrForm, func(c *impl.Chart) { c.Acts[10] = 1 })
	ask("another kid of a xor on, whatever its Cond is", 0, func(c *impl.Chart) { setActs(c, 10, 1, 11, 0) })
	ask("a kid of a xor over", impl.ErrForm, func(c *impl.Chart) { c.Acts[10] = 2 })
	ask("an idle kid of an and", impl.ErrForm, func(c *impl.Chart) { c.Acts[8] = 0 })
	ask("an idle kid of an and with nothing below it", impl.ErrForm, func(c *impl.Chart) { setActs(c, 9, 0, 11, 0) })
	ask("no kid of an and over", 0, func(c *impl.Chart) { c.Acts[8] = 1 })
	ask("all kids of an and over", impl.ErrForm, func(c *impl.Chart) {
		*c = bareChart(base.p, 10)
		setActs(c, 0, 1, 1, 2, 7, 2, 8, 2, 9, 2)
	})
	ask("all but one kid of an and over", 0, func(c *impl.Chart) {
		*c = bareChart(base.p, 10)
		setActs(c, 0, 1, 1, 2, 7, 2, 8, 1, 9, 2)
	})
	ask("a timer on without a due", impl.ErrForm, func(c *impl.Chart) { c.Dues[7] = 0 })
	ask("a timer over with a due", impl.ErrForm, func(c *impl.Chart) { c.Acts[7] = 2 })
	ask("a timer over", 0, func(c *impl.Chart) { c.Acts[7], c.Dues[7] = 2, 0 })
	for place, s := range base.p {
		if s.Kind != impl.StepTimer && s.Kind != impl.StepGuard {
			ask("a due of a step that has none", impl.ErrForm, func(c *impl.Chart) { c.Dues[place] = 12 })
		}
	}
}

func TestChartFaultOfGuards(t *testing.T) {
	base := baseChart(t)
	ask := func(why string, want int64, due int64, pairs ...int64) {
		t.Helper()
		x := faultyChart{base.p, cloneChart(base.c)}
		x.c.Dues[1] = due
		setActs(&x.c, pairs...)
		askFaultyChart(t, why, x, want)
	}
	ask("a guard without a due and its first kid on", impl.ErrForm, 0)
	ask("a guard with a due and its second kid on", impl.ErrForm, 19, 2, 0, 3, 0, 6, 1)
	ask("a guard without a due and its second kid on", 0, 0, 2, 0, 3, 0, 6, 1)
	ask("no kid of a guard on", impl.ErrForm, 0, 2, 0, 3, 0)
	ask("no kid of a guard on, and a due", impl.ErrForm, 19, 2, 0, 3, 0)
	ask("two kids of a guard on", impl.ErrForm, 0, 6, 1)
	ask("two kids of a guard on, and a due", impl.ErrForm, 19, 6, 1)
	ask("a kid of a guard over", impl.ErrForm, 19, 6, 2)
	ask("a first kid of a guard over", impl.ErrForm, 0, 2, 2, 3, 0, 6, 1)
	ask("a guard that is over with a due", impl.ErrForm, 19, 1, 2, 2, 0, 3, 0)
	ask("a guard that is over", 0, 0, 1, 2, 2, 0, 3, 0)
}

// Steps that are over below a step that is not on, and sets in a StepAnd.
func TestChartFaultOfAnds(t *testing.T) {
	p := readProc(t, `<and><and><task name="a"/><set var="0" to="1"/></and><xor><task if="(v0=1)" name="b"/><and><task name="c"/><task name="d"/></and></xor></and>`)
	for _, x := range []struct {
		why, acts string
		want      int64
	}{
		{"as it is started", "111211000", 0},
		{"a step over below one that is over", "122011000", impl.ErrForm},
		{"a set over below one that is over", "120211000", impl.ErrForm},
		{"the same with nothing below it", "120011000", 0},
		{"a step over below one that is idle", "111211020", impl.ErrForm},
		{"both kids over below one that is idle", "111211022", impl.ErrForm},
		{"the other kid of the xor on", "111210112", 0},
		{"the other kid of the xor on, with both on", "111210111", 0},
		{"the other kid of the xor on, with both over", "111210122", impl.ErrForm},
		{"a set idle in an and", "111011000", impl.ErrForm},
		{"a set on in an and", "111111000", impl.ErrForm},
		{"a set alone on in an and", "112111000", impl.ErrForm},
		{"all of an and over", "112211000", impl.ErrForm},
		{"a kid of a xor that is an and over", "111211200", impl.ErrForm},
	} {
		c := bareChart(p, 0)
		for at, act := range x.acts {
			c.Acts[at] = int64(act - '0')
		}
		askFaultyChart(t, x.why, faultyChart{p, c}, x.want)
	}
}

func TestChartFaultOfChartsThatAreNotLive(t *testing.T) {
	base := baseChart(t)
	for status := int64(2); status <= 3; status++ {
		over := bareChart(base.p, 10)
		over.Status = status
		askFaultyChart(t, "a chart that is not live", faultyChart{base.p, over}, 0)
		live := cloneChart(base.c)
		live.Status = status
		askFaultyChart(t, "a live chart with another Status", faultyChart{base.p, live}, impl.ErrForm)
		for place := range base.p {
			for act := int64(1); act <= 2; act++ {
				c := cloneChart(over)
				c.Acts[place] = act
				askFaultyChart(t, "an act of a chart that is not live", faultyChart{base.p, c}, impl.ErrForm)
			}
			c := cloneChart(over)
			c.Dues[place] = 1
			askFaultyChart(t, "a due of a chart that is not live", faultyChart{base.p, c}, impl.ErrForm)
		}
	}
}

// Several faults at once: the one that the document names first tells the code.
func TestChartFaultOfSeveral(t *testing.T) {
	vars := func(numbers ...int64) func(x *faultyChart) { return func(x *faultyChart) { x.c.Vars = numbers } }
	spoil := func(at int, change func(s *impl.Step)) func(x *faultyChart) {
		return func(x *faultyChart) {
			x.p = cloneProc(x.p)
			change(&x.p[at])
		}
	}
	for _, faults := range [][]spoilt[faultyChart]{
		{
			{impl.ErrText, spoil(3, func(s *impl.Step) { s.Name = "A" })},
			{impl.ErrRange, func(x *faultyChart) { x.c.Status = 0 }},
			{impl.ErrRange, func(x *faultyChart) { x.c.Now = -1 }},
			{impl.ErrMany, vars(1, 2, 3)},
			{impl.ErrMany, func(x *faultyChart) { x.c.Acts = x.c.Acts[1:] }},
			{impl.ErrRange, func(x *faultyChart) { x.c.Dues = at(x.c.Dues, 7, -1) }},
			{impl.ErrForm, func(x *faultyChart) { x.c.Dues = at(x.c.Dues, 3, 1) }},
		},
		{
			{impl.ErrForm, spoil(8, func(s *impl.Step) { s.Kind = 9 })},
			{impl.ErrRange, func(x *faultyChart) { x.c.Now = 1000001 }},
			{impl.ErrRange, vars(1, 2, 3, 1000001)},
			{impl.ErrMany, func(x *faultyChart) { x.c.Dues = append(slices.Clone(x.c.Dues), 500) }},
			{impl.ErrRange, func(x *faultyChart) { x.c.Acts = at(x.c.Acts, 3, 3) }},
			{impl.ErrForm, func(x *faultyChart) { x.c.Status = impl.RunEnded }},
		},
		{
			{impl.ErrType, spoil(10, func(s *impl.Step) { s.Cond = num(1) })},
			{impl.ErrRange, func(x *faultyChart) { x.c.Status = 4 }},
			{impl.ErrMany, vars()},
			{impl.ErrRange, func(x *faultyChart) { x.c.Dues = at(x.c.Dues, 11, 110) }},
			{impl.ErrForm, func(x *faultyChart) { x.c.Acts = at(x.c.Acts, 0, 0) }},
		},
		{
			{impl.ErrMany, func(x *faultyChart) { x.p = seqOf(25) }},
			{impl.ErrRange, func(x *faultyChart) { x.c.Now = -1 }},
			{impl.ErrForm, func(x *faultyChart) { x.c.Status = impl.RunFailed }},
		},
	} {
		askSeveral(baseChart(t), faults, func(x faultyChart, want int64) { askFaultyChart(t, "several faults", x, want) })
	}
}

func TestChartsOfWrongProcs(t *testing.T) {
	for why, x := range map[string]struct {
		p    []impl.Step
		want int64
	}{
		"no steps":               {nil, impl.ErrMany},
		"25 steps":               {seqOf(25), impl.ErrMany},
		"8 steps from one up":    {nestOf(8), impl.ErrMany},
		"a kind that is none":    {proc(impl.Step{Parent: -1}), impl.ErrForm},
		"a seq without kids":     {proc(seqAt(-1)), impl.ErrForm},
		"a guard of one kid":     {proc(guardAt(-1, 3), taskAt(0)), impl.ErrForm},
		"a guard of three kids":  {proc(guardAt(-1, 3), taskAt(0), taskAt(0), taskAt(0)), impl.ErrForm},
		"a choice without Conds": {proc(xorAt(-1), taskAt(0), taskAt(0)), impl.ErrForm},
		"a timer of 0 ticks":     {proc(timerAt(-1, 0)), impl.ErrRange},
		"a wait for 10":          {proc(waitAt(-1, 10)), impl.ErrRange},
		"a parent that is none":  {proc(taskAt(0)), impl.ErrRange},
		"a task without a name":  {proc(impl.Step{Kind: impl.StepTask, Parent: -1}), impl.ErrText},
		"a set that is a bool":   {proc(setAt(-1, 0, yes())), impl.ErrType},
		"a Cond that is an int":  {proc(xorAt(-1), ifSo(num(1), taskAt(0)), taskAt(0)), impl.ErrType},
		"a Cond of the first":    {proc(ifSo(yes(), taskAt(-1))), impl.ErrForm},
		"a set of a wrong Expr":  {proc(setAt(-1, 0, nots(17))), impl.ErrMany},
	} {
		on := bareChart(x.p, 0)
		for at := range on.Acts {
			on.Acts[at] = impl.ActOn
		}
		for _, c := range []impl.Chart{{}, bareChart(x.p, 0), on, {Status: 9, Now: -1}} {
			askFaultyChart(t, why, faultyChart{x.p, c}, x.want)
		}
		for _, vars := range [][]int64{nil, {1, 2, 3, 4}, {1, 2, 3, 1000001}} {
			for _, now := range []int64{-1, 0, 1000001} {
				if got := impl.StartChart(x.p, vars, now); !reflect.DeepEqual(got, impl.ChartResult{Code: x.want}) {
					t.Errorf("StartChart of %s = %v, want the code %d", why, got, x.want)
				}
			}
		}
	}
}

func TestStartChartWrong(t *testing.T) {
	p := proc(taskAt(-1))
	for _, c := range []struct {
		why  string
		vars []int64
		now  int64
		want int64
	}{
		{"now 0", []int64{0, 0, 0, 0}, 0, 0},
		{"now MaxTime", []int64{0, 0, 0, 0}, 1000000, 0},
		{"now one more", []int64{0, 0, 0, 0}, 1000001, impl.ErrRange},
		{"now below 0", []int64{0, 0, 0, 0}, -1, impl.ErrRange},
		{"now far below", []int64{0, 0, 0, 0}, math.MinInt64, impl.ErrRange},
		{"now far above", []int64{0, 0, 0, 0}, math.MaxInt64, impl.ErrRange},
		{"variables at their bounds", []int64{1000000, -1000000, 1000000, -1000000}, 0, 0},
		{"a variable above", []int64{0, 0, 0, 1000001}, 0, impl.ErrRange},
		{"a variable below", []int64{-1000001, 0, 0, 0}, 0, impl.ErrRange},
		{"no variables", nil, 0, impl.ErrMany},
		{"three variables", []int64{0, 0, 0}, 0, impl.ErrMany},
		{"five variables", []int64{0, 0, 0, 0, 0}, 0, impl.ErrMany},
		{"three variables, and no time", []int64{0, 0, 0}, -1, impl.ErrMany},
		{"five variables, one above", []int64{0, 0, 0, 0, 1000001}, 0, impl.ErrMany},
	} {
		want := impl.ChartResult{Code: c.want}
		if c.want == 0 {
			want.Chart = impl.Chart{Status: impl.RunLive, Now: c.now, Vars: c.vars, Acts: []int64{1}, Dues: []int64{0}}
		}
		if got := impl.StartChart(p, c.vars, c.now); !sameChartResults(got, want) {
			t.Errorf("StartChart of %s = %v, want %v", c.why, got, want)
		}
	}
}

func TestDoneChartWrong(t *testing.T) {
	x := baseChart(t)
	right := []int64{9, 8, 7, 6}
	for step, s := range x.p {
		want := int64(impl.ErrNone)
		if step == 3 {
			want = 0
		}
		if got := impl.DoneChart(x.p, x.c, int64(step), right); got.Code != want {
			t.Errorf("DoneChart of the kind %d at %d = %v, want the code %d", s.Kind, step, got, want)
		}
	}
	for _, step := range []int64{math.MinInt64, -1, int64(len(x.p)), 24, 1<<32 + 3, math.MaxInt64} {
		if got := impl.DoneChart(x.p, x.c, step, right); !reflect.DeepEqual(got, impl.ChartResult{Code: impl.ErrNone}) {
			t.Errorf("DoneChart at %d = %v", step, got)
		}
	}
	for _, c := range []struct {
		vars []int64
		want int64
	}{
		{nil, impl.ErrMany}, {right[:3], impl.ErrMany}, {[]int64{1, 2, 3, 4, 5}, impl.ErrMany}, {[]int64{1, 2, 3, 4, 1000001}, impl.ErrMany},
		{[]int64{0, 0, 1000001, 0}, impl.ErrRange}, {[]int64{0, -1000001, 0, 0}, impl.ErrRange}, {[]int64{0, 0, 0, math.MinInt64}, impl.ErrRange},
		{[]int64{1000000, -1000000, 0, 0}, 0},
	} {
		// The variables are asked ahead of the step.
		for _, step := range []int64{3, 6, 8, 11, -1} {
			want := c.want
			if want == 0 && step != 3 {
				want = impl.ErrNone
			}
			if got := impl.DoneChart(x.p, x.c, step, c.vars); got.Code != want || want != 0 && !reflect.DeepEqual(got.Chart, impl.Chart{}) {
				t.Errorf("DoneChart at %d with %v = %v, want the code %d", step, c.vars, got, want)
			}
		}
	}
}

func TestOpenSteps(t *testing.T) {
	x := baseChart(t)
	if got := impl.OpenSteps(x.p, x.c); got.Code != 0 || !slices.Equal(got.List, []int64{3, 7, 11}) {
		t.Errorf("OpenSteps = %v", got)
	}
	all := readProc(t, `<and><task name="a"/><wait msg="1"/><timer ticks="7"/><task name="b"/><set var="0" to="1"/></and>`)
	c := impl.StartChart(all, make([]int64, 4), 0).Chart
	if got := impl.OpenSteps(all, c); got.Code != 0 || !slices.Equal(got.List, []int64{1, 2, 3, 4}) {
		t.Errorf("OpenSteps of each kind = %v", got)
	}
	for status := int64(2); status <= 3; status++ {
		over := bareChart(all, 3)
		over.Status = status
		if got := impl.OpenSteps(all, over); got.Code != 0 || len(got.List) != 0 {
			t.Errorf("OpenSteps of the Status %d = %v", status, got)
		}
	}
}

func TestSameCharts(t *testing.T) {
	base := func() impl.Chart {
		return impl.Chart{Status: 1, Now: 2, Vars: []int64{3, 4}, Acts: []int64{5, 6}, Dues: []int64{7, 8}}
	}
	if !impl.SameCharts(base(), base()) {
		t.Error("the same are not the same")
	}
	for why, change := range map[string]func(c *impl.Chart){
		"Status":       func(c *impl.Chart) { c.Status = 2 },
		"Now":          func(c *impl.Chart) { c.Now = 3 },
		"a var":        func(c *impl.Chart) { c.Vars[1] = 5 },
		"a var more":   func(c *impl.Chart) { c.Vars = append(c.Vars, 0) },
		"a var less":   func(c *impl.Chart) { c.Vars = c.Vars[:1] },
		"no vars":      func(c *impl.Chart) { c.Vars = nil },
		"an act":       func(c *impl.Chart) { c.Acts[0] = 6 },
		"an act more":  func(c *impl.Chart) { c.Acts = append(c.Acts, 0) },
		"an act less":  func(c *impl.Chart) { c.Acts = c.Acts[1:] },
		"no acts":      func(c *impl.Chart) { c.Acts = nil },
		"a due":        func(c *impl.Chart) { c.Dues[1] = 7 },
		"a due more":   func(c *impl.Chart) { c.Dues = append(c.Dues, 0) },
		"a due less":   func(c *impl.Chart) { c.Dues = c.Dues[:1] },
		"no dues":      func(c *impl.Chart) { c.Dues = nil },
		"lists turned": func(c *impl.Chart) { c.Acts, c.Dues = c.Dues, c.Acts },
	} {
		other := base()
		change(&other)
		if impl.SameCharts(base(), other) || impl.SameCharts(other, base()) {
			t.Errorf("the same in spite of %s", why)
		}
		if !impl.SameCharts(other, cloneChart(other)) {
			t.Errorf("not the same as itself: %s", why)
		}
	}
	// Nothing is asked, and nil is the same as no element.
	none := impl.Chart{Vars: []int64{}, Acts: []int64{}, Dues: []int64{}}
	if !impl.SameCharts(impl.Chart{}, none) || !impl.SameCharts(none, impl.Chart{}) || impl.SameCharts(none, base()) {
		t.Error("of no elements")
	}
}

// askCharts asks all that the chapter has functions for.
func askCharts(p []impl.Step, c, other impl.Chart, step int64, vars []int64, number int64) []any {
	return []any{
		impl.ChartFault(p, c), impl.StartChart(p, vars, number), impl.DoneChart(p, c, step, vars), impl.MailChart(p, c, number),
		impl.TickChart(p, c, number), impl.OpenSteps(p, c), impl.SameCharts(c, other), impl.SameCharts(c, c),
	}
}

// spoilChart makes one thing of c another one, right or wrong.
func spoilChart(rnd *rand.Rand, c impl.Chart) impl.Chart {
	c = cloneChart(c)
	list := []*[]int64{&c.Vars, &c.Acts, &c.Dues}[rnd.Intn(3)]
	switch rnd.Intn(8) {
	case 0:
		c.Status = wildNumber(rnd)
	case 1:
		c.Now = wildNumber(rnd)
	case 2, 3:
		if len(*list) > 0 {
			(*list)[rnd.Intn(len(*list))] = wildNumber(rnd)
		}
	case 4, 5:
		if len(c.Acts) > 0 {
			c.Acts[rnd.Intn(len(c.Acts))] = int64(rnd.Intn(3))
		}
	case 6:
		*list = append(*list, wildNumber(rnd))
	case 7:
		*list = (*list)[:rnd.Intn(len(*list)+1)]
	}
	return c
}

// someChart is a chart of p that was played on for a while or spoilt.
func someChart(rnd *rand.Rand, p []impl.Step) impl.Chart {
	c := impl.StartChart(p, someVars(rnd), int64(rnd.Intn(100))).Chart
	for range rnd.Intn(6) {
		step := int64(rnd.Intn(len(p) + 1))
		for _, got := range []impl.ChartResult{impl.DoneChart(p, c, step, someVars(rnd)), impl.MailChart(p, c, int64(rnd.Intn(10))), impl.TickChart(p, c, c.Now+int64(rnd.Intn(20)))} {
			if got.Code == 0 && rnd.Intn(2) == 0 {
				c = got.Chart
			}
		}
	}
	for range rnd.Intn(3) {
		c = spoilChart(rnd, c)
	}
	return c
}

// Promise 1: every function answers at every argument and changes none, with nothing beside a code.
func TestChartsAnswerAtEachArgument(t *testing.T) {
	rnd := rand.New(rand.NewSource(72))
	count := map[int64]int{}
	for i := range 12000 {
		p := mildProc(rnd, randomProc(rnd, 1+rnd.Intn(24)))
		c := someChart(rnd, p)
		if i%3 == 0 {
			p = spoilProc(rnd, p)
		}
		if i%9 == 0 {
			p[rnd.Intn(len(p))] = impl.Step{Kind: wildNumber(rnd), Parent: wildNumber(rnd), Arg: wildNumber(rnd), Cond: wildExpr(rnd), Expr: wildExpr(rnd)}
		}
		other, vars := spoilChart(rnd, c), someVars(rnd)
		step, number := wildNumber(rnd), wildNumber(rnd)
		if i%5 == 0 {
			vars = append(vars[:rnd.Intn(4)], wildNumber(rnd), wildNumber(rnd))
		}
		if i%7 == 0 {
			step, number = int64(rnd.Intn(len(p)+1)), int64(rnd.Intn(100))
		}
		before, beforeChart, beforeOther, beforeVars := cloneProc(p), cloneChart(c), cloneChart(other), slices.Clone(vars)
		fault := slowProcFault(p)
		if got, want := impl.ChartFault(p, c), slowChartFault(p, fault, c); got != want {
			t.Fatalf("ChartFault(%v, %v) = %d, want %d", p, c, got, want)
		}
		for _, answer := range askCharts(p, c, other, step, vars, number) {
			switch a := answer.(type) {
			case impl.ChartResult:
				count[a.Code]++
				if a.Code != 0 && !reflect.DeepEqual(a.Chart, impl.Chart{}) || a.Code == 0 && slowChartFault(p, fault, a.Chart) != 0 {
					t.Fatalf("of %v and %v: %v", p, c, a)
				}
			case impl.IntsResult:
				if a.Code != 0 && len(a.List) != 0 {
					t.Fatalf("of %v and %v: %v", p, c, a)
				}
			}
		}
		if !reflect.DeepEqual(p, before) || !reflect.DeepEqual(c, beforeChart) || !reflect.DeepEqual(other, beforeOther) || !reflect.DeepEqual(vars, beforeVars) {
			t.Fatalf("changed: %v, %v, %v, %v, before %v, %v, %v, %v", p, c, other, vars, before, beforeChart, beforeOther, beforeVars)
		}
	}
	for _, code := range []int64{impl.OK, impl.ErrForm, impl.ErrMany, impl.ErrRange, impl.ErrNone, impl.ErrText, impl.ErrType} {
		if count[code] < 50 {
			t.Error(count)
		}
	}
}

// listsOfChart is all of the room of each list.
func listsOfChart(c impl.Chart) [][]int64 {
	return [][]int64{c.Vars[:cap(c.Vars)], c.Acts[:cap(c.Acts)], c.Dues[:cap(c.Dues)]}
}

// roomyChart is c with room behind each list.
func roomyChart(c impl.Chart) impl.Chart {
	c.Vars, c.Acts, c.Dues = roomy(c.Vars), roomy(c.Acts), roomy(c.Dues)
	return c
}

// Promise 1: a chart is new memory, no two lists of it share any, and neither an argument nor the room behind it is written to.
func TestChartsAreNewMemory(t *testing.T) {
	p := readProc(t, `<and><guard ticks="9"><seq><task name="a"/><set var="0" to="(v1+1)"/><xor><wait if="(v0=3)" msg="1"/><task name="b"/></xor></seq><timer ticks="3"/></guard><timer ticks="7"/><wait msg="2"/></and>`)
	p = append(make([]impl.Step, 0, 40), p...)
	for i := range p {
		p[i].Cond, p[i].Expr = append(make([]impl.Node, 0, 40), p[i].Cond...), append(make([]impl.Node, 0, 40), p[i].Expr...)
	}
	before := cloneProc(p)
	vars := roomy([]int64{1, 2, 3, 4})
	c := roomyChart(impl.StartChart(p, vars, 5).Chart)
	over := bareChart(p, 5)
	over.Status = impl.RunEnded
	over = roomyChart(over)
	given := append(append(listsOfChart(c), listsOfChart(over)...), vars[:cap(vars)])
	var kept [][]int64
	for _, list := range given {
		kept = append(kept, slices.Clone(list))
	}
	for why, ask := range map[string]func() impl.ChartResult{
		"StartChart":                          func() impl.ChartResult { return impl.StartChart(p, vars, 5) },
		"DoneChart":                           func() impl.ChartResult { return impl.DoneChart(p, c, 3, vars) },
		"DoneChart with the chart's own":      func() impl.ChartResult { return impl.DoneChart(p, c, 3, c.Vars) },
		"MailChart":                           func() impl.ChartResult { return impl.MailChart(p, c, 2) },
		"TickChart":                           func() impl.ChartResult { return impl.TickChart(p, c, 20) },
		"TickChart to Now itself":             func() impl.ChartResult { return impl.TickChart(p, c, 5) },
		"TickChart of a chart that has ended": func() impl.ChartResult { return impl.TickChart(p, over, 5) },
	} {
		first, second := ask(), ask()
		want := cloneChart(second.Chart)
		if first.Code != 0 || !impl.SameCharts(first.Chart, want) {
			t.Fatalf("%s: %v and %v", why, first, second)
		}
		for i, list := range listsOfChart(first.Chart) {
			for j := range list {
				list[j] = int64(1000 + i)
			}
		}
		for i, list := range listsOfChart(first.Chart) {
			if slices.ContainsFunc(list, func(number int64) bool { return number != int64(1000+i) }) {
				t.Errorf("%s: two lists of one answer share memory", why)
			}
		}
		if !impl.SameCharts(second.Chart, want) || !impl.SameCharts(ask().Chart, want) {
			t.Errorf("%s: two answers share memory", why)
		}
		if !reflect.DeepEqual(given, kept) || !reflect.DeepEqual(p, before) {
			t.Errorf("%s: an argument was written to", why)
		}
		askRoomBehind(t, p)
	}
	open := impl.OpenSteps(p, c).List
	clear(open[:cap(open)])
	if got := impl.OpenSteps(p, c).List; !slices.Equal(got, []int64{3, 9, 10}) || !reflect.DeepEqual(given, kept) {
		t.Errorf("OpenSteps is shared: %v", got)
	}
}

// Promise 1: an answer hangs on the arguments alone, not on what was asked ahead of it.
func TestChartsHangOnArgumentsAlone(t *testing.T) {
	rnd := rand.New(rand.NewSource(73))
	type given struct {
		p            []impl.Step
		c, other     impl.Chart
		step, number int64
		vars         []int64
	}
	var all []given
	var first [][]any
	for range 200 {
		p := mildProc(rnd, randomProc(rnd, 1+rnd.Intn(24)))
		x := given{p, someChart(rnd, p), someChart(rnd, p), int64(rnd.Intn(len(p))), int64(rnd.Intn(200)), someVars(rnd)}
		all = append(all, x)
		first = append(first, askCharts(x.p, x.c, x.other, x.step, x.vars, x.number))
	}
	for i := len(all) - 1; i >= 0; i-- {
		x := all[i]
		for range 3 {
			// A clone lies elsewhere, and has more room: no answer hangs on an address or a capacity.
			if got := askCharts(cloneProc(x.p), roomyChart(x.c), cloneChart(x.other), x.step, roomy(x.vars), x.number); !reflect.DeepEqual(got, first[i]) {
				t.Errorf("%v, and ahead of that %v", got, first[i])
			}
		}
	}
}
