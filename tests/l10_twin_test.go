package tests

import (
	"math"
	"math/rand"
	"reflect"
	"runtime"
	"slices"
	"strconv"
	"strings"
	"sync"
	"testing"

	"loop.example/g00343/impl"
)

func doneAct(step int64, vars ...int64) impl.Act {
	return impl.Act{Kind: impl.ActDone, At: step, Vars: vars}
}

func mailAct(msg int64) impl.Act {
	return impl.Act{Kind: impl.ActMail, At: msg}
}

func tickAct(more int64) impl.Act {
	return impl.Act{Kind: impl.ActTick, At: more}
}

func cloneActs(acts []impl.Act) []impl.Act {
	acts = slices.Clone(acts)
	for i := range acts {
		acts[i].Vars = slices.Clone(acts[i].Vars)
	}
	return acts
}

func TestActConstants(t *testing.T) {
	if impl.ActDone != 1 || impl.ActMail != 2 || impl.ActTick != 3 {
		t.Error("a constant is another one")
	}
}

func TestActFault(t *testing.T) {
	right := []int64{1, 2, 3, 4}
	for _, c := range []struct {
		why  string
		a    impl.Act
		want int64
	}{
		{"a task", impl.Act{Kind: 1, At: 5, Vars: right}, 0},
		{"a message", impl.Act{Kind: 2, At: 5}, 0},
		{"ticks", impl.Act{Kind: 3, At: 5}, 0},
		{"a message with a list of no Vars", impl.Act{Kind: 2, At: 5, Vars: []int64{}}, 0},
		{"ticks with a list of no Vars", impl.Act{Kind: 3, At: 5, Vars: []int64{}}, 0},
		{"a task at 0", impl.Act{Kind: 1, Vars: right}, 0},
		{"a task at 9999", impl.Act{Kind: 1, At: 9999, Vars: right}, 0},
		{"a message 0", impl.Act{Kind: 2}, 0},
		{"a message 9999", impl.Act{Kind: 2, At: 9999}, 0},
		{"no ticks", impl.Act{Kind: 3}, 0},
		{"9999 ticks", impl.Act{Kind: 3, At: 9999}, 0},
		{"a task at -1", impl.Act{Kind: 1, At: -1, Vars: right}, impl.ErrRange},
		{"a task at 10000", impl.Act{Kind: 1, At: 10000, Vars: right}, impl.ErrRange},
		{"a message -1", impl.Act{Kind: 2, At: -1}, impl.ErrRange},
		{"a message 10000", impl.Act{Kind: 2, At: 10000}, impl.ErrRange},
		{"-1 ticks", impl.Act{Kind: 3, At: -1}, impl.ErrRange},
		{"10000 ticks", impl.Act{Kind: 3, At: 10000}, impl.ErrRange},
		{"far below", impl.Act{Kind: 3, At: math.MinInt64}, impl.ErrRange},
		{"far above", impl.Act{Kind: 1, At: math.MaxInt64, Vars: right}, impl.ErrRange},
		{"Kind 0", impl.Act{}, impl.ErrForm},
		{"Kind 4", impl.Act{Kind: 4}, impl.ErrForm},
		{"Kind 0 with Vars", impl.Act{Vars: right}, impl.ErrForm},
		{"Kind 4 with Vars", impl.Act{Kind: 4, Vars: right}, impl.ErrForm},
		{"Kind -1", impl.Act{Kind: -1}, impl.ErrForm},
		{"Kind far below", impl.Act{Kind: math.MinInt64}, impl.ErrForm},
		{"Kind far above", impl.Act{Kind: 1<<32 + 1, Vars: right}, impl.ErrForm},
		{"a message with Vars", impl.Act{Kind: 2, At: 5, Vars: right}, impl.ErrForm},
		{"ticks with Vars", impl.Act{Kind: 3, At: 5, Vars: right}, impl.ErrForm},
		{"a message with one of Vars", impl.Act{Kind: 2, At: 5, Vars: right[:1]}, impl.ErrForm},
		{"a task without Vars", impl.Act{Kind: 1, At: 5}, impl.ErrMany},
		{"a task with too few", impl.Act{Kind: 1, At: 5, Vars: right[:3]}, impl.ErrMany},
		{"a task with too many", impl.Act{Kind: 1, At: 5, Vars: []int64{1, 2, 3, 4, 5}}, impl.ErrMany},
		{"a task with Vars at their bounds", impl.Act{Kind: 1, At: 5, Vars: []int64{1000000, -1000000, 0, 0}}, 0},
		{"a task with one above", impl.Act{Kind: 1, At: 5, Vars: []int64{0, 0, 0, 1000001}}, impl.ErrRange},
		{"a task with one below", impl.Act{Kind: 1, At: 5, Vars: []int64{-1000001, 0, 0, 0}}, impl.ErrRange},
		// Kind and Vars are asked ahead of At, and that ahead of what the Vars are.
		{"Kind 0 at -1", impl.Act{At: -1}, impl.ErrForm},
		{"a message -1 with Vars", impl.Act{Kind: 2, At: -1, Vars: right}, impl.ErrForm},
		{"10000 ticks with Vars", impl.Act{Kind: 3, At: 10000, Vars: right[:2]}, impl.ErrForm},
		{"a task at -1 without Vars", impl.Act{Kind: 1, At: -1}, impl.ErrRange},
		{"a task with too many, one above", impl.Act{Kind: 1, Vars: []int64{0, 0, 0, 0, 1000001}}, impl.ErrMany},
	} {
		if got := impl.ActFault(c.a); got != c.want {
			t.Errorf("ActFault of %s = %d, want %d", c.why, got, c.want)
		}
	}
}

// slowActFault tells it once more.
func slowActFault(a impl.Act) int64 {
	switch {
	case !slices.Contains([]int64{1, 2, 3}, a.Kind):
		return impl.ErrForm
	case len(a.Vars) != 0 && a.Kind != 1:
		return impl.ErrForm
	case a.At != min(max(a.At, 0), 9999):
		return impl.ErrRange
	case a.Kind == 1:
		return impl.VarsFault(a.Vars)
	}
	return 0
}

func TestActFaultOfEach(t *testing.T) {
	count := map[int64]int{}
	lists := [][]int64{nil, {}, {0}, {1, 2, 3}, {1, 2, 3, 4}, {0, 0, 0, 0, 0}, {1000001, 0, 0, 0}, {0, 0, 0, -1000001}, {1000000, -1000000, 0, 0}}
	for kind := int64(-2); kind <= 6; kind++ {
		for _, number := range []int64{math.MinInt64, -10000, -1, 0, 1, 9, 10, 9998, 9999, 10000, 1 << 32, math.MaxInt64} {
			for _, vars := range lists {
				a := impl.Act{Kind: kind, At: number, Vars: vars}
				want := slowActFault(a)
				count[want]++
				if got := impl.ActFault(a); got != want {
					t.Errorf("ActFault(%v) = %d, want %d", a, got, want)
				}
			}
		}
	}
	if len(count) != 4 {
		t.Error(count)
	}
}

func TestNodeFor(t *testing.T) {
	for _, c := range []struct {
		why, text string
		// The node of each step, or -1.
		nodes []int64
	}{
		{"a task", `<task name="a"/>`, []int64{1}},
		{"a wait", `<wait msg="1"/>`, []int64{1}},
		{"a timer", `<timer ticks="1"/>`, []int64{1}},
		{"a set", `<set var="1" to="1"/>`, []int64{1}},
		{"a choice", `<xor><task if="(v0=1)" name="a"/><task name="b"/></xor>`, []int64{1, 2, 3}},
		{"an and", `<and><task name="a"/><task name="b"/></and>`, []int64{1, 2, 3}},
		{"a guard", `<guard ticks="1"><task name="a"/><task name="b"/></guard>`, []int64{1, 2, 4}},
		{"a seq, which has none", `<seq><task name="a"/></seq>`, []int64{-1, 1}},
		{"a seq of each", `<seq><task name="a"/><wait msg="1"/><timer ticks="1"/><set var="1" to="1"/></seq>`, []int64{-1, 1, 2, 3, 4}},
		{"seqs in seqs", `<seq><seq><seq><task name="a"/></seq><timer ticks="1"/></seq><wait msg="1"/></seq>`, []int64{-1, -1, -1, 1, 2, 3}},
		{"a task behind a choice", `<seq><xor><task if="(v0=1)" name="a"/><seq><task name="b"/></seq></xor><task name="c"/></seq>`, []int64{-1, 1, 2, -1, 3, 5}},
		{"guards in guards", `<guard ticks="2"><guard ticks="1"><task name="a"/><task name="b"/></guard><guard ticks="3"><seq><wait msg="1"/></seq><set var="0" to="2"/></guard></guard>`, []int64{1, 2, 3, 5, 8, -1, 9, 11}},
		{"ands in ands", `<and><and><task name="a"/><task name="b"/></and><and><task name="c"/><task name="d"/></and></and>`, []int64{1, 2, 3, 4, 6, 7, 8}},
	} {
		p := readProc(t, c.text)
		for step, node := range c.nodes {
			want := impl.IntResult{Value: node}
			if node < 0 {
				want = impl.IntResult{Code: impl.ErrNone}
			}
			if got := impl.NodeFor(p, int64(step)); got != want {
				t.Errorf("%s: NodeFor the step %d = %v, want %v", c.why, step, got, want)
			}
		}
		for _, step := range []int64{math.MinInt64, -2, -1, int64(len(p)), int64(len(p)) + 1, 24, 1 << 32, math.MaxInt64} {
			if got := impl.NodeFor(p, step); got != (impl.IntResult{Code: impl.ErrRange}) {
				t.Errorf("%s: NodeFor %d, which is no place = %v", c.why, step, got)
			}
		}
	}
}

// slowNodeFor tells it once more, of a process without a fault: -1 where there is none.
func slowNodeFor(p []impl.Step, step int64) int64 {
	if step < 0 || step >= int64(len(p)) || p[step].Kind == impl.StepSeq {
		return -1
	}
	return int64(lay(p).first[step])
}

// Promise 11: the node of a step is one of it, and none ahead is.
func TestNodesOfSteps(t *testing.T) {
	rnd := rand.New(rand.NewSource(80))
	procs := [][]impl.Step{wideProc(), fullGuards(), sidesOf(impl.StepAnd, 23), sidesOf(impl.StepXor, 23), seqOf(24), nestOf(7), orderProc()}
	for range 1500 {
		procs = append(procs, greatProc(rnd))
	}
	count := map[int64]int{}
	for _, p := range procs {
		g := impl.GraphOf(p).Graph
		last := len(g.Nodes) - 1
		for step, s := range p {
			got := impl.NodeFor(p, int64(step))
			count[got.Code]++
			first := slices.IndexFunc(g.Nodes[1:last], func(n impl.GNode) bool { return n.Step == int64(step) }) + 1
			if s.Kind == impl.StepSeq {
				if got != (impl.IntResult{Code: impl.ErrNone}) || first != 0 {
					t.Fatalf("of %s: NodeFor the seq %d = %v", impl.ProcText(p).Text, step, got)
				}
				continue
			}
			if got.Code != 0 || got.Value != int64(first) || first == 0 || got.Value != slowNodeFor(p, int64(step)) {
				t.Fatalf("of %s: NodeFor %d = %v, want %d", impl.ProcText(p).Text, step, got, first)
			}
			count[g.Nodes[got.Value].Kind+100]++
		}
	}
	// Start, end, join, meet, close and merge are the first of none.
	if len(count) != 9 {
		t.Error(count)
	}
}

// tellState is what a run and a chart tell alike: Status and Now, the variables, the steps that are open, and the steps with their dues.
func tellState(status, now int64, vars, open []int64, dues []string) string {
	if status < 1 || status > 3 {
		return "no state"
	}
	told := tellNumbers(open)
	if told == "" {
		told = "-"
	}
	if len(dues) == 0 {
		dues = []string{"-"}
	}
	first := []string{"live", "ended", "failed"}[status-1] + " " + strconv.FormatInt(now, 10)
	return strings.Join([]string{first, tellNumbers(vars), told, strings.Join(dues, " ")}, " | ")
}

func tellDue(step, due int64) string {
	return strconv.FormatInt(step, 10) + ":" + strconv.FormatInt(due, 10)
}

func tellPlayedRun(p []impl.Step, r impl.Run) string {
	g := slowGraphOf(p)
	if len(r.Marks) != len(g.Flows) || len(r.Dues) != len(g.Nodes) {
		return "no run"
	}
	var open []int64
	for _, node := range slowOpen(g, r) {
		open = append(open, g.Nodes[node].Step)
	}
	var dues []string
	for node, due := range r.Dues {
		if due != 0 {
			dues = append(dues, tellDue(g.Nodes[node].Step, due))
		}
	}
	return tellState(r.Status, r.Now, r.Vars, open, dues)
}

func tellPlayedChart(p []impl.Step, c impl.Chart) string {
	if len(c.Acts) != len(p) || len(c.Dues) != len(p) {
		return "no chart"
	}
	var dues []string
	for step, due := range c.Dues {
		if due != 0 {
			dues = append(dues, tellDue(int64(step), due))
		}
	}
	return tellState(c.Status, c.Now, c.Vars, slowOpenSteps(p, c), dues)
}

// readAct reads "done", "mail" or "tick" and a number, with variables behind a ":".
func readAct(t *testing.T, line string) impl.Act {
	t.Helper()
	told, behind, _ := strings.Cut(line, ":")
	words := strings.Fields(told)
	kind := map[string]int64{"done": impl.ActDone, "mail": impl.ActMail, "tick": impl.ActTick}[words[0]]
	if kind == 0 {
		t.Fatalf("%q is no act", line)
	}
	return impl.Act{Kind: kind, At: readNumbers(t, words[1:])[0], Vars: readNumbers(t, strings.Fields(behind))}
}

// playCase is a process as it is written, and the acts that are played: each line has behind "=>" what is told then, by tokens and by blocks, or a code, with which all stays as it was. The first line is the start.
type playCase struct {
	why, text string
	lines     []string
}

// askPlayCases plays the acts up to each one.
func askPlayCases(t *testing.T, cases []playCase) {
	t.Helper()
	for _, c := range cases {
		p := readProc(t, c.text)
		begin, state, _ := strings.Cut(c.lines[0], " => ")
		number, behind, _ := strings.Cut(begin, ":")
		now, vars := readNumbers(t, strings.Fields(number)[1:])[0], readNumbers(t, strings.Fields(behind))
		var acts []impl.Act
		var codes []int64
		for i, line := range c.lines {
			if i > 0 {
				told, want, _ := strings.Cut(line, " => ")
				acts = append(acts, readAct(t, told))
				if code, has := strings.CutPrefix(want, "code "); has {
					codes = append(codes, readNumbers(t, []string{code})[0])
				} else {
					codes, state = append(codes, 0), want
				}
			}
			run, chart := impl.PlayRun(p, vars, now, acts), impl.PlayChart(p, vars, now, acts)
			if told := tellPlayedRun(p, run.Run); run.Code != 0 || !slices.Equal(run.Codes, codes) || told != state || !reflect.DeepEqual(run.Chart, impl.Chart{}) {
				t.Errorf("%s: %s: by tokens %s with the codes %v, want %s with %v", c.why, line, told, run.Codes, state, codes)
			}
			if told := tellPlayedChart(p, chart.Chart); chart.Code != 0 || !slices.Equal(chart.Codes, codes) || told != state || !reflect.DeepEqual(chart.Run, impl.Run{}) {
				t.Errorf("%s: %s: by blocks %s with the codes %v, want %s with %v", c.why, line, told, chart.Codes, state, codes)
			}
			if !impl.AlikeRight(p, run.Run, chart.Chart) {
				t.Errorf("%s: %s: %v and %v are not alike", c.why, line, run.Run, chart.Chart)
			}
		}
	}
}

func TestPlaysOfLoneSteps(t *testing.T) {
	askPlayCases(t, []playCase{
		{"a task", `<task name="a"/>`, []string{
			"start 0: 5 0 0 0 => live 0 | 5 0 0 0 | 0 | -",
			"mail 1 => code 4",
			"tick 4 => live 4 | 5 0 0 0 | 0 | -",
			"done 1: 1 2 3 4 => code 4",
			"done 0: 1 2 3 4 => ended 4 | 1 2 3 4 | - | -",
			"done 0: 9 9 9 9 => code 4",
		}},
		{"a wait", `<wait msg="9"/>`, []string{
			"start 7: 0 0 0 1 => live 7 | 0 0 0 1 | 0 | -",
			"done 0: 0 0 0 0 => code 4",
			"mail 8 => code 4",
			"mail 10 => code 3",
			"mail 9999 => code 3",
			"mail 9 => ended 7 | 0 0 0 1 | - | -",
			"mail 9 => code 4",
			"mail 10 => code 3",
		}},
		{"a wait for 0", `<wait msg="0"/>`, []string{
			"start 7: 0 0 0 1 => live 7 | 0 0 0 1 | 0 | -",
			"mail 1 => code 4",
			"mail 0 => ended 7 | 0 0 0 1 | - | -",
		}},
		{"a timer", `<timer ticks="99"/>`, []string{
			"start 1: 0 0 0 0 => live 1 | 0 0 0 0 | 0 | 0:100",
			"done 0: 1 1 1 1 => code 4",
			"mail 0 => code 4",
			"tick 0 => live 1 | 0 0 0 0 | 0 | 0:100",
			"tick 90 => live 91 | 0 0 0 0 | 0 | 0:100",
			"tick 8 => live 99 | 0 0 0 0 | 0 | 0:100",
			"tick 1 => ended 100 | 0 0 0 0 | - | -",
			"tick 9999 => ended 10099 | 0 0 0 0 | - | -",
		}},
		{"a timer that is passed by far", `<timer ticks="1"/>`, []string{
			"start 1: 0 0 0 0 => live 1 | 0 0 0 0 | 0 | 0:2",
			"tick 9999 => ended 10000 | 0 0 0 0 | - | -",
		}},
		{"a set", `<set var="3" to="(v0+2)"/>`, []string{
			"start 1: 5 0 0 9 => ended 1 | 5 0 0 7 | - | -",
			"done 0: 1 1 1 1 => code 4",
			"mail 1 => code 4",
			"tick 3 => ended 4 | 5 0 0 7 | - | -",
		}},
	})
}

// eachStep has a step of each kind: 0 seq, 1 task, 2 xor, 3 wait, 4 timer, 5 and, 6 set, 7 guard, 8 task, 9 seq, 10 set.
const eachStep = `<seq><task name="a"/><xor><wait if="(v0=1)" msg="3"/><timer ticks="4"/></xor><and><set var="1" to="(v0+2)"/><guard ticks="5"><task name="b"/><seq><set var="2" to="8"/></seq></guard></and></seq>`

func TestPlaysOfEachKind(t *testing.T) {
	askPlayCases(t, []playCase{
		{"by the wait, and past the guard", eachStep, []string{
			"start 0: 0 0 0 0 => live 0 | 0 0 0 0 | 1 | -",
			"mail 3 => code 4",
			"tick 2 => live 2 | 0 0 0 0 | 1 | -",
			"done 1: 1 0 0 0 => live 2 | 1 0 0 0 | 3 | -",
			"done 1: 2 0 0 0 => code 4",
			"mail 10 => code 3",
			"mail 2 => code 4",
			"mail 3 => live 2 | 1 3 0 0 | 8 | 7:7",
			"tick 4 => live 6 | 1 3 0 0 | 8 | 7:7",
			"tick 1 => ended 7 | 1 3 8 0 | - | -",
			"done 8: 0 0 0 0 => code 4",
			"tick 1 => ended 8 | 1 3 8 0 | - | -",
		}},
		{"by the timer, and over in time", eachStep, []string{
			"start 100: 1 0 0 0 => live 100 | 1 0 0 0 | 1 | -",
			"done 1: 2 0 0 0 => live 100 | 2 0 0 0 | 4 | 4:104",
			"mail 3 => code 4",
			"done 4: 0 0 0 0 => code 4",
			"tick 3 => live 103 | 2 0 0 0 | 4 | 4:104",
			"tick 3 => live 106 | 2 4 0 0 | 8 | 7:111",
			"tick 4 => live 110 | 2 4 0 0 | 8 | 7:111",
			"done 8: 6 6 6 6 => ended 110 | 6 6 6 6 | - | -",
		}},
		{"past the timer and the guard by far", eachStep, []string{
			"start 0: 0 0 0 0 => live 0 | 0 0 0 0 | 1 | -",
			"done 1: 0 0 0 0 => live 0 | 0 0 0 0 | 4 | 4:4",
			// What is entered in a tick has its time from then on.
			"tick 9999 => live 9999 | 0 2 0 0 | 8 | 7:10004",
			"tick 9999 => ended 19998 | 0 2 8 0 | - | -",
		}},
		{"steps that are no open tasks, with a node and without one, and no steps", eachStep, []string{
			"start 0: 0 0 0 0 => live 0 | 0 0 0 0 | 1 | -",
			"done 0: 1 1 1 1 => code 4",
			"done 2: 1 1 1 1 => code 4",
			"done 3: 1 1 1 1 => code 4",
			"done 4: 1 1 1 1 => code 4",
			"done 5: 1 1 1 1 => code 4",
			"done 6: 1 1 1 1 => code 4",
			"done 7: 1 1 1 1 => code 4",
			"done 8: 1 1 1 1 => code 4",
			"done 9: 1 1 1 1 => code 4",
			"done 10: 1 1 1 1 => code 4",
			"done 11: 1 1 1 1 => code 4",
			"done 12: 1 1 1 1 => code 4",
			"done 9999: 1 1 1 1 => code 4",
			"done 1: 1 1 1 1 => live 0 | 1 1 1 1 | 3 | -",
			"done 0: 2 2 2 2 => code 4",
			"done 11: 2 2 2 2 => code 4",
			"mail 3 => live 0 | 1 3 1 1 | 8 | 7:5",
			"done 9: 3 3 3 3 => code 4",
			"done 0: 3 3 3 3 => code 4",
			"done 8: 3 3 3 3 => ended 0 | 3 3 3 3 | - | -",
		}},
	})
}

// Nodes have other numbers than steps: whoever takes one for the other does another task, or none.
func TestPlaysOfStepsNotOfNodes(t *testing.T) {
	askPlayCases(t, []playCase{
		{"an and", `<and><task name="a"/><task name="b"/><task name="c"/></and>`, []string{
			"start 0: 0 0 0 0 => live 0 | 0 0 0 0 | 1 2 3 | -",
			"done 2: 2 0 0 0 => live 0 | 2 0 0 0 | 1 3 | -",
			"done 0: 7 0 0 0 => code 4",
			"done 4: 7 0 0 0 => code 4",
			"done 3: 3 0 0 0 => live 0 | 3 0 0 0 | 1 | -",
			"done 1: 1 0 0 0 => ended 0 | 1 0 0 0 | - | -",
		}},
		{"seqs in seqs", `<seq><seq><seq><and><task name="a"/><task name="b"/></and></seq></seq><task name="c"/></seq>`, []string{
			"start 0: 0 0 0 0 => live 0 | 0 0 0 0 | 4 5 | -",
			// The tasks are the nodes 2, 3 and 5.
			"done 2: 7 0 0 0 => code 4",
			"done 3: 7 0 0 0 => code 4",
			"done 1: 7 0 0 0 => code 4",
			"done 0: 7 0 0 0 => code 4",
			"done 5: 5 0 0 0 => live 0 | 5 0 0 0 | 4 | -",
			"done 4: 4 0 0 0 => live 0 | 4 0 0 0 | 6 | -",
			"done 5: 7 0 0 0 => code 4",
			"done 6: 6 0 0 0 => ended 0 | 6 0 0 0 | - | -",
		}},
		{"guards in an and", `<and><guard ticks="5"><task name="a"/><task name="b"/></guard><guard ticks="6"><task name="c"/><task name="d"/></guard></and>`, []string{
			"start 0: 0 0 0 0 => live 0 | 0 0 0 0 | 2 5 | 1:5 4:6",
			"done 3: 7 0 0 0 => code 4",
			"done 5: 5 0 0 0 => live 0 | 5 0 0 0 | 2 | 1:5",
			"tick 6 => live 6 | 5 0 0 0 | 3 | -",
			"done 2: 7 0 0 0 => code 4",
			"done 3: 3 0 0 0 => ended 6 | 3 0 0 0 | - | -",
		}},
	})
}

func TestPlaysThatFail(t *testing.T) {
	askPlayCases(t, []playCase{
		{"a set at once", `<seq><set var="0" to="5"/><set var="2" to="(v0/v1)"/><task name="a"/></seq>`, []string{
			"start 9: 1 0 2 3 => failed 9 | 5 0 2 3 | - | -",
			"done 3: 1 1 1 1 => code 4",
			"done 0: 1 1 1 1 => code 4",
			"mail 1 => code 4",
			"mail 10 => code 3",
			"tick 0 => failed 9 | 5 0 2 3 | - | -",
			"tick 9999 => failed 10008 | 5 0 2 3 | - | -",
		}},
		{"a set behind a task", `<and><timer ticks="5"/><seq><task name="a"/><set var="1" to="(9/v0)"/></seq></and>`, []string{
			"start 0: 0 0 0 0 => live 0 | 0 0 0 0 | 1 3 | 1:5",
			"tick 4 => live 4 | 0 0 0 0 | 1 3 | 1:5",
			"done 3: 0 5 6 7 => failed 4 | 0 5 6 7 | - | -",
			"done 3: 1 5 6 7 => code 4",
			"tick 1 => failed 5 | 0 5 6 7 | - | -",
			"mail 0 => code 4",
		}},
		{"a set above the bounds", `<seq><wait msg="1"/><set var="1" to="(v0+1)"/></seq>`, []string{
			"start 0: 1000000 0 0 0 => live 0 | 1000000 0 0 0 | 1 | -",
			"mail 1 => failed 0 | 1000000 0 0 0 | - | -",
			"mail 1 => code 4",
		}},
		{"a choice at once", `<xor><task if="((1/v0)=1)" name="a"/><task name="b"/></xor>`, []string{
			"start 0: 0 0 0 0 => failed 0 | 0 0 0 0 | - | -",
			"done 1: 1 1 1 1 => code 4",
			"done 2: 1 1 1 1 => code 4",
			"tick 1 => failed 1 | 0 0 0 0 | - | -",
		}},
		{"a choice behind a timer", `<and><seq><timer ticks="3"/><xor><task if="(v1=1)" name="a"/><task if="((1/v0)=1)" name="b"/><task name="c"/></xor></seq><guard ticks="9"><task name="d"/><wait msg="1"/></guard></and>`, []string{
			"start 0: 0 0 0 0 => live 0 | 0 0 0 0 | 2 8 | 2:3 7:9",
			"tick 3 => failed 3 | 0 0 0 0 | - | -",
			"done 8: 0 0 0 0 => code 4",
			"tick 6 => failed 9 | 0 0 0 0 | - | -",
		}},
		{"a choice whose later Cond would have an error", `<seq><xor><task if="(v1=1)" name="a"/><task if="((1/v0)=1)" name="b"/><task name="c"/></xor><task name="d"/></seq>`, []string{
			"start 0: 0 1 0 0 => live 0 | 0 1 0 0 | 2 | -",
			"done 2: 0 0 0 0 => live 0 | 0 0 0 0 | 5 | -",
		}},
		// All of the first side ahead of the second one, so the error comes behind one set and ahead of the other.
		{"a side of an and", `<seq><task name="a"/><and><seq><set var="1" to="2"/><set var="2" to="(1/v0)"/></seq><set var="3" to="4"/></and></seq>`, []string{
			"start 0: 0 0 0 0 => live 0 | 0 0 0 0 | 1 | -",
			"done 1: 0 0 0 0 => failed 0 | 0 2 0 0 | - | -",
		}},
	})
}

func TestPlaysInTime(t *testing.T) {
	askPlayCases(t, []playCase{
		{"up to MaxTime and above it", `<timer ticks="99"/>`, []string{
			"start 999990: 0 0 0 0 => live 999990 | 0 0 0 0 | 0 | 0:1000089",
			"tick 11 => code 3",
			"tick 9999 => code 3",
			"tick 9 => live 999999 | 0 0 0 0 | 0 | 0:1000089",
			"tick 2 => code 3",
			"tick 1 => live 1000000 | 0 0 0 0 | 0 | 0:1000089",
			"tick 1 => code 3",
			"tick 0 => live 1000000 | 0 0 0 0 | 0 | 0:1000089",
		}},
		{"from MaxTime on", `<seq><task name="a"/><guard ticks="1"><task name="b"/><task name="c"/></guard></seq>`, []string{
			"start 1000000: 0 0 0 0 => live 1000000 | 0 0 0 0 | 1 | -",
			"tick 1 => code 3",
			"done 1: 1 0 0 0 => live 1000000 | 1 0 0 0 | 3 | 2:1000001",
			"tick 1 => code 3",
			"tick 0 => live 1000000 | 1 0 0 0 | 3 | 2:1000001",
			"done 3: 2 0 0 0 => ended 1000000 | 2 0 0 0 | - | -",
			"tick 1 => code 3",
			"tick 0 => ended 1000000 | 2 0 0 0 | - | -",
		}},
		{"a timer that is over at MaxTime", `<seq><timer ticks="5"/><wait msg="1"/></seq>`, []string{
			"start 990001: 0 0 0 0 => live 990001 | 0 0 0 0 | 1 | 1:990006",
			"tick 9999 => live 1000000 | 0 0 0 0 | 2 | -",
			"tick 9999 => code 3",
			"mail 1 => ended 1000000 | 0 0 0 0 | - | -",
		}},
		{"dues that are the same", `<and><timer ticks="4"/><guard ticks="4"><timer ticks="4"/><set var="0" to="(v0+1)"/></guard><guard ticks="5"><timer ticks="4"/><set var="0" to="(v0+1)"/></guard></and>`, []string{
			"start 0: 0 0 0 0 => live 0 | 0 0 0 0 | 1 3 6 | 1:4 2:4 3:4 5:5 6:4",
			// The guard of 4 ticks is asked ahead of what is in it.
			"tick 4 => ended 4 | 1 0 0 0 | - | -",
		}},
		{"the least due first", `<and><seq><timer ticks="3"/><set var="0" to="1"/></seq><seq><timer ticks="2"/><set var="0" to="2"/></seq><seq><timer ticks="3"/><set var="1" to="(v0+5)"/></seq></and>`, []string{
			"start 0: 0 0 0 0 => live 0 | 0 0 0 0 | 2 5 8 | 2:3 5:2 8:3",
			"tick 50 => ended 50 | 1 6 0 0 | - | -",
		}},
		{"guards in guards", `<guard ticks="3"><guard ticks="2"><task name="a"/><timer ticks="1"/></guard><guard ticks="2"><wait msg="1"/><task name="b"/></guard></guard>`, []string{
			"start 0: 0 0 0 0 => live 0 | 0 0 0 0 | 2 | 0:3 1:2",
			"tick 2 => live 2 | 0 0 0 0 | 3 | 0:3 3:3",
			"tick 1 => live 3 | 0 0 0 0 | 5 | 4:5",
			"done 2: 1 1 1 1 => code 4",
			"mail 2 => code 4",
			"tick 2 => live 5 | 0 0 0 0 | 6 | -",
			"mail 1 => code 4",
			"done 6: 1 1 1 1 => ended 5 | 1 1 1 1 | - | -",
		}},
		{"two waits for one message", `<and><seq><task name="a"/><wait msg="1"/></seq><wait msg="1"/><guard ticks="2"><wait msg="1"/><wait msg="1"/></guard></and>`, []string{
			"start 0: 0 0 0 0 => live 0 | 0 0 0 0 | 2 4 6 | 5:2",
			"mail 1 => live 0 | 0 0 0 0 | 2 6 | 5:2",
			"done 2: 0 0 0 0 => live 0 | 0 0 0 0 | 3 6 | 5:2",
			"tick 2 => live 2 | 0 0 0 0 | 3 7 | -",
			"mail 1 => live 2 | 0 0 0 0 | 7 | -",
			"mail 1 => ended 2 | 0 0 0 0 | - | -",
		}},
	})
}

// The document's example of a guard around a task that is not done, and all that both tell of it.
func TestPlayExample(t *testing.T) {
	p := readProc(t, `<guard ticks="3"><task name="a"/><task name="b"/></guard>`)
	acts := []impl.Act{tickAct(3), doneAct(1, 1, 1, 1, 1), doneAct(2, 1, 1, 1, 1)}
	run, chart := impl.PlayRun(p, make([]int64, 4), 0, acts), impl.PlayChart(p, make([]int64, 4), 0, acts)
	wantRun := impl.PlayResult{Codes: []int64{0, impl.ErrNone, 0}, Run: impl.Run{Status: impl.RunEnded, Now: 3, Vars: []int64{1, 1, 1, 1}, Marks: make([]int64, 7), Dues: make([]int64, 7)}}
	wantChart := impl.PlayResult{Codes: []int64{0, impl.ErrNone, 0}, Chart: impl.Chart{Status: impl.RunEnded, Now: 3, Vars: []int64{1, 1, 1, 1}, Acts: make([]int64, 3), Dues: make([]int64, 3)}}
	if !reflect.DeepEqual(run, wantRun) {
		t.Errorf("by tokens %v, want %v", run, wantRun)
	}
	if !reflect.DeepEqual(chart, wantChart) {
		t.Errorf("by blocks %v, want %v", chart, wantChart)
	}
}

// play is what is given to PlayRun and PlayChart.
type play struct {
	p    []impl.Step
	vars []int64
	now  int64
	acts []impl.Act
}

func clonePlay(x play) play {
	return play{cloneProc(x.p), slices.Clone(x.vars), x.now, cloneActs(x.acts)}
}

func (x play) run() impl.PlayResult {
	return impl.PlayRun(x.p, x.vars, x.now, x.acts)
}

func (x play) chart() impl.PlayResult {
	return impl.PlayChart(x.p, x.vars, x.now, x.acts)
}

// askPlayCode asks for a code of both, with nothing beside it; or for as many codes as acts.
func askPlayCode(t *testing.T, why string, x play, want int64) {
	t.Helper()
	for i, got := range []impl.PlayResult{x.run(), x.chart()} {
		told := []string{"PlayRun", "PlayChart"}[i]
		if want != 0 && !reflect.DeepEqual(got, impl.PlayResult{Code: want}) {
			t.Errorf("%s: %s = %v, want the code %d alone", why, told, got, want)
		}
		if want == 0 && (got.Code != 0 || len(got.Codes) != len(x.acts)) {
			t.Errorf("%s: %s = %v, want %d codes", why, told, got, len(x.acts))
		}
	}
}

// basePlay has three acts that have no code.
func basePlay(t *testing.T) play {
	t.Helper()
	p := readProc(t, `<seq><task name="a"/><wait msg="1"/><timer ticks="2"/></seq>`)
	x := play{p, []int64{1, 2, 3, 4}, 5, []impl.Act{doneAct(1, 4, 3, 2, 1), mailAct(1), tickAct(2)}}
	run, chart := x.run(), x.chart()
	if !slices.Equal(run.Codes, make([]int64, 3)) || !slices.Equal(chart.Codes, make([]int64, 3)) || run.Run.Status != impl.RunEnded || chart.Chart.Status != impl.RunEnded {
		t.Fatalf("%v and %v", run, chart)
	}
	return x
}

func TestPlaysOfManyActs(t *testing.T) {
	base := basePlay(t)
	for _, c := range []struct {
		why  string
		acts []impl.Act
		want int64
	}{
		{"no acts", nil, 0},
		{"a list of no acts", []impl.Act{}, 0},
		{"one act", slices.Repeat([]impl.Act{tickAct(1)}, 1), 0},
		{"29 acts", slices.Repeat([]impl.Act{tickAct(1)}, 29), 0},
		{"30 acts", slices.Repeat([]impl.Act{tickAct(1)}, 30), 0},
		{"31 acts", slices.Repeat([]impl.Act{tickAct(1)}, 31), impl.ErrMany},
		{"32 acts", slices.Repeat([]impl.Act{tickAct(1)}, 32), impl.ErrMany},
		{"500 acts", slices.Repeat([]impl.Act{tickAct(1)}, 500), impl.ErrMany},
		{"30 acts with a code each", slices.Repeat([]impl.Act{mailAct(9)}, 30), 0},
		{"31 acts with a code each", slices.Repeat([]impl.Act{mailAct(9)}, 31), impl.ErrMany},
		// How many there are is asked ahead of each of them.
		{"31 acts of Kind 0", slices.Repeat([]impl.Act{{}}, 31), impl.ErrMany},
		{"31 acts at -1", slices.Repeat([]impl.Act{tickAct(-1)}, 31), impl.ErrMany},
		{"30 acts of Kind 0", slices.Repeat([]impl.Act{{}}, 30), impl.ErrForm},
		{"30 acts, the last one at 10000", append(slices.Repeat([]impl.Act{tickAct(1)}, 29), tickAct(10000)), impl.ErrRange},
	} {
		x := base
		x.acts = c.acts
		askPlayCode(t, c.why, x, c.want)
	}
	// No acts: what the start comes to.
	x := base
	x.acts = nil
	if got, want := x.run(), impl.StartRun(slowGraphOf(x.p), x.vars, x.now); !impl.SameRuns(got.Run, want.Run) || got.Run.Status != impl.RunLive || len(got.Codes) != 0 {
		t.Errorf("no acts: %v, want %v", got, want)
	}
	if got, want := x.chart(), impl.StartChart(x.p, x.vars, x.now); !impl.SameCharts(got.Chart, want.Chart) || got.Chart.Status != impl.RunLive || len(got.Codes) != 0 {
		t.Errorf("no acts: %v, want %v", got, want)
	}
	// 30 acts, all of which count: each is done once, in its order.
	x = play{seqOf(24), make([]int64, 4), 0, nil}
	var want []int64
	for i := range int64(23) {
		x.acts = append(x.acts, doneAct(i+1, i, i, i, i))
		want = append(want, 0)
		if i%4 == 0 {
			x.acts = append(x.acts, doneAct(0, 9, 9, 9, 9))
			want = append(want, impl.ErrNone)
		}
	}
	x.acts, want = append(x.acts, tickAct(7)), append(want, 0)
	run, chart := x.run(), x.chart()
	if len(want) != 30 || !slices.Equal(run.Codes, want) || !slices.Equal(chart.Codes, want) {
		t.Errorf("30 acts: the codes %v and %v, want %v", run.Codes, chart.Codes, want)
	}
	if run.Run.Status != impl.RunEnded || run.Run.Now != 7 || run.Run.Vars[0] != 22 || !impl.AlikeRight(x.p, run.Run, chart.Chart) {
		t.Errorf("30 acts: %v and %v", run, chart)
	}
}

func TestPlaysOfWrongStarts(t *testing.T) {
	base := basePlay(t)
	zero := make([]int64, 4)
	for _, c := range []struct {
		why  string
		vars []int64
		now  int64
		want int64
	}{
		{"now 0", zero, 0, 0},
		{"now MaxTime", zero, 1000000, 0},
		{"now one more", zero, 1000001, impl.ErrRange},
		{"now below 0", zero, -1, impl.ErrRange},
		{"now far below", zero, math.MinInt64, impl.ErrRange},
		{"now far above", zero, math.MaxInt64, impl.ErrRange},
		{"variables at their bounds", []int64{1000000, -1000000, 1000000, -1000000}, 0, 0},
		{"a variable above", []int64{0, 0, 0, 1000001}, 0, impl.ErrRange},
		{"a variable below", []int64{-1000001, 0, 0, 0}, 0, impl.ErrRange},
		{"no variables", nil, 0, impl.ErrMany},
		{"three variables", zero[:3], 0, impl.ErrMany},
		{"five variables", make([]int64, 5), 0, impl.ErrMany},
		{"three variables, and no time", zero[:3], -1, impl.ErrMany},
		{"five variables, one above", []int64{0, 0, 0, 0, 1000001}, 0, impl.ErrMany},
	} {
		for _, acts := range [][]impl.Act{nil, base.acts} {
			askPlayCode(t, c.why, play{base.p, c.vars, c.now, acts}, c.want)
		}
	}
}

func TestPlaysOfWrongActs(t *testing.T) {
	base := basePlay(t)
	for _, c := range []struct {
		why  string
		a    impl.Act
		want int64
	}{
		{"at 0", doneAct(0, 1, 1, 1, 1), 0},
		{"at 9999", doneAct(9999, 1, 1, 1, 1), 0},
		{"a message 9999", mailAct(9999), 0},
		{"9999 ticks", tickAct(9999), 0},
		{"no ticks", tickAct(0), 0},
		{"at -1", doneAct(-1, 1, 1, 1, 1), impl.ErrRange},
		{"at 10000", doneAct(10000, 1, 1, 1, 1), impl.ErrRange},
		{"a message -1", mailAct(-1), impl.ErrRange},
		{"a message 10000", mailAct(10000), impl.ErrRange},
		{"-1 ticks", tickAct(-1), impl.ErrRange},
		{"10000 ticks", tickAct(10000), impl.ErrRange},
		{"ticks far above", tickAct(math.MaxInt64), impl.ErrRange},
		{"Kind 0", impl.Act{}, impl.ErrForm},
		{"Kind 4", impl.Act{Kind: 4}, impl.ErrForm},
		{"no Vars", doneAct(1), impl.ErrMany},
		{"too few", doneAct(1, 1, 2, 3), impl.ErrMany},
		{"too many", doneAct(1, 1, 2, 3, 4, 5), impl.ErrMany},
		{"a variable above", doneAct(1, 0, 0, 0, 1000001), impl.ErrRange},
		{"a variable above, of a step that is no place", doneAct(99, 0, 0, 0, 1000001), impl.ErrRange},
		{"a message with Vars", impl.Act{Kind: impl.ActMail, At: 1, Vars: []int64{1, 2, 3, 4}}, impl.ErrForm},
		{"ticks with Vars", impl.Act{Kind: impl.ActTick, At: 1, Vars: []int64{1, 2, 3, 4}}, impl.ErrForm},
	} {
		for place := range len(base.acts) + 1 {
			x := base
			x.acts = slices.Insert(slices.Clone(base.acts), place, c.a)
			askPlayCode(t, c.why+" behind "+strconv.Itoa(place), x, c.want)
		}
	}
	// Act by act: the first that has a fault tells the code, whichever that is.
	wrong := []impl.Act{{}, tickAct(-1), doneAct(1), doneAct(1, 0, 0, 0, 1000001), impl.Act{Kind: impl.ActMail, Vars: []int64{1}}}
	for _, first := range wrong {
		for _, second := range wrong {
			x := base
			x.acts = []impl.Act{doneAct(1, 4, 3, 2, 1), first, mailAct(1), second}
			askPlayCode(t, "two faults", x, slowActFault(first))
		}
	}
}

func TestPlaysOfWrongProcs(t *testing.T) {
	for why, c := range map[string]struct {
		p    []impl.Step
		want int64
	}{
		"no steps":               {nil, impl.ErrMany},
		"25 steps":               {seqOf(25), impl.ErrMany},
		"8 steps from one up":    {nestOf(8), impl.ErrMany},
		"a kind that is none":    {proc(impl.Step{Parent: -1}), impl.ErrForm},
		"a seq without kids":     {proc(seqAt(-1)), impl.ErrForm},
		"a guard of one kid":     {proc(guardAt(-1, 3), taskAt(0)), impl.ErrForm},
		"a choice without Conds": {proc(xorAt(-1), taskAt(0), taskAt(0)), impl.ErrForm},
		"a timer of 0 ticks":     {proc(timerAt(-1, 0)), impl.ErrRange},
		"a parent that is none":  {proc(taskAt(0)), impl.ErrRange},
		"a task without a name":  {proc(impl.Step{Kind: impl.StepTask, Parent: -1}), impl.ErrText},
		"a set that is a bool":   {proc(setAt(-1, 0, yes())), impl.ErrType},
		"a set of a wrong Expr":  {proc(setAt(-1, 0, nots(17))), impl.ErrMany},
	} {
		for _, x := range []play{
			{c.p, make([]int64, 4), 0, nil},
			{c.p, make([]int64, 4), 0, []impl.Act{tickAct(1)}},
			{c.p, nil, -1, slices.Repeat([]impl.Act{{}}, 31)},
			{c.p, []int64{0, 0, 0, 1000001}, 1000001, []impl.Act{{}}},
		} {
			askPlayCode(t, why, x, c.want)
		}
		for _, step := range []int64{-1, 0, 1, 24, math.MaxInt64, math.MinInt64} {
			if got := impl.NodeFor(c.p, step); got != (impl.IntResult{Code: c.want}) {
				t.Errorf("%s: NodeFor %d = %v, want the code %d", why, step, got, c.want)
			}
		}
		on := bareChart(c.p, 0)
		for at := range on.Acts {
			on.Acts[at] = impl.ActOn
		}
		for _, chart := range []impl.Chart{{}, on, bareChart(c.p, 0)} {
			for _, r := range []impl.Run{{}, {Status: impl.RunEnded, Vars: make([]int64, 4)}} {
				if impl.AlikeRight(c.p, r, chart) {
					t.Errorf("%s: alike", why)
				}
			}
		}
	}
}

// Several faults at once: the one that the document names first tells the code.
func TestPlaysOfSeveralFaults(t *testing.T) {
	vars := func(numbers ...int64) func(x *play) { return func(x *play) { x.vars = numbers } }
	now := func(number int64) func(x *play) { return func(x *play) { x.now = number } }
	put := func(place int, a impl.Act) func(x *play) {
		return func(x *play) {
			x.acts = cloneActs(x.acts)
			x.acts[place] = a
		}
	}
	more := func(x *play) { x.acts = append(cloneActs(x.acts), slices.Repeat([]impl.Act{tickAct(1)}, 28)...) }
	for _, faults := range [][]spoilt[play]{
		{
			{impl.ErrType, func(x *play) { x.p = proc(setAt(-1, 0, yes())) }},
			{impl.ErrMany, vars(1, 2, 3)},
			{impl.ErrRange, now(-1)},
			{impl.ErrMany, more},
			{impl.ErrForm, put(0, impl.Act{})},
			{impl.ErrRange, put(1, tickAct(-1))},
		},
		{
			{impl.ErrText, func(x *play) { x.p = proc(impl.Step{Kind: impl.StepTask, Parent: -1}) }},
			{impl.ErrRange, vars(1, 2, 3, 1000001)},
			{impl.ErrRange, now(1000001)},
			{impl.ErrMany, more},
			{impl.ErrMany, put(0, doneAct(1))},
			{impl.ErrForm, put(2, impl.Act{Kind: 4})},
		},
		{
			{impl.ErrForm, func(x *play) { x.p = proc(seqAt(-1)) }},
			{impl.ErrRange, now(math.MinInt64)},
			{impl.ErrMany, more},
			{impl.ErrRange, put(0, mailAct(10000))},
			{impl.ErrForm, put(1, impl.Act{Kind: impl.ActMail, At: -1, Vars: []int64{1}})},
		},
	} {
		askSeveral(basePlay(t), faults, func(x play, want int64) { askPlayCode(t, "several faults", x, want) })
	}
}

// slowActRun does one act once more.
func slowActRun(p []impl.Step, g impl.Graph, r impl.Run, a impl.Act) impl.RunResult {
	switch {
	case a.Kind == impl.ActDone:
		return slowDone(g, r, slowNodeFor(p, a.At), a.Vars)
	case a.Kind == impl.ActMail && a.At > 9:
		return impl.RunResult{Code: impl.ErrRange}
	case a.Kind == impl.ActMail:
		return slowMail(g, r, a.At)
	case r.Now+a.At > 1000000:
		return impl.RunResult{Code: impl.ErrRange}
	}
	return slowTick(g, r, r.Now+a.At)
}

func slowActChart(p []impl.Step, c impl.Chart, a impl.Act) impl.ChartResult {
	switch {
	case a.Kind == impl.ActDone:
		return slowDoneChart(p, c, a.At, a.Vars)
	case a.Kind == impl.ActMail && a.At > 9:
		return impl.ChartResult{Code: impl.ErrRange}
	case a.Kind == impl.ActMail:
		return slowMailChart(p, c, a.At)
	case c.Now+a.At > 1000000:
		return impl.ChartResult{Code: impl.ErrRange}
	}
	return slowTickChart(p, c, c.Now+a.At)
}

// slowPlayCode is the code of both, told once more.
func slowPlayCode(x play) int64 {
	if fault := slowProcFault(x.p); fault != 0 {
		return fault
	}
	if fault := impl.VarsFault(x.vars); fault != 0 {
		return fault
	}
	if x.now < 0 || x.now > 1000000 {
		return impl.ErrRange
	}
	if len(x.acts) > 30 {
		return impl.ErrMany
	}
	for _, a := range x.acts {
		if fault := slowActFault(a); fault != 0 {
			return fault
		}
	}
	return 0
}

// slowPlay plays it by tokens and by blocks, where it has no code.
func slowPlay(x play) (impl.PlayResult, impl.PlayResult) {
	g := slowGraphOf(x.p)
	run := impl.PlayResult{Run: slowStart(g, x.vars, x.now).Run}
	chart := impl.PlayResult{Chart: slowStartChart(x.p, x.vars, x.now).Chart}
	for _, a := range x.acts {
		nextRun, nextChart := slowActRun(x.p, g, run.Run, a), slowActChart(x.p, chart.Chart, a)
		run.Codes, chart.Codes = append(run.Codes, nextRun.Code), append(chart.Codes, nextChart.Code)
		if nextRun.Code == 0 {
			run.Run = nextRun.Run
		}
		if nextChart.Code == 0 {
			chart.Chart = nextChart.Chart
		}
	}
	return run, chart
}

// slowAlike tells it once more, of a process whose ProcFault is fault: what is open, and what has dues, stands in maps by its step.
func slowAlike(p []impl.Step, fault int64, r impl.Run, c impl.Chart) bool {
	if fault != 0 || slowChartFault(p, fault, c) != 0 {
		return false
	}
	g := slowGraphOf(p)
	if slowRunFault(g, 0, r) != 0 || r.Status != c.Status || r.Now != c.Now || !reflect.DeepEqual(r.Vars, c.Vars) {
		return false
	}
	openRun, openChart := map[int64]int{}, map[int64]int{}
	for _, node := range slowOpen(g, r) {
		openRun[g.Nodes[node].Step]++
	}
	for _, step := range slowOpenSteps(p, c) {
		openChart[step]++
	}
	duesRun, duesChart := map[int64]int64{}, map[int64]int64{}
	for node, due := range r.Dues {
		if due != 0 {
			duesRun[g.Nodes[node].Step] = due
		}
	}
	for step, due := range c.Dues {
		if due != 0 {
			duesChart[int64(step)] = due
		}
	}
	return reflect.DeepEqual(openRun, openChart) && reflect.DeepEqual(duesRun, duesChart)
}

func samePlays(a, b impl.PlayResult) bool {
	return a.Code == b.Code && slices.Equal(a.Codes, b.Codes) && impl.SameRuns(a.Run, b.Run) && impl.SameCharts(a.Chart, b.Chart)
}

// askPlay asks both against what is told once more. Promise 11: a process does the same, told by tokens or by blocks.
func askPlay(t *testing.T, x play) {
	t.Helper()
	run, chart := x.run(), x.chart()
	wantRun, wantChart := slowPlay(x)
	if !samePlays(run, wantRun) {
		t.Fatalf("%v of %s: by tokens %v, want %v", x.acts, impl.ProcText(x.p).Text, run, wantRun)
	}
	if !samePlays(chart, wantChart) {
		t.Fatalf("%v of %s: by blocks %v, want %v", x.acts, impl.ProcText(x.p).Text, chart, wantChart)
	}
	if !slices.Equal(run.Codes, chart.Codes) || len(run.Codes) != len(x.acts) {
		t.Fatalf("%v of %s: the codes %v by tokens, %v by blocks", x.acts, impl.ProcText(x.p).Text, run.Codes, chart.Codes)
	}
	if !impl.AlikeRight(x.p, run.Run, chart.Chart) || !slowAlike(x.p, 0, run.Run, chart.Chart) || tellPlayedRun(x.p, run.Run) != tellPlayedChart(x.p, chart.Chart) {
		t.Fatalf("%v of %s: %s by tokens, %s by blocks", x.acts, impl.ProcText(x.p).Text, tellPlayedRun(x.p, run.Run), tellPlayedChart(x.p, chart.Chart))
	}
}

// pickAct is an act, most often one that the chart waits for.
func pickAct(rnd *rand.Rand, p []impl.Step, c impl.Chart) impl.Act {
	open := slowOpenSteps(p, c)
	step := int64(rnd.Intn(len(p) + 2))
	if len(open) > 0 && rnd.Intn(8) > 0 {
		step = open[rnd.Intn(len(open))]
	}
	kind := []int64{impl.StepTask, impl.StepWait, impl.StepTimer}[rnd.Intn(3)]
	if slices.Contains(open, step) && rnd.Intn(4) > 0 {
		kind = p[step].Kind
	}
	switch {
	case kind == impl.StepTask:
		return doneAct(step, someVars(rnd)...)
	case kind == impl.StepWait && slices.Contains(open, step) && p[step].Kind == kind:
		return mailAct(p[step].Arg)
	case kind == impl.StepWait:
		return mailAct(int64(rnd.Intn(12)))
	}
	more := int64(rnd.Intn(4))
	if due := c.Dues[rnd.Intn(len(p))]; due != 0 && rnd.Intn(2) == 0 {
		more = max(0, due-c.Now+int64(rnd.Intn(3))-1)
	}
	if rnd.Intn(40) == 0 {
		more = int64(rnd.Intn(10000))
	}
	return tickAct(more)
}

// pickPlay is a process, and acts, picked one behind the other.
func pickPlay(rnd *rand.Rand, p []impl.Step, most int, count map[string]int) play {
	now := []int64{0, 1, 100, 999900, 999997, 1000000}[rnd.Intn(6)]
	x := play{p, someVars(rnd), now, nil}
	c := slowStartChart(p, x.vars, now).Chart
	for len(x.acts) < most && (c.Status == impl.RunLive || rnd.Intn(3) == 0) {
		a := pickAct(rnd, p, c)
		x.acts = append(x.acts, a)
		got := slowActChart(p, c, a)
		count[[]string{"done", "mail", "tick"}[a.Kind-1]+" "+strconv.FormatInt(got.Code, 10)]++
		if got.Code == 0 {
			countChart(p, c, got.Chart, count)
			c = got.Chart
		}
	}
	return x
}

// Promise 11, of many processes and acts.
func TestPlaysAreAlike(t *testing.T) {
	rnd := rand.New(rand.NewSource(81))
	count := map[string]int{}
	for i := range 2500 {
		p := greatProc(rnd)
		if i%4 > 0 {
			p = mildProc(rnd, p)
		}
		x := pickPlay(rnd, p, 30, count)
		askPlay(t, x)
		if i%10 > 0 {
			continue
		}
		// And up to each act.
		for n := range x.acts {
			askPlay(t, play{x.p, x.vars, x.now, x.acts[:n]})
		}
	}
	askCounts(t, count, 50, "done 0", "done 4", "mail 0", "mail 3", "mail 4", "tick 0", "tick 3", "live", "ended", "failed", "several gone", "several more", "over")
}

// Promise 11, of each choice of some acts with small processes.
func TestAllPlaysOfSmallProcs(t *testing.T) {
	count := map[int64]int{}
	for _, p := range smallCharts(t) {
		acts := []impl.Act{mailAct(1), tickAct(1), tickAct(2)}
		for step, s := range p {
			if s.Kind == impl.StepTask || s.Kind == impl.StepSeq {
				acts = append(acts, doneAct(int64(step), 0, 2, 0, 0))
			}
		}
		for _, first := range []int64{0, 1, 2} {
			x := play{p, []int64{first, 0, 0, 0}, 0, nil}
			var grow func(left int)
			grow = func(left int) {
				if left == 0 {
					askPlay(t, x)
					count[x.run().Run.Status]++
					return
				}
				for _, a := range acts {
					x.acts = append(x.acts, a)
					grow(left - 1)
					x.acts = x.acts[:len(x.acts)-1]
				}
			}
			grow(3)
		}
	}
	if count[impl.RunLive] < 500 || count[impl.RunEnded] < 500 || count[impl.RunFailed] < 100 {
		t.Error(count)
	}
}

// Processes of the most steps come to their end by the same acts.
func TestPlaysOfTheMostSteps(t *testing.T) {
	for _, p := range [][]impl.Step{wideProc(), fullGuards(), sidesOf(impl.StepAnd, 23), sidesOf(impl.StepXor, 23), seqOf(24), nestOf(7)} {
		for _, last := range []bool{false, true} {
			x := play{p, make([]int64, 4), 0, nil}
			for c := slowStartChart(p, x.vars, 0).Chart; c.Status == impl.RunLive && len(x.acts) < 30; {
				open := slowOpenSteps(p, c)
				step := open[0]
				if last {
					step = open[len(open)-1]
				}
				a := doneAct(step, c.Vars...)
				if len(x.acts)%5 == 4 {
					a = tickAct(1)
				}
				x.acts, c = append(x.acts, a), slowActChart(p, c, a).Chart
			}
			askPlay(t, x)
			if got := x.run().Run.Status; got != impl.RunEnded {
				t.Errorf("of %s: the Status %d behind %d acts", impl.ProcText(p).Text, got, len(x.acts))
			}
		}
	}
}

// twins is a process with a run and a chart of it that are alike, or were.
type twins struct {
	p []impl.Step
	r impl.Run
	c impl.Chart
}

// baseTwins have a guard, a timer, a task and a wait that are open, beside a task that is over: 0 and, 1 guard, 2 seq, 3 task, 4 wait, 5 timer, 6 timer, 7 task, 8 wait, 9 guard, 10 task, 11 task. The second guard is past its due.
func baseTwins(t *testing.T) twins {
	t.Helper()
	p := readProc(t, `<and><guard ticks="9"><seq><task name="a"/><wait msg="1"/></seq><timer ticks="3"/></guard><timer ticks="7"/><task name="b"/><wait msg="2"/><guard ticks="2"><task name="c"/><task name="d"/></guard></and>`)
	x := play{p, []int64{1, 2, 3, 4}, 10, []impl.Act{doneAct(7, 5, 6, 7, 8), tickAct(2)}}
	run, chart := x.run(), x.chart()
	want := "live 12 | 5 6 7 8 | 3 6 8 11 | 1:19 6:17"
	if tellPlayedRun(p, run.Run) != want || tellPlayedChart(p, chart.Chart) != want {
		t.Fatalf("%s and %s", tellPlayedRun(p, run.Run), tellPlayedChart(p, chart.Chart))
	}
	if !impl.AlikeRight(p, run.Run, chart.Chart) {
		t.Fatal("not alike")
	}
	return twins{p, run.Run, chart.Chart}
}

// askTwins asks whether a run and a chart are alike, and of that what is told once more.
func askTwins(t *testing.T, why string, x twins, want bool) {
	t.Helper()
	if got := impl.AlikeRight(x.p, x.r, x.c); got != want || slowAlike(x.p, slowProcFault(x.p), x.r, x.c) != want {
		t.Errorf("%s: AlikeRight = %v of %s and %s", why, got, tellPlayedRun(x.p, x.r), tellPlayedChart(x.p, x.c))
	}
}

func TestAlikeRight(t *testing.T) {
	base := baseTwins(t)
	g := slowGraphOf(base.p)
	// Nodes of steps, and the flows to them.
	flowTo := func(step int64) int {
		node := slowNodeFor(base.p, step)
		return slices.IndexFunc(g.Flows, func(f impl.Flow) bool { return f.To == node })
	}
	nodeOfStep := func(step int64) int { return int(slowNodeFor(base.p, step)) }
	for why, change := range map[string]func(x *twins){
		"the Now of the run":               func(x *twins) { x.r.Now++ },
		"the Now of the chart":             func(x *twins) { x.c.Now++ },
		"a Now ahead of the run":           func(x *twins) { x.r.Now-- },
		"the first variable of the run":    func(x *twins) { x.r.Vars[0]++ },
		"the second variable of the run":   func(x *twins) { x.r.Vars[1]-- },
		"the third variable of the chart":  func(x *twins) { x.c.Vars[2] = 0 },
		"the fourth variable of the chart": func(x *twins) { x.c.Vars[3] = -8 },
		"variables turned":                 func(x *twins) { x.c.Vars[0], x.c.Vars[1] = x.c.Vars[1], x.c.Vars[0] },
		"a task that is over in the chart": func(x *twins) { x.c.Acts[8] = impl.ActOver },
		"a task that is on in the chart":   func(x *twins) { x.c.Acts[7] = impl.ActOn },
		"another kid that is on": func(x *twins) {
			x.c.Acts[3], x.c.Acts[4] = impl.ActIdle, impl.ActOn
		},
		"a token less": func(x *twins) { x.r.Marks[flowTo(8)] = 0 },
		"a token more": func(x *twins) { x.r.Marks[flowTo(4)] = 1 },
		"a token elsewhere": func(x *twins) {
			x.r.Marks[flowTo(3)], x.r.Marks[flowTo(4)] = 0, 1
		},
		"the due of the timer in the run":     func(x *twins) { x.r.Dues[nodeOfStep(6)]++ },
		"the due of the timer in the chart":   func(x *twins) { x.c.Dues[6]-- },
		"the due of the guard in the run":     func(x *twins) { x.r.Dues[nodeOfStep(1)]-- },
		"the due of the guard in the chart":   func(x *twins) { x.c.Dues[1]++ },
		"no due of the guard in the run":      func(x *twins) { x.r.Dues[nodeOfStep(1)] = 0 },
		"a due of the guard that was past it": func(x *twins) { x.r.Dues[nodeOfStep(9)] = 12 },
		"a timer that is not open in the run": func(x *twins) {
			x.r.Marks[flowTo(6)], x.r.Dues[nodeOfStep(6)] = 0, 0
		},
		"a timer that is not open in the chart": func(x *twins) {
			x.c.Acts[6], x.c.Dues[6] = impl.ActOver, 0
		},
		"dues turned in the run": func(x *twins) {
			a, b := nodeOfStep(1), nodeOfStep(6)
			x.r.Dues[a], x.r.Dues[b] = x.r.Dues[b], x.r.Dues[a]
		},
		"a run that has ended": func(x *twins) {
			clear(x.r.Marks)
			clear(x.r.Dues)
			x.r.Status = impl.RunEnded
		},
		"a chart that has ended": func(x *twins) {
			clear(x.c.Acts)
			clear(x.c.Dues)
			x.c.Status = impl.RunEnded
		},
		"a run without a token": func(x *twins) {
			clear(x.r.Marks)
			clear(x.r.Dues)
		},
	} {
		x := twins{base.p, cloneRun(base.r), cloneChart(base.c)}
		change(&x)
		if fault := impl.RunFault(g, x.r); fault != 0 {
			t.Fatalf("%s: the run has the fault %d", why, fault)
		}
		if fault := impl.ChartFault(x.p, x.c); fault != 0 {
			t.Fatalf("%s: the chart has the fault %d", why, fault)
		}
		askTwins(t, why, x, false)
	}
	askTwins(t, "the same", base, true)
	// A token that waits for others is neither open nor has a due, so it may differ.
	more := twins{base.p, cloneRun(base.r), base.c}
	behind := slices.IndexFunc(g.Flows, func(f impl.Flow) bool { return f.From == slowNodeFor(base.p, 8) })
	more.r.Marks[behind] = 1
	if fault := impl.RunFault(g, more.r); fault != 0 || g.Nodes[g.Flows[behind].To].Kind != impl.GMeet || base.r.Marks[behind] != 0 {
		t.Fatalf("a token at the meet: the fault %d", fault)
	}
	askTwins(t, "a token at the meet", more, true)
}

func TestAlikeRightOfEachStatus(t *testing.T) {
	p := readProc(t, eachStep)
	g := slowGraphOf(p)
	for of := int64(1); of <= 3; of++ {
		for other := int64(1); other <= 3; other++ {
			x := twins{p, bareRun(g, 4), bareChart(p, 4)}
			x.r.Status, x.c.Status = of, other
			if other == impl.RunLive {
				x.c = impl.StartChart(p, x.c.Vars, 4).Chart
			}
			if impl.RunFault(g, x.r) != 0 || impl.ChartFault(p, x.c) != 0 {
				t.Fatalf("%v and %v", x.r, x.c)
			}
			askTwins(t, "the Status "+strconv.FormatInt(of, 10)+" and "+strconv.FormatInt(other, 10), x, of == other && of != impl.RunLive)
		}
	}
	// Of those that are not live Now and the variables count as well.
	for status := int64(2); status <= 3; status++ {
		x := twins{p, bareRun(g, 4), bareChart(p, 5)}
		x.r.Status, x.c.Status = status, status
		askTwins(t, "another Now", x, false)
		x.c.Now, x.c.Vars[3] = 4, 1
		askTwins(t, "another variable", x, false)
		x.r.Vars[3] = 1
		askTwins(t, "the same", x, true)
	}
}

// A fault in one of both, or the same one in both.
func TestAlikeRightOfFaults(t *testing.T) {
	base := baseTwins(t)
	type faults map[string]func(x *twins)
	ofRun := faults{
		"a run of Status 0":          func(x *twins) { x.r.Status = 0 },
		"a run of Status 4":          func(x *twins) { x.r.Status = 4 },
		"a run ahead of all time":    func(x *twins) { x.r.Now = -1 },
		"a run behind all time":      func(x *twins) { x.r.Now = 1000001 },
		"a run of three variables":   func(x *twins) { x.r.Vars = x.r.Vars[:3] },
		"a run of five variables":    func(x *twins) { x.r.Vars = append(x.r.Vars, 0) },
		"a run of a variable above":  func(x *twins) { x.r.Vars[0] = 1000001 },
		"a run of a mark less":       func(x *twins) { x.r.Marks = x.r.Marks[:len(x.r.Marks)-1] },
		"a run of a mark more":       func(x *twins) { x.r.Marks = append(x.r.Marks, 0) },
		"a run of a due less":        func(x *twins) { x.r.Dues = x.r.Dues[:len(x.r.Dues)-1] },
		"a run of a due more":        func(x *twins) { x.r.Dues = append(x.r.Dues, 0) },
		"a run of a mark 2":          func(x *twins) { x.r.Marks[0] = 2 },
		"a run of a due of a task":   func(x *twins) { x.r.Dues[slowNodeFor(x.p, 3)] = 13 },
		"a run in which a node goes": func(x *twins) { x.r.Marks[0] = 1 },
		"no run":                     func(x *twins) { x.r = impl.Run{} },
		"a run of far numbers":       func(x *twins) { x.r.Now, x.r.Dues[0] = math.MaxInt64, math.MinInt64 },
		"an ended run with a token":  func(x *twins) { x.r.Status = impl.RunEnded },
	}
	ofChart := faults{
		"a chart of Status 0":                func(x *twins) { x.c.Status = 0 },
		"a chart of Status 4":                func(x *twins) { x.c.Status = 4 },
		"a chart ahead of all time":          func(x *twins) { x.c.Now = -1 },
		"a chart behind all time":            func(x *twins) { x.c.Now = 1000001 },
		"a chart of three variables":         func(x *twins) { x.c.Vars = x.c.Vars[:3] },
		"a chart of five variables":          func(x *twins) { x.c.Vars = append(x.c.Vars, 0) },
		"a chart of a variable above":        func(x *twins) { x.c.Vars[0] = 1000001 },
		"a chart of an act less":             func(x *twins) { x.c.Acts = x.c.Acts[:len(x.c.Acts)-1] },
		"a chart of an act more":             func(x *twins) { x.c.Acts = append(x.c.Acts, 0) },
		"a chart of a due less":              func(x *twins) { x.c.Dues = x.c.Dues[:len(x.c.Dues)-1] },
		"a chart of a due more":              func(x *twins) { x.c.Dues = append(x.c.Dues, 0) },
		"a chart of an act 3":                func(x *twins) { x.c.Acts[7] = 3 },
		"a chart of a due of a task":         func(x *twins) { x.c.Dues[3] = 13 },
		"a chart in which the first is idle": func(x *twins) { x.c.Acts[0] = impl.ActIdle },
		// What is over tells nothing that is open, and is a fault here all the same.
		"a chart in which a kid is idle": func(x *twins) { x.c.Acts[7] = impl.ActIdle },
		"no chart":                       func(x *twins) { x.c = impl.Chart{} },
		"a chart of far numbers":         func(x *twins) { x.c.Now, x.c.Dues[0] = math.MaxInt64, math.MinInt64 },
		"an ended chart with an act":     func(x *twins) { x.c.Status = impl.RunEnded },
	}
	ofBoth := faults{
		"both of Status 0":         func(x *twins) { x.r.Status, x.c.Status = 0, 0 },
		"both of Status 4":         func(x *twins) { x.r.Status, x.c.Status = 4, 4 },
		"both ahead of all time":   func(x *twins) { x.r.Now, x.c.Now = -1, -1 },
		"both behind all time":     func(x *twins) { x.r.Now, x.c.Now = 1000001, 1000001 },
		"both of three variables":  func(x *twins) { x.r.Vars, x.c.Vars = x.r.Vars[:3], x.c.Vars[:3] },
		"both of a variable above": func(x *twins) { x.r.Vars[0], x.c.Vars[0] = 1000001, 1000001 },
		"neither a run nor chart":  func(x *twins) { x.r, x.c = impl.Run{}, impl.Chart{} },
		"another process":          func(x *twins) { x.p = seqOf(12) },
		"no process":               func(x *twins) { x.p = nil },
		"a process with a fault":   func(x *twins) { x.p[3].Name = "" },
		"a process with a step on top": func(x *twins) {
			x.p = append(x.p, taskAt(0))
		},
	}
	for _, all := range []faults{ofRun, ofChart, ofBoth} {
		for why, change := range all {
			x := twins{cloneProc(base.p), cloneRun(base.r), cloneChart(base.c)}
			change(&x)
			askTwins(t, why, x, false)
		}
	}
	askTwins(t, "the same", base, true)
}

// Each run beside each chart of some small processes, with and without a fault.
func TestAlikeRightOfEachPair(t *testing.T) {
	count := map[bool]int{}
	for _, p := range smallCharts(t) {
		g := slowGraphOf(p)
		var runs []impl.Run
		var charts []impl.Chart
		passed := 0
		for status := int64(1); status <= 3; status++ {
			eachRun(g, 1, status, false, []int64{2, 3}, func(r impl.Run) {
				if passed++; slowRunFault(g, 0, r) == 0 || passed%401 == 0 {
					runs = append(runs, cloneRun(r))
				}
			})
			eachChart(p, 1, status, false, []int64{2, 3}, func(c impl.Chart) {
				if passed++; slowChartFault(p, 0, c) == 0 || passed%401 == 0 {
					charts = append(charts, cloneChart(c))
				}
			})
		}
		for _, r := range runs {
			for _, c := range charts {
				want := slowAlike(p, 0, r, c)
				count[want]++
				if got := impl.AlikeRight(p, r, c); got != want {
					t.Fatalf("AlikeRight(%s, %v, %v) = %v", impl.ProcText(p).Text, r, c, got)
				}
			}
		}
	}
	if count[true] < 100 || count[false] < 10000 {
		t.Error(count)
	}
}

// askTwin asks all that the chapter has functions for.
func askTwin(x play, r impl.Run, c impl.Chart, step int64) []any {
	answers := []any{impl.NodeFor(x.p, step), x.run(), x.chart(), impl.AlikeRight(x.p, r, c)}
	for _, a := range x.acts {
		answers = append(answers, impl.ActFault(a))
	}
	return answers
}

// spoilPlay makes one thing of x another one, right or wrong.
func spoilPlay(rnd *rand.Rand, x play) play {
	x = clonePlay(x)
	switch rnd.Intn(8) {
	case 0, 1, 2:
		x.p = spoilProc(rnd, x.p)
	case 3:
		x.now = wildNumber(rnd)
	case 4:
		x.vars = append(x.vars[:rnd.Intn(len(x.vars)+1)], wildNumber(rnd), wildNumber(rnd))
	case 5:
		x.acts = append(x.acts, slices.Repeat([]impl.Act{tickAct(1)}, rnd.Intn(40))...)
	default:
		if len(x.acts) > 0 {
			x.acts[rnd.Intn(len(x.acts))] = impl.Act{Kind: int64(rnd.Intn(5)), At: wildNumber(rnd), Vars: x.vars[:rnd.Intn(len(x.vars)+1)]}
		}
	}
	return x
}

// Promise 1: every function answers at every argument and changes none, with nothing beside a code.
func TestTwinsAnswerAtEachArgument(t *testing.T) {
	rnd := rand.New(rand.NewSource(82))
	count, alike := map[int64]int{}, map[bool]int{}
	for i := range 6000 {
		x := pickPlay(rnd, mildProc(rnd, randomProc(rnd, 1+rnd.Intn(24))), 12, map[string]int{})
		run, chart := slowPlay(x)
		r, c := run.Run, chart.Chart
		for range rnd.Intn(4) {
			x = spoilPlay(rnd, x)
		}
		if i%4 == 0 {
			r = spoilRun(rnd, r)
		}
		if i%4 == 1 {
			c = spoilChart(rnd, c)
		}
		if i%9 == 0 {
			x.p[rnd.Intn(len(x.p))] = impl.Step{Kind: wildNumber(rnd), Parent: wildNumber(rnd), Arg: wildNumber(rnd), Cond: wildExpr(rnd), Expr: wildExpr(rnd)}
		}
		step := wildNumber(rnd)
		before, beforeRun, beforeChart := clonePlay(x), cloneRun(r), cloneChart(c)
		fault, code := slowProcFault(x.p), slowPlayCode(x)
		count[code]++
		wantRun, wantChart := impl.PlayResult{Code: code}, impl.PlayResult{Code: code}
		if code == 0 {
			wantRun, wantChart = slowPlay(x)
		}
		node := impl.IntResult{Code: fault}
		if fault == 0 && (step < 0 || step >= int64(len(x.p))) {
			node.Code = impl.ErrRange
		} else if fault == 0 {
			node.Value = slowNodeFor(x.p, step)
			if node.Value < 0 {
				node = impl.IntResult{Code: impl.ErrNone}
			}
		}
		same := slowAlike(x.p, fault, r, c)
		alike[same]++
		want := []any{node, wantRun, wantChart, same}
		for _, a := range x.acts {
			want = append(want, slowActFault(a))
		}
		if got := askTwin(x, r, c, step); !reflect.DeepEqual(got, want) {
			t.Fatalf("of %v, %v, %v and %d: %v, want %v", x, r, c, step, got, want)
		}
		if !reflect.DeepEqual(x, before) || !reflect.DeepEqual(r, beforeRun) || !reflect.DeepEqual(c, beforeChart) {
			t.Fatalf("changed: %v, %v, %v, before %v, %v, %v", x, r, c, before, beforeRun, beforeChart)
		}
	}
	for _, code := range []int64{impl.OK, impl.ErrForm, impl.ErrMany, impl.ErrRange, impl.ErrText, impl.ErrType} {
		if count[code] < 10 {
			t.Error(count)
		}
	}
	if alike[true] < 1000 || alike[false] < 1000 {
		t.Error(alike)
	}
}

// listsOfPlay is all of the room of each list.
func listsOfPlay(x impl.PlayResult) [][]int64 {
	return append(append(listsOfRun(x.Run), listsOfChart(x.Chart)...), x.Codes[:cap(x.Codes)])
}

func clonePlayed(x impl.PlayResult) impl.PlayResult {
	x.Codes, x.Run, x.Chart = slices.Clone(x.Codes), cloneRun(x.Run), cloneChart(x.Chart)
	return x
}

// roomyActs is acts with room behind them, and behind their Vars.
func roomyActs(acts []impl.Act) []impl.Act {
	acts = append(make([]impl.Act, 0, len(acts)+40), acts...)
	for i := range acts {
		if len(acts[i].Vars) > 0 {
			acts[i].Vars = roomy(acts[i].Vars)
		}
	}
	return acts
}

// Promise 1: what is played is new memory, no two lists of it share any, and neither an argument nor the room behind it is written to.
func TestPlaysAreNewMemory(t *testing.T) {
	p := append(make([]impl.Step, 0, 40), readProc(t, eachStep)...)
	for i := range p {
		p[i].Cond, p[i].Expr = append(make([]impl.Node, 0, 40), p[i].Cond...), append(make([]impl.Node, 0, 40), p[i].Expr...)
	}
	before := cloneProc(p)
	for why, acts := range map[string][]impl.Act{
		"no acts":              nil,
		"an act with a code":   {mailAct(3)},
		"a task":               {doneAct(1, 1, 2, 3, 4)},
		"a task and a message": {doneAct(1, 1, 2, 3, 4), mailAct(3)},
		"ticks":                {doneAct(1, 2, 2, 3, 4), tickAct(4), tickAct(2)},
		"the end":              {doneAct(1, 2, 2, 3, 4), tickAct(4), doneAct(8, 7, 7, 7, 7), mailAct(1)},
	} {
		x := play{p, roomy([]int64{1, 2, 3, 4}), 5, roomyActs(acts)}
		given := [][]int64{x.vars[:cap(x.vars)]}
		for _, a := range x.acts {
			given = append(given, a.Vars[:cap(a.Vars)])
		}
		var kept [][]int64
		for _, list := range given {
			kept = append(kept, slices.Clone(list))
		}
		told := cloneActs(x.acts)
		for _, ask := range []func() impl.PlayResult{x.run, x.chart} {
			first, second := ask(), ask()
			want := clonePlayed(second)
			if first.Code != 0 || !samePlays(first, want) {
				t.Fatalf("%s: %v and %v", why, first, second)
			}
			for i, list := range listsOfPlay(first) {
				for j := range list {
					list[j] = int64(1000 + i)
				}
			}
			for i, list := range listsOfPlay(first) {
				if slices.ContainsFunc(list, func(number int64) bool { return number != int64(1000+i) }) {
					t.Errorf("%s: two lists of one answer share memory", why)
				}
			}
			if !samePlays(second, want) || !samePlays(ask(), want) {
				t.Errorf("%s: two answers share memory", why)
			}
			if !reflect.DeepEqual(given, kept) || !reflect.DeepEqual(x.acts, told) || !reflect.DeepEqual(p, before) {
				t.Errorf("%s: an argument was written to", why)
			}
			for _, a := range x.acts[len(x.acts):cap(x.acts)] {
				if !reflect.DeepEqual(a, impl.Act{}) {
					t.Errorf("%s: behind the acts stands %v", why, a)
				}
			}
			askRoomBehind(t, p)
		}
	}
	base := baseTwins(t)
	r, c := cloneRun(base.r), cloneChart(base.c)
	r.Vars, r.Marks, r.Dues = roomy(r.Vars), roomy(r.Marks), roomy(r.Dues)
	c = roomyChart(c)
	lists := append(listsOfRun(r), listsOfChart(c)...)
	var kept [][]int64
	for _, list := range lists {
		kept = append(kept, slices.Clone(list))
	}
	if !impl.AlikeRight(base.p, r, c) || impl.NodeFor(base.p, 1).Code != 0 || !reflect.DeepEqual(lists, kept) {
		t.Error("AlikeRight writes to an argument")
	}
}

// Promise 1: an answer hangs on the arguments alone, not on what was asked ahead of it, nor on who asks beside it.
func TestTwinsHangOnArgumentsAlone(t *testing.T) {
	rnd := rand.New(rand.NewSource(83))
	type given struct {
		x    play
		r    impl.Run
		c    impl.Chart
		step int64
	}
	var all []given
	var first [][]any
	for i := range 200 {
		x := pickPlay(rnd, mildProc(rnd, randomProc(rnd, 1+rnd.Intn(24))), 30, map[string]int{})
		run, chart := slowPlay(x)
		if i%5 == 0 {
			x = spoilPlay(rnd, x)
		}
		one := given{x, run.Run, chart.Chart, int64(rnd.Intn(len(x.p)))}
		all = append(all, one)
		first = append(first, askTwin(one.x, one.r, one.c, one.step))
	}
	for i := len(all) - 1; i >= 0; i-- {
		one := all[i]
		for range 3 {
			// A clone lies elsewhere, and has more room: no answer hangs on an address or a capacity.
			x := play{cloneProc(one.x.p), roomy(one.x.vars), one.x.now, roomyActs(one.x.acts)}
			if got := askTwin(x, cloneRun(one.r), roomyChart(one.c), one.step); !reflect.DeepEqual(got, first[i]) {
				t.Errorf("%v, and ahead of that %v", got, first[i])
			}
		}
	}
	before := runtime.NumGoroutine()
	var group sync.WaitGroup
	wrong := make([]int, 8)
	for who := range wrong {
		group.Go(func() {
			for i := range all {
				one := all[(i+who*25)%len(all)]
				if got := askTwin(one.x, one.r, one.c, one.step); !reflect.DeepEqual(got, first[(i+who*25)%len(all)]) {
					wrong[who]++
				}
			}
		})
	}
	group.Wait()
	if slices.Max(wrong) > 0 {
		t.Errorf("asked side by side: %v other answers", wrong)
	}
	// Who tells the acts is done when the call answers.
	for range 200 {
		all[0].x.run()
	}
	if now := runtime.NumGoroutine(); now > before+len(wrong) {
		t.Errorf("%d goroutines, ahead of that %d", now, before)
	}
}
