package tests

import (
	"math"
	"math/rand"
	"reflect"
	"slices"
	"strconv"
	"strings"
	"testing"

	"loop.example/g00343/impl"
)

func TestEngineConstants(t *testing.T) {
	if impl.MaxProcs != 3 || impl.MaxInsts != 6 {
		t.Error("a constant is another one")
	}
}

func procsOf(lists ...[]impl.Step) []impl.Proc {
	var procs []impl.Proc
	for _, p := range lists {
		procs = append(procs, impl.Proc{Steps: p})
	}
	return procs
}

func readProcs(t *testing.T, texts ...string) []impl.Proc {
	t.Helper()
	var procs []impl.Proc
	for _, text := range texts {
		procs = append(procs, impl.Proc{Steps: readProc(t, text)})
	}
	return procs
}

func cloneProcs(procs []impl.Proc) []impl.Proc {
	procs = slices.Clone(procs)
	for i := range procs {
		procs[i].Steps = cloneProc(procs[i].Steps)
	}
	return procs
}

func cloneEngine(e impl.Engine) impl.Engine {
	e.Procs, e.Insts = cloneProcs(e.Procs), slices.Clone(e.Insts)
	for i := range e.Insts {
		e.Insts[i].Chart = cloneChart(e.Insts[i].Chart)
	}
	return e
}

// engineCall is what is done to an engine: a "start" of the process at, a "done" of the step number or a "mail" of the message number in the instance at, a "tick" of number, a "drop" of the instance at.
type engineCall struct {
	kind       string
	at, number int64
	vars       []int64
}

func (x engineCall) ask(e impl.Engine) impl.EngineResult {
	switch x.kind {
	case "start":
		return impl.StartInst(e, x.at, x.vars)
	case "done":
		return impl.DoneInst(e, x.at, x.number, x.vars)
	case "mail":
		return impl.MailInst(e, x.at, x.number)
	case "tick":
		return impl.TickEngine(e, x.number)
	case "drop":
		return impl.DropInst(e, x.at)
	}
	panic(x.kind)
}

// readCall reads the word of a call and its numbers, with variables behind a ":".
func readCall(t *testing.T, line string) engineCall {
	t.Helper()
	told, behind, _ := strings.Cut(line, ":")
	words := strings.Fields(told)
	x := engineCall{kind: words[0], vars: readNumbers(t, strings.Fields(behind))}
	numbers := readNumbers(t, words[1:])
	if x.kind == "tick" {
		x.number = numbers[0]
		return x
	}
	x.at = numbers[0]
	if len(numbers) > 1 {
		x.number = numbers[1]
	}
	return x
}

// tellEngine tells all that an engine has beside its processes: the Value and Now, and for each instance its Proc and its chart; or the code alone.
func tellEngine(got impl.EngineResult) string {
	if got.Code != 0 {
		if !reflect.DeepEqual(got, impl.EngineResult{Code: got.Code}) {
			return "a code and an engine"
		}
		return "code " + strconv.FormatInt(got.Code, 10)
	}
	told := strconv.FormatInt(got.Value, 10) + " at " + strconv.FormatInt(got.Engine.Now, 10)
	for _, i := range got.Engine.Insts {
		if i.Proc < 0 || i.Proc >= int64(len(got.Engine.Procs)) {
			return told + "; an instance of nothing"
		}
		told += "; " + strconv.FormatInt(i.Proc, 10) + " " + tellChart(got.Engine.Procs[i.Proc].Steps, impl.ChartResult{Chart: i.Chart})
	}
	return told
}

// engineCase is processes as they are written, and what is done to an engine of them: each line has behind "=>" what tellEngine tells then. With a code the engine stays as it was.
type engineCase struct {
	why   string
	texts []string
	lines []string
}

func askEngineCases(t *testing.T, cases []engineCase) {
	t.Helper()
	for _, c := range cases {
		procs := readProcs(t, c.texts...)
		first := impl.NewEngine(procs)
		if told := tellEngine(first); told != "0 at 0" {
			t.Errorf("%s: NewEngine = %s", c.why, told)
		}
		e := first.Engine
		for _, line := range c.lines {
			told, want, _ := strings.Cut(line, " => ")
			got := readCall(t, told).ask(e)
			if tellEngine(got) != want {
				t.Errorf("%s: %s: %s, want %s", c.why, told, tellEngine(got), want)
			}
			if got.Code == 0 {
				e = got.Engine
			}
			if fault := impl.EngineFault(e); fault != 0 {
				t.Errorf("%s: %s: the fault %d", c.why, told, fault)
			}
			if !reflect.DeepEqual(e.Procs, procs) {
				t.Errorf("%s: %s: other processes %v", c.why, told, e.Procs)
			}
		}
	}
}

const (
	// 0 seq, 1 task, 2 timer.
	taskAndTimer = `<seq><task name="a"/><timer ticks="3"/></seq>`
	// 0 and, 1 wait, 2 task.
	waitBesideTask = `<and><wait msg="1"/><task name="b"/></and>`
	// 0 guard, 1 wait, 2 set: behind 4 ticks it fails where the first variable is 0, and else it ends.
	waitInTime = `<guard ticks="4"><wait msg="1"/><set var="1" to="(9/v0)"/></guard>`
)

func TestEnginesOfOneProcess(t *testing.T) {
	askEngineCases(t, []engineCase{
		{"no instance", []string{taskAndTimer}, []string{
			"tick 0 => 0 at 0",
			"tick 7 => 0 at 7",
			"done 0 1: 0 0 0 0 => code 3",
			"mail 0 1 => code 3",
			"drop 0 => code 3",
			"tick 1000 => 0 at 1007",
		}},
		{"one instance", []string{taskAndTimer}, []string{
			"start 0: 5 0 0 0 => 0 at 0; 0 live 0 | 5 0 0 0 | 110 | -",
			"mail 0 1 => code 4",
			"done 0 2: 1 1 1 1 => code 4",
			"tick 2 => 1 at 2; 0 live 2 | 5 0 0 0 | 110 | -",
			"done 0 1: 6 0 0 0 => 1 at 2; 0 live 2 | 6 0 0 0 | 101 | 2:5",
			"done 0 1: 7 0 0 0 => code 4",
			"tick 2 => 1 at 4; 0 live 4 | 6 0 0 0 | 101 | 2:5",
			"tick 1 => 0 at 5; 0 ended 5 | 6 0 0 0 | 000 | -",
			"done 0 1: 7 0 0 0 => code 4",
			"mail 0 1 => code 4",
			"drop 0 => code 9",
			"tick 3 => 0 at 8; 0 ended 8 | 6 0 0 0 | 000 | -",
			"start 0: 1 2 3 4 => 1 at 8; 0 ended 8 | 6 0 0 0 | 000 | -; 0 live 8 | 1 2 3 4 | 110 | -",
		}},
		{"an instance that ends at its start", []string{`<set var="0" to="(v1+1)"/>`}, []string{
			"tick 9 => 0 at 9",
			"start 0: 0 6 0 0 => 0 at 9; 0 ended 9 | 7 6 0 0 | 0 | -",
			"start 0: 0 -6 0 0 => 1 at 9; 0 ended 9 | 7 6 0 0 | 0 | -; 0 ended 9 | -5 -6 0 0 | 0 | -",
			"tick 1 => 0 at 10; 0 ended 10 | 7 6 0 0 | 0 | -; 0 ended 10 | -5 -6 0 0 | 0 | -",
		}},
		{"an instance that fails at its start", []string{`<set var="0" to="(1/v1)"/>`}, []string{
			"start 0: 5 0 0 0 => 0 at 0; 0 failed 0 | 5 0 0 0 | 0 | -",
			"start 0: 5 1 0 0 => 1 at 0; 0 failed 0 | 5 0 0 0 | 0 | -; 0 ended 0 | 1 1 0 0 | 0 | -",
			"drop 0 => code 9",
			"drop 1 => code 9",
			"tick 4 => 0 at 4; 0 failed 4 | 5 0 0 0 | 0 | -; 0 ended 4 | 1 1 0 0 | 0 | -",
		}},
		{"a task that makes its instance fail", []string{`<seq><task name="a"/><set var="0" to="(1/v1)"/></seq>`}, []string{
			"start 0: 5 0 0 0 => 0 at 0; 0 live 0 | 5 0 0 0 | 110 | -",
			"done 0 1: 7 0 8 9 => 3 at 0; 0 failed 0 | 7 0 8 9 | 000 | -",
			"drop 0 => code 9",
		}},
		{"a message that makes its instance end", []string{`<wait msg="9"/>`}, []string{
			"start 0: 5 0 0 0 => 0 at 0; 0 live 0 | 5 0 0 0 | 1 | -",
			"mail 0 8 => code 4",
			"mail 0 10 => code 3",
			"mail 0 -1 => code 3",
			"mail 0 9 => 2 at 0; 0 ended 0 | 5 0 0 0 | 0 | -",
			"mail 0 9 => code 4",
			"mail 0 10 => code 3",
		}},
	})
}

func TestEnginesOfThreeProcesses(t *testing.T) {
	askEngineCases(t, []engineCase{
		{"an instance of each", []string{taskAndTimer, waitBesideTask, waitInTime}, []string{
			"start 3: 0 0 0 0 => code 3",
			"start -1: 0 0 0 0 => code 3",
			"start 1: 1 0 0 0 => 0 at 0; 1 live 0 | 1 0 0 0 | 111 | -",
			"start 2: 2 0 0 0 => 1 at 0; 1 live 0 | 1 0 0 0 | 111 | -; 2 live 0 | 2 0 0 0 | 110 | 0:4",
			"start 0: 3 0 0 0 => 2 at 0; 1 live 0 | 1 0 0 0 | 111 | -; 2 live 0 | 2 0 0 0 | 110 | 0:4; 0 live 0 | 3 0 0 0 | 110 | -",
			// A task and a message are of one instance alone, though others have the same.
			"done 2 1: 4 4 4 4 => 1 at 0; 1 live 0 | 1 0 0 0 | 111 | -; 2 live 0 | 2 0 0 0 | 110 | 0:4; 0 live 0 | 4 4 4 4 | 101 | 2:3",
			"mail 0 1 => 1 at 0; 1 live 0 | 1 0 0 0 | 121 | -; 2 live 0 | 2 0 0 0 | 110 | 0:4; 0 live 0 | 4 4 4 4 | 101 | 2:3",
			"mail 0 1 => code 4",
			"done 1 1: 4 4 4 4 => code 4",
			"done 0 2: 5 5 5 5 => 2 at 0; 1 ended 0 | 5 5 5 5 | 000 | -; 2 live 0 | 2 0 0 0 | 110 | 0:4; 0 live 0 | 4 4 4 4 | 101 | 2:3",
			"tick 3 => 1 at 3; 1 ended 3 | 5 5 5 5 | 000 | -; 2 live 3 | 2 0 0 0 | 110 | 0:4; 0 ended 3 | 4 4 4 4 | 000 | -",
			"mail 1 1 => 2 at 3; 1 ended 3 | 5 5 5 5 | 000 | -; 2 ended 3 | 2 0 0 0 | 000 | -; 0 ended 3 | 4 4 4 4 | 000 | -",
			"tick 5 => 0 at 8; 1 ended 8 | 5 5 5 5 | 000 | -; 2 ended 8 | 2 0 0 0 | 000 | -; 0 ended 8 | 4 4 4 4 | 000 | -",
		}},
		{"a tick with which one ends, one fails and one stays live", []string{taskAndTimer, waitBesideTask, waitInTime}, []string{
			"tick 10 => 0 at 10",
			"start 2: 3 0 0 0 => 0 at 10; 2 live 10 | 3 0 0 0 | 110 | 0:14",
			"start 2: 0 0 0 0 => 1 at 10; 2 live 10 | 3 0 0 0 | 110 | 0:14; 2 live 10 | 0 0 0 0 | 110 | 0:14",
			"start 1: 7 0 0 0 => 2 at 10; 2 live 10 | 3 0 0 0 | 110 | 0:14; 2 live 10 | 0 0 0 0 | 110 | 0:14; 1 live 10 | 7 0 0 0 | 111 | -",
			"tick 3 => 3 at 13; 2 live 13 | 3 0 0 0 | 110 | 0:14; 2 live 13 | 0 0 0 0 | 110 | 0:14; 1 live 13 | 7 0 0 0 | 111 | -",
			"tick 1 => 1 at 14; 2 ended 14 | 3 3 0 0 | 000 | -; 2 failed 14 | 0 0 0 0 | 000 | -; 1 live 14 | 7 0 0 0 | 111 | -",
			"tick 0 => 1 at 14; 2 ended 14 | 3 3 0 0 | 000 | -; 2 failed 14 | 0 0 0 0 | 000 | -; 1 live 14 | 7 0 0 0 | 111 | -",
			"done 2 2: 8 0 0 0 => 1 at 14; 2 ended 14 | 3 3 0 0 | 000 | -; 2 failed 14 | 0 0 0 0 | 000 | -; 1 live 14 | 8 0 0 0 | 112 | -",
			"start 0: 9 0 0 0 => 3 at 14; 2 ended 14 | 3 3 0 0 | 000 | -; 2 failed 14 | 0 0 0 0 | 000 | -; 1 live 14 | 8 0 0 0 | 112 | -; 0 live 14 | 9 0 0 0 | 110 | -",
			"tick 6 => 2 at 20; 2 ended 20 | 3 3 0 0 | 000 | -; 2 failed 20 | 0 0 0 0 | 000 | -; 1 live 20 | 8 0 0 0 | 112 | -; 0 live 20 | 9 0 0 0 | 110 | -",
			"drop 0 => code 9",
			"drop 1 => code 9",
			"mail 0 1 => code 4",
			"mail 1 1 => code 4",
		}},
		{"one that is dropped", []string{taskAndTimer, waitInTime}, []string{
			"start 0: 1 1 1 1 => 0 at 0; 0 live 0 | 1 1 1 1 | 110 | -",
			"start 1: 2 2 2 2 => 1 at 0; 0 live 0 | 1 1 1 1 | 110 | -; 1 live 0 | 2 2 2 2 | 110 | 0:4",
			"start 1: 3 3 3 3 => 2 at 0; 0 live 0 | 1 1 1 1 | 110 | -; 1 live 0 | 2 2 2 2 | 110 | 0:4; 1 live 0 | 3 3 3 3 | 110 | 0:4",
			"tick 2 => 3 at 2; 0 live 2 | 1 1 1 1 | 110 | -; 1 live 2 | 2 2 2 2 | 110 | 0:4; 1 live 2 | 3 3 3 3 | 110 | 0:4",
			"drop 3 => code 3",
			"drop -1 => code 3",
			"drop 1 => 3 at 2; 0 live 2 | 1 1 1 1 | 110 | -; 1 failed 2 | 2 2 2 2 | 000 | -; 1 live 2 | 3 3 3 3 | 110 | 0:4",
			"drop 1 => code 9",
			"mail 1 1 => code 4",
			"tick 1 => 2 at 3; 0 live 3 | 1 1 1 1 | 110 | -; 1 failed 3 | 2 2 2 2 | 000 | -; 1 live 3 | 3 3 3 3 | 110 | 0:4",
			"drop 0 => 3 at 3; 0 failed 3 | 1 1 1 1 | 000 | -; 1 failed 3 | 2 2 2 2 | 000 | -; 1 live 3 | 3 3 3 3 | 110 | 0:4",
			"mail 2 1 => 2 at 3; 0 failed 3 | 1 1 1 1 | 000 | -; 1 failed 3 | 2 2 2 2 | 000 | -; 1 ended 3 | 3 3 3 3 | 000 | -",
			"drop 2 => code 9",
		}},
		{"six instances", []string{taskAndTimer, waitBesideTask, `<timer ticks="2"/>`}, []string{
			"start 2: 0 0 0 0 => 0 at 0; 2 live 0 | 0 0 0 0 | 1 | 0:2",
			"start 2: 1 0 0 0 => 1 at 0; 2 live 0 | 0 0 0 0 | 1 | 0:2; 2 live 0 | 1 0 0 0 | 1 | 0:2",
			"start 2: 2 0 0 0 => 2 at 0; 2 live 0 | 0 0 0 0 | 1 | 0:2; 2 live 0 | 1 0 0 0 | 1 | 0:2; 2 live 0 | 2 0 0 0 | 1 | 0:2",
			"tick 1 => 3 at 1; 2 live 1 | 0 0 0 0 | 1 | 0:2; 2 live 1 | 1 0 0 0 | 1 | 0:2; 2 live 1 | 2 0 0 0 | 1 | 0:2",
			"start 2: 3 0 0 0 => 3 at 1; 2 live 1 | 0 0 0 0 | 1 | 0:2; 2 live 1 | 1 0 0 0 | 1 | 0:2; 2 live 1 | 2 0 0 0 | 1 | 0:2; 2 live 1 | 3 0 0 0 | 1 | 0:3",
			"start 2: 4 0 0 0 => 4 at 1; 2 live 1 | 0 0 0 0 | 1 | 0:2; 2 live 1 | 1 0 0 0 | 1 | 0:2; 2 live 1 | 2 0 0 0 | 1 | 0:2; 2 live 1 | 3 0 0 0 | 1 | 0:3; 2 live 1 | 4 0 0 0 | 1 | 0:3",
			"start 2: 5 0 0 0 => 5 at 1; 2 live 1 | 0 0 0 0 | 1 | 0:2; 2 live 1 | 1 0 0 0 | 1 | 0:2; 2 live 1 | 2 0 0 0 | 1 | 0:2; 2 live 1 | 3 0 0 0 | 1 | 0:3; 2 live 1 | 4 0 0 0 | 1 | 0:3; 2 live 1 | 5 0 0 0 | 1 | 0:3",
			"start 2: 6 0 0 0 => code 2",
			"start 0: 6 0 0 0 => code 2",
			"drop 6 => code 3",
			"drop 5 => 3 at 1; 2 live 1 | 0 0 0 0 | 1 | 0:2; 2 live 1 | 1 0 0 0 | 1 | 0:2; 2 live 1 | 2 0 0 0 | 1 | 0:2; 2 live 1 | 3 0 0 0 | 1 | 0:3; 2 live 1 | 4 0 0 0 | 1 | 0:3; 2 failed 1 | 5 0 0 0 | 0 | -",
			"tick 1 => 2 at 2; 2 ended 2 | 0 0 0 0 | 0 | -; 2 ended 2 | 1 0 0 0 | 0 | -; 2 ended 2 | 2 0 0 0 | 0 | -; 2 live 2 | 3 0 0 0 | 1 | 0:3; 2 live 2 | 4 0 0 0 | 1 | 0:3; 2 failed 2 | 5 0 0 0 | 0 | -",
			// What has ended or failed takes its place still.
			"start 2: 6 0 0 0 => code 2",
			"tick 998 => 0 at 1000; 2 ended 1000 | 0 0 0 0 | 0 | -; 2 ended 1000 | 1 0 0 0 | 0 | -; 2 ended 1000 | 2 0 0 0 | 0 | -; 2 ended 1000 | 3 0 0 0 | 0 | -; 2 ended 1000 | 4 0 0 0 | 0 | -; 2 failed 1000 | 5 0 0 0 | 0 | -",
		}},
	})
}

// slowEngineFault tells it once more.
func slowEngineFault(e impl.Engine) int64 {
	if n := len(e.Procs); n == 0 || n > 3 {
		return impl.ErrMany
	}
	if len(e.Insts) > 6 {
		return impl.ErrMany
	}
	for _, p := range e.Procs {
		if fault := slowProcFault(p.Steps); fault != 0 {
			return fault
		}
	}
	if e.Now != min(max(e.Now, 0), 1000000) {
		return impl.ErrRange
	}
	for _, i := range e.Insts {
		if i.Proc != min(max(i.Proc, 0), int64(len(e.Procs))-1) {
			return impl.ErrRange
		}
		if fault := slowChartFault(e.Procs[i.Proc].Steps, 0, i.Chart); fault != 0 {
			return fault
		}
		if i.Chart.Now != e.Now {
			return impl.ErrState
		}
	}
	return 0
}

// slowCallCode is the codes of a call that the engine tells itself, told once more: 0 where a chart is asked.
func slowCallCode(e impl.Engine, x engineCall) int64 {
	if fault := slowEngineFault(e); fault != 0 {
		return fault
	}
	switch x.kind {
	case "start":
		if x.at < 0 || x.at > int64(len(e.Procs))-1 {
			return impl.ErrRange
		}
		if len(e.Insts) > 5 {
			return impl.ErrMany
		}
		return impl.VarsFault(x.vars)
	case "tick":
		if x.number < 0 || x.number > 1000 || x.number > 1000000-e.Now {
			return impl.ErrRange
		}
		return 0
	}
	if x.at < 0 || x.at > int64(len(e.Insts))-1 {
		return impl.ErrRange
	}
	switch {
	case x.kind == "done":
		return impl.VarsFault(x.vars)
	case x.kind == "mail" && (x.number < 0 || x.number > 9):
		return impl.ErrRange
	case x.kind == "drop" && e.Insts[x.at].Chart.Status != impl.RunLive:
		return impl.ErrState
	}
	return 0
}

// slowCall tells once more what comes of a call.
func slowCall(e impl.Engine, x engineCall) impl.EngineResult {
	if code := slowCallCode(e, x); code != 0 {
		return impl.EngineResult{Code: code}
	}
	got := impl.EngineResult{Engine: cloneEngine(e)}
	insts := got.Engine.Insts
	if x.kind == "start" {
		chart := slowStartChart(e.Procs[x.at].Steps, x.vars, e.Now).Chart
		got.Value, got.Engine.Insts = int64(len(insts)), append(insts, impl.Inst{Proc: x.at, Chart: chart})
		return got
	}
	if x.kind == "tick" {
		got.Engine.Now += x.number
		for i := range insts {
			insts[i].Chart = slowTickChart(e.Procs[insts[i].Proc].Steps, insts[i].Chart, got.Engine.Now).Chart
			if insts[i].Chart.Status == impl.RunLive {
				got.Value++
			}
		}
		return got
	}
	p, c := e.Procs[insts[x.at].Proc].Steps, insts[x.at].Chart
	var next impl.ChartResult
	switch x.kind {
	case "done":
		next = slowDoneChart(p, c, x.number, x.vars)
	case "mail":
		next = slowMailChart(p, c, x.number)
	default:
		next.Chart = bareChart(p, c.Now)
		next.Chart.Status, next.Chart.Vars = impl.RunFailed, c.Vars
	}
	if next.Code != 0 {
		return impl.EngineResult{Code: next.Code}
	}
	got.Value, insts[x.at].Chart = next.Chart.Status, next.Chart
	return got
}

// sameEngineResults tells whether all is the same, told once more: no element and nil are the same.
func sameEngineResults(a, b impl.EngineResult) bool {
	return a.Code == b.Code && a.Value == b.Value && slowSameEngines(a.Engine, b.Engine)
}

func slowSameEngines(a, b impl.Engine) bool {
	return reflect.DeepEqual(bareEngine(a), bareEngine(b))
}

// bareEngine has no list that is nil, and none without its own memory.
func bareEngine(e impl.Engine) impl.Engine {
	e = cloneEngine(e)
	e.Procs, e.Insts = append([]impl.Proc{}, e.Procs...), append([]impl.Inst{}, e.Insts...)
	for i := range e.Procs {
		e.Procs[i].Steps = append([]impl.Step{}, e.Procs[i].Steps...)
		for at := range e.Procs[i].Steps {
			s := &e.Procs[i].Steps[at]
			s.Cond, s.Expr = append([]impl.Node{}, s.Cond...), append([]impl.Node{}, s.Expr...)
		}
	}
	for i := range e.Insts {
		c := &e.Insts[i].Chart
		c.Vars, c.Acts, c.Dues = append([]int64{}, c.Vars...), append([]int64{}, c.Acts...), append([]int64{}, c.Dues...)
	}
	return e
}

// baseEngine is an engine at the time 10 of three processes and four instances: of the first one that waits at its task, of the third one that has ended and one that has failed, and of the third one that has a due.
func baseEngine(t *testing.T) impl.Engine {
	t.Helper()
	e := impl.NewEngine(readProcs(t, taskAndTimer, waitBesideTask, waitInTime)).Engine
	got := impl.EngineResult{}
	for _, line := range []string{"start 0: 1 0 0 0", "start 2: 3 0 0 0", "start 2: 0 0 0 0", "tick 8", "start 2: 4 0 0 0", "tick 2"} {
		if got = readCall(t, line).ask(e); got.Code != 0 {
			t.Fatalf("%s: %v", line, got)
		}
		e = got.Engine
	}
	if told := tellEngine(got); told != "2 at 10; 0 live 10 | 1 0 0 0 | 110 | -; 2 ended 10 | 3 3 0 0 | 000 | -; 2 failed 10 | 0 0 0 0 | 000 | -; 2 live 10 | 4 0 0 0 | 110 | 0:12" {
		t.Fatal(told)
	}
	return e
}

// someCalls are calls that have a code of their own, and ones that have none, of baseEngine.
var someCalls = []engineCall{
	{"start", 0, 0, []int64{1, 2, 3, 4}}, {"start", 2, 0, nil}, {"start", -1, 0, nil}, {"start", 3, 0, []int64{1, 2, 3, 4}}, {"start", 1, 0, []int64{1, 2, 3, 1000001}},
	{"done", 0, 1, []int64{1, 2, 3, 4}}, {"done", 0, 2, []int64{1, 2, 3, 4}}, {"done", 0, 1, []int64{1}}, {"done", 9, 1, []int64{1, 2, 3, 4}}, {"done", -1, -1, nil}, {"done", 1, 1, []int64{0, 0, 0, -1000001}},
	{"mail", 3, 1, nil}, {"mail", 3, 2, nil}, {"mail", 3, 10, nil}, {"mail", 1, 1, nil}, {"mail", -1, 1, nil}, {"mail", 7, -1, nil},
	{"tick", 0, 0, nil}, {"tick", 0, 1, nil}, {"tick", 0, 1000, nil}, {"tick", 0, 1001, nil}, {"tick", 0, -1, nil}, {"tick", 0, math.MaxInt64, nil}, {"tick", 0, math.MinInt64, nil},
	{"drop", 0, 0, nil}, {"drop", 1, 0, nil}, {"drop", 2, 0, nil}, {"drop", 4, 0, nil}, {"drop", -1, 0, nil}, {"drop", math.MaxInt64, 0, nil},
}

// askFaultyEngine asks each function of an engine: those that ask the EngineFault first tell it, whatever else they are given.
func askFaultyEngine(t *testing.T, why string, e impl.Engine, want int64) {
	t.Helper()
	if got := impl.EngineFault(e); got != want {
		t.Errorf("EngineFault of %s = %d, want %d", why, got, want)
	}
	if slow := slowEngineFault(e); slow != want {
		t.Errorf("the test's own fault of %s = %d, want %d", why, slow, want)
	}
	for _, x := range someCalls {
		got := x.ask(e)
		if want != 0 && !reflect.DeepEqual(got, impl.EngineResult{Code: want}) {
			t.Errorf("%v of %s = %v, want the code %d alone", x, why, got, want)
		}
		if want == 0 && !sameEngineResults(got, slowCall(e, x)) {
			t.Errorf("%v of %s = %v, want %v", x, why, got, slowCall(e, x))
		}
	}
}

func TestEngineFaultOfHowMany(t *testing.T) {
	base := baseEngine(t)
	wrong := impl.Proc{Steps: proc(taskAt(0))}
	broken := impl.Inst{Proc: 9}
	for n := range 9 {
		e := impl.Engine{Procs: slices.Repeat(base.Procs[:1], n), Now: 10}
		want := int64(impl.ErrMany)
		if n >= 1 && n <= 3 {
			want = 0
		}
		askFaultyEngine(t, strconv.Itoa(n)+" processes", e, want)
		e = cloneEngine(base)
		e.Insts, want = slices.Repeat(base.Insts[:1], n), 0
		if n > 6 {
			want = impl.ErrMany
		}
		askFaultyEngine(t, strconv.Itoa(n)+" instances", e, want)
	}
	for why, e := range map[string]impl.Engine{
		"nothing":                         {},
		"lists of nothing":                {Procs: []impl.Proc{}, Insts: []impl.Inst{}},
		"no process and a wrong time":     {Now: -1},
		"an instance without a process":   {Insts: base.Insts[:1], Now: 10},
		"very many processes":             {Procs: slices.Repeat(base.Procs, 1000)},
		"very many instances":             {Procs: base.Procs, Insts: slices.Repeat(base.Insts, 1000), Now: 10},
		"four processes, the first wrong": {Procs: append(procsOf(wrong.Steps), base.Procs...), Now: 10},
		// Both are asked how many there are ahead of each process.
		"seven instances, and a wrong process":   {Procs: procsOf(wrong.Steps), Insts: slices.Repeat(base.Insts[:1], 7), Now: 10},
		"seven instances, and a wrong time":      {Procs: base.Procs, Insts: slices.Repeat(base.Insts[:1], 7), Now: -1},
		"seven instances, and the first is none": {Procs: base.Procs, Insts: append([]impl.Inst{broken}, slices.Repeat(base.Insts[:1], 6)...), Now: 10},
	} {
		askFaultyEngine(t, why, e, impl.ErrMany)
	}
	// Two instances may be the same in all they have.
	twice := cloneEngine(base)
	twice.Insts = append(twice.Insts, base.Insts[0], base.Insts[0])
	askFaultyEngine(t, "instances that are the same", twice, 0)
}

// wrongProcs are processes that have a fault, and its code.
func wrongProcs() []procCase {
	return []procCase{
		{"no steps", nil, impl.ErrMany},
		{"25 steps", seqOf(25), impl.ErrMany},
		{"8 steps from one up", nestOf(8), impl.ErrMany},
		{"a kind that is none", proc(impl.Step{Parent: -1}), impl.ErrForm},
		{"a seq without kids", proc(seqAt(-1)), impl.ErrForm},
		{"a timer of 0 ticks", proc(timerAt(-1, 0)), impl.ErrRange},
		{"a parent that is none", proc(taskAt(0)), impl.ErrRange},
		{"a task without a name", proc(impl.Step{Kind: impl.StepTask, Parent: -1}), impl.ErrText},
		{"a set that is a bool", proc(setAt(-1, 0, yes())), impl.ErrType},
	}
}

// Process by process: each is asked, wherever it stands, and the first that has a fault tells the code.
func TestEnginesOfWrongProcesses(t *testing.T) {
	base := baseEngine(t)
	for _, c := range wrongProcs() {
		for n := 1; n <= 3; n++ {
			for place := range n {
				e := cloneEngine(base)
				e.Procs = e.Procs[:n]
				e.Procs[place].Steps = c.p
				why := c.why + " at " + strconv.Itoa(place) + " of " + strconv.Itoa(n)
				askFaultyEngine(t, why, e, c.want)
				e.Insts = nil
				askFaultyEngine(t, why+" without instances", e, c.want)
				// The time, and the instances, are asked behind all of them.
				e.Now, e.Insts = -1, []impl.Inst{{Proc: 9}}
				askFaultyEngine(t, why+" and more", e, c.want)
				if got := impl.NewEngine(e.Procs); !reflect.DeepEqual(got, impl.EngineResult{Code: c.want}) {
					t.Errorf("NewEngine of %s = %v, want the code %d alone", why, got, c.want)
				}
			}
		}
		for _, other := range wrongProcs() {
			e := cloneEngine(base)
			e.Procs[1].Steps, e.Procs[2].Steps = c.p, other.p
			askFaultyEngine(t, c.why+" and "+other.why, e, c.want)
			if got := impl.NewEngine(e.Procs); !reflect.DeepEqual(got, impl.EngineResult{Code: c.want}) {
				t.Errorf("NewEngine of %s and %s = %v, want the code %d alone", c.why, other.why, got, c.want)
			}
		}
	}
}

func TestNewEngine(t *testing.T) {
	rnd := rand.New(rand.NewSource(90))
	wrong := proc(taskAt(0))
	for _, c := range []struct {
		why   string
		procs []impl.Proc
		want  int64
	}{
		{"no process", nil, impl.ErrMany},
		{"a list of no process", []impl.Proc{}, impl.ErrMany},
		{"one process", procsOf(orderProc()), 0},
		{"two processes", procsOf(orderProc(), nestOf(7)), 0},
		{"three processes", procsOf(orderProc(), nestOf(7), seqOf(24)), 0},
		{"three that are the same", procsOf(seqOf(2), seqOf(2), seqOf(2)), 0},
		{"four processes", procsOf(seqOf(2), seqOf(2), seqOf(2), seqOf(2)), impl.ErrMany},
		{"five processes", slices.Repeat(procsOf(seqOf(2)), 5), impl.ErrMany},
		{"four processes with faults", slices.Repeat(procsOf(wrong), 4), impl.ErrMany},
		{"three processes with faults", slices.Repeat(procsOf(wrong), 3), impl.ErrRange},
		{"a process of no steps", []impl.Proc{{}}, impl.ErrMany},
	} {
		got := impl.NewEngine(c.procs)
		want := impl.EngineResult{Code: c.want}
		if c.want == 0 {
			want.Engine.Procs = c.procs
		}
		if !sameEngineResults(got, want) {
			t.Errorf("NewEngine of %s = %v, want %v", c.why, got, want)
		}
	}
	for range 300 {
		procs := procsOf(greatProc(rnd), greatProc(rnd), greatProc(rnd))[:1+rnd.Intn(3)]
		got := impl.NewEngine(procs)
		if !sameEngineResults(got, impl.EngineResult{Engine: impl.Engine{Procs: procs}}) || impl.EngineFault(got.Engine) != 0 {
			t.Fatalf("NewEngine(%v) = %v", procs, got)
		}
	}
}

func TestEngineFaultOfTheTime(t *testing.T) {
	base := baseEngine(t)
	for now, want := range map[int64]int64{0: 0, 1: 0, 999999: 0, 1000000: 0, -1: impl.ErrRange, 1000001: impl.ErrRange, math.MinInt64: impl.ErrRange, math.MaxInt64: impl.ErrRange, 1 << 32: impl.ErrRange} {
		why := "the time " + strconv.FormatInt(now, 10)
		e := cloneEngine(base)
		e.Now, e.Insts = now, nil
		askFaultyEngine(t, why+" without instances", e, want)
		// A time that is right is not that of the charts, unless these have it too.
		e.Insts = cloneEngine(base).Insts[:1]
		other := want
		if want == 0 {
			other = impl.ErrState
		}
		askFaultyEngine(t, why+" and charts of another", e, other)
		e.Insts[0].Chart.Now = now
		askFaultyEngine(t, why+" and charts of the same", e, want)
		// The time is asked ahead of each instance.
		e.Insts[0].Proc = 3
		askFaultyEngine(t, why+" and an instance of nothing", e, impl.ErrRange)
		e.Insts[0] = impl.Inst{Chart: impl.Chart{Status: 1, Now: now}}
		chart := want
		if want == 0 {
			chart = impl.ErrMany
		}
		askFaultyEngine(t, why+" and a chart without variables", e, chart)
	}
}

func TestEngineFaultOfInstances(t *testing.T) {
	base := baseEngine(t)
	for _, c := range []struct {
		why    string
		change func(i *impl.Inst)
		want   int64
	}{
		{"the same", func(i *impl.Inst) {}, 0},
		{"a process -1", func(i *impl.Inst) { i.Proc = -1 }, impl.ErrRange},
		{"a process behind the last one", func(i *impl.Inst) { i.Proc = 3 }, impl.ErrRange},
		{"a process far below", func(i *impl.Inst) { i.Proc = math.MinInt64 }, impl.ErrRange},
		{"a process far above", func(i *impl.Inst) { i.Proc = 1 << 32 }, impl.ErrRange},
		{"a Status 0", func(i *impl.Inst) { i.Chart.Status = 0 }, impl.ErrRange},
		{"a Status 4", func(i *impl.Inst) { i.Chart.Status = 4 }, impl.ErrRange},
		{"a chart ahead of all time", func(i *impl.Inst) { i.Chart.Now = -1 }, impl.ErrRange},
		{"a chart behind all time", func(i *impl.Inst) { i.Chart.Now = 1000001 }, impl.ErrRange},
		{"no variables", func(i *impl.Inst) { i.Chart.Vars = nil }, impl.ErrMany},
		{"three variables", func(i *impl.Inst) { i.Chart.Vars = i.Chart.Vars[:3] }, impl.ErrMany},
		{"a variable above", func(i *impl.Inst) { i.Chart.Vars[3] = 1000001 }, impl.ErrRange},
		{"an act less", func(i *impl.Inst) { i.Chart.Acts = i.Chart.Acts[:2] }, impl.ErrMany},
		{"a due more", func(i *impl.Inst) { i.Chart.Dues = append(i.Chart.Dues, 0) }, impl.ErrMany},
		{"an act 3", func(i *impl.Inst) { i.Chart.Acts[0] = 3 }, impl.ErrRange},
		{"a due 110", func(i *impl.Inst) { i.Chart.Dues[0] = 110 }, impl.ErrRange},
		{"an act of the second kid", func(i *impl.Inst) { i.Chart.Acts[2] = 1 }, impl.ErrForm},
		{"a due of the second kid", func(i *impl.Inst) { i.Chart.Dues[1] = 11 }, impl.ErrForm},
		{"a time one less", func(i *impl.Inst) { i.Chart.Now = 9 }, impl.ErrState},
		{"a time one more", func(i *impl.Inst) { i.Chart.Now = 11 }, impl.ErrState},
		{"the time 0", func(i *impl.Inst) { i.Chart.Now = 0 }, impl.ErrState},
		{"the last time", func(i *impl.Inst) { i.Chart.Now = 1000000 }, impl.ErrState},
		{"nothing", func(i *impl.Inst) { *i = impl.Inst{} }, impl.ErrRange},
		// Of one instance: the process, the chart, its time.
		{"a process of nothing, and no variables", func(i *impl.Inst) { i.Proc, i.Chart.Vars = 3, nil }, impl.ErrRange},
		{"a process of nothing, and another time", func(i *impl.Inst) { i.Proc, i.Chart.Now = -1, 11 }, impl.ErrRange},
		{"no variables, and another time", func(i *impl.Inst) { i.Chart.Vars, i.Chart.Now = nil, 11 }, impl.ErrMany},
		{"a wrong act, and another time", func(i *impl.Inst) { i.Chart.Acts[2], i.Chart.Now = 1, 11 }, impl.ErrForm},
	} {
		for place := range base.Insts {
			e := cloneEngine(base)
			c.change(&e.Insts[place])
			askFaultyEngine(t, c.why+" at "+strconv.Itoa(place), e, c.want)
		}
	}
	// A chart is one of its own process: the same is none of another one.
	e := cloneEngine(base)
	e.Insts[3].Proc = 1
	askFaultyEngine(t, "a chart of another process", e, impl.ErrForm)
	e.Procs[1].Steps = proc(taskAt(-1))
	askFaultyEngine(t, "a chart of a process with fewer steps", e, impl.ErrMany)
	// What has ended may be of each process of as many steps, and has to have the time all the same.
	e = cloneEngine(base)
	e.Insts[1].Proc, e.Insts[2].Proc = 0, 1
	askFaultyEngine(t, "ended charts of another process", e, 0)
}

// Several faults at once: the one that the document names first tells the code, and instance by instance that of the first one.
func TestEngineFaultOfSeveral(t *testing.T) {
	with := func(code int64, change func(e *impl.Engine)) spoilt[impl.Engine] {
		return spoilt[impl.Engine]{code, func(e *impl.Engine) {
			*e = cloneEngine(*e)
			change(e)
		}}
	}
	for _, faults := range [][]spoilt[impl.Engine]{
		{
			with(impl.ErrMany, func(e *impl.Engine) { e.Insts = append(e.Insts, e.Insts[:3]...) }),
			with(impl.ErrText, func(e *impl.Engine) { e.Procs[0].Steps[1].Name = "" }),
			with(impl.ErrForm, func(e *impl.Engine) { e.Procs[1].Steps[0].Kind = 9 }),
			with(impl.ErrRange, func(e *impl.Engine) { e.Now = 1000001 }),
			with(impl.ErrMany, func(e *impl.Engine) { e.Insts[0].Chart.Vars = nil }),
			with(impl.ErrRange, func(e *impl.Engine) { e.Insts[1].Proc = 3 }),
			with(impl.ErrForm, func(e *impl.Engine) { e.Insts[2].Chart.Acts[0] = 1 }),
		},
		{
			with(impl.ErrMany, func(e *impl.Engine) { e.Procs = append(e.Procs, e.Procs[0]) }),
			with(impl.ErrType, func(e *impl.Engine) { e.Procs[2].Steps[2].Expr = yes() }),
			with(impl.ErrState, func(e *impl.Engine) { e.Insts[0].Chart.Now = 11 }),
			with(impl.ErrMany, func(e *impl.Engine) { e.Insts[1].Chart.Dues = nil }),
			with(impl.ErrRange, func(e *impl.Engine) { e.Insts[2].Proc = -1 }),
			with(impl.ErrState, func(e *impl.Engine) { e.Insts[3].Chart.Now = 9 }),
		},
		{
			with(impl.ErrRange, func(e *impl.Engine) { e.Procs[1].Steps[1].Arg = 10 }),
			with(impl.ErrRange, func(e *impl.Engine) { e.Now = -1 }),
			with(impl.ErrForm, func(e *impl.Engine) { e.Insts[0].Chart.Acts[2] = 1 }),
			with(impl.ErrState, func(e *impl.Engine) { e.Insts[1].Chart.Now = 0 }),
			with(impl.ErrRange, func(e *impl.Engine) { e.Insts[2].Chart.Status = 4 }),
			with(impl.ErrMany, func(e *impl.Engine) { e.Insts[3].Chart.Vars = []int64{1, 2, 3, 4, 5} }),
		},
	} {
		askSeveral(baseEngine(t), faults, func(e impl.Engine, want int64) { askFaultyEngine(t, "several faults", e, want) })
	}
}

// callCase is a call, and the code that it has.
type callCase struct {
	why  string
	call engineCall
	want int64
}

// askCallCases asks each call of an engine without a fault: what comes of it is as it is told once more.
func askCallCases(t *testing.T, e impl.Engine, cases []callCase) {
	t.Helper()
	before := cloneEngine(e)
	for _, c := range cases {
		got := c.call.ask(e)
		if got.Code != c.want || !sameEngineResults(got, slowCall(e, c.call)) {
			t.Errorf("%s: %v, want the code %d", c.why, got, c.want)
		}
		if !reflect.DeepEqual(e, before) {
			t.Fatalf("%s: the engine was changed", c.why)
		}
	}
}

// varsCase is variables, and the code of their fault.
type varsCase struct {
	why  string
	vars []int64
	want int64
}

// edgeVars are variables up to their bounds and beyond.
func edgeVars() []varsCase {
	return []varsCase{
		{"no variables", nil, impl.ErrMany},
		{"three variables", []int64{1, 2, 3}, impl.ErrMany},
		{"five variables", []int64{1, 2, 3, 4, 5}, impl.ErrMany},
		{"three variables, one above", []int64{1, 2, 1000001}, impl.ErrMany},
		{"a first variable above", []int64{1000001, 2, 3, 4}, impl.ErrRange},
		{"a last variable below", []int64{1, 2, 3, -1000001}, impl.ErrRange},
		{"a variable far above", []int64{1, math.MaxInt64, 3, 4}, impl.ErrRange},
		{"a variable far below", []int64{1, 2, math.MinInt64, 4}, impl.ErrRange},
		{"variables at their bounds", []int64{1000000, -1000000, 0, 1}, 0},
	}
}

func TestStartInstWrong(t *testing.T) {
	base := baseEngine(t)
	vars := []int64{1, 2, 3, 4}
	start := func(proc int64, vars []int64) engineCall { return engineCall{"start", proc, 0, vars} }
	cases := []callCase{
		{"the first process", start(0, vars), 0},
		{"the last process", start(2, vars), 0},
		{"the place behind the last one", start(3, vars), impl.ErrRange},
		{"a place below", start(-1, vars), impl.ErrRange},
		{"a place far above", start(math.MaxInt64, vars), impl.ErrRange},
		{"a place far below", start(math.MinInt64, vars), impl.ErrRange},
		{"a place that is one in 32 bits", start(1<<32, vars), impl.ErrRange},
		{"a place behind, and no variables", start(3, nil), impl.ErrRange},
	}
	for _, w := range edgeVars() {
		cases = append(cases, callCase{w.why, start(1, w.vars), w.want})
	}
	askCallCases(t, base, cases)
	// Five may have one more, and six may not: that is asked behind the place, and ahead of the variables.
	five := cloneEngine(base)
	five.Insts = append(five.Insts, cloneEngine(base).Insts[1])
	askCallCases(t, five, cases)
	six := cloneEngine(five)
	six.Insts = append(six.Insts, cloneEngine(base).Insts[2])
	for i := range cases {
		if cases[i].call.at >= 0 && cases[i].call.at < 3 {
			cases[i].want = impl.ErrMany
		}
	}
	askCallCases(t, six, cases)
	// One process has one place.
	one := impl.NewEngine(procsOf(proc(taskAt(-1)))).Engine
	askCallCases(t, one, []callCase{
		{"the place of the only one", start(0, vars), 0},
		{"the place behind the only one", start(1, vars), impl.ErrRange},
		{"the place below the only one", start(-1, vars), impl.ErrRange},
	})
}

func TestDoneInstWrong(t *testing.T) {
	base := baseEngine(t)
	vars := []int64{1, 2, 3, 4}
	done := func(inst, step int64, vars []int64) engineCall { return engineCall{"done", inst, step, vars} }
	cases := []callCase{
		{"a task that is open", done(0, 1, vars), 0},
		{"the step above it", done(0, 0, vars), impl.ErrNone},
		{"a timer that is not on", done(0, 2, vars), impl.ErrNone},
		{"the step behind the last one", done(0, 3, vars), impl.ErrNone},
		{"a step below", done(0, -1, vars), impl.ErrNone},
		{"a step far above", done(0, math.MaxInt64, vars), impl.ErrNone},
		{"a step far below", done(0, math.MinInt64, vars), impl.ErrNone},
		{"a task of another instance", done(3, 1, vars), impl.ErrNone},
		{"an instance that has ended", done(1, 1, vars), impl.ErrNone},
		{"an instance that has failed", done(2, 1, vars), impl.ErrNone},
		{"the place behind the last one", done(4, 1, vars), impl.ErrRange},
		{"a place below", done(-1, 1, vars), impl.ErrRange},
		{"a place far above", done(math.MaxInt64, 1, vars), impl.ErrRange},
		{"a place far below", done(math.MinInt64, 1, vars), impl.ErrRange},
		{"a place behind, and no variables", done(4, 1, nil), impl.ErrRange},
		{"no variables, and a step that is none", done(0, 9, nil), impl.ErrMany},
		{"no variables, and an instance that has ended", done(1, 1, nil), impl.ErrMany},
		{"a variable above, and an instance that has failed", done(2, 1, []int64{0, 0, 0, 1000001}), impl.ErrRange},
	}
	for _, w := range edgeVars() {
		cases = append(cases, callCase{w.why, done(0, 1, w.vars), w.want})
	}
	askCallCases(t, base, cases)
	// What was done is not open any more.
	e := impl.DoneInst(base, 0, 1, vars).Engine
	askCallCases(t, e, []callCase{{"a task that is over", done(0, 1, vars), impl.ErrNone}})
}

func TestMailInstWrong(t *testing.T) {
	base := baseEngine(t)
	mail := func(inst, msg int64) engineCall { return engineCall{"mail", inst, msg, nil} }
	askCallCases(t, base, []callCase{
		{"a message that is waited for", mail(3, 1), 0},
		{"another message", mail(3, 2), impl.ErrNone},
		{"the message 0", mail(3, 0), impl.ErrNone},
		{"the message 9", mail(3, 9), impl.ErrNone},
		{"the message 10", mail(3, 10), impl.ErrRange},
		{"the message -1", mail(3, -1), impl.ErrRange},
		{"a message far above", mail(3, math.MaxInt64), impl.ErrRange},
		{"a message far below", mail(3, math.MinInt64), impl.ErrRange},
		// Another instance waits for it, and is not reached.
		{"a message that another one waits for", mail(0, 1), impl.ErrNone},
		{"an instance that has ended", mail(1, 1), impl.ErrNone},
		{"an instance that has failed", mail(2, 1), impl.ErrNone},
		{"a wrong message of an instance that has ended", mail(1, 10), impl.ErrRange},
		{"a wrong message of an instance that has failed", mail(2, -1), impl.ErrRange},
		{"the place behind the last one", mail(4, 1), impl.ErrRange},
		{"a place below", mail(-1, 1), impl.ErrRange},
		{"a place far above", mail(math.MaxInt64, 1), impl.ErrRange},
		{"a place far below", mail(math.MinInt64, 1), impl.ErrRange},
	})
}

func TestDropInst(t *testing.T) {
	base := baseEngine(t)
	drop := func(inst int64) engineCall { return engineCall{"drop", inst, 0, nil} }
	askCallCases(t, base, []callCase{
		{"the first one, which is live", drop(0), 0},
		{"the last one, which is live", drop(3), 0},
		{"one that has ended", drop(1), impl.ErrState},
		{"one that has failed", drop(2), impl.ErrState},
		{"the place behind the last one", drop(4), impl.ErrRange},
		{"a place below", drop(-1), impl.ErrRange},
		{"a place far above", drop(math.MaxInt64), impl.ErrRange},
		{"a place far below", drop(math.MinInt64), impl.ErrRange},
	})
	for _, inst := range []int64{0, 3} {
		got := impl.DropInst(base, inst)
		want := cloneEngine(base)
		c := &want.Insts[inst].Chart
		c.Status, c.Acts, c.Dues = 3, make([]int64, 3), make([]int64, 3)
		if got.Code != 0 || got.Value != impl.RunFailed || !slowSameEngines(got.Engine, want) || impl.EngineFault(got.Engine) != 0 {
			t.Errorf("DropInst of %d = %v", inst, got)
		}
		if again := impl.DropInst(got.Engine, inst); !reflect.DeepEqual(again, impl.EngineResult{Code: impl.ErrState}) {
			t.Errorf("DropInst of %d again = %v", inst, again)
		}
	}
	// A chart that no start comes to, with a due that has passed, acts that are over and one in each list: nothing of it stays.
	p := readProc(t, `<and><guard ticks="9"><and><task name="a"/><set var="0" to="1"/></and><wait msg="2"/></guard><timer ticks="5"/></and>`)
	c := impl.Chart{Status: 1, Now: 20, Vars: []int64{-1, 0, 1000000, 4}, Acts: []int64{1, 1, 1, 1, 2, 0, 1}, Dues: []int64{0, 3, 0, 0, 0, 0, 119}}
	e := impl.Engine{Procs: procsOf(p), Insts: []impl.Inst{{Chart: c}}, Now: 20}
	askCallCases(t, e, []callCase{{"a chart with dues", drop(0), 0}})
	if told := tellEngine(impl.DropInst(e, 0)); told != "3 at 20; 0 failed 20 | -1 0 1000000 4 | 0000000 | -" {
		t.Error(told)
	}
}

func TestTickEngineUpToItsBounds(t *testing.T) {
	base := baseEngine(t)
	ticks := []int64{0, 1, 2, 999, 1000, 1001, 1002, -1, -2, 1 << 32, 1000000, 1000001, math.MaxInt64, math.MaxInt64 - 5, math.MinInt64}
	for _, now := range []int64{0, 1, 10, 998999, 999000, 999001, 999500, 999999, 1000000} {
		without := impl.Engine{Procs: base.Procs, Now: now}
		// One that has ended, one that has failed, and ones that are live, with and without a due: they go on, or not, with the engine.
		with := cloneEngine(base)
		with.Now = now
		for i := range with.Insts {
			with.Insts[i].Chart.Now = now
		}
		with.Insts[3].Chart.Dues[0] = now + 4
		for _, n := range ticks {
			want := int64(impl.ErrRange)
			if n == min(max(n, 0), 1000, 1000000-now) {
				want = 0
			}
			why := "the time " + strconv.FormatInt(now, 10) + " and " + strconv.FormatInt(n, 10) + " more"
			x := engineCall{"tick", 0, n, nil}
			askCallCases(t, without, []callCase{{why, x, want}})
			askCallCases(t, with, []callCase{{why + " with instances", x, want}})
			if want != 0 {
				continue
			}
			if got := impl.TickEngine(without, n); got.Value != 0 || got.Engine.Now != now+n || len(got.Engine.Insts) != 0 {
				t.Errorf("%s: %v", why, got)
			}
			live := int64(2)
			if n >= 4 {
				live = 1
			}
			got := impl.TickEngine(with, n)
			if got.Value != live || got.Engine.Now != now+n {
				t.Errorf("%s: %v", why, got)
			}
			for i, inst := range got.Engine.Insts {
				if inst.Chart.Now != now+n {
					t.Errorf("%s: %d has the time %d", why, i, inst.Chart.Now)
				}
			}
		}
	}
}

// A due may lie above MaxTime: the time comes up to it no more, and what waits so is live.
func TestEnginesAtTheLastTime(t *testing.T) {
	procs := readProcs(t, `<timer ticks="5"/>`, `<guard ticks="99"><task name="a"/><set var="0" to="1"/></guard>`)
	e := impl.Engine{Procs: procs, Now: 999000}
	for _, c := range []struct{ line, want string }{
		{"tick 1001", "code 3"},
		{"tick 993", "0 at 999993"},
		{"start 0: 1 0 0 0", "0 at 999993; 0 live 999993 | 1 0 0 0 | 1 | 0:999998"},
		{"tick 8", "code 3"},
		{"tick 4", "1 at 999997; 0 live 999997 | 1 0 0 0 | 1 | 0:999998"},
		{"start 0: 2 0 0 0", "1 at 999997; 0 live 999997 | 1 0 0 0 | 1 | 0:999998; 0 live 999997 | 2 0 0 0 | 1 | 0:1000002"},
		{"start 1: 3 0 0 0", "2 at 999997; 0 live 999997 | 1 0 0 0 | 1 | 0:999998; 0 live 999997 | 2 0 0 0 | 1 | 0:1000002; 1 live 999997 | 3 0 0 0 | 110 | 0:1000096"},
		{"tick 4", "code 3"},
		{"tick 3", "2 at 1000000; 0 ended 1000000 | 1 0 0 0 | 0 | -; 0 live 1000000 | 2 0 0 0 | 1 | 0:1000002; 1 live 1000000 | 3 0 0 0 | 110 | 0:1000096"},
		{"tick 1", "code 3"},
		{"tick 1000", "code 3"},
		{"tick 0", "2 at 1000000; 0 ended 1000000 | 1 0 0 0 | 0 | -; 0 live 1000000 | 2 0 0 0 | 1 | 0:1000002; 1 live 1000000 | 3 0 0 0 | 110 | 0:1000096"},
		{"done 2 1: 7 0 0 0", "2 at 1000000; 0 ended 1000000 | 1 0 0 0 | 0 | -; 0 live 1000000 | 2 0 0 0 | 1 | 0:1000002; 1 ended 1000000 | 7 0 0 0 | 000 | -"},
		{"start 0: 4 0 0 0", "3 at 1000000; 0 ended 1000000 | 1 0 0 0 | 0 | -; 0 live 1000000 | 2 0 0 0 | 1 | 0:1000002; 1 ended 1000000 | 7 0 0 0 | 000 | -; 0 live 1000000 | 4 0 0 0 | 1 | 0:1000005"},
		{"drop 1", "3 at 1000000; 0 ended 1000000 | 1 0 0 0 | 0 | -; 0 failed 1000000 | 2 0 0 0 | 0 | -; 1 ended 1000000 | 7 0 0 0 | 000 | -; 0 live 1000000 | 4 0 0 0 | 1 | 0:1000005"},
	} {
		got := askCall(t, e, readCall(t, c.line))
		if told := tellEngine(got); told != c.want {
			t.Fatalf("%s: %s, want %s", c.line, told, c.want)
		}
		if got.Code == 0 {
			e = got.Engine
		}
	}
}

// The document's example: behind the ticks of a guard its task is open no more, and the second kid is entered.
func TestEngineExample(t *testing.T) {
	p := readProc(t, `<guard ticks="3"><task name="a"/><task name="b"/></guard>`)
	e := impl.StartInst(impl.NewEngine(procsOf(p)).Engine, 0, make([]int64, 4)).Engine
	for n, open := range [][]int64{{1}, {1}, {1}, {2}, {2}} {
		got := askCall(t, e, engineCall{"tick", 0, int64(n), nil})
		if list := impl.OpenSteps(p, got.Engine.Insts[0].Chart).List; got.Value != 1 || !slices.Equal(list, open) {
			t.Errorf("%d ticks: open is %v of %v", n, list, got)
		}
	}
}

// askCall asks what comes of a call against what is told once more, and promise 12: what is done to one instance is done to no other, and time goes on for all as for each. Whatever is done an engine has no fault.
func askCall(t *testing.T, e impl.Engine, x engineCall) impl.EngineResult {
	t.Helper()
	before := cloneEngine(e)
	got := x.ask(e)
	if want := slowCall(e, x); !sameEngineResults(got, want) {
		t.Fatalf("%v of %s: %s, want %s", x, tellEngine(impl.EngineResult{Engine: e}), tellEngine(got), tellEngine(want))
	}
	if !reflect.DeepEqual(e, before) {
		t.Fatalf("%v: the engine was changed: %v, before %v", x, e, before)
	}
	if got.Code != 0 {
		return got
	}
	if impl.EngineFault(got.Engine) != 0 || slowEngineFault(got.Engine) != 0 {
		t.Fatalf("%v of %s: %s has the fault %d", x, tellEngine(impl.EngineResult{Engine: e}), tellEngine(got), impl.EngineFault(got.Engine))
	}
	for i, was := range e.Insts {
		is := got.Engine.Insts[i]
		want := was.Chart
		if x.kind == "tick" {
			want = impl.TickChart(e.Procs[was.Proc].Steps, was.Chart, e.Now+x.number).Chart
		}
		own := x.kind != "tick" && x.kind != "start" && x.at == int64(i)
		if is.Proc != was.Proc || !own && !impl.SameCharts(is.Chart, want) {
			t.Fatalf("%v: %d is %v, and was %v", x, i, is, was)
		}
	}
	return got
}

// pickCall is a call, most often one that the engine has an answer to.
func pickCall(rnd *rand.Rand, e impl.Engine) engineCall {
	n := len(e.Insts)
	if n == 0 || rnd.Intn(6) == 0 {
		proc := rnd.Intn(len(e.Procs))
		if rnd.Intn(6) == 0 {
			proc = []int{-1, len(e.Procs)}[rnd.Intn(2)]
		}
		return engineCall{"start", int64(proc), 0, someVars(rnd)}
	}
	at := int64(rnd.Intn(n))
	if rnd.Intn(14) == 0 {
		return engineCall{"drop", at, 0, nil}
	}
	a := pickAct(rnd, e.Procs[e.Insts[at].Proc].Steps, e.Insts[at].Chart)
	if rnd.Intn(20) == 0 {
		at = []int64{-1, int64(n)}[rnd.Intn(2)]
	}
	switch a.Kind {
	case impl.ActDone:
		return engineCall{"done", at, a.At, a.Vars}
	case impl.ActMail:
		return engineCall{"mail", at, a.At, nil}
	}
	return engineCall{"tick", 0, a.At, nil}
}

// loneEngines are, for each instance of an engine, one in which there is that one alone: all is done to it that was done to that one, and nothing else.
type loneEngines []impl.Engine

// follow does to each what was done to an engine, with what came of it there, and asks that the same comes of it.
func (l loneEngines) follow(t *testing.T, e impl.Engine, x engineCall, got impl.EngineResult) loneEngines {
	t.Helper()
	if x.kind == "start" {
		alone := impl.StartInst(impl.Engine{Procs: e.Procs, Now: e.Now}, x.at, x.vars)
		if alone.Code != 0 || alone.Value != 0 {
			t.Fatalf("%v alone: %v", x, alone)
		}
		l = append(l, alone.Engine)
	}
	live := int64(0)
	for i := range l {
		if x.kind != "tick" && (x.kind == "start" || x.at != int64(i)) {
			continue
		}
		one := x
		one.at = 0
		alone := one.ask(l[i])
		if alone.Code != 0 || x.kind != "tick" && alone.Value != got.Value {
			t.Fatalf("%v alone: %v", x, alone)
		}
		l[i] = alone.Engine
		live += alone.Value
	}
	if x.kind == "tick" && live != got.Value {
		t.Fatalf("%v: %d are live, and alone %d", x, got.Value, live)
	}
	for i, alone := range l {
		// The time of one alone goes on with all: it has to be the same, whatever was done to others.
		if !reflect.DeepEqual(alone.Insts, got.Engine.Insts[i:i+1]) || alone.Now != got.Engine.Now {
			t.Fatalf("%v: %d is %v, and alone %v", x, i, got.Engine.Insts[i], alone)
		}
	}
	return l
}

// countCall counts what came of a call: of a tick also whether some end, fail and stay live with it.
func countCall(e impl.Engine, x engineCall, got impl.EngineResult, count map[string]int) {
	count[x.kind+" "+strconv.FormatInt(got.Code, 10)]++
	if got.Code != 0 || x.kind == "start" {
		return
	}
	turned := map[int64]int{}
	for i, was := range e.Insts {
		if is := got.Engine.Insts[i].Chart.Status; was.Chart.Status == impl.RunLive {
			turned[is]++
			count[x.kind+" "+[]string{"live", "ended", "failed"}[is-1]]++
		} else {
			count[x.kind+" beside "+[]string{"live", "ended", "failed"}[is-1]]++
		}
	}
	if turned[impl.RunLive] > 0 && turned[impl.RunEnded] > 0 {
		count[x.kind+" live and ended"]++
	}
	if turned[impl.RunLive] > 0 && turned[impl.RunFailed] > 0 {
		count[x.kind+" live and failed"]++
	}
}

// pickProcs are 1 to 3 processes, some of them such that they fail behind what is done or behind some ticks, with some variables.
func pickProcs(t *testing.T, rnd *rand.Rand) []impl.Proc {
	t.Helper()
	failing := []string{
		waitInTime,
		`<seq><timer ticks="2"/><set var="0" to="(8/(v1*v2))"/></seq>`,
		`<guard ticks="3"><task name="a"/><seq><set var="1" to="(5/(v0*(v1*v2)))"/><wait msg="2"/></seq></guard>`,
		`<and><task name="a"/><seq><wait msg="1"/><set var="2" to="(v0/(v3*v2))"/></seq><timer ticks="4"/></and>`,
		`<seq><task name="a"/><xor><task if="((9/v2)&lt;(7/v1))" name="b"/><wait msg="0"/></xor></seq>`,
	}
	var procs []impl.Proc
	for range 1 + rnd.Intn(3) {
		p := mildProc(rnd, randomProc(rnd, 1+rnd.Intn(24)))
		if rnd.Intn(2) == 0 {
			p = readProc(t, failing[rnd.Intn(len(failing))])
		}
		procs = append(procs, impl.Proc{Steps: p})
	}
	return procs
}

// Promise 12, of many engines and calls.
func TestWhatIsDoneToOneInstanceIsDoneToNoOther(t *testing.T) {
	rnd := rand.New(rand.NewSource(91))
	count := map[string]int{}
	for range 1500 {
		now := []int64{0, 0, 1, 100, 999000, 999990, 1000000}[rnd.Intn(7)]
		e := impl.Engine{Procs: pickProcs(t, rnd), Now: now}
		if now == 0 {
			e = impl.NewEngine(e.Procs).Engine
		}
		var alone loneEngines
		for range 30 {
			x := pickCall(rnd, e)
			got := askCall(t, e, x)
			countCall(e, x, got, count)
			if got.Code == 0 {
				alone = alone.follow(t, e, x, got)
				e = got.Engine
			}
		}
	}
	askCounts(t, count, 50, "start 0", "start 2", "start 3", "done 0", "done 3", "done 4", "mail 0", "mail 3", "mail 4", "tick 0", "tick 3", "drop 0", "drop 9",
		"done ended", "done failed", "mail ended", "mail failed", "tick live", "tick ended", "tick failed", "tick beside ended", "tick beside failed", "tick live and ended")
	askCounts(t, count, 20, "tick live and failed")
}

// Promise 12, of engines whose charts no start comes to: with dues that have passed, and nothing of it done yet.
func TestStrayEngines(t *testing.T) {
	rnd := rand.New(rand.NewSource(92))
	count := map[string]int{}
	for range 700 {
		e := impl.Engine{Procs: pickProcs(t, rnd), Now: int64(rnd.Intn(40))}
		for range 1 + rnd.Intn(6) {
			proc := rnd.Intn(len(e.Procs))
			c, ok := strayChart(rnd, e.Procs[proc].Steps)
			if !ok {
				continue
			}
			if rnd.Intn(6) == 0 {
				c.Status = impl.RunEnded + int64(rnd.Intn(2))
				clear(c.Acts)
				clear(c.Dues)
			}
			c.Now = e.Now
			for at := range c.Dues {
				c.Dues[at] = min(c.Dues[at], c.Now+99)
			}
			e.Insts = append(e.Insts, impl.Inst{Proc: int64(proc), Chart: c})
		}
		if fault := impl.EngineFault(e); fault != 0 || slowEngineFault(e) != 0 {
			t.Fatalf("%v has the fault %d", e, fault)
		}
		for range 8 {
			x := pickCall(rnd, e)
			got := askCall(t, e, x)
			countCall(e, x, got, count)
			if got.Code == 0 {
				e = got.Engine
			}
		}
	}
	askCounts(t, count, 20, "start 0", "done 0", "mail 0", "tick 0", "drop 0", "drop 9", "tick live", "tick ended", "tick failed", "tick beside ended", "tick beside failed", "tick live and ended")
}

// Promise 12, of each choice of some calls with small processes: two instances of one process, one of another one, and one that fails behind 4 ticks.
func TestAllCallsOfSmallEngines(t *testing.T) {
	count := map[string]int{}
	small := smallCharts(t)
	for i, p := range small {
		e := impl.NewEngine(procsOf(p, small[(i+5)%len(small)], readProc(t, waitInTime))).Engine
		var alone loneEngines
		for _, x := range []engineCall{{"start", 0, 0, []int64{1, 0, 0, 0}}, {"start", 1, 0, []int64{2, 0, 0, 0}}, {"start", 0, 0, []int64{0, 0, 0, 0}}, {"start", 2, 0, []int64{0, 0, 0, 0}}} {
			got := askCall(t, e, x)
			if got.Code != 0 {
				t.Fatal(got)
			}
			alone, e = alone.follow(t, e, x, got), got.Engine
		}
		calls := []engineCall{{"tick", 0, 1, nil}, {"tick", 0, 4, nil}}
		for inst := range int64(len(e.Insts)) {
			calls = append(calls, engineCall{"mail", inst, 1, nil}, engineCall{"drop", inst, 0, nil})
			for step, s := range e.Procs[e.Insts[inst].Proc].Steps {
				if s.Kind == impl.StepTask {
					calls = append(calls, engineCall{"done", inst, int64(step), []int64{0, 2, 0, 0}})
				}
			}
		}
		var grow func(e impl.Engine, alone loneEngines, left int)
		grow = func(e impl.Engine, alone loneEngines, left int) {
			if left == 0 {
				return
			}
			for _, x := range calls {
				got := askCall(t, e, x)
				countCall(e, x, got, count)
				if got.Code == 0 {
					grow(got.Engine, slices.Clone(alone).follow(t, e, x, got), left-1)
				}
			}
		}
		grow(e, alone, 3)
	}
	askCounts(t, count, 20, "done 0", "done 4", "mail 0", "mail 4", "tick 0", "drop 0", "drop 9", "tick ended", "tick failed", "tick live and ended", "tick live and failed", "tick beside ended", "tick beside failed")
}

// Instances of one process that are the same have lists of their own: one goes on, and the other one does not.
func TestInstancesThatAreTheSame(t *testing.T) {
	e := impl.NewEngine(readProcs(t, waitBesideTask, waitBesideTask)).Engine
	vars := []int64{1, 2, 3, 4}
	for range 3 {
		e = impl.StartInst(impl.StartInst(e, 0, vars).Engine, 1, vars).Engine
	}
	for inst := range int64(6) {
		for _, x := range []engineCall{{"done", inst, 2, vars}, {"mail", inst, 1, nil}, {"drop", inst, 0, nil}} {
			got := askCall(t, e, x)
			if got.Code != 0 {
				t.Errorf("%v: %v", x, got)
			}
			for other := range int64(6) {
				if same := impl.SameCharts(got.Engine.Insts[other].Chart, e.Insts[other].Chart); same != (other != inst) {
					t.Errorf("%v: the chart of %d is the same: %v", x, other, same)
				}
			}
		}
	}
}

func TestSameEngines(t *testing.T) {
	base := func() impl.Engine {
		chart := func(more int64) impl.Chart {
			return impl.Chart{Status: 1, Now: 2, Vars: []int64{3, 4 + more}, Acts: []int64{5, 6}, Dues: []int64{7, 8}}
		}
		return impl.Engine{
			Procs: procsOf(proc(seqAt(-1), setAt(0, 1, sums(2))), proc(taskAt(-1))),
			Insts: []impl.Inst{{Proc: 1, Chart: chart(0)}, {Proc: 0, Chart: chart(1)}},
			Now:   2,
		}
	}
	if !impl.SameEngines(base(), base()) {
		t.Error("the same are not the same")
	}
	changes := map[string]func(e *impl.Engine){
		"Now":                      func(e *impl.Engine) { e.Now = 3 },
		"a wrong Now":              func(e *impl.Engine) { e.Now = -1 },
		"a process more":           func(e *impl.Engine) { e.Procs = append(e.Procs, impl.Proc{Steps: proc(taskAt(-1))}) },
		"a process without steps":  func(e *impl.Engine) { e.Procs = append(e.Procs, impl.Proc{}) },
		"a process less":           func(e *impl.Engine) { e.Procs = e.Procs[:1] },
		"no process":               func(e *impl.Engine) { e.Procs = nil },
		"processes turned":         func(e *impl.Engine) { e.Procs[0], e.Procs[1] = e.Procs[1], e.Procs[0] },
		"one process twice":        func(e *impl.Engine) { e.Procs[1] = e.Procs[0] },
		"a step more":              func(e *impl.Engine) { e.Procs[1].Steps = append(e.Procs[1].Steps, impl.Step{}) },
		"a step less":              func(e *impl.Engine) { e.Procs[0].Steps = e.Procs[0].Steps[:1] },
		"no steps":                 func(e *impl.Engine) { e.Procs[1].Steps = nil },
		"the Kind of a step":       func(e *impl.Engine) { e.Procs[0].Steps[0].Kind = impl.StepXor },
		"the Parent of a step":     func(e *impl.Engine) { e.Procs[0].Steps[1].Parent = -1 },
		"the Name of a step":       func(e *impl.Engine) { e.Procs[1].Steps[0].Name = "z" },
		"the Arg of a step":        func(e *impl.Engine) { e.Procs[0].Steps[1].Arg = 2 },
		"the Cond of a step":       func(e *impl.Engine) { e.Procs[1].Steps[0].Cond = yes() },
		"the Expr of a step":       func(e *impl.Engine) { e.Procs[0].Steps[1].Expr[0].Value++ },
		"an instance more":         func(e *impl.Engine) { e.Insts = append(e.Insts, e.Insts[0]) },
		"an instance of nothing":   func(e *impl.Engine) { e.Insts = append(e.Insts, impl.Inst{}) },
		"the last instance less":   func(e *impl.Engine) { e.Insts = e.Insts[:1] },
		"the first instance less":  func(e *impl.Engine) { e.Insts = e.Insts[1:] },
		"no instance":              func(e *impl.Engine) { e.Insts = nil },
		"instances turned":         func(e *impl.Engine) { e.Insts[0], e.Insts[1] = e.Insts[1], e.Insts[0] },
		"charts turned":            func(e *impl.Engine) { e.Insts[0].Chart, e.Insts[1].Chart = e.Insts[1].Chart, e.Insts[0].Chart },
		"processes turned in both": func(e *impl.Engine) { e.Insts[0].Proc, e.Insts[1].Proc = 0, 1 },
		"one instance twice":       func(e *impl.Engine) { e.Insts[1] = e.Insts[0] },
	}
	for inst := range base().Insts {
		place := " of the instance " + strconv.Itoa(inst)
		changes["the Proc"+place] = func(e *impl.Engine) { e.Insts[inst].Proc += 2 }
		changes["no chart"+place] = func(e *impl.Engine) { e.Insts[inst].Chart = impl.Chart{} }
		changes["the Status"+place] = func(e *impl.Engine) { e.Insts[inst].Chart.Status = 3 }
		changes["the Now"+place] = func(e *impl.Engine) { e.Insts[inst].Chart.Now++ }
		for list, of := range []func(e *impl.Engine) *[]int64{
			func(e *impl.Engine) *[]int64 { return &e.Insts[inst].Chart.Vars },
			func(e *impl.Engine) *[]int64 { return &e.Insts[inst].Chart.Acts },
			func(e *impl.Engine) *[]int64 { return &e.Insts[inst].Chart.Dues },
		} {
			name := []string{"Vars", "Acts", "Dues"}[list] + place
			changes["the first of "+name] = func(e *impl.Engine) { (*of(e))[0]++ }
			changes["the last of "+name] = func(e *impl.Engine) { (*of(e))[1]-- }
			changes["one more of "+name] = func(e *impl.Engine) { *of(e) = append(*of(e), 0) }
			changes["one less of "+name] = func(e *impl.Engine) { *of(e) = (*of(e))[:1] }
			changes["none of "+name] = func(e *impl.Engine) { *of(e) = nil }
		}
	}
	for why, change := range changes {
		other := base()
		change(&other)
		if impl.SameEngines(base(), other) || impl.SameEngines(other, base()) {
			t.Errorf("the same in spite of %s", why)
		}
		if !impl.SameEngines(other, cloneEngine(other)) {
			t.Errorf("not the same as itself: %s", why)
		}
	}
	for of, change := range changes {
		for by, another := range changes {
			a, b := base(), base()
			change(&a)
			another(&b)
			if got := impl.SameEngines(a, b); got != slowSameEngines(a, b) {
				t.Errorf("%s and %s: the same is %v", of, by, got)
			}
		}
	}
	// Nothing is asked, and nil is the same as no element.
	none := impl.Engine{Procs: []impl.Proc{}, Insts: []impl.Inst{}}
	bare := bareEngine(base())
	if !impl.SameEngines(impl.Engine{}, none) || !impl.SameEngines(none, impl.Engine{}) || impl.SameEngines(none, base()) || !impl.SameEngines(bare, base()) || !impl.SameEngines(base(), bare) {
		t.Error("of no elements")
	}
	many := impl.Engine{Procs: make([]impl.Proc, 50), Insts: make([]impl.Inst, 50), Now: math.MinInt64}
	if !impl.SameEngines(many, cloneEngine(many)) || impl.SameEngines(many, base()) {
		t.Error("of many elements")
	}
}

// askEngine asks all that the chapter has functions for.
func askEngine(e, other impl.Engine, calls []engineCall) []any {
	answers := []any{impl.EngineFault(e), impl.NewEngine(e.Procs), impl.SameEngines(e, other), impl.SameEngines(other, e), impl.SameEngines(e, e)}
	for _, x := range calls {
		answers = append(answers, x.ask(e))
	}
	return answers
}

// someEngine is an engine that was played on for a while.
func someEngine(t *testing.T, rnd *rand.Rand) impl.Engine {
	t.Helper()
	e := impl.Engine{Procs: pickProcs(t, rnd), Now: int64(rnd.Intn(100))}
	for range rnd.Intn(12) {
		x := pickCall(rnd, e)
		if got := x.ask(e); got.Code == 0 {
			e = got.Engine
		}
	}
	return e
}

// spoilEngine makes one thing of e another one, right or wrong.
func spoilEngine(t *testing.T, rnd *rand.Rand, e impl.Engine) impl.Engine {
	t.Helper()
	e = cloneEngine(e)
	what := rnd.Intn(10)
	if len(e.Insts) == 0 {
		what = rnd.Intn(5)
	}
	inst := rnd.Intn(len(e.Insts) + 1)
	if inst == len(e.Insts) {
		inst = 0
	}
	switch what {
	case 0:
		e.Now = wildNumber(rnd)
	case 1, 2:
		if len(e.Procs) > 0 && len(e.Procs[0].Steps) > 0 {
			at := rnd.Intn(len(e.Procs))
			e.Procs[at].Steps = spoilProc(rnd, e.Procs[at].Steps)
		}
	case 3:
		e.Procs = append(e.Procs, pickProcs(t, rnd)...)
	case 4:
		e.Procs = e.Procs[:rnd.Intn(len(e.Procs)+1)]
	case 5:
		e.Insts[inst].Proc = []int64{wildNumber(rnd), int64(rnd.Intn(3))}[rnd.Intn(2)]
	case 6, 7:
		e.Insts[inst].Chart = spoilChart(rnd, e.Insts[inst].Chart)
	case 8:
		e.Insts = append(e.Insts, cloneEngine(e).Insts...)
	case 9:
		e.Insts[inst].Chart.Now += int64(rnd.Intn(3)) - 1
	}
	return e
}

// wildCalls are some calls, with any numbers.
func wildCalls(rnd *rand.Rand, e impl.Engine) []engineCall {
	var calls []engineCall
	for _, kind := range []string{"start", "done", "mail", "tick", "drop"} {
		vars := someVars(rnd)
		if rnd.Intn(5) == 0 {
			vars = append(vars[:rnd.Intn(5)], wildNumber(rnd), wildNumber(rnd))
		}
		calls = append(calls, engineCall{kind, int64(rnd.Intn(len(e.Insts) + 1)), int64(rnd.Intn(12)), vars}, engineCall{kind, wildNumber(rnd), wildNumber(rnd), vars})
	}
	return calls
}

// Promise 1: every function answers at every argument and changes none, with nothing beside a code.
func TestEnginesAnswerAtEachArgument(t *testing.T) {
	rnd := rand.New(rand.NewSource(93))
	count, same := map[int64]int{}, map[bool]int{}
	for i := range 8000 {
		e := someEngine(t, rnd)
		for range rnd.Intn(3) {
			e = spoilEngine(t, rnd, e)
		}
		if i%9 == 0 && len(e.Procs) > 0 {
			at := rnd.Intn(len(e.Procs))
			e.Procs[at].Steps[rnd.Intn(len(e.Procs[at].Steps))] = impl.Step{Kind: wildNumber(rnd), Parent: wildNumber(rnd), Arg: wildNumber(rnd), Cond: wildExpr(rnd), Expr: wildExpr(rnd)}
		}
		other, calls := spoilEngine(t, rnd, e), wildCalls(rnd, e)
		before, beforeOther := cloneEngine(e), cloneEngine(other)
		var vars [][]int64
		for _, x := range calls {
			vars = append(vars, slices.Clone(x.vars))
		}
		fault, first := slowEngineFault(e), impl.EngineResult{Engine: impl.Engine{Procs: e.Procs}}
		if first.Code = slowEngineFault(first.Engine); first.Code != 0 {
			first.Engine = impl.Engine{}
		}
		count[fault]++
		answers := askEngine(e, other, calls)
		if answers[0] != fault || !sameEngineResults(answers[1].(impl.EngineResult), first) {
			t.Fatalf("of %v: %v, want %d and %v", e, answers[:2], fault, first)
		}
		alike := slowSameEngines(e, other)
		same[alike]++
		if answers[2] != alike || answers[3] != alike || answers[4] != true {
			t.Fatalf("SameEngines of %v and %v: %v, want %v", e, other, answers[2:5], alike)
		}
		for at, x := range calls {
			got := answers[5+at].(impl.EngineResult)
			if want := slowCall(e, x); !sameEngineResults(got, want) || got.Code != 0 && !reflect.DeepEqual(got, impl.EngineResult{Code: got.Code}) {
				t.Fatalf("%v of %v: %v, want %v", x, e, got, want)
			}
			if !reflect.DeepEqual(x.vars, vars[at]) {
				t.Fatalf("%v: the variables were %v", x, vars[at])
			}
		}
		if !reflect.DeepEqual(e, before) || !reflect.DeepEqual(other, beforeOther) {
			t.Fatalf("changed: %v, %v, before %v, %v", e, other, before, beforeOther)
		}
	}
	for _, code := range []int64{impl.OK, impl.ErrForm, impl.ErrMany, impl.ErrRange, impl.ErrText, impl.ErrType, impl.ErrState} {
		if count[code] < 5 {
			t.Error(count)
		}
	}
	if same[true] < 100 || same[false] < 1000 {
		t.Error(same)
	}
}

// roomyEngine is e with room behind each list.
func roomyEngine(e impl.Engine) impl.Engine {
	e.Procs = append(make([]impl.Proc, 0, 10), e.Procs...)
	for i := range e.Procs {
		steps := append(make([]impl.Step, 0, 40), e.Procs[i].Steps...)
		for at := range steps {
			s := &steps[at]
			s.Name = strings.Clone(s.Name)
			s.Cond, s.Expr = append(make([]impl.Node, 0, 40), s.Cond...), append(make([]impl.Node, 0, 40), s.Expr...)
		}
		e.Procs[i].Steps = steps
	}
	e.Insts = append(make([]impl.Inst, 0, 10), e.Insts...)
	for i := range e.Insts {
		e.Insts[i].Chart = roomyChart(e.Insts[i].Chart)
	}
	return e
}

// askRoomBehindEngine asks that nothing was written behind the lists of what roomyEngine made.
func askRoomBehindEngine(t *testing.T, e impl.Engine) {
	t.Helper()
	for _, p := range e.Procs[len(e.Procs):cap(e.Procs)] {
		if p.Steps != nil {
			t.Errorf("behind the processes stands %v", p)
		}
	}
	for _, p := range e.Procs {
		askRoomBehind(t, p.Steps)
	}
	for _, i := range e.Insts[len(e.Insts):cap(e.Insts)] {
		if !reflect.DeepEqual(i, impl.Inst{}) {
			t.Errorf("behind the instances stands %v", i)
		}
	}
	for _, i := range e.Insts {
		for _, list := range [][]int64{i.Chart.Vars, i.Chart.Acts, i.Chart.Dues} {
			for _, number := range list[len(list):cap(list)] {
				if number != 77 {
					t.Errorf("behind a list stands %d", number)
				}
			}
		}
	}
}

// askOwnEngine asks that no two lists of e share memory: all of the room of each is overwritten, the inner ones first.
func askOwnEngine(t *testing.T, why string, e impl.Engine) {
	t.Helper()
	var numbers [][]int64
	var nodes [][]impl.Node
	for _, i := range e.Insts {
		numbers = append(numbers, listsOfChart(i.Chart)...)
	}
	for _, p := range e.Procs {
		nodes = append(nodes, listsOfProc(p.Steps)...)
	}
	askOwnLists(t, why, nodes)
	for i, list := range numbers {
		for j := range list {
			list[j] = int64(1000 + i)
		}
	}
	for i, list := range numbers {
		if slices.ContainsFunc(list, func(number int64) bool { return number != int64(1000+i) }) {
			t.Errorf("%s: two lists of numbers share memory", why)
		}
	}
	for i, p := range e.Procs {
		for at := range p.Steps[:cap(p.Steps)] {
			p.Steps[:cap(p.Steps)][at] = impl.Step{Kind: int64(100 + i)}
		}
	}
	for i, p := range e.Procs {
		for _, s := range p.Steps[:cap(p.Steps)] {
			if s.Kind != int64(100+i) {
				t.Errorf("%s: the steps of %d are shared", why, i)
			}
		}
	}
	clear(e.Procs[:cap(e.Procs)])
	clear(e.Insts[:cap(e.Insts)])
}

// Promise 1: an engine is new memory, no two lists of it share any, and neither an argument nor the room behind it is written to.
func TestEnginesAreNewMemory(t *testing.T) {
	e := roomyEngine(baseEngine(t))
	// Two processes are one list of steps, two instances one chart, and one list is both acts and dues.
	e.Procs[1], e.Insts[2] = e.Procs[2], e.Insts[1]
	e.Insts[1].Chart.Dues, e.Insts[2].Chart.Dues = e.Insts[1].Chart.Acts, e.Insts[1].Chart.Acts
	if fault := impl.EngineFault(e); fault != 0 {
		t.Fatal(fault)
	}
	before := cloneEngine(e)
	vars := roomy([]int64{1, 2, 3, 4})
	asks := map[string]func() impl.EngineResult{
		"NewEngine":                   func() impl.EngineResult { return impl.NewEngine(e.Procs) },
		"DoneInst with the chart's":   func() impl.EngineResult { return impl.DoneInst(e, 0, 1, e.Insts[0].Chart.Vars) },
		"StartInst with those of one": func() impl.EngineResult { return impl.StartInst(e, 2, e.Insts[3].Chart.Vars) },
	}
	for why, x := range map[string]engineCall{
		"StartInst":           {"start", 1, 0, vars},
		"DoneInst":            {"done", 0, 1, vars},
		"MailInst":            {"mail", 3, 1, nil},
		"TickEngine":          {"tick", 0, 5, nil},
		"TickEngine of 0":     {"tick", 0, 0, nil},
		"DropInst":            {"drop", 3, 0, nil},
		"DropInst of a first": {"drop", 0, 0, nil},
	} {
		asks[why] = func() impl.EngineResult { return x.ask(e) }
	}
	for why, ask := range asks {
		first, second := ask(), ask()
		want := impl.EngineResult{Code: second.Code, Value: second.Value, Engine: cloneEngine(second.Engine)}
		if first.Code != 0 || !sameEngineResults(first, want) {
			t.Fatalf("%s: %v and %v", why, first, second)
		}
		for i, p := range first.Engine.Procs {
			for at, s := range p.Steps {
				if sharesBytes(s.Name, e.Procs[i].Steps[at].Name) {
					t.Errorf("%s: the Name %q is shared", why, s.Name)
				}
			}
		}
		askOwnEngine(t, why, first.Engine)
		if !sameEngineResults(second, want) || !sameEngineResults(ask(), want) {
			t.Errorf("%s: two answers share memory", why)
		}
		if !reflect.DeepEqual(e, before) || !slices.Equal(vars, []int64{1, 2, 3, 4}) || slices.ContainsFunc(vars[4:cap(vars)], func(number int64) bool { return number != 77 }) {
			t.Fatalf("%s: an argument was written to", why)
		}
		askRoomBehindEngine(t, e)
	}
}

// Promise 1: an answer hangs on the arguments alone, not on what was asked ahead of it.
func TestEnginesHangOnArgumentsAlone(t *testing.T) {
	rnd := rand.New(rand.NewSource(94))
	type given struct {
		e, other impl.Engine
		calls    []engineCall
	}
	var all []given
	var first [][]any
	for i := range 200 {
		e := someEngine(t, rnd)
		if i%5 == 0 {
			e = spoilEngine(t, rnd, e)
		}
		x := given{e, spoilEngine(t, rnd, e), wildCalls(rnd, e)}
		all = append(all, x)
		first = append(first, askEngine(x.e, x.other, x.calls))
	}
	for i := len(all) - 1; i >= 0; i-- {
		x := all[i]
		for range 3 {
			// A clone lies elsewhere, and has more room: no answer hangs on an address or a capacity.
			if got := askEngine(roomyEngine(x.e), cloneEngine(x.other), x.calls); !reflect.DeepEqual(got, first[i]) {
				t.Errorf("%v, and ahead of that %v", got, first[i])
			}
		}
		// Nor on whether no element is nil.
		if bare := bareEngine(x.e); impl.EngineFault(bare) != first[i][0] || !impl.SameEngines(bare, x.e) {
			t.Errorf("%v has the fault %d", bare, impl.EngineFault(bare))
		}
	}
}
