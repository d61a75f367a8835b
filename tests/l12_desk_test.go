package tests

import (
	"cmp"
	"math"
	"math/rand"
	"reflect"
	"slices"
	"strconv"
	"strings"
	"testing"

	"loop.example/g00343/impl"
)

func cloneDesk(d impl.Desk) impl.Desk {
	return impl.Desk{Engine: cloneEngine(d.Engine), Claims: slices.Clone(d.Claims)}
}

// deskCall is what is done to a desk: a "claim", a "free" or a "finish" of the user a with the task of the instance b at the step c, or a "stir" of the kind a with at b and the value c.
type deskCall struct {
	word    string
	a, b, c int64
	vars    []int64
}

func (x deskCall) ask(d impl.Desk) impl.DeskResult {
	switch x.word {
	case "claim":
		return impl.ClaimTask(d, x.a, x.b, x.c)
	case "free":
		return impl.FreeTask(d, x.a, x.b, x.c)
	case "finish":
		return impl.FinishTask(d, x.a, x.b, x.c, x.vars)
	case "stir":
		return impl.StirDesk(d, x.a, x.b, x.c)
	}
	panic(x.word)
}

func claimCall(user, inst, step int64) deskCall { return deskCall{"claim", user, inst, step, nil} }
func freeCall(user, inst, step int64) deskCall  { return deskCall{"free", user, inst, step, nil} }
func stirCall(kind, at, value int64) deskCall   { return deskCall{"stir", kind, at, value, nil} }
func finishCall(user, inst, step int64, vars ...int64) deskCall {
	return deskCall{"finish", user, inst, step, vars}
}

// readDeskCall reads the word of a call and its numbers, with variables behind a ":". The kinds of a stir have words too: "start" of a process and a value, "mail" of an instance and a message, "tick" of a number, "drop" of an instance.
func readDeskCall(t *testing.T, line string) deskCall {
	t.Helper()
	told, behind, _ := strings.Cut(line, ":")
	words := strings.Fields(told)
	n := append(readNumbers(t, words[1:]), 0, 0)
	switch words[0] {
	case "start":
		return stirCall(1, n[0], n[1])
	case "mail":
		return stirCall(2, n[0], n[1])
	case "tick":
		return stirCall(3, 0, n[0])
	case "drop":
		return stirCall(4, n[0], 0)
	}
	return deskCall{words[0], n[0], n[1], n[2], readNumbers(t, strings.Fields(behind))}
}

// tellClaims tells each claim as its Inst, Step and User, and one of nobody without the User.
func tellClaims(claims []impl.Claim) string {
	var words []string
	for _, c := range claims {
		word := strconv.FormatInt(c.Inst, 10) + "." + strconv.FormatInt(c.Step, 10)
		if c.User != 0 {
			word += ":" + strconv.FormatInt(c.User, 10)
		}
		words = append(words, word)
	}
	if len(words) == 0 {
		return "-"
	}
	return strings.Join(words, " ")
}

// tellDesk tells the Value, the time, how each instance stands, what is claimed, and what is offered; or the code alone.
func tellDesk(got impl.DeskResult) string {
	if got.Code != 0 {
		if !reflect.DeepEqual(got, impl.DeskResult{Code: got.Code}) {
			return "a code and a desk"
		}
		return "code " + strconv.FormatInt(got.Code, 10)
	}
	told := strconv.FormatInt(got.Value, 10) + " at " + strconv.FormatInt(got.Desk.Engine.Now, 10) + ":"
	for _, i := range got.Desk.Engine.Insts {
		told += " " + []string{"none", "live", "ended", "failed"}[i.Chart.Status]
	}
	return told + " | " + tellClaims(got.Desk.Claims) + " | " + tellClaims(impl.OfferedAt(got.Desk).Claims)
}

// claimsOf reads what tellClaims tells of claims that have a user.
func claimsOf(text string) []impl.Claim {
	var claims []impl.Claim
	for _, word := range strings.Fields(text) {
		var numbers []int64
		for _, digits := range strings.FieldsFunc(word, func(r rune) bool { return r == '.' || r == ':' }) {
			number, err := strconv.ParseInt(digits, 10, 64)
			if err != nil {
				panic(err)
			}
			numbers = append(numbers, number)
		}
		claims = append(claims, impl.Claim{Inst: numbers[0], Step: numbers[1], User: numbers[2]})
	}
	return claims
}

// deskCase is processes as they are written, and what is done to a desk of them: each line has behind "=>" what tellDesk tells then. With a code the desk stays as it was.
type deskCase struct {
	why   string
	texts []string
	lines []string
}

func askDeskCases(t *testing.T, cases []deskCase) {
	t.Helper()
	for _, c := range cases {
		d := impl.Desk{Engine: impl.NewEngine(readProcs(t, c.texts...)).Engine}
		for _, line := range c.lines {
			told, want, _ := strings.Cut(line, " => ")
			got := askDesk(t, d, readDeskCall(t, told))
			if tellDesk(got) != want {
				t.Errorf("%s: %s: %s, want %s", c.why, told, tellDesk(got), want)
			}
			if got.Code == 0 {
				d = got.Desk
			}
			askHands(t, d)
			askUsers(t, d)
		}
	}
}

const (
	// 0 seq, 1 task, 2 task.
	taskBehindTask = `<seq><task name="a"/><task name="b"/></seq>`
	// 0 and, 1 task, 2 task, 3 wait, 4 timer.
	tasksBesideAll = `<and><task name="a"/><task name="b"/><wait msg="1"/><timer ticks="5"/></and>`
	// 0 guard, 1 and, 2 task, 3 task, 4 task: behind 3 ticks the first two are not open any more, and the last one is.
	tasksInTime = `<guard ticks="3"><and><task name="a"/><task name="b"/></and><task name="c"/></guard>`
	// 0 and, 1 task, 2 seq, 3 wait, 4 set: behind the message 1 it fails where the second variable is 0.
	failsBehindMail = `<and><task name="a"/><seq><wait msg="1"/><set var="0" to="(1/v1)"/></seq></and>`
	// 0 and, 1 task, 2 seq, 3 timer, 4 set: behind 2 ticks it fails where the second variable is 0.
	failsInTime = `<and><task name="a"/><seq><timer ticks="2"/><set var="0" to="(1/v1)"/></seq></and>`
	// 0 and, 1 task, 2 seq, 3 task, 4 set: behind the second task it fails where the second variable is 0.
	failsBehindTask = `<and><task name="a"/><seq><task name="b"/><set var="0" to="(1/v1)"/></seq></and>`
	// All of these in one: 0 guard, 1 and, 2 task, 3 task, 4 seq, 5 task, 6 set, 7 seq, 8 wait, 9 set, 10 and, 11 task, 12 task.
	manyAreGone = `<guard ticks="4"><and><task name="a"/><task name="b"/><seq><task name="c"/><set var="0" to="(1/v1)"/></seq><seq><wait msg="1"/><set var="0" to="(1/v1)"/></seq></and><and><task name="d"/><task name="e"/></and></guard>`
)

func TestDesksOfOneInstance(t *testing.T) {
	askDeskCases(t, []deskCase{
		{"no instance", []string{taskBehindTask}, []string{
			"claim 1 0 1 => code 3",
			"free 1 0 1 => code 3",
			"finish 1 0 1: 0 0 0 0 => code 3",
			"mail 0 1 => code 3",
			"drop 0 => code 3",
			"tick 4 => 0 at 4: | - | -",
		}},
		{"a task that is claimed and finished", []string{taskBehindTask}, []string{
			"start 0 5 => 0 at 0: live | - | 0.1",
			"claim 2 0 1 => 0 at 0: live | 0.1:2 | -",
			"claim 2 0 1 => code 6",
			"claim 3 0 1 => code 6",
			"claim 2 0 2 => code 4",
			"free 3 0 1 => code 10",
			"finish 3 0 1: 1 1 1 1 => code 10",
			"finish 2 0 1: 1 1 1 1 => 1 at 0: live | - | 0.2",
			"finish 2 0 1: 1 1 1 1 => code 4",
			"finish 2 0 2: 1 1 1 1 => code 10",
			"claim 9 0 2 => 0 at 0: live | 0.2:9 | -",
			"finish 2 0 2: 1 1 1 1 => code 10",
			"finish 9 0 2: 1 1 1 1 => 2 at 0: ended | - | -",
			"finish 9 0 2: 1 1 1 1 => code 4",
			"claim 9 0 2 => code 4",
			"free 9 0 2 => code 4",
		}},
		{"a task that is claimed and freed", []string{taskBehindTask}, []string{
			"start 0 5 => 0 at 0: live | - | 0.1",
			"free 2 0 1 => code 10",
			"claim 2 0 1 => 0 at 0: live | 0.1:2 | -",
			"free 1 0 1 => code 10",
			"free 2 0 1 => 0 at 0: live | - | 0.1",
			"free 2 0 1 => code 10",
			"finish 2 0 1: 1 1 1 1 => code 10",
			"claim 1 0 1 => 0 at 0: live | 0.1:1 | -",
			"finish 2 0 1: 1 1 1 1 => code 10",
			"tick 7 => 1 at 7: live | 0.1:1 | -",
			"free 1 0 1 => 0 at 7: live | - | 0.1",
			"claim 1 0 1 => 0 at 7: live | 0.1:1 | -",
			"finish 1 0 1: 1 1 1 1 => 1 at 7: live | - | 0.2",
		}},
		{"tasks beside one another, of several users", []string{tasksBesideAll}, []string{
			"start 0 0 => 0 at 0: live | - | 0.1 0.2",
			"claim 5 0 2 => 0 at 0: live | 0.2:5 | 0.1",
			"claim 5 0 3 => code 4",
			"claim 5 0 4 => code 4",
			"claim 4 0 1 => 0 at 0: live | 0.1:4 0.2:5 | -",
			"finish 4 0 2: 0 0 0 0 => code 10",
			"finish 4 0 1: 0 0 0 0 => 1 at 0: live | 0.2:5 | -",
			"mail 0 1 => 1 at 0: live | 0.2:5 | -",
			"tick 5 => 1 at 5: live | 0.2:5 | -",
			"finish 5 0 2: 0 0 0 0 => 2 at 5: ended | - | -",
		}},
		{"one user with all tasks", []string{tasksBesideAll}, []string{
			"start 0 0 => 0 at 0: live | - | 0.1 0.2",
			"claim 3 0 1 => 0 at 0: live | 0.1:3 | 0.2",
			"claim 3 0 2 => 0 at 0: live | 0.1:3 0.2:3 | -",
			"free 3 0 1 => 0 at 0: live | 0.2:3 | 0.1",
			"finish 3 0 2: 0 0 0 0 => 1 at 0: live | - | 0.1",
		}},
		{"a task without another step", []string{`<task name="a"/>`}, []string{
			"start 0 0 => 0 at 0: live | - | 0.0",
			"claim 1 0 0 => 0 at 0: live | 0.0:1 | -",
			"claim 1 0 1 => code 4",
			"finish 1 0 0: 1 2 3 4 => 2 at 0: ended | - | -",
		}},
	})
}

// Behind what turns a desk the claims of what is not open any more are gone, and the others stand in their order.
func TestClaimsThatAreGone(t *testing.T) {
	askDeskCases(t, []deskCase{
		{"a guard ends tasks that are claimed", []string{tasksInTime, tasksBesideAll}, []string{
			"start 1 0 => 0 at 0: live | - | 0.1 0.2",
			"start 0 0 => 1 at 0: live live | - | 0.1 0.2 1.2 1.3",
			"start 1 0 => 2 at 0: live live live | - | 0.1 0.2 1.2 1.3 2.1 2.2",
			"claim 1 2 2 => 0 at 0: live live live | 2.2:1 | 0.1 0.2 1.2 1.3 2.1",
			"claim 2 1 3 => 0 at 0: live live live | 1.3:2 2.2:1 | 0.1 0.2 1.2 2.1",
			"claim 3 0 2 => 0 at 0: live live live | 0.2:3 1.3:2 2.2:1 | 0.1 1.2 2.1",
			"claim 2 1 2 => 0 at 0: live live live | 0.2:3 1.2:2 1.3:2 2.2:1 | 0.1 2.1",
			"claim 2 0 1 => 0 at 0: live live live | 0.1:2 0.2:3 1.2:2 1.3:2 2.2:1 | 2.1",
			"tick 2 => 3 at 2: live live live | 0.1:2 0.2:3 1.2:2 1.3:2 2.2:1 | 2.1",
			"tick 1 => 3 at 3: live live live | 0.1:2 0.2:3 2.2:1 | 1.4 2.1",
			"free 2 1 2 => code 4",
			"finish 2 1 3: 0 0 0 0 => code 4",
			"finish 2 1 4: 0 0 0 0 => code 10",
			"claim 2 1 4 => 0 at 3: live live live | 0.1:2 0.2:3 1.4:2 2.2:1 | 2.1",
			"finish 2 1 4: 0 0 0 0 => 2 at 3: live ended live | 0.1:2 0.2:3 2.2:1 | 2.1",
		}},
		{"a guard ends an instance", []string{`<guard ticks="2"><task name="a"/><set var="0" to="1"/></guard>`}, []string{
			"start 0 0 => 0 at 0: live | - | 0.1",
			"start 0 0 => 1 at 0: live live | - | 0.1 1.1",
			"claim 7 1 1 => 0 at 0: live live | 1.1:7 | 0.1",
			"tick 2 => 0 at 2: ended ended | - | -",
		}},
		{"a guard whose task is done in time", []string{`<guard ticks="2"><task name="a"/><task name="b"/></guard>`}, []string{
			"start 0 0 => 0 at 0: live | - | 0.1",
			"tick 1 => 1 at 1: live | - | 0.1",
			"start 0 0 => 1 at 1: live live | - | 0.1 1.1",
			"claim 7 0 1 => 0 at 1: live live | 0.1:7 | 1.1",
			"claim 8 1 1 => 0 at 1: live live | 0.1:7 1.1:8 | -",
			"tick 1 => 2 at 2: live live | 1.1:8 | 0.2",
			"finish 8 1 1: 0 0 0 0 => 2 at 2: live ended | - | 0.2",
			"claim 8 0 2 => 0 at 2: live ended | 0.2:8 | -",
		}},
		{"a message makes an instance fail", []string{failsBehindMail}, []string{
			"start 0 0 => 0 at 0: live | - | 0.1",
			"start 0 0 => 1 at 0: live live | - | 0.1 1.1",
			"start 0 1 => 2 at 0: live live live | - | 0.1 1.1 2.1",
			"claim 1 0 1 => 0 at 0: live live live | 0.1:1 | 1.1 2.1",
			"claim 1 1 1 => 0 at 0: live live live | 0.1:1 1.1:1 | 2.1",
			"claim 1 2 1 => 0 at 0: live live live | 0.1:1 1.1:1 2.1:1 | -",
			"mail 1 2 => code 4",
			"mail 1 1 => 3 at 0: live failed live | 0.1:1 2.1:1 | -",
			"mail 2 1 => 1 at 0: live failed live | 0.1:1 2.1:1 | -",
			"free 1 1 1 => code 4",
			"drop 1 => code 9",
		}},
		{"a timer makes an instance fail", []string{failsInTime}, []string{
			"start 0 0 => 0 at 0: live | - | 0.1",
			"start 0 2 => 1 at 0: live live | - | 0.1 1.1",
			"claim 4 0 1 => 0 at 0: live live | 0.1:4 | 1.1",
			"claim 5 1 1 => 0 at 0: live live | 0.1:4 1.1:5 | -",
			"tick 1 => 2 at 1: live live | 0.1:4 1.1:5 | -",
			"tick 1 => 1 at 2: failed live | 1.1:5 | -",
		}},
		{"a task makes an instance fail", []string{failsBehindTask}, []string{
			"start 0 1 => 0 at 0: live | - | 0.1 0.3",
			"start 0 1 => 1 at 0: live live | - | 0.1 0.3 1.1 1.3",
			"claim 4 0 1 => 0 at 0: live live | 0.1:4 | 0.3 1.1 1.3",
			"claim 5 0 3 => 0 at 0: live live | 0.1:4 0.3:5 | 1.1 1.3",
			"claim 5 1 1 => 0 at 0: live live | 0.1:4 0.3:5 1.1:5 | 1.3",
			"claim 4 1 3 => 0 at 0: live live | 0.1:4 0.3:5 1.1:5 1.3:4 | -",
			"finish 5 0 3: 0 1 0 0 => 1 at 0: live live | 0.1:4 1.1:5 1.3:4 | -",
			"finish 4 1 3: 1 0 1 1 => 3 at 0: live failed | 0.1:4 | -",
		}},
		{"an instance is dropped", []string{tasksBesideAll}, []string{
			"start 0 0 => 0 at 0: live | - | 0.1 0.2",
			"start 0 0 => 1 at 0: live live | - | 0.1 0.2 1.1 1.2",
			"start 0 0 => 2 at 0: live live live | - | 0.1 0.2 1.1 1.2 2.1 2.2",
			"claim 1 0 1 => 0 at 0: live live live | 0.1:1 | 0.2 1.1 1.2 2.1 2.2",
			"claim 2 1 1 => 0 at 0: live live live | 0.1:1 1.1:2 | 0.2 1.2 2.1 2.2",
			"claim 1 1 2 => 0 at 0: live live live | 0.1:1 1.1:2 1.2:1 | 0.2 2.1 2.2",
			"claim 2 2 1 => 0 at 0: live live live | 0.1:1 1.1:2 1.2:1 2.1:2 | 0.2 2.2",
			"drop 1 => 3 at 0: live failed live | 0.1:1 2.1:2 | 0.2 2.2",
			"drop 1 => code 9",
			"claim 2 1 1 => code 4",
			"drop 0 => 3 at 0: failed failed live | 2.1:2 | 2.2",
			"drop 2 => 3 at 0: failed failed failed | - | -",
		}},
	})
}

// The document's example of a guard: behind its ticks the task is open no more, and nobody claims the second kid.
func TestDeskExample(t *testing.T) {
	d := impl.Desk{Engine: impl.NewEngine(readProcs(t, `<guard ticks="3"><task name="a"/><task name="b"/></guard>`)).Engine}
	d = impl.ClaimTask(impl.StirDesk(d, 1, 0, 0).Desk, 1, 0, 1).Desk
	for n := range int64(5) {
		got := impl.StirDesk(d, 3, 0, n)
		want := "1 at " + strconv.FormatInt(n, 10) + ": live | 0.1:1 | -"
		if n >= 3 {
			want = "1 at " + strconv.FormatInt(n, 10) + ": live | - | 0.2"
		}
		if told := tellDesk(got); told != want {
			t.Errorf("%d ticks: %s, want %s", n, told, want)
		}
	}
}

// slowOpenTasks are all tasks that are open, told once more.
func slowOpenTasks(e impl.Engine) []impl.Claim {
	var tasks []impl.Claim
	for inst, i := range e.Insts {
		p := e.Procs[i.Proc].Steps
		for _, step := range slowOpenSteps(p, i.Chart) {
			if p[step].Kind == impl.StepTask {
				tasks = append(tasks, impl.Claim{Inst: int64(inst), Step: step})
			}
		}
	}
	return tasks
}

func isOpenTask(e impl.Engine, inst, step int64) bool {
	return slices.Contains(slowOpenTasks(e), impl.Claim{Inst: inst, Step: step})
}

// slowDeskFault tells it once more.
func slowDeskFault(d impl.Desk) int64 {
	if fault := slowEngineFault(d.Engine); fault != 0 {
		return fault
	}
	if len(d.Claims) >= 61 {
		return impl.ErrMany
	}
	for i, c := range d.Claims {
		switch {
		case c.Inst < 0, c.Inst > int64(len(d.Engine.Insts))-1, c.User != min(max(c.User, 1), 9):
			return impl.ErrRange
		case !isOpenTask(d.Engine, c.Inst, c.Step):
			return impl.ErrNone
		}
		// There are at most 24 steps, so a number tells both.
		if i > 0 && d.Claims[i-1].Inst*100+d.Claims[i-1].Step >= c.Inst*100+c.Step {
			return impl.ErrForm
		}
	}
	return 0
}

func slowClaimAt(d impl.Desk, inst, step int64) int {
	return slices.IndexFunc(d.Claims, func(c impl.Claim) bool { return c.Inst == inst && c.Step == step })
}

// slowHandCode is the codes of what a user does with a task, told once more, but for those of the engine.
func slowHandCode(d impl.Desk, x deskCall) int64 {
	if x.a != min(max(x.a, 1), 9) || x.b < 0 || x.b > int64(len(d.Engine.Insts))-1 {
		return impl.ErrRange
	}
	if !isOpenTask(d.Engine, x.b, x.c) {
		return impl.ErrNone
	}
	at := slowClaimAt(d, x.b, x.c)
	switch {
	case x.word == "claim" && at != -1:
		return impl.ErrTaken
	case x.word == "claim" && len(d.Claims) >= 60:
		return impl.ErrMany
	case x.word != "claim" && (at == -1 || d.Claims[at].User != x.a):
		return impl.ErrUser
	}
	return 0
}

// slowStir tells once more what a stir does to an engine that has no fault.
func slowStir(e impl.Engine, kind, at, value int64) impl.EngineResult {
	switch {
	case kind < 1 || kind > 4, kind == 3 && at != 0, kind == 4 && value != 0:
		return impl.EngineResult{Code: impl.ErrForm}
	case kind == 1:
		return slowCall(e, engineCall{"start", at, 0, []int64{value, value, value, value}})
	case kind == 2:
		return slowCall(e, engineCall{"mail", at, value, nil})
	case kind == 3:
		return slowCall(e, engineCall{"tick", 0, value, nil})
	}
	return slowCall(e, engineCall{"drop", at, 0, nil})
}

// slowDeskCall tells once more what comes of a call.
func slowDeskCall(d impl.Desk, x deskCall) impl.DeskResult {
	if fault := slowDeskFault(d); fault != 0 {
		return impl.DeskResult{Code: fault}
	}
	if x.word == "stir" {
		return slowTurn(d, slowStir(d.Engine, x.a, x.b, x.c))
	}
	if code := slowHandCode(d, x); code != 0 {
		return impl.DeskResult{Code: code}
	}
	if x.word == "finish" {
		return slowTurn(d, slowCall(d.Engine, engineCall{"done", x.b, x.c, x.vars}))
	}
	got := impl.DeskResult{Desk: cloneDesk(d)}
	if at := slowClaimAt(d, x.b, x.c); x.word == "free" {
		got.Desk.Claims = slices.Delete(got.Desk.Claims, at, at+1)
		return got
	}
	place := 0
	for place < len(d.Claims) && d.Claims[place].Inst*100+d.Claims[place].Step < x.b*100+x.c {
		place++
	}
	got.Desk.Claims = slices.Insert(got.Desk.Claims, place, impl.Claim{Inst: x.b, Step: x.c, User: x.a})
	return got
}

// slowTurn goes by what was open and is not: what was done is not open either.
func slowTurn(d impl.Desk, next impl.EngineResult) impl.DeskResult {
	if next.Code != 0 {
		return impl.DeskResult{Code: next.Code}
	}
	got := impl.DeskResult{Value: next.Value, Desk: impl.Desk{Engine: next.Engine}}
	for _, c := range d.Claims {
		if isOpenTask(next.Engine, c.Inst, c.Step) {
			got.Desk.Claims = append(got.Desk.Claims, c)
		}
	}
	return got
}

// bareDesk has no list that is nil, and none without its own memory.
func bareDesk(d impl.Desk) impl.Desk {
	return impl.Desk{Engine: bareEngine(d.Engine), Claims: append([]impl.Claim{}, d.Claims...)}
}

// sameDeskResults tells whether all is the same: no element and nil are the same.
func sameDeskResults(a, b impl.DeskResult) bool {
	return a.Code == b.Code && a.Value == b.Value && reflect.DeepEqual(bareDesk(a.Desk), bareDesk(b.Desk))
}

// askDesk asks what comes of a call against what is told once more, and promise 13: whatever is done a desk has no fault, and behind it each claim is of an open task, as it was.
func askDesk(t *testing.T, d impl.Desk, x deskCall) impl.DeskResult {
	t.Helper()
	before := cloneDesk(d)
	got := x.ask(d)
	if want := slowDeskCall(d, x); !sameDeskResults(got, want) {
		t.Fatalf("%v of %s: %s, want %s", x, tellDesk(impl.DeskResult{Desk: d}), tellDesk(got), tellDesk(want))
	}
	if !reflect.DeepEqual(d, before) {
		t.Fatalf("%v: the desk was changed: %v, before %v", x, d, before)
	}
	if got.Code != 0 {
		return got
	}
	if impl.DeskFault(got.Desk) != 0 || slowDeskFault(got.Desk) != 0 {
		t.Fatalf("%v of %s: %s has the fault %d", x, tellDesk(impl.DeskResult{Desk: d}), tellDesk(got), impl.DeskFault(got.Desk))
	}
	for _, c := range got.Desk.Claims {
		is := x.word == "claim" && c == impl.Claim{Inst: x.b, Step: x.c, User: x.a}
		if was := slices.Contains(d.Claims, c); was == is {
			t.Fatalf("%v: the claim %v was there: %v", x, c, was)
		}
	}
	for _, c := range d.Claims {
		own := (x.word == "free" || x.word == "finish") && c == impl.Claim{Inst: x.b, Step: x.c, User: x.a}
		stays := !own && isOpenTask(got.Desk.Engine, c.Inst, c.Step)
		if slices.Contains(got.Desk.Claims, c) != stays {
			t.Fatalf("%v: the claim %v stays: %v", x, c, !stays)
		}
	}
	if (x.word == "claim" || x.word == "free") && (got.Value != 0 || !slowSameEngines(got.Desk.Engine, d.Engine)) {
		t.Fatalf("%v: the engine was turned: %v", x, got)
	}
	askOffers(t, got.Desk)
	return got
}

// comparePlaces tells claims in the order of Inst, then Step.
func comparePlaces(a, b impl.Claim) int {
	return cmp.Or(cmp.Compare(a.Inst, b.Inst), cmp.Compare(a.Step, b.Step))
}

// askOffers asks that each open task is either offered or claimed, and what is offered rises, each with User 0.
func askOffers(t *testing.T, d impl.Desk) {
	t.Helper()
	offered := impl.OfferedAt(d)
	if offered.Code != 0 || !slices.IsSortedFunc(offered.Claims, comparePlaces) {
		t.Fatalf("OfferedAt of %v = %v", d, offered)
	}
	all := slices.Clone(offered.Claims)
	for _, c := range d.Claims {
		all = append(all, impl.Claim{Inst: c.Inst, Step: c.Step})
	}
	slices.SortFunc(all, comparePlaces)
	if open := slowOpenTasks(d.Engine); !slices.Equal(all, open) {
		t.Fatalf("%s: offered and claimed are %s, and open is %s", tellDesk(impl.DeskResult{Desk: d}), tellClaims(all), tellClaims(open))
	}
}

// askUsers asks for the claims of each user, and of those that are none.
func askUsers(t *testing.T, d impl.Desk) {
	t.Helper()
	for user := range int64(11) {
		got := impl.ClaimsOf(d, user)
		if user == 0 || user == 10 {
			if !reflect.DeepEqual(got, impl.OfferResult{Code: impl.ErrRange}) {
				t.Fatalf("ClaimsOf %d = %v", user, got)
			}
			continue
		}
		want := slices.DeleteFunc(slices.Clone(d.Claims), func(c impl.Claim) bool { return c.User != user })
		if got.Code != 0 || !slices.Equal(got.Claims, want) {
			t.Fatalf("ClaimsOf %d of %s = %v", user, tellDesk(impl.DeskResult{Desk: d}), got)
		}
	}
}

// askHands asks promise 13 of each task that is open: it is of one user alone, and only that one finishes it or frees it.
func askHands(t *testing.T, d impl.Desk) {
	t.Helper()
	vars := []int64{1, 2, 3, 4}
	for _, open := range slowOpenTasks(d.Engine) {
		owner := int64(0)
		if at := slowClaimAt(d, open.Inst, open.Step); at != -1 {
			owner = d.Claims[at].User
		}
		for user := int64(1); user <= 9; user++ {
			claimed, held := int64(0), int64(impl.ErrUser)
			if owner != 0 {
				claimed = impl.ErrTaken
			} else if len(d.Claims) == 60 {
				claimed = impl.ErrMany
			}
			if owner == user {
				held = 0
			}
			codes := []int64{
				impl.ClaimTask(d, user, open.Inst, open.Step).Code,
				impl.FreeTask(d, user, open.Inst, open.Step).Code,
				impl.FinishTask(d, user, open.Inst, open.Step, vars).Code,
			}
			if !slices.Equal(codes, []int64{claimed, held, held}) {
				t.Errorf("the user %d with %v of %s: %v", user, open, tellDesk(impl.DeskResult{Desk: d}), codes)
			}
		}
	}
}

// baseDesk is a desk at the time 4 of four instances and five claims: one with tasks, a wait and a timer that are on, one that has ended, one that has failed, and one in which a task is done.
func baseDesk(t *testing.T) impl.Desk {
	t.Helper()
	d := impl.Desk{Engine: impl.NewEngine(readProcs(t, tasksBesideAll, failsInTime, `<and><task name="a"/><task name="b"/><task name="c"/><task name="d"/></and>`)).Engine}
	got := impl.DeskResult{}
	for _, line := range []string{"tick 1", "start 1 1", "start 1 0", "claim 1 0 1", "finish 1 0 1: 0 1 0 0", "tick 2", "start 0 3", "start 2 2", "claim 4 3 1", "finish 4 3 1: 7 7 7 7", "claim 1 3 4", "claim 9 2 1", "claim 4 3 2", "tick 1"} {
		if got = readDeskCall(t, line).ask(d); got.Code != 0 {
			t.Fatalf("%s: %v", line, got)
		}
		d = got.Desk
	}
	if told := tellDesk(got); told != "2 at 4: ended failed live live | 2.1:9 3.2:4 3.4:1 | 2.2 3.3" {
		t.Fatal(told)
	}
	return d
}

// someDeskCalls are calls that have a code of their own, and ones that have none, of baseDesk.
var someDeskCalls = []deskCall{
	claimCall(1, 2, 2), claimCall(9, 3, 3), claimCall(1, 2, 1), claimCall(0, 2, 2), claimCall(10, 2, 2), claimCall(1, 4, 1), claimCall(1, -1, 1), claimCall(1, 2, 3), claimCall(1, 0, 1),
	freeCall(9, 2, 1), freeCall(4, 3, 2), freeCall(1, 2, 1), freeCall(1, 2, 2), freeCall(0, 2, 1), freeCall(9, 9, 9), freeCall(9, 1, 1),
	finishCall(9, 2, 1, 1, 2, 3, 4), finishCall(1, 3, 4, 4, 3, 2, 1), finishCall(9, 2, 1), finishCall(2, 2, 1, 1, 2, 3, 4), finishCall(2, 2, 2, 1, 2, 3, 4), finishCall(9, 2, 3, 1, 2, 3, 4), finishCall(10, 2, 1, 1, 2, 3, 4), finishCall(9, 2, 1, 1, 2, 3, 1000001),
	stirCall(0, 0, 0), stirCall(1, 0, 5), stirCall(1, 3, 5), stirCall(1, 2, 1000001), stirCall(2, 2, 1), stirCall(2, 2, 9), stirCall(2, 5, 1), stirCall(3, 0, 6), stirCall(3, 1, 6), stirCall(3, 0, 1001), stirCall(4, 3, 0), stirCall(4, 0, 0), stirCall(4, 3, 1), stirCall(5, 0, 0), stirCall(math.MinInt64, math.MaxInt64, math.MinInt64),
}

// askFaultyDesk asks each function of a desk: they ask the DeskFault first, whatever else they are given.
func askFaultyDesk(t *testing.T, why string, d impl.Desk, want int64) {
	t.Helper()
	if got := impl.DeskFault(d); got != want {
		t.Errorf("DeskFault of %s = %d, want %d", why, got, want)
	}
	if slow := slowDeskFault(d); slow != want {
		t.Errorf("the test's own fault of %s = %d, want %d", why, slow, want)
	}
	if want == 0 {
		askOffers(t, d)
		askUsers(t, d)
	} else {
		alone := impl.OfferResult{Code: want}
		for user := int64(-1); user <= 10; user++ {
			if got := impl.ClaimsOf(d, user); !reflect.DeepEqual(got, alone) {
				t.Errorf("ClaimsOf %d of %s = %v", user, why, got)
			}
		}
		if got := impl.OfferedAt(d); !reflect.DeepEqual(got, alone) {
			t.Errorf("OfferedAt of %s = %v", why, got)
		}
	}
	for _, x := range someDeskCalls {
		got := x.ask(d)
		if want != 0 && !reflect.DeepEqual(got, impl.DeskResult{Code: want}) {
			t.Errorf("%v of %s = %v, want the code %d alone", x, why, got, want)
		}
		if want == 0 && !sameDeskResults(got, slowDeskCall(d, x)) {
			t.Errorf("%v of %s = %v, want %v", x, why, got, slowDeskCall(d, x))
		}
	}
}

func TestDesksOfWrongEngines(t *testing.T) {
	for why, spoil := range map[string]struct {
		want   int64
		change func(e *impl.Engine)
	}{
		"no process":              {impl.ErrMany, func(e *impl.Engine) { e.Procs = nil }},
		"nothing":                 {impl.ErrMany, func(e *impl.Engine) { *e = impl.Engine{} }},
		"four processes":          {impl.ErrMany, func(e *impl.Engine) { e.Procs = append(e.Procs, e.Procs[0]) }},
		"seven instances":         {impl.ErrMany, func(e *impl.Engine) { e.Insts = append(e.Insts, e.Insts[:3]...) }},
		"a wrong process":         {impl.ErrForm, func(e *impl.Engine) { e.Procs[1].Steps[0].Kind = 9 }},
		"a task without a name":   {impl.ErrText, func(e *impl.Engine) { e.Procs[0].Steps[1].Name = "" }},
		"a set that is a bool":    {impl.ErrType, func(e *impl.Engine) { e.Procs[1].Steps[4].Expr = yes() }},
		"a wrong time":            {impl.ErrRange, func(e *impl.Engine) { e.Now = -1 }},
		"another time":            {impl.ErrState, func(e *impl.Engine) { e.Now++ }},
		"an instance of nothing":  {impl.ErrRange, func(e *impl.Engine) { e.Insts[3].Proc = 3 }},
		"a wrong act":             {impl.ErrForm, func(e *impl.Engine) { e.Insts[2].Chart.Acts[0] = 0 }},
		"a chart with fewer acts": {impl.ErrMany, func(e *impl.Engine) { e.Insts[2].Chart.Acts = e.Insts[2].Chart.Acts[:1] }},
	} {
		d := cloneDesk(baseDesk(t))
		spoil.change(&d.Engine)
		askFaultyDesk(t, why, d, spoil.want)
		d.Claims = nil
		askFaultyDesk(t, why+" without claims", d, spoil.want)
		// All claims are asked behind the engine, and how many there are too.
		d.Claims = []impl.Claim{{Inst: -1}}
		askFaultyDesk(t, why+" and a wrong claim", d, spoil.want)
		d.Claims = make([]impl.Claim, 61)
		askFaultyDesk(t, why+" and 61 claims", d, spoil.want)
	}
}

func TestDeskFaultOfClaims(t *testing.T) {
	base := baseDesk(t)
	one := func(inst, step, user int64) []impl.Claim { return []impl.Claim{{Inst: inst, Step: step, User: user}} }
	for _, c := range []struct {
		why    string
		claims []impl.Claim
		want   int64
	}{
		{"no claim", nil, 0},
		{"a list of no claim", []impl.Claim{}, 0},
		{"one claim", one(2, 1, 5), 0},
		{"one claim of the last task", one(3, 4, 5), 0},
		{"the first user", one(2, 1, 1), 0},
		{"the last user", one(2, 1, 9), 0},
		{"the user 0", one(2, 1, 0), impl.ErrRange},
		{"the user 10", one(2, 1, 10), impl.ErrRange},
		{"the user -1", one(2, 1, -1), impl.ErrRange},
		{"a user far above", one(2, 1, math.MaxInt64), impl.ErrRange},
		{"a user far below", one(2, 1, math.MinInt64), impl.ErrRange},
		{"a user that is one in 32 bits", one(2, 1, 1<<32+1), impl.ErrRange},
		{"the instance -1", one(-1, 1, 5), impl.ErrRange},
		{"the instance behind the last one", one(4, 1, 5), impl.ErrRange},
		{"an instance far above", one(math.MaxInt64, 1, 5), impl.ErrRange},
		{"an instance far below", one(math.MinInt64, 1, 5), impl.ErrRange},
		{"an instance that is one in 32 bits", one(1<<32+2, 1, 5), impl.ErrRange},
		{"a wrong instance and a wrong step", one(4, -1, 5), impl.ErrRange},
		{"a wrong user and a wrong step", one(2, 9, 0), impl.ErrRange},
		{"the step above tasks", one(2, 0, 5), impl.ErrNone},
		{"a wait that is on", one(2, 3, 5), impl.ErrNone},
		{"a timer that is on", one(2, 4, 5), impl.ErrNone},
		{"the step behind the last one", one(2, 5, 5), impl.ErrNone},
		{"the step -1", one(2, -1, 5), impl.ErrNone},
		{"a step far above", one(2, math.MaxInt64, 5), impl.ErrNone},
		{"a step far below", one(2, math.MinInt64, 5), impl.ErrNone},
		{"a step that is one in 32 bits", one(2, 1<<32+1, 5), impl.ErrNone},
		{"a task that is done", one(3, 1, 5), impl.ErrNone},
		{"a task of an instance that has ended", one(0, 1, 5), impl.ErrNone},
		{"a task of an instance that has failed", one(1, 1, 5), impl.ErrNone},
		{"nothing", []impl.Claim{{}}, impl.ErrRange},
		{"claims that rise", claimsOf("2.1:3 2.2:3 3.2:3"), 0},
		{"claims that rise, of users that fall", claimsOf("2.1:9 2.2:8 3.2:7 3.3:6 3.4:5"), 0},
		{"two claims of one task", claimsOf("2.1:3 2.1:4"), impl.ErrForm},
		{"one claim twice", claimsOf("2.1:3 2.1:3"), impl.ErrForm},
		{"steps that fall", claimsOf("2.2:3 2.1:4"), impl.ErrForm},
		{"instances that fall", claimsOf("3.2:3 2.2:3"), impl.ErrForm},
		{"instances that fall, with steps that rise", claimsOf("3.2:1 2.1:2"), impl.ErrForm},
		{"instances that rise, with steps that fall", claimsOf("2.2:1 3.2:2"), 0},
		{"instances that rise, with steps that fall far", claimsOf("2.2:1 3.4:2 3.3:1"), impl.ErrForm},
		{"the last one falls", claimsOf("2.1:3 2.2:3 3.2:3 3.2:3"), impl.ErrForm},
		// Claim by claim: all codes of one are asked ahead of the next one.
		{"a task that is done, ahead of a wrong user", claimsOf("3.1:3 3.2:0"), impl.ErrNone},
		{"a wrong user, ahead of a task that is done", claimsOf("2.1:0 3.1:3"), impl.ErrRange},
		{"a fall, ahead of a wrong user", claimsOf("2.2:1 2.1:1 3.2:0"), impl.ErrForm},
		{"a fall, ahead of a wrong step", claimsOf("2.2:1 2.1:1 3.1:1"), impl.ErrForm},
		{"a fall to a wrong user", claimsOf("2.2:1 2.1:10"), impl.ErrRange},
		{"a fall to a wrong instance", claimsOf("2.2:1 -1.1:1"), impl.ErrRange},
		{"a fall to a step that is not open", claimsOf("2.2:1 0.1:1"), impl.ErrNone},
	} {
		d := cloneDesk(base)
		d.Claims = c.claims
		askFaultyDesk(t, c.why, d, c.want)
	}
}

// Several faults at once: the one that the document names first tells the code, and claim by claim that of the first one.
func TestDeskFaultOfSeveral(t *testing.T) {
	with := func(code int64, change func(d *impl.Desk)) spoilt[impl.Desk] {
		return spoilt[impl.Desk]{code, func(d *impl.Desk) {
			*d = cloneDesk(*d)
			change(d)
		}}
	}
	for _, faults := range [][]spoilt[impl.Desk]{
		{
			with(impl.ErrState, func(d *impl.Desk) { d.Engine.Insts[0].Chart.Now++ }),
			with(impl.ErrMany, func(d *impl.Desk) { d.Claims = append(d.Claims, make([]impl.Claim, 60)...) }),
			with(impl.ErrRange, func(d *impl.Desk) { d.Claims[0].User = 0 }),
			with(impl.ErrNone, func(d *impl.Desk) { d.Claims[1].Step = 1 }),
			with(impl.ErrRange, func(d *impl.Desk) { d.Claims[2].Inst = 4 }),
		},
		{
			with(impl.ErrForm, func(d *impl.Desk) { d.Engine.Procs[2].Steps[0].Kind = 0 }),
			with(impl.ErrMany, func(d *impl.Desk) { d.Claims = append(d.Claims, make([]impl.Claim, 58)...) }),
			with(impl.ErrNone, func(d *impl.Desk) { d.Claims[0].Step = 3 }),
			with(impl.ErrRange, func(d *impl.Desk) { d.Claims[1].User = 10 }),
			with(impl.ErrNone, func(d *impl.Desk) { d.Claims[2].Step = 0 }),
		},
		{
			// All of one claim: it is no place, or no open task, or not behind the one ahead.
			with(impl.ErrRange, func(d *impl.Desk) { d.Claims[1].User = -1 }),
			with(impl.ErrNone, func(d *impl.Desk) { d.Claims[1].Inst = 0 }),
			with(impl.ErrForm, func(d *impl.Desk) { d.Claims[2] = d.Claims[0] }),
		},
	} {
		askSeveral(baseDesk(t), faults, func(d impl.Desk, want int64) { askFaultyDesk(t, "several faults", d, want) })
	}
}

// wideDesk is a desk of six instances with eleven open tasks each, of which the first n are claimed.
func wideDesk(t *testing.T, n int) impl.Desk {
	t.Helper()
	d := impl.Desk{Engine: impl.NewEngine(readProcs(t, `<and>`+strings.Repeat(`<task name="a"/>`, 11)+`</and>`)).Engine}
	for range 6 {
		d = impl.StirDesk(d, 1, 0, 1).Desk
	}
	for i := range int64(n) {
		d.Claims = append(d.Claims, impl.Claim{Inst: i / 11, Step: 1 + i%11, User: 1 + i%9})
	}
	return d
}

func TestDesksOfManyClaims(t *testing.T) {
	for _, n := range []int{0, 1, 11, 12, 59, 60, 61, 62, 66} {
		want := int64(impl.ErrMany)
		if n <= 60 {
			want = 0
		}
		askFaultyDesk(t, strconv.Itoa(n)+" claims", wideDesk(t, n), want)
	}
	// How many there are is asked ahead of each of them.
	for why, change := range map[string]func(claims []impl.Claim){
		"a wrong user":     func(claims []impl.Claim) { claims[0].User = 0 },
		"a wrong instance": func(claims []impl.Claim) { claims[0].Inst = 6 },
		"no open task":     func(claims []impl.Claim) { claims[0].Step = 0 },
		"one claim 61 times": func(claims []impl.Claim) {
			for i := range claims {
				claims[i] = claims[0]
			}
		},
	} {
		d := wideDesk(t, 61)
		change(d.Claims)
		askFaultyDesk(t, "61 claims and "+why, d, impl.ErrMany)
	}
	askFaultyDesk(t, "very many claims", impl.Desk{Engine: wideDesk(t, 0).Engine, Claims: make([]impl.Claim, 100000)}, impl.ErrMany)
	full := wideDesk(t, 60)
	for _, c := range []struct {
		call deskCall
		want int64
	}{
		{claimCall(1, 5, 6), impl.ErrMany},
		{claimCall(9, 5, 11), impl.ErrMany},
		{claimCall(1, 0, 1), impl.ErrTaken},
		{claimCall(2, 0, 1), impl.ErrTaken},
		{claimCall(1, 5, 0), impl.ErrNone},
		{claimCall(1, 5, 12), impl.ErrNone},
		{claimCall(0, 5, 6), impl.ErrRange},
		{claimCall(1, 6, 6), impl.ErrRange},
		{freeCall(1, 0, 1), 0},
		{freeCall(1, 0, 2), impl.ErrUser},
		{freeCall(1, 5, 6), impl.ErrUser},
		{finishCall(6, 5, 5, 0, 0, 0, 0), 0},
		{stirCall(3, 0, 5), 0},
		{stirCall(4, 5, 0), 0},
		{stirCall(1, 0, 0), impl.ErrMany},
	} {
		if got := askDesk(t, full, c.call); got.Code != c.want {
			t.Errorf("%v of 60 claims has the code %d, want %d", c.call, got.Code, c.want)
		}
	}
	// With one that is freed, or done, there is place for another one.
	for _, ahead := range []deskCall{freeCall(1, 0, 1), finishCall(1, 0, 1, 0, 0, 0, 0)} {
		got := askDesk(t, askDesk(t, full, ahead).Desk, claimCall(9, 5, 11))
		if got.Code != 0 || len(got.Desk.Claims) != 60 || got.Desk.Claims[59] != (impl.Claim{Inst: 5, Step: 11, User: 9}) {
			t.Errorf("%v and one more: %v", ahead, got)
		}
		if again := askDesk(t, got.Desk, claimCall(9, 5, 10)); again.Code != impl.ErrMany {
			t.Errorf("%v and two more: %v", ahead, again)
		}
	}
	// In whatever order tasks are claimed the claims rise.
	rnd := rand.New(rand.NewSource(100))
	d := wideDesk(t, 0)
	for i, at := range rnd.Perm(66) {
		got := askDesk(t, d, claimCall(int64(1+i%9), int64(at/11), int64(1+at%11)))
		if (got.Code == 0) != (i < 60) || got.Code != 0 && got.Code != impl.ErrMany {
			t.Fatalf("the claim %d has the code %d", i, got.Code)
		}
		if got.Code == 0 {
			d = got.Desk
		}
	}
	askHands(t, d)
}

// deskCallCase is a call, and the code that it has.
type deskCallCase struct {
	why  string
	call deskCall
	want int64
}

func askDeskCallCases(t *testing.T, d impl.Desk, cases []deskCallCase) {
	t.Helper()
	for _, c := range cases {
		if got := askDesk(t, d, c.call); got.Code != c.want {
			t.Errorf("%s: the code %d, want %d", c.why, got.Code, c.want)
		}
	}
}

func TestUsersWithTasks(t *testing.T) {
	base := baseDesk(t)
	vars := []int64{1, 2, 3, 4}
	for _, word := range []string{"claim", "free", "finish"} {
		var cases []deskCallCase
		add := func(why string, user, inst, step, want int64) {
			cases = append(cases, deskCallCase{word + ": " + why, deskCall{word, user, inst, step, vars}, want})
		}
		for why, user := range map[string]int64{"the user 0": 0, "the user 10": 10, "the user -1": -1, "a user far above": math.MaxInt64, "a user far below": math.MinInt64, "a user that is one in 32 bits": 1<<32 + 9} {
			add(why+" and a claimed task", user, 2, 1, impl.ErrRange)
			add(why+" and an offered task", user, 2, 2, impl.ErrRange)
			add(why+" and no instance", user, 4, 2, impl.ErrRange)
			add(why+" and no task", user, 2, 3, impl.ErrRange)
		}
		for why, inst := range map[string]int64{"the instance -1": -1, "the instance behind the last one": 4, "an instance far above": math.MaxInt64, "an instance far below": math.MinInt64, "an instance that is one in 32 bits": 1<<32 + 2} {
			add(why, 9, inst, 1, impl.ErrRange)
			add(why+" and no step", 9, inst, -1, impl.ErrRange)
		}
		for why, step := range map[string]int64{"the step -1": -1, "the step above tasks": 0, "a wait that is on": 3, "a timer that is on": 4, "the step behind the last one": 5, "a step far above": math.MaxInt64, "a step far below": math.MinInt64, "a step that is one in 32 bits": 1<<32 + 1} {
			add(why, 9, 2, step, impl.ErrNone)
		}
		add("a task that is done", 4, 3, 1, impl.ErrNone)
		add("a task of an instance that has ended", 1, 0, 1, impl.ErrNone)
		add("a task of an instance that has failed", 1, 1, 1, impl.ErrNone)
		free, taken, held := int64(impl.ErrUser), int64(impl.ErrUser), int64(0)
		if word == "claim" {
			free, taken, held = 0, impl.ErrTaken, impl.ErrTaken
		}
		for user := int64(1); user <= 9; user++ {
			add("a task that nobody has claimed", user, 2, 2, free)
			add("the last place with a task that nobody has claimed", user, 3, 3, free)
			// Each of them is claimed by another one of these users.
			for _, c := range base.Claims {
				want := taken
				if user == c.User {
					want = held
				}
				add("a task that is claimed", user, c.Inst, c.Step, want)
			}
		}
		askDeskCallCases(t, base, cases)
	}
}

func TestClaimsOfUsers(t *testing.T) {
	base := baseDesk(t)
	base.Claims = claimsOf("2.1:4 2.2:9 3.2:4 3.3:1 3.4:4")
	for user, want := range map[int64]string{1: "3.3:1", 2: "-", 4: "2.1:4 3.2:4 3.4:4", 8: "-", 9: "2.2:9"} {
		if got := impl.ClaimsOf(base, user); got.Code != 0 || tellClaims(got.Claims) != want {
			t.Errorf("ClaimsOf %d = %v, want %s", user, got, want)
		}
	}
	for _, user := range []int64{0, 10, -1, 11, math.MaxInt64, math.MinInt64, 1<<32 + 4} {
		if got := impl.ClaimsOf(base, user); !reflect.DeepEqual(got, impl.OfferResult{Code: impl.ErrRange}) {
			t.Errorf("ClaimsOf %d = %v", user, got)
		}
	}
	base.Claims = nil
	for user := int64(1); user <= 9; user++ {
		if got := impl.ClaimsOf(base, user); got.Code != 0 || len(got.Claims) != 0 {
			t.Errorf("ClaimsOf %d without claims = %v", user, got)
		}
	}
}

func TestOfferedAt(t *testing.T) {
	base := baseDesk(t)
	for _, c := range []struct {
		why    string
		claims []impl.Claim
		want   string
	}{
		{"no claim", nil, "2.1 2.2 3.2 3.3 3.4"},
		{"one claim", claimsOf("3.2:1"), "2.1 2.2 3.3 3.4"},
		{"all of one instance", claimsOf("2.1:1 2.2:2"), "3.2 3.3 3.4"},
		{"all but one", claimsOf("2.1:1 2.2:2 3.2:2 3.4:2"), "3.3"},
		{"all", claimsOf("2.1:1 2.2:2 3.2:2 3.3:9 3.4:2"), "-"},
	} {
		d := impl.Desk{Engine: base.Engine, Claims: c.claims}
		if got := impl.OfferedAt(d); got.Code != 0 || tellClaims(got.Claims) != c.want {
			t.Errorf("%s: OfferedAt = %v, want %s", c.why, got, c.want)
		}
	}
	for why, d := range map[string]impl.Desk{
		"no instance":   {Engine: impl.Engine{Procs: base.Engine.Procs}},
		"none is live":  {Engine: impl.Engine{Procs: base.Engine.Procs, Insts: base.Engine.Insts[:2], Now: 4}},
		"no open tasks": {Engine: impl.StirDesk(impl.Desk{Engine: impl.NewEngine(readProcs(t, `<and><wait msg="1"/><timer ticks="2"/></and>`)).Engine}, 1, 0, 0).Desk.Engine},
	} {
		if got := impl.OfferedAt(d); got.Code != 0 || len(got.Claims) != 0 {
			t.Errorf("%s: OfferedAt = %v", why, got)
		}
	}
}

func TestFinishTaskAsksTheEngine(t *testing.T) {
	base := baseDesk(t)
	for _, w := range edgeVars() {
		askDeskCallCases(t, base, []deskCallCase{
			{w.why, finishCall(9, 2, 1, w.vars...), w.want},
			// The variables are asked behind the user.
			{w.why + " of another user", finishCall(1, 2, 1, w.vars...), impl.ErrUser},
			{w.why + " of a task that nobody has claimed", finishCall(9, 2, 2, w.vars...), impl.ErrUser},
			{w.why + " of no task", finishCall(9, 2, 3, w.vars...), impl.ErrNone},
			{w.why + " of no user", finishCall(0, 2, 1, w.vars...), impl.ErrRange},
		})
	}
	got := askDesk(t, base, finishCall(4, 3, 2, 5, -6, 1000000, 0))
	if told := tellDesk(got); told != "1 at 4: ended failed live live | 2.1:9 3.4:1 | 2.2 3.3" {
		t.Error(told)
	}
	if vars := got.Desk.Engine.Insts[3].Chart.Vars; !slices.Equal(vars, []int64{5, -6, 1000000, 0}) {
		t.Errorf("the variables are %v", vars)
	}
}

func TestStirDeskOfEachKind(t *testing.T) {
	base := baseDesk(t)
	wide := []int64{math.MinInt64, -1, 0, 1, 2, 3, 4, 5, 6, 9, 10, 1000, 1001, 1000000, 1000001, -1000000, -1000001, 1 << 32, math.MaxInt64}
	for _, kind := range []int64{math.MinInt64, -1, 0, 1, 2, 3, 4, 5, 6, 1<<32 + 1, math.MaxInt64} {
		for _, at := range wide {
			for _, value := range wide {
				got := askDesk(t, base, stirCall(kind, at, value))
				if kind < 1 || kind > 4 || kind == 3 && at != 0 || kind == 4 && value != 0 {
					if got.Code != impl.ErrForm {
						t.Errorf("the kind %d, %d and %d: the code %d", kind, at, value, got.Code)
					}
				} else if got.Code == impl.ErrForm {
					t.Errorf("the kind %d, %d and %d: ErrForm", kind, at, value)
				}
			}
		}
	}
	askDeskCallCases(t, base, []deskCallCase{
		{"the first process", stirCall(1, 0, 0), 0},
		{"the last process", stirCall(1, 2, 0), 0},
		{"the process behind the last one", stirCall(1, 3, 0), impl.ErrRange},
		{"the process -1", stirCall(1, -1, 0), impl.ErrRange},
		{"a value up to its bound", stirCall(1, 0, 1000000), 0},
		{"a value down to its bound", stirCall(1, 0, -1000000), 0},
		{"a value above", stirCall(1, 0, 1000001), impl.ErrRange},
		{"a value below", stirCall(1, 0, -1000001), impl.ErrRange},
		{"a message", stirCall(2, 2, 1), 0},
		{"a message that nobody waits for", stirCall(2, 2, 0), impl.ErrNone},
		{"the message 9", stirCall(2, 2, 9), impl.ErrNone},
		{"the message 10", stirCall(2, 2, 10), impl.ErrRange},
		{"the message -1", stirCall(2, 2, -1), impl.ErrRange},
		{"a message of what has ended", stirCall(2, 0, 1), impl.ErrNone},
		{"a message of what has failed", stirCall(2, 1, 1), impl.ErrNone},
		{"a message of no instance", stirCall(2, 4, 1), impl.ErrRange},
		{"a message of the instance -1", stirCall(2, -1, 1), impl.ErrRange},
		{"no ticks", stirCall(3, 0, 0), 0},
		{"1000 ticks", stirCall(3, 0, 1000), 0},
		{"1001 ticks", stirCall(3, 0, 1001), impl.ErrRange},
		{"-1 ticks", stirCall(3, 0, -1), impl.ErrRange},
		{"ticks at 1", stirCall(3, 1, 5), impl.ErrForm},
		{"ticks at -1", stirCall(3, -1, 5), impl.ErrForm},
		{"wrong ticks at 1", stirCall(3, 1, 1001), impl.ErrForm},
		{"an instance is dropped", stirCall(4, 3, 0), 0},
		{"what has ended is dropped", stirCall(4, 0, 0), impl.ErrState},
		{"what has failed is dropped", stirCall(4, 1, 0), impl.ErrState},
		{"no instance is dropped", stirCall(4, 4, 0), impl.ErrRange},
		{"the instance -1 is dropped", stirCall(4, -1, 0), impl.ErrRange},
		{"an instance is dropped with 1", stirCall(4, 3, 1), impl.ErrForm},
		{"an instance is dropped with -1", stirCall(4, 3, -1), impl.ErrForm},
		{"no instance is dropped with 1", stirCall(4, 4, 1), impl.ErrForm},
		{"the kind 0", stirCall(0, 0, 0), impl.ErrForm},
		{"the kind 5", stirCall(5, 0, 0), impl.ErrForm},
		{"the kind 0 of nothing", stirCall(0, -1, -1), impl.ErrForm},
	})
	for _, c := range []struct{ line, want string }{
		{"start 1 0", "4 at 4: ended failed live live live | 2.1:9 3.2:4 3.4:1 | 2.2 3.3 4.1"},
		{"mail 2 1", "1 at 4: ended failed live live | 2.1:9 3.2:4 3.4:1 | 2.2 3.3"},
		{"tick 6", "2 at 10: ended failed live live | 2.1:9 3.2:4 3.4:1 | 2.2 3.3"},
		{"drop 3", "3 at 4: ended failed live failed | 2.1:9 | 2.2"},
		{"drop 2", "3 at 4: ended failed failed live | 3.2:4 3.4:1 | 3.3"},
	} {
		if told := tellDesk(askDesk(t, base, readDeskCall(t, c.line))); told != c.want {
			t.Errorf("%s: %s, want %s", c.line, told, c.want)
		}
	}
	// The value is that of all variables, and the process is that at the place.
	for proc := range int64(3) {
		got := impl.StirDesk(base, 1, proc, -37).Desk.Engine.Insts[4]
		if got.Proc != proc || !slices.Equal(got.Chart.Vars, []int64{-37, -37, -37, -37}) {
			t.Errorf("the instance of %d is %v", proc, got)
		}
	}
}

// A seventh instance does not come to be, and that is asked behind the place of the process.
func TestStirDeskOfSixInstances(t *testing.T) {
	full := wideDesk(t, 3)
	askDeskCallCases(t, full, []deskCallCase{
		{"a seventh instance", stirCall(1, 0, 0), impl.ErrMany},
		{"a seventh instance of wrong variables", stirCall(1, 0, 1000001), impl.ErrMany},
		{"a seventh instance of no process", stirCall(1, 1, 0), impl.ErrRange},
		{"the last one is dropped", stirCall(4, 5, 0), 0},
	})
}

// pickDeskCall is a call, most often one that the desk has an answer to, and which leaves many claims there.
func pickDeskCall(rnd *rand.Rand, d impl.Desk) deskCall {
	open := slowOpenTasks(d.Engine)
	if len(open) == 0 || rnd.Intn(4) == 0 {
		return pickStir(rnd, d.Engine)
	}
	task := open[rnd.Intn(len(open))]
	x := deskCall{"claim", int64(1 + rnd.Intn(9)), task.Inst, task.Step, someVars(rnd)}
	if at := slowClaimAt(d, x.b, x.c); at != -1 && rnd.Intn(6) > 0 {
		x.word, x.a = []string{"free", "finish", "finish"}[rnd.Intn(3)], d.Claims[at].User
	}
	if rnd.Intn(2) == 0 {
		// Some processes fail where this variable is 0.
		x.vars[1] = 0
	}
	if rnd.Intn(6) == 0 {
		x.word, x.a = []string{"free", "finish"}[rnd.Intn(2)], int64(1+rnd.Intn(9))
	}
	switch rnd.Intn(30) {
	case 0:
		x.a = int64(rnd.Intn(2)) * 10
	case 1:
		x.b = []int64{-1, int64(len(d.Engine.Insts)), int64(rnd.Intn(len(d.Engine.Insts)))}[rnd.Intn(3)]
	case 2:
		x.c = int64(rnd.Intn(26)) - 1
	case 3:
		x.vars = append(x.vars[:rnd.Intn(5)], wildNumber(rnd))
	}
	return x
}

func pickStir(rnd *rand.Rand, e impl.Engine) deskCall {
	if rnd.Intn(3) > 0 && len(e.Insts) < 6 {
		return stirCall(1, int64(rnd.Intn(len(e.Procs))), int64(rnd.Intn(3)))
	}
	inst := int64(rnd.Intn(len(e.Insts) + 1))
	switch rnd.Intn(8) {
	case 0, 1:
		return stirCall(3, 0, int64(rnd.Intn(3)))
	case 2, 3, 4:
		return stirCall(2, inst, 1)
	case 5:
		return stirCall(4, inst, 0)
	}
	x := pickCall(rnd, e)
	switch x.kind {
	case "start":
		return stirCall(1, x.at, x.vars[0])
	case "mail":
		return stirCall(2, x.at, x.number)
	case "tick":
		return stirCall(3, int64(rnd.Intn(5)/4), x.number)
	case "drop":
		return stirCall(4, x.at, int64(rnd.Intn(5)/4))
	}
	return finishCall(int64(1+rnd.Intn(9)), x.at, x.number, x.vars...)
}

// isSpent tells whether nothing can be done any more but to let time go on.
func isSpent(e impl.Engine) bool {
	return len(e.Insts) == 6 && !slices.ContainsFunc(e.Insts, func(i impl.Inst) bool { return i.Chart.Status == impl.RunLive })
}

// countDesk counts what came of a call, and of how many claims were there and are gone.
func countDesk(d impl.Desk, x deskCall, got impl.DeskResult, count map[string]int) {
	word := x.word
	if word == "stir" {
		word = "stir " + strconv.FormatInt(x.a, 10)
	}
	count[word+" code "+strconv.FormatInt(got.Code, 10)]++
	if got.Code != 0 || x.word == "claim" || x.word == "free" {
		return
	}
	gone := len(d.Claims) - len(got.Desk.Claims)
	if x.word == "finish" {
		gone--
	}
	if gone > 0 {
		count[word+" gone"]++
	}
	if gone > 1 {
		count[word+" several gone"]++
	}
	if gone > 0 && len(got.Desk.Claims) > 0 {
		count[word+" gone and others stay"]++
	}
	if len(got.Desk.Claims) > 3 {
		count[word+" many stay"]++
	}
}

// deskProcs are 1 to 3 processes, some of them such that claims of theirs are cancelled.
func deskProcs(t *testing.T, rnd *rand.Rand) []impl.Proc {
	t.Helper()
	procs := pickProcs(t, rnd)
	texts := []string{tasksInTime, tasksBesideAll, failsBehindMail, failsInTime, failsBehindTask, taskBehindTask, manyAreGone, manyAreGone, manyAreGone}
	for i := range procs {
		if rnd.Intn(4) > 0 {
			procs[i].Steps = readProc(t, texts[rnd.Intn(len(texts))])
		}
	}
	return procs
}

// Promise 13, of many desks and calls.
func TestWhateverIsDoneToADesk(t *testing.T) {
	rnd := rand.New(rand.NewSource(101))
	count := map[string]int{}
	for range 400 {
		now := []int64{0, 0, 0, 100, 999990}[rnd.Intn(5)]
		d := impl.Desk{Engine: impl.Engine{Procs: deskProcs(t, rnd), Now: now}}
		for n := 0; n < 80 && (!isSpent(d.Engine) || rnd.Intn(4) > 0); n++ {
			x := pickDeskCall(rnd, d)
			got := askDesk(t, d, x)
			countDesk(d, x, got, count)
			if got.Code == 0 {
				d = got.Desk
			}
			if rnd.Intn(60) == 0 {
				askHands(t, d)
				askUsers(t, d)
			}
		}
	}
	askCounts(t, count, 100, "claim code 0", "claim code 3", "claim code 4", "claim code 6", "free code 0", "free code 4", "free code 10", "finish code 0", "finish code 3", "finish code 4", "finish code 10",
		"stir 1 code 0", "stir 2 code 0", "stir 3 code 0", "stir 4 code 0", "stir 4 code 9", "stir 3 many stay", "finish many stay")
	askCounts(t, count, 15, "finish code 2", "stir 1 code 2", "stir 1 code 3", "stir 2 code 3", "stir 2 code 4", "stir 3 code 1", "stir 3 code 3", "stir 4 code 1",
		"finish gone", "finish gone and others stay", "stir 2 gone", "stir 3 gone", "stir 3 several gone", "stir 3 gone and others stay", "stir 4 gone", "stir 4 several gone", "stir 4 gone and others stay")
}

// Promise 13, of desks whose charts no start comes to, with any of their open tasks claimed.
func TestStrayDesks(t *testing.T) {
	rnd := rand.New(rand.NewSource(102))
	count := map[string]int{}
	for range 800 {
		d := impl.Desk{Engine: impl.Engine{Procs: deskProcs(t, rnd), Now: int64(rnd.Intn(40))}}
		for range 2 + rnd.Intn(5) {
			proc := rnd.Intn(len(d.Engine.Procs))
			c, ok := strayChart(rnd, d.Engine.Procs[proc].Steps)
			if !ok {
				continue
			}
			c.Now = d.Engine.Now
			for at := range c.Dues {
				c.Dues[at] = min(c.Dues[at], c.Now+99)
			}
			d.Engine.Insts = append(d.Engine.Insts, impl.Inst{Proc: int64(proc), Chart: c})
		}
		for _, c := range slowOpenTasks(d.Engine) {
			if c.User = int64(1 + rnd.Intn(9)); rnd.Intn(4) > 0 && len(d.Claims) < 60 {
				d.Claims = append(d.Claims, c)
			}
		}
		if fault := impl.DeskFault(d); fault != 0 || slowDeskFault(d) != 0 {
			t.Fatalf("%v has the fault %d", d, fault)
		}
		for n := range 6 {
			x := pickDeskCall(rnd, d)
			if n == 0 && rnd.Intn(2) == 0 {
				x = stirCall(3, 0, int64(rnd.Intn(4)))
			}
			got := askDesk(t, d, x)
			countDesk(d, x, got, count)
			if got.Code == 0 {
				d = got.Desk
			}
		}
	}
	askCounts(t, count, 20, "claim code 0", "claim code 6", "free code 0", "free code 10", "finish code 0", "finish code 10", "stir 2 code 0", "stir 3 code 0", "stir 4 code 0",
		"stir 3 gone", "stir 3 gone and others stay", "stir 4 gone", "finish many stay", "stir 3 many stay")
	askCounts(t, count, 5, "finish gone", "stir 3 several gone", "stir 4 several gone")
}

// Promise 13, of each choice of some calls with small processes.
func TestAllCallsOfSmallDesks(t *testing.T) {
	count := map[string]int{}
	small := smallCharts(t)
	for _, text := range []string{tasksInTime, failsBehindMail, failsInTime, failsBehindTask, `<guard ticks="2"><and><task name="a"/><task name="b"/></and><task name="c"/></guard>`} {
		small = append(small, readProc(t, text))
	}
	for i, p := range small {
		d := impl.Desk{Engine: impl.NewEngine(procsOf(p, small[(i+7)%len(small)])).Engine}
		for _, x := range []deskCall{stirCall(1, 0, 0), stirCall(1, 1, 1)} {
			d = askDesk(t, d, x).Desk
		}
		for i, c := range slowOpenTasks(d.Engine) {
			d = askDesk(t, d, claimCall(int64(1+i%3/2), c.Inst, c.Step)).Desk
		}
		calls := []deskCall{stirCall(3, 0, 2), stirCall(2, 0, 1), stirCall(4, 1, 0)}
		for inst, proc := range d.Engine.Insts {
			for step, s := range d.Engine.Procs[proc.Proc].Steps {
				if s.Kind == impl.StepTask {
					at, step := int64(inst), int64(step)
					calls = append(calls, claimCall(2, at, step), freeCall(1, at, step), finishCall(1, at, step, 0, 0, 0, 0), finishCall(2, at, step, 0, 1, 0, 0))
				}
			}
		}
		var grow func(d impl.Desk, left int)
		grow = func(d impl.Desk, left int) {
			if left == 0 {
				return
			}
			for _, x := range calls {
				got := askDesk(t, d, x)
				countDesk(d, x, got, count)
				if got.Code == 0 {
					grow(got.Desk, left-1)
				}
			}
		}
		grow(d, 4)
		askHands(t, d)
	}
	askCounts(t, count, 20, "claim code 0", "claim code 6", "free code 0", "free code 10", "finish code 0", "finish code 10", "stir 3 gone", "stir 3 several gone", "stir 4 gone", "finish gone")
	askCounts(t, count, 5, "stir 2 gone", "finish gone and others stay")
}

// What the other chapters say of an engine holds of that of a desk: claims change nothing of it.
func TestClaimsChangeNothingOfTheEngine(t *testing.T) {
	rnd := rand.New(rand.NewSource(103))
	for range 150 {
		d := impl.Desk{Engine: impl.Engine{Procs: deskProcs(t, rnd)}}
		e := d.Engine
		for range 30 {
			x := pickDeskCall(rnd, d)
			got := x.ask(d)
			if got.Code != 0 {
				continue
			}
			d = got.Desk
			next := impl.EngineResult{Engine: e}
			switch {
			case x.word == "finish":
				next = impl.DoneInst(e, x.b, x.c, x.vars)
			case x.word != "stir":
			case x.a == 1:
				next = impl.StartInst(e, x.b, []int64{x.c, x.c, x.c, x.c})
			case x.a == 2:
				next = impl.MailInst(e, x.b, x.c)
			case x.a == 3:
				next = impl.TickEngine(e, x.c)
			default:
				next = impl.DropInst(e, x.b)
			}
			if next.Code != 0 || next.Value != got.Value || !impl.SameEngines(next.Engine, d.Engine) {
				t.Fatalf("%v: %v, and the engine alone %v", x, got, next)
			}
			e = next.Engine
		}
	}
}

// askAllOfDesk asks all that the chapter has functions for.
func askAllOfDesk(d impl.Desk, calls []deskCall, users []int64) []any {
	answers := []any{impl.DeskFault(d), impl.OfferedAt(d)}
	for _, user := range users {
		answers = append(answers, impl.ClaimsOf(d, user))
	}
	for _, x := range calls {
		answers = append(answers, x.ask(d))
	}
	return answers
}

// someDesk is a desk that was played on for a while.
func someDesk(t *testing.T, rnd *rand.Rand) impl.Desk {
	t.Helper()
	d := impl.Desk{Engine: impl.Engine{Procs: deskProcs(t, rnd), Now: int64(rnd.Intn(100))}}
	for range rnd.Intn(16) {
		if got := pickDeskCall(rnd, d).ask(d); got.Code == 0 {
			d = got.Desk
		}
	}
	return d
}

// spoilDesk makes one thing of d another one, right or wrong.
func spoilDesk(t *testing.T, rnd *rand.Rand, d impl.Desk) impl.Desk {
	t.Helper()
	d = cloneDesk(d)
	what := rnd.Intn(9)
	if what < 2 {
		d.Engine = spoilEngine(t, rnd, d.Engine)
		return d
	}
	if len(d.Claims) == 0 {
		d.Claims = append(d.Claims, impl.Claim{Inst: wildNumber(rnd), Step: wildNumber(rnd), User: wildNumber(rnd)})
		return d
	}
	at, other := rnd.Intn(len(d.Claims)), rnd.Intn(len(d.Claims))
	switch what {
	case 2:
		d.Claims[at].Inst = wildNumber(rnd)
	case 3:
		d.Claims[at].Step = wildNumber(rnd)
	case 4:
		d.Claims[at].User = wildNumber(rnd)
	case 5:
		d.Claims[at], d.Claims[other] = d.Claims[other], d.Claims[at]
	case 6:
		d.Claims = slices.Insert(d.Claims, at, d.Claims[other])
	case 7:
		d.Claims = slices.Delete(d.Claims, at, at+1)
	case 8:
		d.Claims = slices.Repeat(d.Claims, 1+rnd.Intn(70))
	}
	return d
}

// wildDeskCalls are some calls, with any numbers.
func wildDeskCalls(rnd *rand.Rand, d impl.Desk) []deskCall {
	var calls []deskCall
	for _, word := range []string{"claim", "free", "finish", "stir"} {
		vars := someVars(rnd)
		if rnd.Intn(5) == 0 {
			vars = append(vars[:rnd.Intn(5)], wildNumber(rnd), wildNumber(rnd))
		}
		near := deskCall{word, int64(rnd.Intn(6)), int64(rnd.Intn(len(d.Engine.Insts) + 1)), int64(rnd.Intn(8)), vars}
		if len(d.Claims) > 0 && word != "stir" {
			c := d.Claims[rnd.Intn(len(d.Claims))]
			near.a, near.b, near.c = c.User, c.Inst, c.Step
		}
		calls = append(calls, near, deskCall{word, wildNumber(rnd), wildNumber(rnd), wildNumber(rnd), vars})
	}
	return calls
}

// Promise 1: every function answers at every argument and changes none, with nothing beside a code.
func TestDesksAnswerAtEachArgument(t *testing.T) {
	rnd := rand.New(rand.NewSource(104))
	count := map[int64]int{}
	for range 5000 {
		d := someDesk(t, rnd)
		for range rnd.Intn(3) {
			d = spoilDesk(t, rnd, d)
		}
		calls, users := wildDeskCalls(rnd, d), []int64{int64(rnd.Intn(11)), wildNumber(rnd)}
		before := cloneDesk(d)
		var vars [][]int64
		for _, x := range calls {
			vars = append(vars, slices.Clone(x.vars))
		}
		fault := slowDeskFault(d)
		count[fault]++
		answers := askAllOfDesk(d, calls, users)
		if answers[0] != fault || answers[1].(impl.OfferResult).Code != fault {
			t.Fatalf("of %v: %v, want %d", d, answers[:2], fault)
		}
		for at, user := range users {
			code := fault
			if code == 0 && user != min(max(user, 1), 9) {
				code = impl.ErrRange
			}
			if got := answers[2+at].(impl.OfferResult); got.Code != code || code != 0 && !reflect.DeepEqual(got, impl.OfferResult{Code: code}) {
				t.Fatalf("ClaimsOf %d of %v: %v, want %d", user, d, got, code)
			}
		}
		if fault == 0 {
			askOffers(t, d)
			askUsers(t, d)
		} else if !reflect.DeepEqual(answers[1], impl.OfferResult{Code: fault}) {
			t.Fatalf("OfferedAt of %v: %v", d, answers[1])
		}
		for at, x := range calls {
			got := answers[2+len(users)+at].(impl.DeskResult)
			if want := slowDeskCall(d, x); !sameDeskResults(got, want) || got.Code != 0 && !reflect.DeepEqual(got, impl.DeskResult{Code: got.Code}) {
				t.Fatalf("%v of %v: %v, want %v", x, d, got, want)
			}
			if !reflect.DeepEqual(x.vars, vars[at]) {
				t.Fatalf("%v: the variables were %v", x, vars[at])
			}
		}
		if !reflect.DeepEqual(d, before) {
			t.Fatalf("changed: %v, before %v", d, before)
		}
	}
	for _, code := range []int64{impl.OK, impl.ErrForm, impl.ErrMany, impl.ErrRange, impl.ErrNone, impl.ErrText, impl.ErrState} {
		if count[code] < 5 {
			t.Error(count)
		}
	}
}

// otherClaim stands where nobody has to write.
var otherClaim = impl.Claim{Inst: 77, Step: 77, User: 77}

// roomyClaims is claims with room behind them.
func roomyClaims(claims []impl.Claim) []impl.Claim {
	room := slices.Repeat([]impl.Claim{otherClaim}, len(claims)+80)
	copy(room, claims)
	return room[:len(claims)]
}

func isRoomWhole(claims []impl.Claim) bool {
	return !slices.ContainsFunc(claims[len(claims):cap(claims)], func(c impl.Claim) bool { return c != otherClaim })
}

func fillClaims(claims []impl.Claim, number int64) {
	for i := range claims[:cap(claims)] {
		claims[:cap(claims)][i] = impl.Claim{Inst: number, Step: number, User: number}
	}
}

// Promise 1: a desk is new memory, no two lists of it share any, and neither an argument nor the room behind it is written to.
func TestDesksAreNewMemory(t *testing.T) {
	base := baseDesk(t)
	d := impl.Desk{Engine: roomyEngine(base.Engine), Claims: roomyClaims(base.Claims)}
	before := cloneDesk(d)
	vars := roomy([]int64{1, 2, 3, 4})
	asks := map[string]func() impl.DeskResult{
		"FinishTask with the chart's": func() impl.DeskResult { return impl.FinishTask(d, 9, 2, 1, d.Engine.Insts[2].Chart.Vars) },
		"FinishTask with those of one": func() impl.DeskResult {
			return impl.FinishTask(d, 9, 2, 1, d.Engine.Insts[3].Chart.Vars)
		},
	}
	for why, x := range map[string]deskCall{
		"ClaimTask":               claimCall(1, 2, 2),
		"ClaimTask between":       claimCall(4, 3, 3),
		"FreeTask":                freeCall(9, 2, 1),
		"FreeTask of the last":    freeCall(1, 3, 4),
		"FinishTask":              finishCall(4, 3, 2, vars...),
		"StirDesk of an instance": stirCall(1, 2, 5),
		"StirDesk of a message":   stirCall(2, 2, 1),
		"StirDesk of ticks":       stirCall(3, 0, 5),
		"StirDesk of no ticks":    stirCall(3, 0, 0),
		"StirDesk of a drop":      stirCall(4, 3, 0),
	} {
		asks[why] = func() impl.DeskResult { return x.ask(d) }
	}
	for why, ask := range asks {
		first, second := ask(), ask()
		want := impl.DeskResult{Code: second.Code, Value: second.Value, Desk: cloneDesk(second.Desk)}
		if first.Code != 0 || !sameDeskResults(first, want) {
			t.Fatalf("%s: %v and %v", why, first, second)
		}
		fillClaims(first.Desk.Claims, 5)
		askOwnEngine(t, why, first.Desk.Engine)
		if !sameDeskResults(second, want) || !sameDeskResults(ask(), want) {
			t.Errorf("%s: two answers share memory", why)
		}
		if !reflect.DeepEqual(d, before) || !slices.Equal(vars, []int64{1, 2, 3, 4}) || !isRoomWhole(d.Claims) || slices.ContainsFunc(vars[4:cap(vars)], func(number int64) bool { return number != 77 }) {
			t.Fatalf("%s: an argument was written to", why)
		}
		askRoomBehindEngine(t, d.Engine)
	}
}

// Promise 1: claims that are told are new memory, even where they are all that a desk has.
func TestTheClaimsToldAreNewMemory(t *testing.T) {
	base := baseDesk(t)
	for _, claims := range [][]impl.Claim{base.Claims, claimsOf("2.1:4"), claimsOf("2.1:4 2.2:4 3.2:4"), claimsOf("3.2:1 3.3:4"), nil} {
		d := impl.Desk{Engine: roomyEngine(base.Engine), Claims: roomyClaims(claims)}
		before := cloneDesk(d)
		for why, ask := range map[string]func() impl.OfferResult{
			"OfferedAt":  func() impl.OfferResult { return impl.OfferedAt(d) },
			"ClaimsOf 4": func() impl.OfferResult { return impl.ClaimsOf(d, 4) },
			"ClaimsOf 1": func() impl.OfferResult { return impl.ClaimsOf(d, 1) },
		} {
			first, second := ask(), ask()
			want := slices.Clone(second.Claims)
			fillClaims(first.Claims, 6)
			if !slices.Equal(second.Claims, want) || !slices.Equal(ask().Claims, want) {
				t.Errorf("%s: two answers share memory", why)
			}
			if !reflect.DeepEqual(d, before) || !isRoomWhole(d.Claims) {
				t.Fatalf("%s: the desk was written to", why)
			}
			askRoomBehindEngine(t, d.Engine)
		}
	}
}

// Promise 1: an answer hangs on the arguments alone, not on what was asked ahead of it, nor on the order in which a map is gone through.
func TestDesksHangOnArgumentsAlone(t *testing.T) {
	rnd := rand.New(rand.NewSource(105))
	type given struct {
		d     impl.Desk
		calls []deskCall
	}
	users := []int64{0, 1, 5, 9, 10}
	var all []given
	var first [][]any
	for i := range 200 {
		d := someDesk(t, rnd)
		if i%5 == 0 {
			d = spoilDesk(t, rnd, d)
		}
		if i%20 == 0 {
			d = wideDesk(t, i%61)
		}
		x := given{d, append(wildDeskCalls(rnd, d), stirCall(3, 0, 1), claimCall(1, 5, 11), freeCall(1, 0, 1))}
		all = append(all, x)
		first = append(first, askAllOfDesk(x.d, x.calls, users))
	}
	for i := len(all) - 1; i >= 0; i-- {
		x := all[i]
		for range 3 {
			// A clone lies elsewhere, and has more room: no answer hangs on an address or a capacity.
			other := impl.Desk{Engine: roomyEngine(x.d.Engine), Claims: roomyClaims(x.d.Claims)}
			if got := askAllOfDesk(other, x.calls, users); !reflect.DeepEqual(got, first[i]) {
				t.Errorf("%v, and ahead of that %v", got, first[i])
			}
		}
		// Nor on whether no element is nil.
		if bare := bareDesk(x.d); impl.DeskFault(bare) != first[i][0] {
			t.Errorf("%v has the fault %d", bare, impl.DeskFault(bare))
		}
	}
}
