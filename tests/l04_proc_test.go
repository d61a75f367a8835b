package tests

import (
	"math"
	"math/rand"
	"reflect"
	"slices"
	"strconv"
	"strings"
	"testing"

	"loop.example/g00343/impl"
)

func seqAt(parent int64) impl.Step {
	return impl.Step{Kind: impl.StepSeq, Parent: parent}
}

func taskAt(parent int64) impl.Step {
	return impl.Step{Kind: impl.StepTask, Parent: parent, Name: "a"}
}

func xorAt(parent int64) impl.Step {
	return impl.Step{Kind: impl.StepXor, Parent: parent}
}

func andAt(parent int64) impl.Step {
	return impl.Step{Kind: impl.StepAnd, Parent: parent}
}

func waitAt(parent, msg int64) impl.Step {
	return impl.Step{Kind: impl.StepWait, Parent: parent, Arg: msg}
}

func timerAt(parent, ticks int64) impl.Step {
	return impl.Step{Kind: impl.StepTimer, Parent: parent, Arg: ticks}
}

func setAt(parent, number int64, e []impl.Node) impl.Step {
	return impl.Step{Kind: impl.StepSet, Parent: parent, Arg: number, Expr: e}
}

func guardAt(parent, ticks int64) impl.Step {
	return impl.Step{Kind: impl.StepGuard, Parent: parent, Arg: ticks}
}

// ifSo is the step with that Cond.
func ifSo(cond []impl.Node, s impl.Step) impl.Step {
	s.Cond = cond
	return s
}

func proc(steps ...impl.Step) []impl.Step {
	return steps
}

// aloneOf is a step of the kind, right but for the kids that it may have to have.
func aloneOf(kind, parent int64) impl.Step {
	s := impl.Step{Kind: kind, Parent: parent}
	switch kind {
	case impl.StepTask:
		s.Name = "a"
	case impl.StepTimer, impl.StepGuard:
		s.Arg = 1
	case impl.StepSet:
		s.Expr = num(1)
	}
	return s
}

// seqOf is a seq of n steps, itself too: all others are its kids.
func seqOf(n int) []impl.Step {
	p := proc(seqAt(-1))
	for len(p) < n {
		p = append(p, taskAt(0))
	}
	return p
}

// nestOf is n steps, each but the first the kid of the one ahead.
func nestOf(n int) []impl.Step {
	var p []impl.Step
	for len(p) < n-1 {
		p = append(p, seqAt(int64(len(p))-1))
	}
	return append(p, taskAt(int64(len(p))-1))
}

func cloneProc(p []impl.Step) []impl.Step {
	p = slices.Clone(p)
	for i := range p {
		p[i].Cond, p[i].Expr = slices.Clone(p[i].Cond), slices.Clone(p[i].Expr)
	}
	return p
}

type procCase struct {
	why  string
	p    []impl.Step
	want int64
}

func askProcFaults(t *testing.T, cases []procCase) {
	t.Helper()
	for _, c := range cases {
		if got := impl.ProcFault(c.p); got != c.want {
			t.Errorf("ProcFault of %s = %d, want %d", c.why, got, c.want)
		}
		if slow := slowProcFault(c.p); slow != c.want {
			t.Errorf("the test's own fault of %s = %d, want %d", c.why, slow, c.want)
		}
	}
}

func TestProcConstants(t *testing.T) {
	kinds := []int64{impl.StepSeq, impl.StepTask, impl.StepXor, impl.StepAnd, impl.StepWait, impl.StepTimer, impl.StepSet, impl.StepGuard}
	for i, kind := range kinds {
		if kind != int64(i)+1 {
			t.Errorf("the kind at %d is %d", i, kind)
		}
	}
	if impl.MaxSteps != 24 || impl.MaxNest != 7 {
		t.Error("a constant is another one")
	}
}

func TestProcFaultOfCounts(t *testing.T) {
	askProcFaults(t, []procCase{
		{"nil", nil, impl.ErrMany},
		{"no step", []impl.Step{}, impl.ErrMany},
		{"one step", proc(taskAt(-1)), 0},
		{"two steps", seqOf(2), 0},
		{"24 steps", seqOf(24), 0},
		{"25 steps", seqOf(25), impl.ErrMany},
		{"25 steps that are none", make([]impl.Step, 25), impl.ErrMany},
		{"24 steps that are none", make([]impl.Step, 24), impl.ErrForm},
		{"very many steps", make([]impl.Step, 100000), impl.ErrMany},
	})
}

func TestProcFaultOfEachKind(t *testing.T) {
	two := func(s impl.Step) []impl.Step { return proc(s, taskAt(0), taskAt(0)) }
	askProcFaults(t, []procCase{
		{"a seq", two(seqAt(-1)), 0},
		{"a task", proc(taskAt(-1)), 0},
		{"a xor", proc(xorAt(-1), ifSo(yes(), taskAt(0)), taskAt(0)), 0},
		{"an and", two(andAt(-1)), 0},
		{"a wait", proc(waitAt(-1, 1)), 0},
		{"a timer", proc(timerAt(-1, 1)), 0},
		{"a set", proc(setAt(-1, 1, num(1))), 0},
		{"a guard", two(guardAt(-1, 1)), 0},
	})
	for _, kind := range []int64{math.MinInt64, -8, -1, 0, 9, 10, 257, 264, 1<<32 + 2, math.MaxInt64} {
		for _, s := range []impl.Step{{Kind: kind, Parent: -1}, {Kind: kind, Parent: -1, Name: "a"}, {Kind: kind, Parent: -1, Arg: 1}} {
			askProcFaults(t, []procCase{
				{"the kind " + strconv.FormatInt(kind, 10), proc(s), impl.ErrForm},
				{"the kind " + strconv.FormatInt(kind, 10) + " with kids", two(s), impl.ErrForm},
			})
		}
		s := impl.Step{Kind: kind}
		askProcFaults(t, []procCase{{"the kind " + strconv.FormatInt(kind, 10) + " of a kid", proc(seqAt(-1), s), impl.ErrForm}})
	}
}

// What a kind has not is ErrForm, whatever it is, ahead of all that is asked of the step behind it.
func TestProcFaultOfWhatAKindHasNot(t *testing.T) {
	for kind := int64(1); kind <= 8; kind++ {
		why := "the kind " + strconv.FormatInt(kind, 10)
		rightBut := func(spoil func(s *impl.Step)) []impl.Step {
			s := aloneOf(kind, 0)
			spoil(&s)
			return proc(seqAt(-1), s, taskAt(1), taskAt(1))
		}
		if kind != impl.StepTask {
			for _, name := range []string{"a", "abcdefghi", "A", " ", "\x00"} {
				askProcFaults(t, []procCase{{why + " with a Name", rightBut(func(s *impl.Step) { s.Name = name }), impl.ErrForm}})
			}
		}
		if kind < impl.StepWait {
			for _, arg := range []int64{1, -1, 9, 100, math.MaxInt64, math.MinInt64} {
				askProcFaults(t, []procCase{{why + " with an Arg", rightBut(func(s *impl.Step) { s.Arg = arg }), impl.ErrForm}})
			}
		}
		if kind != impl.StepSet {
			for _, e := range [][]impl.Node{num(0), yes(), nots(17), {{}}} {
				askProcFaults(t, []procCase{{why + " with an Expr", rightBut(func(s *impl.Step) { s.Expr = e }), impl.ErrForm}})
			}
		}
	}
	// Alone, so that no kid is what is wrong: a Name, an Arg and an Expr of leaves.
	askProcFaults(t, []procCase{
		{"a wait with a Name", proc(impl.Step{Kind: impl.StepWait, Parent: -1, Name: "a"}), impl.ErrForm},
		{"a timer with a Name", proc(impl.Step{Kind: impl.StepTimer, Parent: -1, Arg: 1, Name: "a"}), impl.ErrForm},
		{"a set with a Name", proc(impl.Step{Kind: impl.StepSet, Parent: -1, Expr: num(1), Name: "a"}), impl.ErrForm},
		{"a task with an Arg", proc(impl.Step{Kind: impl.StepTask, Parent: -1, Name: "a", Arg: 1}), impl.ErrForm},
		{"a task with an Expr", proc(impl.Step{Kind: impl.StepTask, Parent: -1, Name: "a", Expr: num(1)}), impl.ErrForm},
		{"a wait with an Expr", proc(impl.Step{Kind: impl.StepWait, Parent: -1, Expr: num(1)}), impl.ErrForm},
		{"a timer with an Expr", proc(impl.Step{Kind: impl.StepTimer, Parent: -1, Arg: 1, Expr: num(1)}), impl.ErrForm},
		{"a seq with a Name", proc(impl.Step{Kind: impl.StepSeq, Parent: -1, Name: "a"}, taskAt(0)), impl.ErrForm},
		{"a seq with an Arg", proc(impl.Step{Kind: impl.StepSeq, Parent: -1, Arg: 1}, taskAt(0)), impl.ErrForm},
		{"an and with an Arg", proc(impl.Step{Kind: impl.StepAnd, Parent: -1, Arg: 1}, taskAt(0), taskAt(0)), impl.ErrForm},
		{"a xor with an Arg", proc(impl.Step{Kind: impl.StepXor, Parent: -1, Arg: 1}, ifSo(yes(), taskAt(0)), taskAt(0)), impl.ErrForm},
		{"a guard with an Expr", proc(impl.Step{Kind: impl.StepGuard, Parent: -1, Arg: 1, Expr: num(1)}, taskAt(0), taskAt(0)), impl.ErrForm},
		{"a guard with a Name", proc(impl.Step{Kind: impl.StepGuard, Parent: -1, Arg: 1, Name: "a"}, taskAt(0), taskAt(0)), impl.ErrForm},
		{"a list without nodes is none", proc(impl.Step{Kind: impl.StepTask, Parent: -1, Name: "a", Cond: []impl.Node{}, Expr: []impl.Node{}}), 0},
	})
}

func TestProcFaultOfParents(t *testing.T) {
	for _, parent := range []int64{math.MinInt64, -2, 0, 1, 2, 24, 1<<32 - 1, math.MaxInt64} {
		s := taskAt(parent)
		askProcFaults(t, []procCase{{"the first step's Parent " + strconv.FormatInt(parent, 10), proc(s), impl.ErrRange}})
	}
	// 0 is a seq of 1 (a seq of 2), 3 (a seq of 4), and of the last one.
	head := proc(seqAt(-1), seqAt(0), taskAt(1), seqAt(0), taskAt(3))
	for parent, want := range map[int64]int64{
		math.MinInt64: impl.ErrRange, -2: impl.ErrRange, -1: impl.ErrRange,
		0: 0, 1: impl.ErrForm, 2: impl.ErrForm, 3: 0, 4: impl.ErrForm,
		5: impl.ErrRange, 6: impl.ErrRange, 7: impl.ErrRange, 1 << 32: impl.ErrRange, math.MaxInt64: impl.ErrRange,
	} {
		why := "the Parent " + strconv.FormatInt(parent, 10)
		// At 4 it is the kid of a task: what is wrong is how many kids that one has.
		askProcFaults(t, []procCase{{why, append(slices.Clone(head), taskAt(parent)), want}})
		if parent != 4 && want != 0 {
			// With one more behind it, so that a place behind is one.
			askProcFaults(t, []procCase{{why + ", one behind", append(slices.Clone(head), taskAt(parent), taskAt(0)), want}})
		}
	}
	askProcFaults(t, []procCase{
		{"the Parent is the step ahead", proc(seqAt(-1), seqAt(0), taskAt(1)), 0},
		{"the Parent is that one's Parent", proc(seqAt(-1), taskAt(0), taskAt(0)), 0},
		{"the Parent is the first step", append(nestOf(7), taskAt(0)), 0},
		{"the Parent is one of those above the step ahead", append(nestOf(7), taskAt(3)), 0},
		{"the Parent is a step that is over", proc(seqAt(-1), seqAt(0), taskAt(1), taskAt(0), taskAt(1)), impl.ErrForm},
		{"the Parent is a seq over, of the same depth", proc(seqAt(-1), seqAt(0), taskAt(1), seqAt(0), taskAt(3), taskAt(1)), impl.ErrForm},
		{"two steps without one above", proc(taskAt(-1), taskAt(-1)), impl.ErrRange},
		{"two trees", proc(seqAt(-1), taskAt(0), seqAt(-1), taskAt(2)), impl.ErrRange},
		{"the Parent is the step itself", proc(seqAt(-1), seqAt(1), taskAt(1)), impl.ErrRange},
		{"the first step is its own Parent", proc(seqAt(0), taskAt(0)), impl.ErrRange},
		{"the Parent is one behind", proc(seqAt(-1), taskAt(2), seqAt(0), taskAt(2)), impl.ErrRange},
	})
}

func TestProcFaultOfNests(t *testing.T) {
	deepGuard := append(nestOf(6)[:5], guardAt(4, 1), taskAt(5), taskAt(5))
	askProcFaults(t, []procCase{
		{"one from it up", nestOf(1), 0},
		{"7 from one up", nestOf(7), 0},
		{"8 from one up", nestOf(8), impl.ErrMany},
		{"24 from one up", nestOf(24), impl.ErrMany},
		{"7 from one up, twice", append(nestOf(7), taskAt(5)), 0},
		{"8 from the last one up", append(nestOf(7), seqAt(5), taskAt(7)), impl.ErrMany},
		{"a guard whose kids are 7 from them up", deepGuard, 0},
		{"8 from it up below a task", append(nestOf(7), taskAt(6)), impl.ErrMany},
		{"24 steps of which 7 are from one up", append(nestOf(7), seqOf(24)[7:]...), 0},
	})
}

func TestProcFaultOfNames(t *testing.T) {
	for name, want := range map[string]int64{
		"a": 0, "z": 0, "abcdefgh": 0,
		"": impl.ErrText, "abcdefghi": impl.ErrMany, "A": impl.ErrText, "a1": impl.ErrText, "a b": impl.ErrText, "`": impl.ErrText, "{": impl.ErrText, "\x00": impl.ErrText, "é": impl.ErrText, "abcdefghI": impl.ErrText,
		strings.Repeat("a", 1<<16): impl.ErrMany,
	} {
		s := impl.Step{Kind: impl.StepTask, Parent: -1, Name: name}
		askProcFaults(t, []procCase{{"a task's Name " + strconv.Quote(name), proc(s), want}})
		s.Parent = 0
		askProcFaults(t, []procCase{{"the Name of the last task " + strconv.Quote(name), proc(seqAt(-1), taskAt(0), s), want}})
	}
}

func TestProcFaultOfArgs(t *testing.T) {
	for _, c := range []struct{ kind, least, most int64 }{{impl.StepWait, 0, 9}, {impl.StepTimer, 1, 99}, {impl.StepSet, 0, 3}, {impl.StepGuard, 1, 99}} {
		for _, arg := range []int64{math.MinInt64, -100, -2, -1, 0, 1, 2, 3, 4, 5, 8, 9, 10, 11, 98, 99, 100, 101, 256, 257, 1 << 32, 1<<32 + 1, math.MaxInt64} {
			s := aloneOf(c.kind, -1)
			s.Arg = arg
			p := proc(s)
			if c.kind == impl.StepGuard {
				p = proc(s, taskAt(0), taskAt(0))
			}
			want := int64(0)
			if arg < c.least || arg > c.most {
				want = impl.ErrRange
			}
			askProcFaults(t, []procCase{{"the kind " + strconv.FormatInt(c.kind, 10) + " with the Arg " + strconv.FormatInt(arg, 10), p, want}})
		}
	}
}

func TestProcFaultOfExprs(t *testing.T) {
	of := func(e []impl.Node) []impl.Step { return proc(setAt(-1, 3, e)) }
	askProcFaults(t, []procCase{
		{"an Expr of one node", of(num(0)), 0},
		{"an Expr of 15 nodes", of(sums(7)), 0},
		{"an Expr that has no value", of(pair(impl.ExprDiv, num(1), num(0))), 0},
		{"an Expr of nil", of(nil), impl.ErrMany},
		{"an Expr of no node", of([]impl.Node{}), impl.ErrMany},
		{"an Expr of 17 nodes", of(sums(8)), impl.ErrMany},
		{"an Expr with a wrong kind", of([]impl.Node{{Kind: 11}}), impl.ErrForm},
		{"an Expr with a wrong number", of(num(10000)), impl.ErrRange},
		{"an Expr with a wrong variable", of(variable(4)), impl.ErrRange},
		{"an Expr in another order", of([]impl.Node{{Kind: 1}, {Kind: 1}}), impl.ErrForm},
		{"an Expr that is a bool", of(yes()), impl.ErrType},
		{"an Expr that is the not of a bool", of(not(yes())), impl.ErrType},
		{"an Expr whose parts have another type", of(pair(impl.ExprAdd, yes(), num(1))), impl.ErrType},
		{"an Expr that is the not of an int", of(not(num(1))), impl.ErrType},
	})
}

func TestProcFaultOfKids(t *testing.T) {
	with := func(s impl.Step, kids int) []impl.Step {
		p := proc(s)
		for i := range kids {
			kid := taskAt(0)
			if s.Kind == impl.StepXor && i < kids-1 {
				kid.Cond = yes()
			}
			p = append(p, kid)
		}
		return p
	}
	for kind, bounds := range map[int64][2]int{
		impl.StepSeq: {1, 23}, impl.StepXor: {2, 23}, impl.StepAnd: {2, 23}, impl.StepGuard: {2, 2},
		impl.StepTask: {0, 0}, impl.StepWait: {0, 0}, impl.StepTimer: {0, 0}, impl.StepSet: {0, 0},
	} {
		for kids := range 24 {
			want := int64(0)
			if kids < bounds[0] || kids > bounds[1] {
				want = impl.ErrForm
			}
			askProcFaults(t, []procCase{{"the kind " + strconv.FormatInt(kind, 10) + " with kids: " + strconv.Itoa(kids), with(aloneOf(kind, -1), kids), want}})
		}
	}
	// Only kids count, not what is below them, nor what stands behind.
	askProcFaults(t, []procCase{
		{"an and of one kid that has two", proc(andAt(-1), seqAt(0), taskAt(1), taskAt(1)), impl.ErrForm},
		{"an and of two kids, the first has two", proc(andAt(-1), seqAt(0), taskAt(1), taskAt(1), taskAt(0)), 0},
		{"a guard of two kids that have two", proc(guardAt(-1, 1), seqAt(0), taskAt(1), taskAt(1), seqAt(0), taskAt(4), taskAt(4)), 0},
		{"a guard of three kids, the last far behind", proc(guardAt(-1, 1), seqAt(0), taskAt(1), seqAt(0), taskAt(3), taskAt(0)), impl.ErrForm},
		{"a seq of none ahead of a task", proc(seqAt(-1), seqAt(0), taskAt(0)), impl.ErrForm},
		{"a seq of none in the end", proc(seqAt(-1), taskAt(0), seqAt(0)), impl.ErrForm},
		{"a task with a kid in the end", proc(seqAt(-1), taskAt(0), taskAt(1)), impl.ErrForm},
		{"a set with a kid in the end", proc(seqAt(-1), setAt(0, 0, num(1)), setAt(1, 0, num(1))), impl.ErrForm},
	})
}

func TestProcFaultOfConds(t *testing.T) {
	on, off := ifSo(yes(), taskAt(0)), taskAt(0)
	askProcFaults(t, []procCase{
		{"a xor of two", proc(xorAt(-1), on, off), 0},
		{"a xor of four", proc(xorAt(-1), on, on, on, off), 0},
		{"a Cond of the last kid too", proc(xorAt(-1), on, on), impl.ErrForm},
		{"a Cond of the last kid of three too", proc(xorAt(-1), on, on, on), impl.ErrForm},
		{"a Cond of the last kid alone", proc(xorAt(-1), off, on), impl.ErrForm},
		{"no Cond", proc(xorAt(-1), off, off), impl.ErrForm},
		{"no Cond of the first one", proc(xorAt(-1), off, on, off), impl.ErrForm},
		{"no Cond of the second one", proc(xorAt(-1), on, off, off), impl.ErrForm},
		{"a Cond without nodes", proc(xorAt(-1), ifSo([]impl.Node{}, off), off), impl.ErrForm},
		{"a Cond of a seq's kid", proc(seqAt(-1), on), impl.ErrForm},
		{"a Cond of a seq's second kid", proc(seqAt(-1), off, on), impl.ErrForm},
		{"a Cond of an and's kid", proc(andAt(-1), on, off), impl.ErrForm},
		{"a Cond of a guard's first kid", proc(guardAt(-1, 1), on, off), impl.ErrForm},
		{"a Cond of a guard's second kid", proc(guardAt(-1, 1), off, on), impl.ErrForm},
		{"a Cond of the first step", proc(ifSo(yes(), taskAt(-1))), impl.ErrForm},
		{"a Cond of a first step that is a xor", proc(ifSo(yes(), xorAt(-1)), on, off), impl.ErrForm},
		{"a Cond of what is below a xor's kid", proc(xorAt(-1), ifSo(yes(), seqAt(0)), ifSo(yes(), taskAt(1)), off), impl.ErrForm},
		{"a Cond of what is below a xor's kid alone", proc(xorAt(-1), seqAt(0), ifSo(yes(), taskAt(1)), off), impl.ErrForm},
		{"a last kid with steps below it", proc(xorAt(-1), on, seqAt(0), taskAt(2), taskAt(2)), 0},
		{"a last kid that looks like one of more", proc(xorAt(-1), ifSo(yes(), seqAt(0)), taskAt(1), seqAt(0), taskAt(3)), 0},
		{"a xor in a xor", proc(xorAt(-1), ifSo(yes(), xorAt(0)), ifSo(yes(), taskAt(1)), taskAt(1), off), 0},
		{"a xor that is last in a xor", proc(xorAt(-1), on, xorAt(0), ifSo(yes(), taskAt(2)), taskAt(2)), 0},
		{"a xor that is last in a xor, with a Cond", proc(xorAt(-1), on, ifSo(yes(), xorAt(0)), ifSo(yes(), taskAt(2)), taskAt(2)), impl.ErrForm},
		{"a xor in a seq, and a step behind it", proc(seqAt(-1), xorAt(0), ifSo(yes(), taskAt(1)), taskAt(1), off), 0},
		{"a Cond of a set", proc(xorAt(-1), ifSo(not(yes()), setAt(0, 0, num(1))), waitAt(0, 0)), 0},
	})
	for kind := int64(1); kind <= 8; kind++ {
		p := proc(xorAt(-1), ifSo(yes(), aloneOf(kind, 0)))
		kids := map[int64]int{impl.StepSeq: 1, impl.StepXor: 2, impl.StepAnd: 2, impl.StepGuard: 2}[kind]
		for i := range kids {
			kid := taskAt(1)
			if kind == impl.StepXor && i == 0 {
				kid.Cond = yes()
			}
			p = append(p, kid)
		}
		askProcFaults(t, []procCase{
			{"a Cond of the kind " + strconv.FormatInt(kind, 10), append(slices.Clone(p), off), 0},
			{"a Cond of the last one, of the kind " + strconv.FormatInt(kind, 10), append(proc(xorAt(-1)), p[1:]...), impl.ErrForm},
		})
	}
	of := func(cond []impl.Node) []impl.Step { return proc(xorAt(-1), ifSo(cond, taskAt(0)), taskAt(0)) }
	askProcFaults(t, []procCase{
		{"a Cond of 16 nodes", of(not(pair(impl.ExprLess, sums(6), num(1)))), 0},
		{"a Cond of 17 nodes", of(nots(17)), impl.ErrMany},
		{"a Cond with a wrong kind", of([]impl.Node{{}}), impl.ErrForm},
		{"a Cond with a wrong number", of(not(num(-1))), impl.ErrRange},
		{"a Cond in another order", of(append(num(1), yes()...)), impl.ErrForm},
		{"a Cond that is an int", of(num(1)), impl.ErrType},
		{"a Cond that is a variable", of(variable(0)), impl.ErrType},
		{"a Cond whose parts have another type", of(not(num(1))), impl.ErrType},
		{"a Cond that has no value", of(pair(impl.ExprSame, pair(impl.ExprDiv, num(1), num(0)), num(1))), 0},
	})
}

// Each code is asked ahead of those behind it, of one step ahead of the next one, up to a "then".
func TestProcFaultInOrder(t *testing.T) {
	badName := impl.Step{Kind: impl.StepTask, Name: "A"}
	longName := impl.Step{Kind: impl.StepTask, Name: "abcdefghi"}
	on, off := ifSo(yes(), taskAt(0)), taskAt(0)
	task := func(parent int64, name string) impl.Step {
		return impl.Step{Kind: impl.StepTask, Parent: parent, Name: name}
	}
	tooDeep := func(s impl.Step) []impl.Step {
		s.Parent = 6
		return append(nestOf(8)[:7], s)
	}
	// The seq at 1 is over at 3.
	over := func(s impl.Step) []impl.Step {
		return proc(seqAt(-1), seqAt(0), taskAt(1), taskAt(0), s)
	}
	askProcFaults(t, []procCase{
		{"how many ahead of a kind", append(seqOf(24), impl.Step{}), impl.ErrMany},
		// In one step.
		{"the kind ahead of Parent", proc(impl.Step{Kind: 9}), impl.ErrForm},
		{"what it has not ahead of Parent", proc(impl.Step{Kind: impl.StepTask, Name: "a", Arg: 1}), impl.ErrForm},
		{"what it has not ahead of the nest", tooDeep(impl.Step{Kind: impl.StepTask, Name: "a", Arg: 1}), impl.ErrForm},
		{"what it has not ahead of the Name", proc(impl.Step{Kind: impl.StepTask, Parent: -1, Expr: num(1)}), impl.ErrForm},
		{"what it has not ahead of Arg", proc(impl.Step{Kind: impl.StepWait, Parent: -1, Name: "a", Arg: 10}), impl.ErrForm},
		{"what it has not ahead of Expr", proc(impl.Step{Kind: impl.StepSet, Parent: -1, Name: "a"}), impl.ErrForm},
		{"Parent ahead of the Name", proc(task(0, "")), impl.ErrRange},
		{"Parent ahead of Expr", proc(setAt(0, 0, nil)), impl.ErrRange},
		{"a Parent that is over ahead of the Name", over(task(1, "")), impl.ErrForm},
		{"a Parent that is over ahead of Arg", over(timerAt(1, 0)), impl.ErrForm},
		{"the nest ahead of the Name", tooDeep(badName), impl.ErrMany},
		{"the nest ahead of Arg", tooDeep(waitAt(0, 10)), impl.ErrMany},
		{"the nest ahead of Expr", tooDeep(setAt(0, 0, num(-1))), impl.ErrMany},
		{"Arg ahead of Expr", proc(setAt(-1, 4, nil)), impl.ErrRange},
		{"the Name ahead of a Cond", proc(ifSo(yes(), task(-1, ""))), impl.ErrText},
		{"Arg ahead of a Cond", proc(ifSo(yes(), waitAt(-1, 10))), impl.ErrRange},
		{"Arg of a guard ahead of its kids", proc(guardAt(-1, 0)), impl.ErrRange},
		{"Expr ahead of a Cond", proc(ifSo(yes(), setAt(-1, 0, nil))), impl.ErrMany},
		{"kids ahead of the fault of a Cond", proc(xorAt(-1), ifSo(nots(17), seqAt(0)), off), impl.ErrForm},
		{"where a Cond is ahead of its fault", proc(ifSo(nots(17), taskAt(-1))), impl.ErrForm},
		{"where a Cond is ahead of its type", proc(ifSo(num(1), taskAt(-1))), impl.ErrForm},
		{"the type of Cond and of Expr", proc(xorAt(-1), ifSo(num(1), setAt(0, 0, yes())), off), impl.ErrType},
		{"the type of Expr behind a right Cond", proc(xorAt(-1), ifSo(yes(), setAt(0, 0, yes())), off), impl.ErrType},
		// In two steps, on one side of a "then": the step ahead counts.
		{"a Name ahead of a kind", proc(seqAt(-1), badName, impl.Step{}), impl.ErrText},
		{"a kind ahead of a Name", proc(seqAt(-1), impl.Step{}, badName), impl.ErrForm},
		{"a long Name ahead of a wrong one", proc(seqAt(-1), longName, badName), impl.ErrMany},
		{"a wrong Name ahead of a long one", proc(seqAt(-1), badName, longName), impl.ErrText},
		{"an Arg ahead of a Parent that is over", proc(seqAt(-1), seqAt(0), taskAt(1), timerAt(0, 0), taskAt(1)), impl.ErrRange},
		{"a Parent that is over ahead of an Arg", append(over(taskAt(1)), timerAt(0, 0)), impl.ErrForm},
		{"an Arg ahead of a kind", proc(seqAt(-1), waitAt(0, 10), impl.Step{Kind: 9}), impl.ErrRange},
		{"a Parent ahead of a kind", proc(seqAt(0), impl.Step{Kind: 9}), impl.ErrRange},
		{"an Expr ahead of a Parent", proc(seqAt(-1), setAt(0, 0, nil), taskAt(-1)), impl.ErrMany},
		{"a Parent ahead of an Expr", proc(seqAt(-1), taskAt(-1), setAt(0, 0, nil)), impl.ErrRange},
		{"the nest ahead of a kind", append(tooDeep(taskAt(0)), impl.Step{}), impl.ErrMany},
		{"the fault of a Cond ahead of the kids of the next one", proc(xorAt(-1), ifSo(nots(17), taskAt(0)), seqAt(0)), impl.ErrMany},
		{"the fault of a Cond ahead of a Cond that may not be", proc(xorAt(-1), ifSo(nots(17), taskAt(0)), on), impl.ErrMany},
		{"the kids of one ahead of the fault of a Cond behind it", proc(andAt(-1), xorAt(0), ifSo(nots(17), taskAt(1)), taskAt(1)), impl.ErrForm},
		{"a number in a Cond ahead of how many in the next one", proc(xorAt(-1), ifSo(num(-1), taskAt(0)), ifSo(nots(17), taskAt(0)), off), impl.ErrRange},
		{"how many in a Cond ahead of a number in the next one", proc(xorAt(-1), ifSo(nots(17), taskAt(0)), ifSo(num(-1), taskAt(0)), off), impl.ErrMany},
		// In two steps, on both sides of a "then": what is asked ahead of it counts.
		{"kids, and a Name behind them", proc(andAt(-1), badName), impl.ErrText},
		{"a seq of none, and an Arg behind it", proc(andAt(-1), seqAt(0), waitAt(0, 10)), impl.ErrRange},
		{"a Cond that may not be, and a Parent behind it", proc(seqAt(-1), on, taskAt(-1)), impl.ErrRange},
		{"a Cond that may not be, and an Expr behind it", proc(seqAt(-1), on, setAt(0, 0, nil)), impl.ErrMany},
		{"a Cond with a fault, and a kind behind it", proc(xorAt(-1), ifSo(nots(17), taskAt(0)), impl.Step{}), impl.ErrForm},
		{"a Cond with a fault, and a Name behind it", proc(xorAt(-1), ifSo(nots(17), taskAt(0)), badName), impl.ErrText},
		{"the type of a Cond, and a Name behind it", proc(xorAt(-1), ifSo(num(1), taskAt(0)), badName), impl.ErrText},
		{"the type of an Expr, and a Name behind it", proc(seqAt(-1), setAt(0, 0, yes()), badName), impl.ErrText},
		{"the type of a Cond, and kids behind it", proc(xorAt(-1), ifSo(num(1), taskAt(0)), seqAt(0)), impl.ErrForm},
		{"the type of a Cond, and a Cond with a fault behind it", proc(xorAt(-1), ifSo(num(1), taskAt(0)), ifSo(nots(17), taskAt(0)), off), impl.ErrMany},
		{"the type of an Expr, and a Cond that may not be behind it", proc(seqAt(-1), setAt(0, 0, yes()), on), impl.ErrForm},
		{"the type of an Expr, and a Cond with a fault behind it", proc(seqAt(-1), setAt(0, 0, yes()), xorAt(0), ifSo(num(10000), taskAt(2)), taskAt(2)), impl.ErrRange},
	})
}

// placesUp are the places from a step up, itself first.
func placesUp(p []impl.Step, at int64) []int64 {
	var places []int64
	for at >= 0 {
		places = append(places, at)
		at = p[at].Parent
	}
	return places
}

// slowProcFault tells it once more: step by step, with nothing kept of one for the next.
func slowProcFault(p []impl.Step) int64 {
	if len(p) < 1 || len(p) > 24 {
		return impl.ErrMany
	}
	for at := range p {
		if fault := slowStepFault(p, int64(at)); fault != 0 {
			return fault
		}
	}
	for at, s := range p {
		var kids []int64
		for i, kid := range p {
			if kid.Parent == int64(at) {
				kids = append(kids, int64(i))
			}
		}
		least, most := 0, 0
		switch s.Kind {
		case 1:
			least, most = 1, 100
		case 3, 4:
			least, most = 2, 100
		case 8:
			least, most = 2, 2
		}
		if len(kids) < least || len(kids) > most {
			return impl.ErrForm
		}
		needs := false
		if at > 0 && p[s.Parent].Kind == 3 {
			for _, other := range p[at+1:] {
				needs = needs || other.Parent == s.Parent
			}
		}
		if needs == (len(s.Cond) == 0) {
			return impl.ErrForm
		}
		if fault := slowExprFault(s.Cond); needs && fault != 0 {
			return fault
		}
	}
	for _, s := range p {
		if len(s.Cond) > 0 && slowTypeOf(s.Cond) != impl.TypeBool || s.Kind == 7 && slowTypeOf(s.Expr) != impl.TypeInt {
			return impl.ErrType
		}
	}
	return 0
}

func slowStepFault(p []impl.Step, at int64) int64 {
	s := p[at]
	switch {
	case s.Kind < 1 || s.Kind > 8, s.Kind != 2 && s.Name != "", s.Kind < 5 && s.Arg != 0, s.Kind != 7 && len(s.Expr) > 0:
		return impl.ErrForm
	case at == 0 && s.Parent != -1, at > 0 && s.Parent < 0, at > 0 && s.Parent >= at:
		return impl.ErrRange
	case at > 0 && !slices.Contains(placesUp(p, at-1), s.Parent):
		return impl.ErrForm
	case len(placesUp(p, at)) > 7:
		return impl.ErrMany
	case s.Kind == 2 && impl.NameFault(s.Name) != 0:
		return impl.NameFault(s.Name)
	case s.Kind == 5 && (s.Arg < 0 || s.Arg > 9), s.Kind == 7 && (s.Arg < 0 || s.Arg > 3):
		return impl.ErrRange
	case (s.Kind == 6 || s.Kind == 8) && (s.Arg < 1 || s.Arg > 99):
		return impl.ErrRange
	case s.Kind == 7:
		return slowExprFault(s.Expr)
	}
	return 0
}

func TestProcFaultOfEachSmallProc(t *testing.T) {
	count := map[int64]int{}
	var grow func(p []impl.Step, kinds []int64, least int64, conds [][]impl.Node, left int)
	grow = func(p []impl.Step, kinds []int64, least int64, conds [][]impl.Node, left int) {
		got, want := impl.ProcFault(p), slowProcFault(p)
		count[got]++
		if got != want {
			t.Fatalf("ProcFault(%v) = %d, want %d", p, got, want)
		}
		if left == 0 {
			return
		}
		for _, kind := range kinds {
			for parent := least; parent < int64(len(p))-least; parent++ {
				for _, cond := range conds {
					grow(append(slices.Clip(p), ifSo(cond, aloneOf(kind, parent))), kinds, least, conds, left-1)
				}
			}
		}
	}
	// With Parents that are no place, and then more steps whose Parents are places.
	grow(nil, []int64{0, 1, 2, 3, 4, 5, 6, 7, 8, 9}, -1, [][]impl.Node{nil, yes(), num(1), nots(17)}, 2)
	grow(nil, []int64{1, 2, 3}, -1, [][]impl.Node{nil, yes()}, 4)
	grow(proc(xorAt(-1)), []int64{1, 2, 7}, 0, [][]impl.Node{nil, yes(), num(1), num(-1), nots(17)}, 3)
	for _, first := range []int64{1, 3, 4, 8} {
		grow(proc(aloneOf(first, -1)), []int64{1, 2, 3, 8}, 0, [][]impl.Node{nil, yes()}, 4)
		grow(proc(aloneOf(first, -1)), []int64{1, 2, 4}, 0, [][]impl.Node{nil}, 5)
	}
	for _, code := range []int64{impl.OK, impl.ErrForm, impl.ErrMany, impl.ErrRange, impl.ErrType} {
		if count[code] == 0 {
			t.Error(count)
		}
	}
}

// growProc puts a step of at most so many steps, itself too, behind p, and all without a fault.
func growProc(r *rand.Rand, p []impl.Step, parent int64, deep, most int) []impl.Step {
	at := int64(len(p))
	s := impl.Step{Kind: 1 + int64(r.Intn(8)), Parent: parent}
	kids := map[int64]int{1: 1 + r.Intn(4), 3: 2 + r.Intn(3), 4: 2 + r.Intn(3), 8: 2}[s.Kind]
	if kids >= most || deep == 7 {
		s.Kind, kids = []int64{2, 5, 6, 7}[r.Intn(4)], 0
	}
	switch s.Kind {
	case impl.StepTask:
		s.Name = []string{"a", "b", "pay", "abcdefgh"}[r.Intn(4)]
	case impl.StepWait:
		s.Arg = int64(r.Intn(10))
	case impl.StepTimer, impl.StepGuard:
		s.Arg = 1 + int64(r.Intn(99))
	case impl.StepSet:
		s.Arg, s.Expr = int64(r.Intn(4)), randomTyped(r, 1+r.Intn(8), impl.TypeInt)
	}
	p = append(p, s)
	left := most - 1
	for others := kids - 1; others >= 0; others-- {
		kid := len(p)
		p = growProc(r, p, at, deep+1, 1+r.Intn(left-others))
		left -= len(p) - kid
		if s.Kind == impl.StepXor && others > 0 {
			p[kid].Cond = randomTyped(r, 3+r.Intn(8), impl.TypeBool)
		}
	}
	return p
}

func randomProc(r *rand.Rand, most int) []impl.Step {
	return growProc(r, nil, -1, 1, most)
}

// spoilProc makes one thing of p wrong, or another one that is right.
func spoilProc(r *rand.Rand, p []impl.Step) []impl.Step {
	p = cloneProc(p)
	at := r.Intn(len(p))
	s := &p[at]
	some := []int64{-1, 0, 1, 3, 4, 9, 10, 99, 100, math.MaxInt64, math.MinInt64}
	switch r.Intn(10) {
	case 0:
		s.Kind = int64(r.Intn(10))
	case 1:
		s.Parent = int64(r.Intn(len(p)+3)) - 2
	case 2:
		s.Name = []string{"", "A", "abcdefghi", "z"}[r.Intn(4)]
	case 3:
		s.Arg = some[r.Intn(len(some))]
	case 4:
		s.Cond = [][]impl.Node{nil, {}, yes(), num(1), nots(17), spoilExpr(r, yes())}[r.Intn(6)]
	case 5:
		s.Expr = [][]impl.Node{nil, {}, yes(), num(1), nots(17), spoilExpr(r, sums(2))}[r.Intn(6)]
	case 6:
		p = append(p, *s)
	case 7:
		p = p[:1+r.Intn(len(p))]
	case 8:
		other := r.Intn(len(p))
		*s, p[other] = p[other], *s
	case 9:
		p = slices.Insert(p, at, aloneOf(1+int64(r.Intn(8)), s.Parent))
	}
	return p
}

func TestProcFaultOfSpoiltProcs(t *testing.T) {
	r := rand.New(rand.NewSource(21))
	count := map[int64]int{}
	for range 60000 {
		p := randomProc(r, 1+r.Intn(26))
		if got := impl.ProcFault(p); len(p) <= 24 && got != 0 {
			t.Fatalf("ProcFault(%v) = %d, want 0", p, got)
		}
		for range r.Intn(4) {
			p = spoilProc(r, p)
		}
		got, want := impl.ProcFault(p), slowProcFault(p)
		count[got]++
		if got != want {
			t.Fatalf("ProcFault(%v) = %d, want %d", p, got, want)
		}
	}
	for _, code := range []int64{impl.OK, impl.ErrForm, impl.ErrMany, impl.ErrRange, impl.ErrText, impl.ErrType} {
		if count[code] < 20 {
			t.Error(count)
		}
	}
}

// A fault of the process is the code of all that ask for it, with nothing beside it.
func TestProcFaultIsAskedFirst(t *testing.T) {
	r := rand.New(rand.NewSource(22))
	asked := map[int64]int{}
	ask := func(p []impl.Step) {
		want := slowProcFault(p)
		if want == 0 {
			return
		}
		asked[want]++
		for _, at := range []int64{-1, 0, int64(len(p)) - 1, int64(len(p)), math.MaxInt64, math.MinInt64} {
			if got := impl.StepsUnder(p, at); got.Code != want || len(got.List) != 0 {
				t.Fatalf("StepsUnder(%v, %d) = %v, want the code %d", p, at, got, want)
			}
		}
		if got := impl.ProcText(p); got != (impl.TextResult{Code: want}) {
			t.Fatalf("ProcText(%v) = %v, want the code %d", p, got, want)
		}
		if got := impl.LeavesOf(p); got.Code != want || len(got.List) != 0 {
			t.Fatalf("LeavesOf(%v) = %v, want the code %d", p, got, want)
		}
		if got := impl.DeepOf(p); got != (impl.IntResult{Code: want}) {
			t.Fatalf("DeepOf(%v) = %v, want the code %d", p, got, want)
		}
	}
	for _, p := range [][]impl.Step{nil, seqOf(25), nestOf(8), proc(seqAt(-1)), proc(taskAt(0)), proc(impl.Step{}), proc(impl.Step{Kind: impl.StepTask, Parent: -1}), proc(setAt(-1, 0, yes())), proc(ifSo(yes(), taskAt(-1)))} {
		if slowProcFault(p) == 0 {
			t.Fatalf("%v has no fault", p)
		}
		ask(p)
	}
	for range 20000 {
		ask(spoilProc(r, spoilProc(r, randomProc(r, 1+r.Intn(12)))))
	}
	for _, code := range []int64{impl.ErrForm, impl.ErrMany, impl.ErrRange, impl.ErrText, impl.ErrType} {
		if asked[code] < 20 {
			t.Error(asked)
		}
	}
}

// orderProc has each kind, a step at each depth up to 4, and steps below the last kid of its xor.
func orderProc() []impl.Step {
	return proc(
		seqAt(-1),                        // 0
		taskAt(0),                        // 1
		xorAt(0),                         // 2
		ifSo(yes(), seqAt(2)),            // 3
		waitAt(3, 9),                     // 4
		ifSo(not(yes()), timerAt(2, 99)), // 5
		andAt(2),                         // 6
		setAt(6, 3, pair(impl.ExprAdd, variable(0), num(2))), // 7
		taskAt(6),            // 8
		guardAt(0, 3),        // 9
		waitAt(9, 0),         // 10
		setAt(9, 0, num(10)), // 11
	)
}

func TestStepsUnder(t *testing.T) {
	p := orderProc()
	for at, want := range [][]int64{{0, 1, 2, 3, 4, 5, 6, 7, 8, 9, 10, 11}, {1}, {2, 3, 4, 5, 6, 7, 8}, {3, 4}, {4}, {5}, {6, 7, 8}, {7}, {8}, {9, 10, 11}, {10}, {11}} {
		if got := impl.StepsUnder(p, int64(at)); got.Code != 0 || !slices.Equal(got.List, want) {
			t.Errorf("StepsUnder(.., %d) = %v, want %v", at, got, want)
		}
	}
	for _, at := range []int64{math.MinInt64, -2, -1, 12, 13, 24, 1 << 32, 1<<32 + 1, -1 << 32, math.MaxInt64} {
		if got := impl.StepsUnder(p, at); got.Code != impl.ErrRange || len(got.List) != 0 {
			t.Errorf("StepsUnder(.., %d) = %v, want ErrRange", at, got)
		}
	}
	one := proc(taskAt(-1))
	for at, want := range map[int64]int64{-1: impl.ErrRange, 0: 0, 1: impl.ErrRange} {
		if got := impl.StepsUnder(one, at); got.Code != want {
			t.Errorf("StepsUnder of one step, %d = %v, want the code %d", at, got, want)
		}
	}
	if got := impl.StepsUnder(nestOf(7), 3); got.Code != 0 || !slices.Equal(got.List, []int64{3, 4, 5, 6}) {
		t.Errorf("StepsUnder of a nest = %v", got)
	}
	if got := impl.StepsUnder(seqOf(24), 0); got.Code != 0 || len(got.List) != 24 || got.List[23] != 23 {
		t.Errorf("StepsUnder of 24 steps = %v", got)
	}
}

// Promise 5: what is under a step stands behind it in one piece, and nothing is under tasks, waits and timers.
func TestWhatIsUnderAStepIsOnePiece(t *testing.T) {
	r := rand.New(rand.NewSource(23))
	for range 5000 {
		p := randomProc(r, 1+r.Intn(24))
		leaves := impl.LeavesOf(p)
		if leaves.Code != 0 {
			t.Fatalf("LeavesOf(%v) = %v", p, leaves)
		}
		for at := range int64(len(p)) {
			got := impl.StepsUnder(p, at)
			var want []int64
			for other := range int64(len(p)) {
				if slices.Contains(placesUp(p, other), at) {
					want = append(want, other)
				}
			}
			if got.Code != 0 || !slices.Equal(got.List, want) {
				t.Fatalf("StepsUnder(%v, %d) = %v, want %v", p, at, got, want)
			}
			for i, under := range got.List {
				if under != at+int64(i) {
					t.Fatalf("StepsUnder(%v, %d) = %v, which is not one piece", p, at, got)
				}
			}
			isLeaf := p[at].Kind == impl.StepTask || p[at].Kind == impl.StepWait || p[at].Kind == impl.StepTimer
			if isLeaf != slices.Contains(leaves.List, at) || isLeaf && len(got.List) != 1 {
				t.Fatalf("of %v at %d: leaves %v, under it %v", p, at, leaves, got)
			}
		}
	}
	// What would be under a leaf is a fault, at each of them.
	for range 5000 {
		p := randomProc(r, 1+r.Intn(20))
		leaves := impl.LeavesOf(p).List
		if len(leaves) == 0 {
			continue
		}
		leaf := leaves[r.Intn(len(leaves))]
		p = slices.Insert(p, int(leaf)+1, taskAt(leaf))
		for i := leaf + 2; i < int64(len(p)); i++ {
			if p[i].Parent > leaf {
				p[i].Parent++
			}
		}
		if got := impl.ProcFault(p); got != impl.ErrForm && got != impl.ErrMany {
			t.Fatalf("ProcFault(%v) = %d, though %d has a kid", p, got, leaf)
		}
		if got := impl.StepsUnder(p, leaf); got.Code == 0 || len(got.List) != 0 {
			t.Fatalf("StepsUnder(%v, %d) = %v, though it has a kid", p, leaf, got)
		}
	}
}

func TestLeavesOf(t *testing.T) {
	cases := []struct {
		p    []impl.Step
		want []int64
	}{
		{proc(taskAt(-1)), []int64{0}}, {proc(waitAt(-1, 0)), []int64{0}}, {proc(timerAt(-1, 1)), []int64{0}},
		{proc(setAt(-1, 0, num(1))), nil}, {proc(seqAt(-1), setAt(0, 0, num(1)), setAt(0, 0, num(1))), nil},
		{orderProc(), []int64{1, 4, 5, 8, 10}},
		{nestOf(7), []int64{6}},
		{proc(guardAt(-1, 1), timerAt(0, 1), setAt(0, 1, num(1))), []int64{1}},
	}
	for _, c := range cases {
		if got := impl.LeavesOf(c.p); got.Code != 0 || !slices.Equal(got.List, c.want) {
			t.Errorf("LeavesOf(%v) = %v, want %v", c.p, got, c.want)
		}
	}
}

func TestDeepOf(t *testing.T) {
	for n := 1; n <= 7; n++ {
		if got := impl.DeepOf(nestOf(n)); got != (impl.IntResult{Value: int64(n)}) {
			t.Errorf("DeepOf %d = %v", n, got)
		}
		// The deepest one is not the last one, nor the first of its depth.
		p := append(nestOf(n), proc(taskAt(0), taskAt(0))...)
		if got := impl.DeepOf(p); n > 1 && got != (impl.IntResult{Value: int64(n)}) {
			t.Errorf("DeepOf %d, with more behind it = %v", n, got)
		}
	}
	if got := impl.DeepOf(seqOf(24)); got != (impl.IntResult{Value: 2}) {
		t.Errorf("DeepOf a flat one = %v", got)
	}
	r := rand.New(rand.NewSource(24))
	for range 5000 {
		p := randomProc(r, 1+r.Intn(24))
		want := 0
		for at := range p {
			want = max(want, len(placesUp(p, int64(at))))
		}
		if got := impl.DeepOf(p); got != (impl.IntResult{Value: int64(want)}) {
			t.Fatalf("DeepOf(%v) = %v, want %d", p, got, want)
		}
	}
}

func TestProcText(t *testing.T) {
	named := impl.Step{Kind: impl.StepTask, Parent: -1, Name: "abcdefgh"}
	cases := []struct {
		p    []impl.Step
		want string
	}{
		{proc(named), "task abcdefgh\n"},
		{proc(waitAt(-1, 0)), "wait 0\n"}, {proc(waitAt(-1, 9)), "wait 9\n"},
		{proc(timerAt(-1, 1)), "timer 1\n"}, {proc(timerAt(-1, 99)), "timer 99\n"},
		{proc(setAt(-1, 0, num(0))), "set v0 0\n"}, {proc(setAt(-1, 3, pair(impl.ExprSub, variable(3), num(9999)))), "set v3 (v3-9999)\n"},
		{proc(andAt(-1), taskAt(0), taskAt(0)), "and\n  task a\n  task a\n"},
		{proc(guardAt(-1, 10), taskAt(0), waitAt(0, 1)), "guard 10\n  task a\n  wait 1\n"},
		{proc(xorAt(-1), ifSo(yes(), taskAt(0)), taskAt(0)), "xor\n  if (0<1) task a\n  task a\n"},
		{
			orderProc(),
			"seq\n  task a\n  xor\n    if (0<1) seq\n      wait 9\n    if !(0<1) timer 99\n    and\n      set v3 (v0+2)\n      task a\n  guard 3\n    wait 0\n    set v0 10\n",
		},
		{nestOf(7), "seq\n  seq\n    seq\n      seq\n        seq\n          seq\n            task a\n"},
		{
			proc(xorAt(-1), ifSo(yes(), xorAt(0)), ifSo(yes(), setAt(1, 1, num(2))), waitAt(1, 3), ifSo(yes(), andAt(0)), taskAt(4), taskAt(4), ifSo(yes(), guardAt(0, 7)), taskAt(7), taskAt(7), timerAt(0, 2)),
			"xor\n  if (0<1) xor\n    if (0<1) set v1 2\n    wait 3\n  if (0<1) and\n    task a\n    task a\n  if (0<1) guard 7\n    task a\n    task a\n  timer 2\n",
		},
	}
	for _, c := range cases {
		if got := impl.ProcText(c.p); got != (impl.TextResult{Text: c.want}) {
			t.Errorf("ProcText(%v) = %q, want %q", c.p, got.Text, c.want)
		}
	}
}

// readText reads a process back from its text by its words.
func readText(text string) []impl.Step {
	var p []impl.Step
	var open []int64
	kinds := []string{"", "seq", "task", "xor", "and", "wait", "timer", "set", "guard"}
	for line := range strings.Lines(text) {
		words := strings.Fields(line)
		deep := (len(line) - len(strings.TrimLeft(line, " "))) / 2
		s := impl.Step{Parent: -1}
		if deep > 0 {
			s.Parent = open[deep-1]
		}
		if words[0] == "if" {
			s.Cond, words = impl.ParseExpr(words[1]).Expr, words[2:]
		}
		s.Kind = int64(slices.Index(kinds, words[0]))
		switch {
		case s.Kind == impl.StepTask:
			s.Name = words[1]
		case s.Kind == impl.StepSet:
			s.Expr = impl.ParseExpr(words[2]).Expr
			fallthrough
		case len(words) > 1:
			s.Arg, _ = strconv.ParseInt(strings.TrimPrefix(words[1], "v"), 10, 64)
		}
		open = append(open[:deep], int64(len(p)))
		p = append(p, s)
	}
	return p
}

func TestProcTextTellsAll(t *testing.T) {
	r := rand.New(rand.NewSource(25))
	for range 5000 {
		p := randomProc(r, 1+r.Intn(24))
		text := impl.ProcText(p)
		if text.Code != 0 || strings.Count(text.Text, "\n") != len(p) || !strings.HasSuffix(text.Text, "\n") {
			t.Fatalf("ProcText(%v) = %v", p, text)
		}
		if got := readText(text.Text); !impl.SameProcs(got, p) || !reflect.DeepEqual(got, p) {
			t.Fatalf("ProcText(%v) = %q", p, text.Text)
		}
	}
}

func TestSameProcs(t *testing.T) {
	cond := pair(impl.ExprLess, variable(1), num(2))
	base := func() []impl.Step {
		return proc(seqAt(-1), impl.Step{Kind: impl.StepSet, Parent: 0, Name: "a", Arg: 1, Cond: slices.Clone(cond), Expr: slices.Clone(cond)}, taskAt(0))
	}
	if !impl.SameProcs(base(), base()) {
		t.Error("the same are not the same")
	}
	changes := map[string]func(s *impl.Step){
		"Kind":         func(s *impl.Step) { s.Kind = impl.StepWait },
		"Parent":       func(s *impl.Step) { s.Parent = -1 },
		"Name":         func(s *impl.Step) { s.Name = "b" },
		"no Name":      func(s *impl.Step) { s.Name = "" },
		"a long Name":  func(s *impl.Step) { s.Name = "aa" },
		"Arg":          func(s *impl.Step) { s.Arg = 2 },
		"no Cond":      func(s *impl.Step) { s.Cond = nil },
		"a short Cond": func(s *impl.Step) { s.Cond = s.Cond[:2] },
		"a long Cond":  func(s *impl.Step) { s.Cond = append(s.Cond, impl.Node{}) },
		"no Expr":      func(s *impl.Step) { s.Expr = nil },
		"a short Expr": func(s *impl.Step) { s.Expr = s.Expr[:2] },
		"a long Expr":  func(s *impl.Step) { s.Expr = append(s.Expr, impl.Node{}) },
	}
	for at := range cond {
		place := strconv.Itoa(at)
		changes["the Kind in Cond at "+place] = func(s *impl.Step) { s.Cond[at].Kind++ }
		changes["the Value in Cond at "+place] = func(s *impl.Step) { s.Cond[at].Value++ }
		changes["the Left in Cond at "+place] = func(s *impl.Step) { s.Cond[at].Left++ }
		changes["the Right in Cond at "+place] = func(s *impl.Step) { s.Cond[at].Right++ }
		changes["the Kind in Expr at "+place] = func(s *impl.Step) { s.Expr[at].Kind++ }
		changes["the Value in Expr at "+place] = func(s *impl.Step) { s.Expr[at].Value++ }
		changes["the Left in Expr at "+place] = func(s *impl.Step) { s.Expr[at].Left++ }
		changes["the Right in Expr at "+place] = func(s *impl.Step) { s.Expr[at].Right++ }
	}
	for why, change := range changes {
		other := base()
		change(&other[1])
		if impl.SameProcs(base(), other) || impl.SameProcs(other, base()) {
			t.Errorf("the same in spite of %s", why)
		}
		if !impl.SameProcs(other, cloneProc(other)) {
			t.Errorf("not the same as itself: %s", why)
		}
	}
	first, last := base(), base()
	first[0].Kind, last[2].Name = impl.StepAnd, "b"
	for _, other := range [][]impl.Step{first, last, base()[:2], base()[:1], base()[1:], append(base(), taskAt(0)), append(base(), impl.Step{}), nil, {}} {
		if impl.SameProcs(base(), other) || impl.SameProcs(other, base()) {
			t.Errorf("%v is the same", other)
		}
	}
	// Nothing is asked: what has a fault is the same as what is the same; nil is the same as no element.
	if !impl.SameProcs(nil, []impl.Step{}) || !impl.SameProcs([]impl.Step{}, nil) || !impl.SameProcs(nil, nil) || !impl.SameProcs(proc(impl.Step{}), proc(impl.Step{Cond: []impl.Node{}, Expr: []impl.Node{}})) || !impl.SameProcs(make([]impl.Step, 100), make([]impl.Step, 100)) || impl.SameProcs(make([]impl.Step, 100), make([]impl.Step, 101)) || impl.SameProcs(nil, proc(impl.Step{})) {
		t.Error("of what has a fault")
	}
}

// askProc asks all of p that the chapter has functions for.
func askProc(p, other []impl.Step) []any {
	answers := []any{impl.ProcFault(p), impl.SameProcs(p, p), impl.SameProcs(p, other), impl.SameProcs(other, p), impl.ProcText(p), impl.LeavesOf(p), impl.DeepOf(p)}
	for at := int64(-2); at <= int64(len(p)+1); at++ {
		answers = append(answers, impl.StepsUnder(p, at))
	}
	return append(answers, impl.StepsUnder(p, math.MaxInt64), impl.StepsUnder(p, math.MinInt64))
}

// Promise 1: every function answers at every argument and changes none, with nothing beside a code.
func TestProcsAnswerAtEachArgument(t *testing.T) {
	r := rand.New(rand.NewSource(26))
	wild := func() int64 {
		if r.Intn(2) == 0 {
			return int64(r.Intn(12)) - 2
		}
		return int64(r.Uint64())
	}
	for i := range 20000 {
		p := randomProc(r, 1+r.Intn(12))
		for range r.Intn(4) {
			p = spoilProc(r, p)
		}
		if i%4 == 0 {
			p[r.Intn(len(p))] = impl.Step{Kind: wild(), Parent: wild(), Arg: wild(), Cond: []impl.Node{{Kind: wild(), Value: wild(), Left: wild(), Right: wild()}}}
		}
		other := spoilProc(r, p)
		beforeProc, beforeOther := cloneProc(p), cloneProc(other)
		for _, answer := range askProc(p, other) {
			switch a := answer.(type) {
			case impl.IntResult:
				if (a.Code != 0) != (a.Value == 0) {
					t.Fatalf("of %v: %v", p, a)
				}
			case impl.TextResult:
				if (a.Code != 0) != (a.Text == "") {
					t.Fatalf("of %v: %v", p, a)
				}
			case impl.IntsResult:
				if a.Code != 0 && len(a.List) != 0 {
					t.Fatalf("of %v: %v", p, a)
				}
			}
		}
		if !reflect.DeepEqual(p, beforeProc) || !reflect.DeepEqual(other, beforeOther) {
			t.Fatalf("changed: %v, %v, before %v, %v", p, other, beforeProc, beforeOther)
		}
	}
}

// askRoomBehind asks that nothing was written behind p and its expressions.
func askRoomBehind(t *testing.T, p []impl.Step) {
	t.Helper()
	for _, s := range p[len(p):cap(p)] {
		if !reflect.DeepEqual(s, impl.Step{}) {
			t.Errorf("behind the process stands %v", s)
		}
	}
	for _, s := range p {
		for _, n := range append(slices.Clone(s.Cond[len(s.Cond):cap(s.Cond)]), s.Expr[len(s.Expr):cap(s.Expr)]...) {
			if n != (impl.Node{}) {
				t.Errorf("behind an expression stands %v", n)
			}
		}
	}
}

// Promise 1: what is answered is new memory, and room behind an argument is not written to.
func TestProcsAreNewMemory(t *testing.T) {
	p := orderProc()
	under, leaves := impl.StepsUnder(p, 2).List, impl.LeavesOf(p).List
	clear(under[:cap(under)])
	clear(leaves[:cap(leaves)])
	if got := impl.StepsUnder(p, 2).List; !slices.Equal(got, []int64{2, 3, 4, 5, 6, 7, 8}) {
		t.Errorf("two answers share a list: %v", got)
	}
	if got := impl.LeavesOf(p).List; !slices.Equal(got, []int64{1, 4, 5, 8, 10}) {
		t.Errorf("two answers share a list: %v", got)
	}
	one := proc(impl.Step{Kind: impl.StepTask, Parent: -1, Name: strings.Clone("abcdefgh")})
	if got := impl.ProcText(one); sharesBytes(got.Text, one[0].Name) {
		t.Error("the text is shared")
	}
	roomy := append(make([]impl.Step, 0, 40), p...)
	for i := range roomy {
		roomy[i].Cond = append(make([]impl.Node, 0, 40), p[i].Cond...)
		roomy[i].Expr = append(make([]impl.Node, 0, 40), p[i].Expr...)
	}
	askProc(roomy, roomy)
	askRoomBehind(t, roomy)
}

// Promise 1: an answer hangs on the arguments alone, not on what was asked ahead of it.
func TestProcsHangOnArgumentsAlone(t *testing.T) {
	r := rand.New(rand.NewSource(27))
	procs := [][]impl.Step{nil, seqOf(24), seqOf(25), nestOf(7), nestOf(8), orderProc()}
	for range 100 {
		procs = append(procs, randomProc(r, 1+r.Intn(24)), spoilProc(r, randomProc(r, 8)))
	}
	var first [][]any
	for _, p := range procs {
		first = append(first, askProc(p, orderProc()))
	}
	for i := len(procs) - 1; i >= 0; i-- {
		for range 3 {
			// A clone lies elsewhere: no answer hangs on an address or a capacity.
			if got := askProc(cloneProc(procs[i]), orderProc()); !reflect.DeepEqual(got, first[i]) {
				t.Errorf("%v, and ahead of that %v", got, first[i])
			}
		}
	}
}
