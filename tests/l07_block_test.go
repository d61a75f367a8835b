package tests

import (
	"math"
	"math/rand"
	"reflect"
	"slices"
	"testing"

	"loop.example/g00343/impl"
)

// plainCases are processes as they are written, and what they are, made plain; where that is empty they are plain already.
var plainCases = []struct{ why, text, plain string }{
	{"a task", `<task name="abcdefgh"/>`, ""},
	{"a wait", `<wait msg="9"/>`, ""},
	{"a timer", `<timer ticks="99"/>`, ""},
	{"a set", `<set var="3" to="(v0+2)"/>`, ""},
	{"a seq of two", `<seq><task name="a"/><wait msg="2"/></seq>`, ""},
	{"a xor", `<xor><task if="(v0=1)" name="a"/><task if="(v0=2)" name="b"/><task name="c"/></xor>`, ""},
	{"an and", `<and><task name="a"/><task name="b"/></and>`, ""},
	{"a guard", `<guard ticks="7"><task name="a"/><task name="b"/></guard>`, ""},
	{"seqs of two below others", `<seq><and><seq><task name="a"/><task name="b"/></seq><task name="c"/></and><xor><seq if="(v0=1)"><task name="d"/><task name="e"/></seq><guard ticks="2"><seq><task name="f"/><task name="g"/></seq><task name="h"/></guard></xor></seq>`, ""},
	{"a seq of a task", `<seq><task name="a"/></seq>`, `<task name="a"/>`},
	{"a seq of a set", `<seq><set var="1" to="(v0+2)"/></seq>`, `<set var="1" to="(v0+2)"/>`},
	{"a seq of a xor", `<seq><xor><task if="(v0=1)" name="a"/><task name="b"/></xor></seq>`, `<xor><task if="(v0=1)" name="a"/><task name="b"/></xor>`},
	{"a seq of a guard", `<seq><guard ticks="7"><task name="a"/><timer ticks="1"/></guard></seq>`, `<guard ticks="7"><task name="a"/><timer ticks="1"/></guard>`},
	{"a seq of one in a seq of one", `<seq><seq><task name="a"/></seq></seq>`, `<task name="a"/>`},
	{"7 steps from one up", `<seq><seq><seq><seq><seq><seq><wait msg="4"/></seq></seq></seq></seq></seq></seq>`, `<wait msg="4"/>`},
	{"a seq of two in seqs of one", `<seq><seq><seq><task name="a"/><task name="b"/></seq></seq></seq>`, `<seq><task name="a"/><task name="b"/></seq>`},
	{"a seq first", `<seq><seq><task name="a"/><task name="b"/></seq><task name="c"/></seq>`, `<seq><task name="a"/><task name="b"/><task name="c"/></seq>`},
	{"a seq in the middle", `<seq><task name="a"/><seq><task name="b"/><task name="c"/></seq><task name="d"/></seq>`, `<seq><task name="a"/><task name="b"/><task name="c"/><task name="d"/></seq>`},
	{"a seq last", `<seq><task name="a"/><seq><task name="b"/><task name="c"/></seq></seq>`, `<seq><task name="a"/><task name="b"/><task name="c"/></seq>`},
	{"seqs alone", `<seq><seq><task name="a"/></seq><seq><task name="b"/></seq></seq>`, `<seq><task name="a"/><task name="b"/></seq>`},
	{"seqs of one in each place", `<seq><seq><task name="a"/></seq><task name="b"/><seq><seq><task name="c"/></seq></seq></seq>`, `<seq><task name="a"/><task name="b"/><task name="c"/></seq>`},
	{"seqs in seqs in seqs", `<seq><seq><seq><task name="a"/></seq><task name="b"/></seq><seq><task name="c"/><seq><task name="d"/><seq><task name="e"/><task name="f"/></seq></seq></seq></seq>`,
		`<seq><task name="a"/><task name="b"/><task name="c"/><task name="d"/><task name="e"/><task name="f"/></seq>`},
	{"seqs of one below an and", `<and><seq><task name="a"/></seq><seq><seq><wait msg="1"/></seq></seq><seq><task name="b"/><task name="c"/></seq></and>`,
		`<and><task name="a"/><wait msg="1"/><seq><task name="b"/><task name="c"/></seq></and>`},
	{"seqs of one below a guard", `<guard ticks="7"><seq><task name="a"/></seq><seq><seq><task name="b"/><task name="c"/></seq></seq></guard>`,
		`<guard ticks="7"><task name="a"/><seq><task name="b"/><task name="c"/></seq></guard>`},
	{"a seq of one with a Cond", `<xor><seq if="(v0=1)"><task name="a"/></seq><task name="b"/></xor>`, `<xor><task if="(v0=1)" name="a"/><task name="b"/></xor>`},
	{"a seq of one without a Cond", `<xor><task if="(v0=1)" name="a"/><seq><task name="b"/></seq></xor>`, `<xor><task if="(v0=1)" name="a"/><task name="b"/></xor>`},
	{"a seq of one with a Cond, in the middle", `<xor><task if="(v0=1)" name="a"/><seq if="(v0=2)"><set var="0" to="1"/></seq><task name="b"/></xor>`,
		`<xor><task if="(v0=1)" name="a"/><set if="(v0=2)" var="0" to="1"/><task name="b"/></xor>`},
	{"a Cond some seqs up", `<xor><seq if="(v0=1)"><seq><seq><task name="a"/></seq></seq></seq><task name="b"/></xor>`, `<xor><task if="(v0=1)" name="a"/><task name="b"/></xor>`},
	{"a Cond that stays at a seq", `<xor><seq if="(v0=1)"><seq><task name="a"/></seq><task name="b"/></seq><task name="c"/></xor>`,
		`<xor><seq if="(v0=1)"><task name="a"/><task name="b"/></seq><task name="c"/></xor>`},
	{"a Cond that comes to a seq", `<xor><seq if="(v0=1)"><seq><task name="a"/><task name="b"/></seq></seq><task name="c"/></xor>`,
		`<xor><seq if="(v0=1)"><task name="a"/><task name="b"/></seq><task name="c"/></xor>`},
	{"a Cond that comes to a xor", `<xor><seq if="(v0=1)"><xor><task if="(v1=1)" name="a"/><task name="b"/></xor></seq><task name="c"/></xor>`,
		`<xor><xor if="(v0=1)"><task if="(v1=1)" name="a"/><task name="b"/></xor><task name="c"/></xor>`},
	{"seqs of one in blocks in blocks", `<and><seq><xor><seq if="!(v0=1)"><guard ticks="3"><seq><task name="a"/></seq><wait msg="0"/></guard></seq><timer ticks="2"/></xor></seq><seq><task name="b"/></seq></and>`,
		`<and><xor><guard if="!(v0=1)" ticks="3"><task name="a"/><wait msg="0"/></guard><timer ticks="2"/></xor><task name="b"/></and>`},
}

func readProc(t *testing.T, text string) []impl.Step {
	t.Helper()
	p := impl.ReadProc(text)
	if p.Code != 0 {
		t.Fatalf("ReadProc(%q) = %v", text, p)
	}
	return p.Proc
}

func TestPlainOf(t *testing.T) {
	for _, c := range plainCases {
		p, plain := readProc(t, c.text), c.plain
		if plain == "" {
			plain = c.text
		}
		want := readProc(t, plain)
		if got := impl.PlainOf(p); got.Code != 0 || !impl.SameProcs(got.Proc, want) {
			t.Errorf("PlainOf %s = %v, want %v", c.why, got, want)
		}
		if got := impl.IsPlain(p); got != (c.plain == "") {
			t.Errorf("IsPlain of %s = %v", c.why, got)
		}
		if got := impl.BlockOf(slowGraphOf(p)); got.Code != 0 || !impl.SameProcs(got.Proc, want) {
			t.Errorf("BlockOf the graph of %s = %v, want %v", c.why, got, want)
		}
		askFoundAgain(t, rand.New(rand.NewSource(1)), p)
	}
}

// roughSeqs are the places of the seqs that are none in a plain process.
func roughSeqs(p []impl.Step) []int {
	var rough []int
	for at, s := range p {
		kids := 0
		for _, other := range p {
			if other.Parent == int64(at) {
				kids++
			}
		}
		if s.Kind == impl.StepSeq && (kids == 1 || s.Parent >= 0 && p[s.Parent].Kind == impl.StepSeq) {
			rough = append(rough, at)
		}
	}
	return rough
}

// slowPlain tells it once more: one seq that is too many goes, and then another one, whichever comes up.
func slowPlain(r *rand.Rand, p []impl.Step) []impl.Step {
	p = cloneProc(p)
	for rough := roughSeqs(p); len(rough) > 0; rough = roughSeqs(p) {
		at := rough[r.Intn(len(rough))]
		gone := p[at]
		p = slices.Delete(p, at, at+1)
		if len(gone.Cond) > 0 {
			p[at].Cond = gone.Cond
		}
		for i := at; i < len(p); i++ {
			switch {
			case p[i].Parent == int64(at):
				p[i].Parent = gone.Parent
			case p[i].Parent > int64(at):
				p[i].Parent--
			}
		}
	}
	return p
}

// otherSteps is g with some Step that GraphFault allows at each node.
func otherSteps(g impl.Graph, step func() int64) impl.Graph {
	g = cloneGraph(g)
	for i, n := range g.Nodes {
		if n.Kind != impl.GStart && n.Kind != impl.GEnd {
			g.Nodes[i].Step = step()
		}
	}
	return g
}

// askFoundAgain asks promise 8 of p, which has no fault: its blocks are found again in its graph, whatever the Steps there.
func askFoundAgain(t *testing.T, r *rand.Rand, p []impl.Step) {
	t.Helper()
	want := slowPlain(r, p)
	plain := impl.PlainOf(p)
	if plain.Code != 0 || !impl.SameProcs(plain.Proc, want) {
		t.Fatalf("PlainOf %v = %v, want %v", p, plain, want)
	}
	if impl.IsPlain(p) != impl.SameProcs(p, want) || !impl.IsPlain(want) || impl.ProcFault(want) != 0 || !impl.SameProcs(impl.PlainOf(want).Proc, want) {
		t.Fatalf("of %v and %v another one is plain", p, want)
	}
	drawn := impl.GraphOf(p).Graph
	for _, g := range []impl.Graph{
		drawn,
		otherSteps(drawn, func() int64 { return 0 }),
		otherSteps(drawn, func() int64 { return 23 }),
		otherSteps(drawn, func() int64 { return int64(r.Intn(24)) }),
	} {
		if got := impl.BlockOf(g); got.Code != 0 || !impl.SameProcs(got.Proc, want) {
			t.Fatalf("BlockOf %s = %v, want %v", tellGraph(g), got, want)
		}
		if !impl.SoundGraph(g) {
			t.Fatalf("%s is not sound", tellGraph(g))
		}
		if got := impl.RenumberGraph(g); got.Code != 0 || !impl.SameGraphs(got.Graph, slowGraphOf(want)) {
			t.Fatalf("RenumberGraph of %s = %d, %s, want %s", tellGraph(g), got.Code, tellGraph(got.Graph), tellGraph(slowGraphOf(want)))
		}
	}
	// Promise 7, of the graph that is numbered anew.
	askForward(t, want)
}

func TestBlocksOfEachKind(t *testing.T) {
	r := rand.New(rand.NewSource(50))
	for kind := int64(1); kind <= 8; kind++ {
		p := proc(aloneOf(kind, -1))
		switch kind {
		case impl.StepSeq, impl.StepAnd, impl.StepGuard:
			p = append(p, taskAt(0), waitAt(0, 3))
		case impl.StepXor:
			p = append(p, ifSo(yes(), taskAt(0)), waitAt(0, 3))
		}
		askFoundAgain(t, r, p)
		if got := impl.BlockOf(slowGraphOf(p)); !impl.SameProcs(got.Proc, p) {
			t.Errorf("BlockOf the graph of %v = %v", p, got)
		}
		askFoundAgain(t, r, append(proc(seqAt(-1)), shiftProc(p, 1)...))
	}
	for _, c := range graphCases {
		askFoundAgain(t, r, readProc(t, c.text))
	}
	for _, p := range [][]impl.Step{orderProc(), sharedProc(), fullGuards(), guardsOf(7), nestOf(7)} {
		askFoundAgain(t, r, p)
	}
}

// sidesOf is one block of the kind with n tasks.
func sidesOf(kind int64, n int) []impl.Step {
	p := proc(aloneOf(kind, -1))
	for i := range n {
		s := taskAt(0)
		if kind == impl.StepXor && i < n-1 {
			s = ifSo(yes(), s)
		}
		p = append(p, s)
	}
	return p
}

// andsOf is n ands, one in the other, each with a task behind, and p in the innermost one.
func andsOf(n int, p []impl.Step) []impl.Step {
	for range n {
		p = append(append(proc(andAt(-1)), shiftProc(p, 1)...), taskAt(0))
		for i := range p[1:] {
			if p[i+1].Parent == -1 {
				p[i+1].Parent = 0
			}
		}
	}
	return p
}

// The graph of what would be a process if it had not too many steps, or too many from one up, is that of none.
func TestBlocksUpToTheirBounds(t *testing.T) {
	line := seqOf(3)
	for _, c := range []struct {
		why   string
		p     []impl.Step
		sound bool
	}{
		{"a seq of 23 tasks", seqOf(24), true},
		{"a seq of 24 tasks", seqOf(25), false},
		{"a seq of 58 tasks", seqOf(59), false},
		{"a xor of 23 tasks", sidesOf(impl.StepXor, 23), true},
		{"a xor of 24 tasks", sidesOf(impl.StepXor, 24), false},
		{"an and of 23 tasks", sidesOf(impl.StepAnd, 23), true},
		{"an and of 24 tasks", sidesOf(impl.StepAnd, 24), false},
		{"an and of 39 tasks, of 80 flows", sidesOf(impl.StepAnd, 39), false},
		{"6 ands, one in the other", andsOf(6, proc(taskAt(-1))), true},
		{"7 ands, one in the other", andsOf(7, proc(taskAt(-1))), false},
		{"5 ands, and a seq in them", andsOf(5, line), true},
		{"6 ands, and a seq in them", andsOf(6, line), false},
		{"11 guards", fullGuards(), true},
		{"7 guards, one behind the other", guardsOf(7), true},
		{"8 guards, one behind the other", guardsOf(8), false},
	} {
		g := slowGraphOf(c.p)
		want := impl.ProcResult{Code: impl.ErrForm}
		if c.sound {
			want = impl.ProcResult{Proc: c.p}
		}
		if fault := impl.GraphFault(otherSteps(g, func() int64 { return 0 })); fault != 0 {
			t.Fatalf("GraphFault of %s = %d", c.why, fault)
		}
		askBlocks(t, c.why, otherSteps(g, func() int64 { return 0 }), want)
	}
	// What has more steps than a process may have, and fewer, made plain, is no process, but its graph is that of one.
	rough := append(proc(seqAt(-1)), shiftProc(seqOf(24), 1)...)
	rough[1].Parent = 0
	if got := impl.PlainOf(rough); got.Code != impl.ErrMany {
		t.Errorf("PlainOf 25 steps = %v", got)
	}
	askBlocks(t, "25 steps that are 24", otherSteps(slowGraphOf(rough), func() int64 { return 7 }), impl.ProcResult{Proc: seqOf(24)})
	deep := append(proc(seqAt(-1)), shiftProc(andsOf(6, proc(taskAt(-1))), 1)...)
	if got := impl.PlainOf(deep); got.Code != impl.ErrMany {
		t.Errorf("PlainOf 8 steps from one up = %v", got)
	}
	askBlocks(t, "8 steps from one up that are 7", otherSteps(slowGraphOf(deep), func() int64 { return 7 }), impl.ProcResult{Proc: andsOf(6, proc(taskAt(-1)))})
	askBlocks(t, "60 nodes in a line", lineOf(60), impl.ProcResult{Code: impl.ErrForm})
	askBlocks(t, "24 nodes in a line", lineOf(24), impl.ProcResult{Proc: seqOf(23)})
}

// askBlocks asks what is found in g of all three that ask for it.
func askBlocks(t *testing.T, why string, g impl.Graph, want impl.ProcResult) {
	t.Helper()
	got, drawn := impl.BlockOf(g), impl.RenumberGraph(g)
	if !sameProcResults(got, want) {
		t.Fatalf("BlockOf %s (%v) = %v, want %v", why, g, got, want)
	}
	if impl.SoundGraph(g) != (want.Code == 0) {
		t.Fatalf("SoundGraph of %s (%v) = %v", why, g, impl.SoundGraph(g))
	}
	if want.Code != 0 && !reflect.DeepEqual(drawn, impl.GraphResult{Code: want.Code}) {
		t.Fatalf("RenumberGraph of %s (%v) = %v, want the code %d", why, g, drawn, want.Code)
	}
	if want.Code == 0 && (drawn.Code != 0 || !impl.SameGraphs(drawn.Graph, slowGraphOf(want.Proc))) {
		t.Fatalf("RenumberGraph of %s (%v) = %v, want that of %v", why, g, drawn, want.Proc)
	}
}

func askNoBlocks(t *testing.T, why string, g impl.Graph) {
	t.Helper()
	if fault := impl.GraphFault(g); fault != 0 {
		t.Fatalf("GraphFault of %s (%v) = %d", why, g, fault)
	}
	askBlocks(t, why, g, impl.ProcResult{Code: impl.ErrForm})
}

// roughen puts a seq above some step of p, which is all that this one has, or has what stands right ahead of it too.
func roughen(r *rand.Rand, p []impl.Step) []impl.Step {
	at := int64(r.Intn(len(p)))
	above := impl.Step{Kind: impl.StepSeq, Parent: p[at].Parent, Cond: p[at].Cond}
	more := shiftProc(p, 0)
	for i := range more {
		if more[i].Parent >= at {
			more[i].Parent++
		}
	}
	last := more[at].Parent
	more[at].Parent, more[at].Cond = at, nil
	// Kids of a seq that stand behind one another may all be those of the seq that is new.
	for i := int(at) + 1; i < len(more) && last >= 0 && p[last].Kind == impl.StepSeq && r.Intn(2) == 0; i++ {
		if more[i].Parent == last {
			more[i].Parent = at
		}
	}
	more = slices.Insert(more, int(at), above)
	if slowProcFault(more) != 0 {
		return p
	}
	return more
}

// Promise 8, of many processes.
func TestBlocksAreFoundAgain(t *testing.T) {
	r := rand.New(rand.NewSource(51))
	plain, rough, many, full := 0, 0, 0, 0
	for range 3000 {
		p := randomProc(r, 24)
		for range r.Intn(20) {
			p = roughen(r, p)
		}
		askFoundAgain(t, r, p)
		switch n := len(impl.PlainOf(p).Proc); {
		case n == len(p):
			plain++
		case n < len(p)-5:
			many++
		default:
			rough++
		}
		if len(p) == 24 {
			full++
		}
	}
	if plain < 50 || rough < 50 || many < 50 || full < 20 {
		t.Error(plain, rough, many, full)
	}
}

// Each process of up to 7 steps of some kinds.
func TestBlocksOfEachSmallProc(t *testing.T) {
	r := rand.New(rand.NewSource(52))
	found := 0
	var grow func(p []impl.Step, left int)
	grow = func(p []impl.Step, left int) {
		if slowProcFault(p) == 0 {
			askFoundAgain(t, r, p)
			found++
		} else if got := impl.PlainOf(p); !reflect.DeepEqual(got, impl.ProcResult{Code: slowProcFault(p)}) || impl.IsPlain(p) {
			t.Fatalf("PlainOf %v = %v, its fault is %d", p, got, slowProcFault(p))
		}
		if left == 0 {
			return
		}
		for _, parent := range placesUp(p, int64(len(p))-1) {
			switch p[parent].Kind {
			case impl.StepSeq, impl.StepAnd:
				grow(append(slices.Clip(p), taskAt(parent)), left-1)
				grow(append(slices.Clip(p), seqAt(parent)), left-1)
				grow(append(slices.Clip(p), andAt(parent)), left-1)
			case impl.StepXor:
				grow(append(slices.Clip(p), ifSo(yes(), taskAt(parent))), left-1)
				grow(append(slices.Clip(p), ifSo(yes(), seqAt(parent))), left-1)
				grow(append(slices.Clip(p), seqAt(parent)), left-1)
			}
		}
	}
	grow(proc(seqAt(-1)), 6)
	grow(proc(andAt(-1)), 6)
	grow(proc(xorAt(-1)), 6)
	if found < 500 {
		t.Error(found)
	}
}

func TestPlainOfWrong(t *testing.T) {
	cond, other := pair(impl.ExprSame, variable(0), num(1)), pair(impl.ExprSame, variable(0), num(2))
	for _, c := range []procCase{
		{"nil", nil, impl.ErrMany},
		{"no step", []impl.Step{}, impl.ErrMany},
		{"25 steps", seqOf(25), impl.ErrMany},
		{"8 steps from one up", nestOf(8), impl.ErrMany},
		{"a kind that is none", proc(impl.Step{Parent: -1}), impl.ErrForm},
		{"a first step with a Parent", proc(taskAt(0)), impl.ErrRange},
		{"a seq without kids", proc(seqAt(-1)), impl.ErrForm},
		{"a seq of a seq without kids", proc(seqAt(-1), seqAt(0)), impl.ErrForm},
		{"a xor of one kid", proc(xorAt(-1), taskAt(0)), impl.ErrForm},
		{"a Name that is none", proc(seqAt(-1), impl.Step{Kind: impl.StepTask, Name: "A"}), impl.ErrText},
		{"a Name of 9 bytes", proc(impl.Step{Kind: impl.StepTask, Parent: -1, Name: "abcdefghi"}), impl.ErrMany},
		{"a timer of 0 ticks", proc(seqAt(-1), timerAt(0, 0)), impl.ErrRange},
		{"an Expr that is a bool", proc(seqAt(-1), setAt(0, 1, yes())), impl.ErrType},
		// A kid of a seq has no Cond, whatever that one has.
		{"a Cond of the seq", proc(xorAt(-1), ifSo(cond, seqAt(0)), taskAt(1), taskAt(0)), 0},
		{"a Cond of its kid", proc(xorAt(-1), seqAt(0), ifSo(cond, taskAt(1)), taskAt(0)), impl.ErrForm},
		{"a Cond of both", proc(xorAt(-1), ifSo(cond, seqAt(0)), ifSo(other, taskAt(1)), taskAt(0)), impl.ErrForm},
		{"a Cond of none", proc(xorAt(-1), seqAt(0), taskAt(1), taskAt(0)), impl.ErrForm},
		{"a Cond of none, last", proc(xorAt(-1), ifSo(cond, taskAt(0)), seqAt(0), taskAt(2)), 0},
		{"a Cond of the last seq", proc(xorAt(-1), ifSo(cond, taskAt(0)), ifSo(cond, seqAt(0)), taskAt(2)), impl.ErrForm},
		{"a Cond of the last seq's kid", proc(xorAt(-1), ifSo(cond, taskAt(0)), seqAt(0), ifSo(cond, taskAt(2))), impl.ErrForm},
		{"a Cond of a seq that is all", proc(ifSo(cond, seqAt(-1)), taskAt(0)), impl.ErrForm},
		{"a Cond that is an int", proc(xorAt(-1), ifSo(num(1), seqAt(0)), taskAt(1), taskAt(0)), impl.ErrType},
	} {
		got := impl.PlainOf(c.p)
		if got.Code != c.want || c.want != 0 && (len(got.Proc) != 0 || impl.IsPlain(c.p)) {
			t.Errorf("PlainOf %s = %v, IsPlain %v, want the code %d", c.why, got, impl.IsPlain(c.p), c.want)
		}
	}
	r := rand.New(rand.NewSource(53))
	count := map[int64]int{}
	for range 10000 {
		p := spoilProc(r, randomProc(r, 1+r.Intn(26)))
		got, fault := impl.PlainOf(p), slowProcFault(p)
		count[fault]++
		if fault != 0 && (!reflect.DeepEqual(got, impl.ProcResult{Code: fault}) || impl.IsPlain(p)) || fault == 0 && !impl.SameProcs(got.Proc, slowPlain(r, p)) {
			t.Fatalf("PlainOf %v = %v, its fault is %d", p, got, fault)
		}
	}
	for _, code := range []int64{impl.OK, impl.ErrForm, impl.ErrMany, impl.ErrRange, impl.ErrText, impl.ErrType} {
		if count[code] < 20 {
			t.Error(count)
		}
	}
}

// The fault of a graph is the code ahead of all.
func TestBlockOfWrong(t *testing.T) {
	change := func(make func(g *impl.Graph)) impl.Graph {
		g := lineOf(4)
		make(&g)
		return g
	}
	for _, c := range []graphCase{
		{"the zero value", impl.Graph{}, impl.ErrMany},
		{"1 node", impl.Graph{Nodes: lineOf(3).Nodes[:1]}, impl.ErrMany},
		{"61 nodes", lineOf(61), impl.ErrMany},
		{"81 flows", change(func(g *impl.Graph) { g.Flows = slices.Repeat(g.Flows[:1], 81) }), impl.ErrMany},
		{"a kind that is none", change(func(g *impl.Graph) { g.Nodes[1] = impl.GNode{} }), impl.ErrForm},
		{"a task with an Arg", change(func(g *impl.Graph) { g.Nodes[1].Arg = 1 }), impl.ErrForm},
		{"a start with a Step", change(func(g *impl.Graph) { g.Nodes[0].Step = 1 }), impl.ErrForm},
		{"an end with a Step", change(func(g *impl.Graph) { g.Nodes[3].Step = 23 }), impl.ErrForm},
		{"a Step of 24", change(func(g *impl.Graph) { g.Nodes[2].Step = 24 }), impl.ErrRange},
		{"a Step of -1", change(func(g *impl.Graph) { g.Nodes[2].Step = -1 }), impl.ErrRange},
		{"an Arg of 100", change(func(g *impl.Graph) { g.Nodes[1] = impl.GNode{Kind: impl.GTimer, Arg: 100} }), impl.ErrRange},
		{"an Expr of 17 nodes", change(func(g *impl.Graph) { g.Nodes[1] = impl.GNode{Kind: impl.GSet, Expr: sums(8)} }), impl.ErrMany},
		{"a task without a Name", change(func(g *impl.Graph) { g.Nodes[1].Name = "" }), impl.ErrText},
		{"a Name of 9 bytes", change(func(g *impl.Graph) { g.Nodes[2].Name = "abcdefghi" }), impl.ErrMany},
		{"a flow to no node", change(func(g *impl.Graph) { g.Flows[2].To = 4 }), impl.ErrRange},
		{"a flow from no node", change(func(g *impl.Graph) { g.Flows[0].From = -1 }), impl.ErrRange},
		{"a Cond of 17 nodes", change(func(g *impl.Graph) { g.Flows[0].Cond = nots(17) }), impl.ErrMany},
		{"flows that do not rise", change(func(g *impl.Graph) { g.Flows[0], g.Flows[1] = g.Flows[1], g.Flows[0] }), impl.ErrForm},
	} {
		if fault := impl.GraphFault(c.g); fault != c.want {
			t.Errorf("GraphFault of %s = %d, want %d", c.why, fault, c.want)
		}
		askBlocks(t, c.why, c.g, impl.ProcResult{Code: c.want})
	}
}

// graphFrom is a graph of nodes of these kinds, each without a fault and, where it can be, as a process has it, and flows between pairs of places.
func graphFrom(kinds []int64, ends ...int64) impl.Graph {
	var g impl.Graph
	for _, kind := range kinds {
		n := nodeOf(kind)
		switch kind {
		case impl.GTimer, impl.GOpen:
			n.Arg = 1
		case impl.GSet:
			n.Expr = num(1)
		}
		g.Nodes = append(g.Nodes, n)
	}
	for i := 0; i < len(ends); i += 2 {
		g.Flows = append(g.Flows, flow(ends[i], ends[i+1]))
	}
	return g
}

// ifFlow puts the Cond at the flow.
func ifFlow(g impl.Graph, at int, cond []impl.Node) impl.Graph {
	g = cloneGraph(g)
	g.Flows[at].Cond = cond
	return g
}

var (
	xorKinds   = []int64{impl.GStart, impl.GSplit, impl.GTask, impl.GTask, impl.GJoin, impl.GEnd}
	andKinds   = []int64{impl.GStart, impl.GFork, impl.GTask, impl.GTask, impl.GMeet, impl.GEnd}
	guardKinds = []int64{impl.GStart, impl.GOpen, impl.GTask, impl.GClose, impl.GTask, impl.GMerge, impl.GEnd}
	sideEnds   = []int64{0, 1, 1, 2, 1, 3, 2, 4, 3, 4, 4, 5}
	guardEnds  = []int64{0, 1, 1, 2, 1, 4, 2, 3, 3, 5, 4, 5, 5, 6}
)

// Graphs that have no fault and are those of no process, next to some that are.
func TestGraphsOfNoProcess(t *testing.T) {
	xor, and, guard := ifFlow(graphFrom(xorKinds, sideEnds...), 1, yes()), graphFrom(andKinds, sideEnds...), graphFrom(guardKinds, guardEnds...)
	askBlocks(t, "a xor", xor, impl.ProcResult{Proc: sidesOf(impl.StepXor, 2)})
	askBlocks(t, "an and", and, impl.ProcResult{Proc: sidesOf(impl.StepAnd, 2)})
	askBlocks(t, "a guard", guard, impl.ProcResult{Proc: proc(guardAt(-1, 1), taskAt(0), taskAt(0))})
	for why, g := range map[string]impl.Graph{
		"a start and an end":           lineOf(2),
		"two nodes and no flow":        {Nodes: lineOf(2).Nodes},
		"nodes and no flow":            {Nodes: lineOf(4).Nodes},
		"no start":                     graphFrom([]int64{impl.GTask, impl.GTask, impl.GEnd}, 0, 1, 1, 2),
		"no end":                       graphFrom([]int64{impl.GStart, impl.GTask, impl.GTask}, 0, 1, 1, 2),
		"neither":                      graphFrom([]int64{impl.GTask, impl.GTask}, 0, 1),
		"two starts":                   graphFrom([]int64{impl.GStart, impl.GStart, impl.GEnd}, 0, 1, 1, 2),
		"two ends":                     graphFrom([]int64{impl.GStart, impl.GTask, impl.GEnd, impl.GEnd}, 0, 1, 1, 2, 2, 3),
		"an end alone behind":          graphFrom([]int64{impl.GStart, impl.GTask, impl.GEnd, impl.GEnd}, 0, 1, 1, 2),
		"a start behind the end":       graphFrom([]int64{impl.GEnd, impl.GTask, impl.GStart}, 1, 0, 2, 1),
		"a start in the middle":        graphFrom([]int64{impl.GStart, impl.GTask, impl.GStart, impl.GTask, impl.GEnd}, 0, 1, 1, 2, 2, 3, 3, 4),
		"an end in the middle":         graphFrom([]int64{impl.GStart, impl.GTask, impl.GEnd, impl.GTask, impl.GEnd}, 0, 1, 1, 2, 2, 3, 3, 4),
		"a task behind the end":        graphFrom([]int64{impl.GStart, impl.GTask, impl.GEnd, impl.GTask}, 0, 1, 1, 2, 2, 3),
		"a task that nobody leads to":  graphFrom([]int64{impl.GStart, impl.GTask, impl.GTask, impl.GEnd}, 0, 1, 1, 3),
		"tasks in another order":       graphFrom([]int64{impl.GStart, impl.GTask, impl.GTask, impl.GEnd}, 0, 2, 1, 3, 2, 1),
		"two flows that are the same":  graphFrom([]int64{impl.GStart, impl.GTask, impl.GEnd}, 0, 1, 0, 1, 1, 2),
		"a loop at a task":             graphFrom([]int64{impl.GStart, impl.GTask, impl.GEnd}, 0, 1, 1, 1, 1, 2),
		"a loop in place of a flow":    graphFrom([]int64{impl.GStart, impl.GTask, impl.GEnd}, 0, 1, 1, 1),
		"a loop at the end":            graphFrom([]int64{impl.GStart, impl.GTask, impl.GEnd}, 0, 1, 1, 2, 2, 2),
		"a loop to the start":          graphFrom([]int64{impl.GStart, impl.GTask, impl.GEnd}, 0, 1, 1, 0, 1, 2),
		"a loop from the end":          graphFrom([]int64{impl.GStart, impl.GTask, impl.GEnd}, 0, 1, 1, 2, 2, 0),
		"a loop of two tasks":          graphFrom([]int64{impl.GStart, impl.GTask, impl.GTask, impl.GEnd}, 0, 1, 1, 2, 2, 1, 2, 3),
		"a loop of tasks and no end":   graphFrom([]int64{impl.GStart, impl.GTask, impl.GTask, impl.GEnd}, 0, 1, 1, 2, 2, 1),
		"a loop by split and join":     graphFrom([]int64{impl.GStart, impl.GJoin, impl.GTask, impl.GSplit, impl.GEnd}, 0, 1, 1, 2, 2, 3, 3, 1, 3, 4),
		"a split without flows":        graphFrom([]int64{impl.GStart, impl.GSplit, impl.GEnd}, 0, 1),
		"a split and a join alone":     graphFrom([]int64{impl.GStart, impl.GSplit, impl.GJoin, impl.GEnd}, 0, 1, 1, 2, 2, 3),
		"a split without a join":       graphFrom([]int64{impl.GStart, impl.GSplit, impl.GTask, impl.GTask, impl.GEnd}, 0, 1, 1, 2, 1, 3, 2, 4, 3, 4),
		"a join without a split":       graphFrom([]int64{impl.GStart, impl.GTask, impl.GJoin, impl.GEnd}, 0, 1, 1, 2, 2, 3),
		"a join first":                 graphFrom([]int64{impl.GStart, impl.GJoin, impl.GEnd}, 0, 1, 1, 2),
		"a split of one side":          graphFrom([]int64{impl.GStart, impl.GSplit, impl.GTask, impl.GJoin, impl.GEnd}, 0, 1, 1, 2, 2, 3, 3, 4),
		"a fork of one side":           graphFrom([]int64{impl.GStart, impl.GFork, impl.GTask, impl.GMeet, impl.GEnd}, 0, 1, 1, 2, 2, 3, 3, 4),
		"a fork of an empty side":      graphFrom([]int64{impl.GStart, impl.GFork, impl.GTask, impl.GMeet, impl.GEnd}, 0, 1, 1, 2, 1, 3, 2, 3, 3, 4),
		"a split of an empty side":     ifFlow(graphFrom([]int64{impl.GStart, impl.GSplit, impl.GTask, impl.GJoin, impl.GEnd}, 0, 1, 1, 2, 1, 3, 2, 3, 3, 4), 1, yes()),
		"an open node alone":           graphFrom([]int64{impl.GStart, impl.GOpen, impl.GEnd}, 0, 1, 1, 2),
		"a guard without sides":        graphFrom([]int64{impl.GStart, impl.GOpen, impl.GClose, impl.GMerge, impl.GEnd}, 0, 1, 1, 2, 1, 3, 2, 3, 3, 4),
		"a guard of the first side":    graphFrom([]int64{impl.GStart, impl.GOpen, impl.GTask, impl.GClose, impl.GMerge, impl.GEnd}, 0, 1, 1, 2, 1, 4, 2, 3, 3, 4, 4, 5),
		"a guard of the second side":   graphFrom([]int64{impl.GStart, impl.GOpen, impl.GClose, impl.GTask, impl.GMerge, impl.GEnd}, 0, 1, 1, 2, 1, 3, 2, 4, 3, 4, 4, 5),
		"a guard that is not closed":   graphFrom([]int64{impl.GStart, impl.GOpen, impl.GTask, impl.GTask, impl.GMerge, impl.GEnd}, 0, 1, 1, 2, 1, 3, 2, 4, 3, 4, 4, 5),
		"a guard of three sides":       graphFrom([]int64{impl.GStart, impl.GOpen, impl.GTask, impl.GClose, impl.GTask, impl.GTask, impl.GMerge, impl.GEnd}, 0, 1, 1, 2, 1, 4, 1, 5, 2, 3, 3, 6, 4, 6, 5, 6, 6, 7),
		"a guard, its sides changed":   graphFrom(guardKinds, 0, 1, 1, 4, 1, 2, 2, 3, 3, 5, 4, 5, 5, 6),
		"a guard, its close behind":    graphFrom([]int64{impl.GStart, impl.GOpen, impl.GTask, impl.GTask, impl.GClose, impl.GMerge, impl.GEnd}, 0, 1, 1, 2, 1, 3, 2, 4, 3, 5, 4, 5, 5, 6),
		"a guard that is over at once": graphFrom(guardKinds, 0, 1, 1, 2, 1, 4, 2, 5, 3, 5, 4, 5, 5, 6),
		"a guard and both to close":    graphFrom(guardKinds, 0, 1, 1, 2, 1, 4, 2, 3, 3, 5, 4, 3, 5, 6),
		"a guard and a join":           graphFrom([]int64{impl.GStart, impl.GOpen, impl.GTask, impl.GClose, impl.GTask, impl.GJoin, impl.GEnd}, guardEnds...),
		"a guard and two closes":       graphFrom([]int64{impl.GStart, impl.GOpen, impl.GTask, impl.GClose, impl.GTask, impl.GClose, impl.GEnd}, guardEnds...),
		"a split and a meet":           ifFlow(graphFrom([]int64{impl.GStart, impl.GSplit, impl.GTask, impl.GTask, impl.GMeet, impl.GEnd}, sideEnds...), 1, yes()),
		"a fork and a join":            graphFrom([]int64{impl.GStart, impl.GFork, impl.GTask, impl.GTask, impl.GJoin, impl.GEnd}, sideEnds...),
		"a split and a merge":          ifFlow(graphFrom([]int64{impl.GStart, impl.GSplit, impl.GTask, impl.GTask, impl.GMerge, impl.GEnd}, sideEnds...), 1, yes()),
		"sides in the other order":     graphFrom(andKinds, 0, 1, 1, 3, 1, 2, 2, 4, 3, 4, 4, 5),
		"sides one behind the other":   graphFrom(andKinds, 0, 1, 1, 2, 1, 3, 2, 3, 3, 4, 4, 5),
		"a side twice":                 graphFrom(andKinds, 0, 1, 1, 2, 1, 2, 1, 3, 2, 4, 3, 4, 4, 5),
		"a side that meets twice":      graphFrom(andKinds, 0, 1, 1, 2, 1, 3, 2, 4, 2, 4, 3, 4, 4, 5),
		"a side that ends it all":      graphFrom(andKinds, 0, 1, 1, 2, 1, 3, 2, 4, 3, 5, 4, 5),
		"a side of its own":            graphFrom(andKinds, 0, 1, 1, 2, 2, 4, 3, 4, 4, 5),
		"a side that is not led to":    graphFrom([]int64{impl.GStart, impl.GFork, impl.GTask, impl.GTask, impl.GTask, impl.GMeet, impl.GEnd}, 0, 1, 1, 2, 1, 4, 2, 3, 3, 5, 3, 5, 4, 5, 5, 6),
		"a first side not led to":      graphFrom([]int64{impl.GStart, impl.GFork, impl.GTask, impl.GTask, impl.GTask, impl.GMeet, impl.GEnd}, 0, 1, 1, 3, 1, 4, 2, 5, 3, 5, 4, 5, 5, 6),
		"blocks that overlap":          graphFrom([]int64{impl.GStart, impl.GFork, impl.GTask, impl.GOpen, impl.GTask, impl.GMeet, impl.GClose, impl.GTask, impl.GMerge, impl.GEnd}, 0, 1, 1, 2, 1, 3, 2, 5, 3, 4, 3, 7, 4, 5, 5, 6, 6, 8, 7, 8, 8, 9),
		"a xor without a Cond":         graphFrom(xorKinds, sideEnds...),
		"a xor of two Conds":           ifFlow(xor, 2, yes()),
		"a xor of the last Cond":       ifFlow(graphFrom(xorKinds, sideEnds...), 2, yes()),
		"a Cond that is an int":        ifFlow(xor, 1, num(1)),
		"a Cond that has a fault":      ifFlow(xor, 1, []impl.Node{{}}),
		"a Cond behind a start":        ifFlow(xor, 0, yes()),
		"a Cond ahead of a join":       ifFlow(xor, 3, yes()),
		"a Cond behind a join":         ifFlow(xor, 5, yes()),
		"a Cond behind a fork":         ifFlow(and, 1, yes()),
		"a Cond behind an open node":   ifFlow(guard, 1, yes()),
		"a second Cond behind it":      ifFlow(guard, 2, yes()),
		"a Cond behind a close node":   ifFlow(guard, 4, yes()),
		"a Cond between two tasks":     ifFlow(lineOf(4), 1, yes()),
	} {
		askNoBlocks(t, why, g)
	}
}

// What nodes have that has no fault in a graph may be what no step has.
func TestGraphsOfNoStep(t *testing.T) {
	for _, kind := range []int64{impl.GWait, impl.GTimer, impl.GSet, impl.GOpen} {
		for _, arg := range []int64{0, 1, 3, 4, 9, 10, 98, 99} {
			g := graphFrom([]int64{impl.GStart, kind, impl.GEnd}, 0, 1, 1, 2)
			if kind == impl.GOpen {
				g = graphFrom(guardKinds, guardEnds...)
			}
			g.Nodes[1].Arg = arg
			sound := map[int64]bool{impl.GWait: arg <= 9, impl.GTimer: arg >= 1, impl.GSet: arg <= 3, impl.GOpen: arg >= 1}[kind]
			if impl.GraphFault(g) != 0 || impl.SoundGraph(g) != sound {
				t.Errorf("SoundGraph with %v = %v", g.Nodes[1], impl.SoundGraph(g))
			}
			if !sound {
				askNoBlocks(t, "an Arg", g)
			}
		}
	}
	for _, c := range []struct {
		e     []impl.Node
		sound bool
	}{
		{num(0), true}, {num(9999), true}, {variable(3), true}, {sums(7), true},
		{nil, false}, {[]impl.Node{}, false}, {num(10000), false}, {variable(4), false}, {[]impl.Node{{}}, false}, {make([]impl.Node, 16), false}, {yes(), false}, {nots(16), false},
		{pair(impl.ExprAdd, num(1), yes()), false}, {append(num(1), num(2)...), false},
	} {
		g := lineOf(3)
		g.Nodes[1] = impl.GNode{Kind: impl.GSet, Arg: 2, Expr: c.e}
		want := impl.ProcResult{Code: impl.ErrForm}
		if c.sound {
			want = impl.ProcResult{Proc: proc(setAt(-1, 2, c.e))}
		}
		askBlocks(t, "an Expr", g, want)
	}
}

// slowBlock is a step that was found, and those right below it.
type slowBlock struct {
	step impl.Step
	kids []slowBlock
}

// slowReader follows the flows of a graph, whatever the order of its nodes, until so many nodes were met.
type slowReader struct {
	g    impl.Graph
	left int
}

func (r *slowReader) flowsFrom(at int64) []impl.Flow {
	var flows []impl.Flow
	for _, f := range r.g.Flows {
		if f.From == at {
			flows = append(flows, f)
		}
	}
	return flows
}

// line reads steps from a node on, up to one that no step begins with; that is -1 where something is not so.
func (r *slowReader) line(at int64, cond []impl.Node) (slowBlock, int64) {
	var steps []slowBlock
	for at >= 0 && slices.Contains([]int64{impl.GTask, impl.GWait, impl.GTimer, impl.GSet, impl.GSplit, impl.GFork, impl.GOpen}, r.g.Nodes[at].Kind) {
		var b slowBlock
		b, at = r.step(at)
		steps = append(steps, b)
	}
	if len(steps) == 0 {
		return slowBlock{}, -1
	}
	if len(steps) > 1 {
		return slowBlock{impl.Step{Kind: impl.StepSeq, Cond: cond}, steps}, at
	}
	steps[0].step.Cond = cond
	return steps[0], at
}

// behind is where the one flow from a node leads to.
func (r *slowReader) behind(at int64) int64 {
	if at < 0 || len(r.flowsFrom(at)) != 1 {
		return -1
	}
	return r.flowsFrom(at)[0].To
}

// step reads the step that begins at a node, and answers where the flow from its last one leads to.
func (r *slowReader) step(at int64) (slowBlock, int64) {
	if r.left--; r.left < 0 {
		return slowBlock{}, -1
	}
	n, flows := r.g.Nodes[at], r.flowsFrom(at)
	b := slowBlock{step: impl.Step{Name: n.Name, Arg: n.Arg, Expr: n.Expr}}
	switch n.Kind {
	case impl.GSplit, impl.GFork:
		b.step.Kind = map[int64]int64{impl.GSplit: impl.StepXor, impl.GFork: impl.StepAnd}[n.Kind]
		last := int64(-1)
		for i, f := range flows {
			kid, end := r.line(f.To, f.Cond)
			if end < 0 || i > 0 && end != last {
				return b, -1
			}
			b.kids, last = append(b.kids, kid), end
		}
		return b, r.behind(last)
	case impl.GOpen:
		b.step.Kind = impl.StepGuard
		if len(flows) != 2 {
			return b, -1
		}
		first, closed := r.line(flows[0].To, flows[0].Cond)
		second, merge := r.line(flows[1].To, flows[1].Cond)
		if closed < 0 || r.behind(closed) != merge {
			return b, -1
		}
		b.kids = []slowBlock{first, second}
		return b, r.behind(merge)
	}
	b.step.Kind = map[int64]int64{impl.GTask: impl.StepTask, impl.GWait: impl.StepWait, impl.GTimer: impl.StepTimer, impl.GSet: impl.StepSet}[n.Kind]
	return b, r.behind(at)
}

func (b slowBlock) list(p []impl.Step, parent int64) []impl.Step {
	at := int64(len(p))
	b.step.Parent = parent
	p = append(p, b.step)
	for _, kid := range b.kids {
		p = kid.list(p, at)
	}
	return p
}

// slowBlockOf tells it once more: what the flows tell is a process, and its graph is g, but for the Steps.
func slowBlockOf(g impl.Graph) impl.ProcResult {
	if fault := slowGraphFault(g); fault != 0 {
		return impl.ProcResult{Code: fault}
	}
	r := slowReader{g, 200}
	b, end := r.line(r.behind(0), nil)
	if r.behind(0) < 0 || end < 0 {
		return impl.ProcResult{Code: impl.ErrForm}
	}
	p := b.list(nil, -1)
	if slowProcFault(p) != 0 {
		return impl.ProcResult{Code: impl.ErrForm}
	}
	none := func() int64 { return 0 }
	if !reflect.DeepEqual(tellSame(otherSteps(slowGraphOf(p), none)), tellSame(otherSteps(g, none))) {
		return impl.ProcResult{Code: impl.ErrForm}
	}
	return impl.ProcResult{Proc: p}
}

// tellSame is g with nil in place of lists without elements.
func tellSame(g impl.Graph) impl.Graph {
	g = cloneGraph(g)
	for i := range g.Nodes {
		g.Nodes[i].Expr = append([]impl.Node(nil), g.Nodes[i].Expr...)
	}
	for i := range g.Flows {
		g.Flows[i].Cond = append([]impl.Node(nil), g.Flows[i].Cond...)
	}
	return g
}

// sortFlows puts flows in order by From, those of one node as they stand.
func sortFlows(flows []impl.Flow) []impl.Flow {
	slices.SortStableFunc(flows, func(a, b impl.Flow) int { return int(a.From - b.From) })
	return flows
}

// flowEdits tells each graph that has one flow less, one more, or one that is another one.
func flowEdits(g impl.Graph, tell func(why string, other impl.Graph)) {
	for i, f := range g.Flows {
		tell("a flow is missing", impl.Graph{Nodes: g.Nodes, Flows: slices.Delete(slices.Clone(g.Flows), i, i+1)})
		if i > 0 && g.Flows[i-1].From == f.From {
			other := cloneGraph(g)
			other.Flows[i-1], other.Flows[i] = other.Flows[i], other.Flows[i-1]
			tell("two flows in the other order", other)
		}
		for node := range int64(len(g.Nodes)) {
			if to := cloneGraph(g); node != f.To {
				to.Flows[i].To = node
				tell("a flow leads elsewhere", to)
			}
			if from := cloneGraph(g); node != f.From {
				from.Flows[i].From = node
				from.Flows = sortFlows(from.Flows)
				tell("a flow comes from elsewhere", from)
			}
		}
		for _, cond := range [][]impl.Node{nil, yes(), not(yes()), num(1), {{}}, nots(16)} {
			if !slices.Equal(cond, f.Cond) {
				tell("a flow has another Cond", ifFlow(g, i, cond))
			}
		}
	}
	for from := range int64(len(g.Nodes)) {
		for to := range int64(len(g.Nodes)) {
			for _, f := range []impl.Flow{flow(from, to), {From: from, To: to, Cond: yes()}} {
				tell("a flow too many, ahead", impl.Graph{Nodes: g.Nodes, Flows: sortFlows(append([]impl.Flow{f}, g.Flows...))})
				tell("a flow too many, behind", impl.Graph{Nodes: g.Nodes, Flows: sortFlows(append(slices.Clone(g.Flows), f))})
			}
		}
	}
}

// shiftFlows are flows of which places from at on are so much more.
func shiftFlows(flows []impl.Flow, at, more int64) []impl.Flow {
	var shifted []impl.Flow
	for _, f := range flows {
		if f.From >= at {
			f.From += more
		}
		if f.To >= at {
			f.To += more
		}
		shifted = append(shifted, f)
	}
	return shifted
}

// nodeEdits tells each graph that has one node less, one more, or one of another kind.
func nodeEdits(g impl.Graph, tell func(why string, other impl.Graph)) {
	for kind := int64(1); kind <= 13; kind++ {
		one := graphFrom([]int64{kind}).Nodes[0]
		for i, n := range g.Nodes {
			if n.Kind != kind {
				other := cloneGraph(g)
				other.Nodes[i] = one
				tell("a node of another kind", other)
			}
		}
		for at := range len(g.Nodes) + 1 {
			nodes := slices.Insert(slices.Clone(g.Nodes), at, one)
			tell("a node too many", impl.Graph{Nodes: nodes, Flows: shiftFlows(g.Flows, int64(at), 1)})
			// With a flow by way of it: that is a step more where it is a task and the like.
			for i := range g.Flows {
				flows := shiftFlows(g.Flows, int64(at), 1)
				end := flows[i].To
				flows[i].To = int64(at)
				flows = append(flows, flow(int64(at), end))
				tell("a node more in a flow", impl.Graph{Nodes: nodes, Flows: sortFlows(flows)})
			}
		}
	}
	for at := range g.Nodes {
		var flows []impl.Flow
		for _, f := range g.Flows {
			if f.From != int64(at) && f.To != int64(at) {
				flows = append(flows, f)
			}
		}
		nodes := slices.Delete(slices.Clone(g.Nodes), at, at+1)
		tell("a node is missing", impl.Graph{Nodes: nodes, Flows: shiftFlows(flows, int64(at), -1)})
		if r := (&slowReader{g: g}); r.behind(int64(at)) >= 0 {
			flows = shiftFlows(g.Flows, math.MaxInt64, 0)
			for i := range flows {
				if flows[i].To == int64(at) {
					flows[i].To = r.behind(int64(at))
				}
			}
			flows = slices.DeleteFunc(flows, func(f impl.Flow) bool { return f.From == int64(at) })
			tell("a node is passed by", impl.Graph{Nodes: nodes, Flows: shiftFlows(flows, int64(at), -1)})
		}
	}
}

// askEdits asks all that is one change away from g.
func askEdits(t *testing.T, g impl.Graph, sound map[string]int, wrong map[string]int) {
	t.Helper()
	ask := func(why string, other impl.Graph) {
		want := slowBlockOf(other)
		if want.Code == 0 {
			sound[why]++
		} else {
			wrong[why]++
		}
		askBlocks(t, why, other, want)
	}
	flowEdits(g, ask)
	nodeEdits(g, ask)
}

// Promise 8: what is one change away from the graph of a process is sound just if it is that of one.
func TestBlocksOfChangedGraphs(t *testing.T) {
	r := rand.New(rand.NewSource(54))
	sound, wrong := map[string]int{}, map[string]int{}
	for _, c := range graphCases {
		if g := slowGraphOf(readProc(t, c.text)); len(g.Nodes) < 16 {
			askEdits(t, g, sound, wrong)
		}
	}
	for range 6 {
		askEdits(t, slowGraphOf(randomProc(r, 10)), sound, wrong)
	}
	for _, why := range []string{"a flow is missing", "a flow too many, ahead", "a flow too many, behind", "two flows in the other order", "a flow leads elsewhere", "a flow comes from elsewhere", "a node too many"} {
		if sound[why] != 0 || wrong[why] < 10 {
			t.Errorf("%s: %d are sound, %d are not", why, sound[why], wrong[why])
		}
	}
	for _, why := range []string{"a flow has another Cond", "a node of another kind", "a node more in a flow", "a node is missing", "a node is passed by"} {
		if sound[why] < 10 || wrong[why] < 10 {
			t.Errorf("%s: %d are sound, %d are not", why, sound[why], wrong[why])
		}
	}
}

// Each graph of four nodes with three flows between a start and an end, and nodes of each kind in a line.
func TestBlocksOfEachSmallGraph(t *testing.T) {
	lone := []int64{impl.GTask, impl.GWait, impl.GTimer, impl.GSet}
	ask := func(kinds []int64, ends []int64) {
		g := graphFrom(kinds, ends...)
		sound := kinds[0] == impl.GStart && slices.Contains(lone, kinds[1]) && slices.Contains(lone, kinds[2]) && kinds[3] == impl.GEnd && slices.Equal(ends, []int64{0, 1, 1, 2, 2, 3})
		if impl.SoundGraph(g) != sound || impl.BlockOf(g).Code != 0 && impl.BlockOf(g).Code != impl.ErrForm {
			t.Fatalf("SoundGraph of %v = %v, BlockOf %v", g, !sound, impl.BlockOf(g))
		}
	}
	for choice := range int64(13 * 13 * 13 * 13) {
		ask([]int64{1 + choice/2197, 1 + choice/169%13, 1 + choice/13%13, 1 + choice%13}, []int64{0, 1, 1, 2, 2, 3})
	}
	for choice := range int64(16 * 16 * 16) {
		ends := []int64{choice / 1024, choice / 256 % 4, choice / 64 % 4, choice / 16 % 4, choice / 4 % 4, choice % 4}
		if ends[0] > ends[2] || ends[2] > ends[4] {
			continue
		}
		for _, kinds := range [][]int64{{3, 4}, {3, 3}, {7, 8}, {9, 10}, {11, 13}, {12, 13}, {1, 2}, {7, 3}, {3, 8}, {6, 10}} {
			ask([]int64{impl.GStart, kinds[0], kinds[1], impl.GEnd}, ends)
		}
	}
}

// Promise 8, of graphs that were changed in several ways, or in none.
func TestBlocksOfSpoiltGraphs(t *testing.T) {
	r := rand.New(rand.NewSource(55))
	count := map[int64]int{}
	for range 20000 {
		g := randomGraph(r)
		want := slowBlockOf(g)
		count[want.Code]++
		askBlocks(t, "a spoilt graph", g, want)
	}
	for _, code := range []int64{impl.OK, impl.ErrForm, impl.ErrMany, impl.ErrRange, impl.ErrText} {
		if count[code] < 20 {
			t.Error(count)
		}
	}
}

// askBlock asks all that the chapter has functions for.
func askBlock(p []impl.Step, g impl.Graph) []any {
	return []any{impl.PlainOf(p), impl.IsPlain(p), impl.BlockOf(g), impl.SoundGraph(g), impl.RenumberGraph(g)}
}

// Promise 1: every function answers at every argument and changes none, with nothing beside a code.
func TestBlocksAnswerAtEachArgument(t *testing.T) {
	r := rand.New(rand.NewSource(56))
	for i := range 5000 {
		p, g := spoilProc(r, randomProc(r, 1+r.Intn(12))), randomGraph(r)
		if i%4 == 0 {
			p[r.Intn(len(p))] = impl.Step{Kind: wildNumber(r), Parent: wildNumber(r), Arg: wildNumber(r), Cond: wildExpr(r)}
		}
		if i%4 == 1 {
			makeWild(r, g)
		}
		if i%4 == 2 {
			// Nodes of any kinds, and flows between any of them, without a fault.
			var kinds, ends []int64
			for range 2 + r.Intn(59) {
				kinds = append(kinds, 1+int64(r.Intn(13)))
			}
			for range r.Intn(81) {
				ends = append(ends, int64(r.Intn(len(kinds))), int64(r.Intn(len(kinds))))
			}
			g = graphFrom(kinds, ends...)
			g.Flows = sortFlows(g.Flows)
			askNoBlocks(t, "any nodes", g)
		}
		beforeProc, before := cloneProc(p), cloneGraph(g)
		for _, answer := range askBlock(p, g) {
			switch a := answer.(type) {
			case impl.ProcResult:
				if (a.Code != 0) != (len(a.Proc) == 0) {
					t.Fatalf("of %v and %v: %v", p, g, a)
				}
			case impl.GraphResult:
				if (a.Code != 0) != (len(a.Graph.Nodes) == 0) || (a.Code != 0) != (len(a.Graph.Flows) == 0) {
					t.Fatalf("of %v: %v", g, a)
				}
			}
		}
		if !reflect.DeepEqual(p, beforeProc) || !reflect.DeepEqual(g, before) {
			t.Fatalf("changed: %v, %v, before %v, %v", p, g, beforeProc, before)
		}
	}
}

func listsOfProc(p []impl.Step) [][]impl.Node {
	var lists [][]impl.Node
	for _, s := range p {
		lists = append(lists, s.Cond, s.Expr)
	}
	return lists
}

// Promise 1: what is answered is new memory, no two lists of it share any, and room behind an argument is not written to.
func TestBlocksAreNewMemory(t *testing.T) {
	p := sharedProc()
	g := cloneGraph(slowGraphOf(p))
	g.Nodes, g.Flows = append(make([]impl.GNode, 0, 90), g.Nodes...), append(make([]impl.Flow, 0, 90), g.Flows...)
	// Flows, and nodes, that have one list.
	for i := range g.Nodes {
		if g.Nodes[i].Kind == impl.GSet {
			g.Nodes[i].Expr = p[1].Expr
		}
	}
	for i := range g.Flows {
		if len(g.Flows[i].Cond) > 0 {
			g.Flows[i].Cond = p[1].Cond
		}
	}
	beforeProc, before := cloneProc(p), cloneGraph(g)
	name := p[3].Name
	for why, ask := range map[string]func() []impl.Step{
		"PlainOf":        func() []impl.Step { return impl.PlainOf(p).Proc },
		"PlainOf a part": func() []impl.Step { return impl.PlainOf(append(proc(seqAt(-1)), shiftProc(p, 1)...)).Proc },
		"BlockOf":        func() []impl.Step { return impl.BlockOf(g).Proc },
	} {
		first, second := ask(), ask()
		want := cloneProc(second)
		if !impl.SameProcs(first, beforeProc) {
			t.Fatalf("%s: %v", why, first)
		}
		for _, s := range first {
			if sharesBytes(s.Name, name) {
				t.Errorf("%s: the Name %q is shared", why, s.Name)
			}
		}
		askOwnLists(t, why, listsOfProc(first))
		clear(first[:cap(first)])
		if !impl.SameProcs(second, want) || !impl.SameProcs(ask(), want) {
			t.Errorf("%s: two answers are shared", why)
		}
	}
	first, second := impl.RenumberGraph(g).Graph, impl.RenumberGraph(g).Graph
	if !impl.SameGraphs(first, before) {
		t.Fatal(first)
	}
	for _, n := range first.Nodes {
		if sharesBytes(n.Name, name) {
			t.Errorf("RenumberGraph: the Name %q is shared", n.Name)
		}
	}
	askOwnLists(t, "RenumberGraph", listsOfGraph(first))
	clear(first.Nodes[:cap(first.Nodes)])
	clear(first.Flows[:cap(first.Flows)])
	if !impl.SameGraphs(second, before) || !impl.SameGraphs(g, before) || !impl.SameProcs(p, beforeProc) {
		t.Error("RenumberGraph: the graph is shared")
	}
	askRoomBehind(t, p)
	askRoomBehindGraph(t, g)
}

// Promise 1: an answer hangs on the arguments alone, not on what was asked ahead of it.
func TestBlocksHangOnArgumentsAlone(t *testing.T) {
	r := rand.New(rand.NewSource(57))
	procs, graphs := procsAndGraphs(r)
	var first [][]any
	for i, p := range procs {
		first = append(first, askBlock(p, graphs[i]))
	}
	for i := len(procs) - 1; i >= 0; i-- {
		for range 3 {
			// A clone lies elsewhere: no answer hangs on an address or a capacity.
			if got := askBlock(cloneProc(procs[i]), cloneGraph(graphs[i])); !reflect.DeepEqual(got, first[i]) {
				t.Errorf("%v, and ahead of that %v", got, first[i])
			}
		}
		// Nor on whether no element is nil.
		bare := cloneGraph(graphs[i])
		for at := range bare.Nodes {
			bare.Nodes[at].Expr = append([]impl.Node{}, bare.Nodes[at].Expr...)
		}
		for at := range bare.Flows {
			bare.Flows[at].Cond = append([]impl.Node{}, bare.Flows[at].Cond...)
		}
		if a, b := impl.BlockOf(bare), impl.BlockOf(graphs[i]); !sameProcResults(a, b) {
			t.Errorf("%v, and of nil %v", a, b)
		}
	}
}
