package tests

import (
	"math"
	"math/rand"
	"reflect"
	"slices"
	"strconv"
	"strings"
	"testing"

	"loop.example/g00343/impl"
)

var nodeWords = []string{"start", "end", "task", "wait", "timer", "set", "split", "join", "fork", "meet", "open", "close", "merge"}

func flow(from, to int64) impl.Flow {
	return impl.Flow{From: from, To: to}
}

// nodeOf is a node of the kind that has no fault.
func nodeOf(kind int64) impl.GNode {
	n := impl.GNode{Kind: kind}
	if kind == impl.GTask {
		n.Name = "a"
	}
	return n
}

// lineOf is a graph of n nodes, a flow from each to the next one.
func lineOf(n int) impl.Graph {
	g := impl.Graph{Nodes: []impl.GNode{nodeOf(impl.GStart)}}
	for at := 1; at < n; at++ {
		g.Nodes = append(g.Nodes, nodeOf(impl.GTask))
		g.Flows = append(g.Flows, flow(int64(at)-1, int64(at)))
	}
	g.Nodes[len(g.Nodes)-1] = nodeOf(impl.GEnd)
	return g
}

func cloneGraph(g impl.Graph) impl.Graph {
	g.Nodes, g.Flows = slices.Clone(g.Nodes), slices.Clone(g.Flows)
	for i := range g.Nodes {
		g.Nodes[i].Expr = slices.Clone(g.Nodes[i].Expr)
	}
	for i := range g.Flows {
		g.Flows[i].Cond = slices.Clone(g.Flows[i].Cond)
	}
	return g
}

// tellGraph tells all that a graph has: of each node its word, its Step and what else is not 0, then its flows.
func tellGraph(g impl.Graph) string {
	var words []string
	for _, n := range g.Nodes {
		word := nodeWords[n.Kind-1] + "." + strconv.FormatInt(n.Step, 10)
		if n.Name != "" {
			word += "/" + n.Name
		}
		if n.Arg != 0 {
			word += "/" + strconv.FormatInt(n.Arg, 10)
		}
		if len(n.Expr) > 0 {
			word += "=" + impl.ExprText(n.Expr).Text
		}
		words = append(words, word)
	}
	words = append(words, "|")
	for _, f := range g.Flows {
		word := strconv.FormatInt(f.From, 10) + ">" + strconv.FormatInt(f.To, 10)
		if len(f.Cond) > 0 {
			word += "?" + impl.ExprText(f.Cond).Text
		}
		words = append(words, word)
	}
	return strings.Join(words, " ")
}

func TestGraphConstants(t *testing.T) {
	kinds := []int64{impl.GStart, impl.GEnd, impl.GTask, impl.GWait, impl.GTimer, impl.GSet, impl.GSplit, impl.GJoin, impl.GFork, impl.GMeet, impl.GOpen, impl.GClose, impl.GMerge}
	for i, kind := range kinds {
		if kind != int64(i)+1 {
			t.Errorf("the kind at %d is %d", i, kind)
		}
	}
	if impl.MaxGraph != 60 {
		t.Error("a constant is another one")
	}
}

// graphCases are processes as they are written, and what tellGraph tells of their graphs.
var graphCases = []struct{ text, want string }{
	{`<task name="abcdefgh"/>`, "start.0 task.0/abcdefgh end.0 | 0>1 1>2"},
	{`<wait msg="9"/>`, "start.0 wait.0/9 end.0 | 0>1 1>2"},
	{`<wait msg="0"/>`, "start.0 wait.0 end.0 | 0>1 1>2"},
	{`<timer ticks="99"/>`, "start.0 timer.0/99 end.0 | 0>1 1>2"},
	{`<set var="3" to="(v0+2)"/>`, "start.0 set.0/3=(v0+2) end.0 | 0>1 1>2"},
	{`<set var="0" to="0"/>`, "start.0 set.0=0 end.0 | 0>1 1>2"},
	// Sequences have no nodes of their own.
	{`<seq><task name="a"/></seq>`, "start.0 task.1/a end.0 | 0>1 1>2"},
	{`<seq><seq><seq><wait msg="4"/></seq></seq></seq>`, "start.0 wait.3/4 end.0 | 0>1 1>2"},
	{`<seq><task name="a"/><wait msg="2"/><timer ticks="3"/></seq>`, "start.0 task.1/a wait.2/2 timer.3/3 end.0 | 0>1 1>2 2>3 3>4"},
	{`<seq><seq><seq><task name="a"/></seq><task name="b"/></seq><seq><task name="c"/><seq><task name="d"/></seq></seq></seq>`,
		"start.0 task.3/a task.4/b task.6/c task.8/d end.0 | 0>1 1>2 2>3 3>4 4>5"},
	{`<xor><task if="(v0=1)" name="a"/><task if="(v0=2)" name="b"/><task name="c"/></xor>`,
		"start.0 split.0 task.1/a task.2/b task.3/c join.0 end.0 | 0>1 1>2?(v0=1) 1>3?(v0=2) 1>4 2>5 3>5 4>5 5>6"},
	{`<and><task name="a"/><wait msg="2"/></and>`, "start.0 fork.0 task.1/a wait.2/2 meet.0 end.0 | 0>1 1>2 1>3 2>4 3>4 4>5"},
	{`<guard ticks="7"><task name="a"/><task name="b"/></guard>`,
		"start.0 open.0/7 task.1/a close.0 task.2/b merge.0 end.0 | 0>1 1>2 1>4 2>3 3>5 4>5 5>6"},
	// The kids of a xor: a sequence, a xor and a guard with a Cond, an and without.
	{`<xor><seq if="(v0=1)"><task name="a"/><task name="b"/></seq><xor if="(v0=2)"><task if="(v1=1)" name="c"/><task name="d"/></xor><guard if="(v0=3)" ticks="5"><task name="e"/><task name="f"/></guard><and><task name="g"/><task name="h"/></and></xor>`,
		"start.0 split.0 task.2/a task.3/b split.4 task.5/c task.6/d join.4 open.7/5 task.8/e close.7 task.9/f merge.7 fork.10 task.11/g task.12/h meet.10 join.0 end.0 | " +
			"0>1 1>2?(v0=1) 1>4?(v0=2) 1>8?(v0=3) 1>13 2>3 3>17 4>5?(v1=1) 4>6 5>7 6>7 7>17 8>9 8>11 9>10 10>12 11>12 12>17 13>14 13>15 14>16 15>16 16>17 17>18"},
	// A guard in a guard, as what is done and as what is done instead.
	{`<guard ticks="9"><guard ticks="8"><task name="a"/><task name="b"/></guard><guard ticks="7"><task name="c"/><task name="d"/></guard></guard>`,
		"start.0 open.0/9 open.1/8 task.2/a close.1 task.3/b merge.1 close.0 open.4/7 task.5/c close.4 task.6/d merge.4 merge.0 end.0 | " +
			"0>1 1>2 1>8 2>3 2>5 3>4 4>6 5>6 6>7 7>13 8>9 8>11 9>10 10>12 11>12 12>13 13>14"},
	// What enters and what leaves lies some sequences below, 7 steps from one up.
	{`<seq><xor><seq if="(v0=1)"><seq><guard ticks="2"><seq><task name="a"/></seq><seq><task name="b"/><task name="c"/></seq></guard></seq></seq><and><seq><task name="d"/></seq><wait msg="1"/></and></xor><task name="e"/></seq>`,
		"start.0 split.1 open.4/2 task.6/a close.4 task.8/b task.9/c merge.4 fork.10 task.12/d wait.13/1 meet.10 join.1 task.14/e end.0 | " +
			"0>1 1>2?(v0=1) 1>8 2>3 2>5 3>4 4>7 5>6 6>7 7>12 8>9 8>10 9>11 10>11 11>12 12>13 13>14"},
	// One block right behind the other: what leaves one leads to what enters the next.
	{`<seq><and><set var="1" to="v2"/><task name="a"/></and><xor><wait if="!(v0=1)" msg="3"/><timer ticks="1"/></xor></seq>`,
		"start.0 fork.1 set.2/1=v2 task.3/a meet.1 split.4 wait.5/3 timer.6/1 join.4 end.0 | 0>1 1>2 1>3 2>4 3>4 4>5 5>6?!(v0=1) 5>7 6>8 7>8 8>9"},
}

func TestGraphOf(t *testing.T) {
	for _, c := range graphCases {
		p := impl.ReadProc(c.text)
		if p.Code != 0 {
			t.Fatalf("ReadProc(%q) = %v", c.text, p)
		}
		got := impl.GraphOf(p.Proc)
		if told := tellGraph(got.Graph); got.Code != 0 || told != c.want {
			t.Errorf("GraphOf %q = %d, %s, want %s", c.text, got.Code, told, c.want)
		}
		askForward(t, p.Proc)
	}
	if got := impl.GraphOf(nestOf(7)); tellGraph(got.Graph) != "start.0 task.6/a end.0 | 0>1 1>2" {
		t.Errorf("GraphOf 7 steps from one up = %v", got)
	}
	long := proc(xorAt(-1), ifSo(not(sumsLess(5)), taskAt(0)), setAt(0, 2, sums(7)))
	got := impl.GraphOf(long)
	if got.Code != 0 || !slices.Equal(got.Graph.Flows[1].Cond, long[1].Cond) || !slices.Equal(got.Graph.Nodes[3].Expr, long[2].Expr) || len(got.Graph.Flows[2].Cond) != 0 {
		t.Errorf("GraphOf long expressions = %v", got)
	}
}

// sumsLess is an expression of 2 n + 3 nodes that is a bool.
func sumsLess(n int) []impl.Node {
	return pair(impl.ExprLess, sums(n), num(9))
}

// guardsOf is n guards, one behind the other.
func guardsOf(n int) []impl.Step {
	p := proc(seqAt(-1))
	for i := range int64(n) {
		at := int64(len(p))
		p = append(p, guardAt(0, 1+i), taskAt(at), setAt(at, 1, num(i)))
	}
	return p
}

func TestGraphOfManySteps(t *testing.T) {
	spread := proc(xorAt(-1))
	for len(spread) < 23 {
		spread = append(spread, ifSo(yes(), taskAt(0)))
	}
	side := proc(andAt(-1))
	for len(side) < 24 {
		side = append(side, taskAt(0))
	}
	for _, c := range []struct {
		why          string
		p            []impl.Step
		nodes, flows int
	}{
		{"one step", proc(taskAt(-1)), 3, 2},
		{"24 steps of a seq", seqOf(24), 25, 24},
		{"24 steps of a xor", append(spread, taskAt(0)), 27, 48},
		{"24 steps of an and", side, 27, 48},
		{"22 steps with 7 guards", guardsOf(7), 37, 43},
		{"23 steps with 11 guards", fullGuards(), 47, 57},
		{"24 steps with 11 guards", append(proc(seqAt(-1)), shiftProc(fullGuards(), 1)...), 47, 57},
	} {
		got := impl.GraphOf(c.p)
		if got.Code != 0 || len(got.Graph.Nodes) != c.nodes || len(got.Graph.Flows) != c.flows {
			t.Errorf("GraphOf %s: %d, %d nodes, %d flows, want %d, %d", c.why, got.Code, len(got.Graph.Nodes), len(got.Graph.Flows), c.nodes, c.flows)
		}
		if want := slowGraphOf(c.p); !impl.SameGraphs(got.Graph, want) {
			t.Errorf("GraphOf %s = %s, want %s", c.why, tellGraph(got.Graph), tellGraph(want))
		}
		askForward(t, c.p)
	}
}

// shiftProc is p with each place so much higher: the first step stands below the one ahead of it.
func shiftProc(p []impl.Step, more int64) []impl.Step {
	p = cloneProc(p)
	for i := range p {
		p[i].Parent += more
	}
	return p
}

// guardTree is n guards, one in the other, and tasks, as even as it comes.
func guardTree(n int) []impl.Step {
	p := proc(guardAt(-1, 1))
	var fill func(parent int64, guards int)
	fill = func(parent int64, guards int) {
		for _, part := range []int{guards / 2, guards - guards/2} {
			at := int64(len(p))
			if part == 0 {
				p = append(p, taskAt(parent))
				continue
			}
			p = append(p, guardAt(parent, 1+at))
			fill(at, part-1)
		}
	}
	fill(0, n-1)
	return p
}

// fullGuards is 11 guards and 12 tasks: the most nodes that 24 steps come to.
func fullGuards() []impl.Step {
	return guardTree(11)
}

// ownNodes is how many nodes steps of a kind come to, those of their kids left out.
var ownNodes = map[int64]int{impl.StepSeq: 0, impl.StepTask: 1, impl.StepXor: 2, impl.StepAnd: 2, impl.StepWait: 1, impl.StepTimer: 1, impl.StepSet: 1, impl.StepGuard: 3}

// slowLayout is a process, and of each step the place of the first node that it comes to.
type slowLayout struct {
	p     []impl.Step
	first []int
}

func (l slowLayout) kids(at int) []int {
	var kids []int
	for i, s := range l.p {
		if s.Parent == int64(at) {
			kids = append(kids, i)
		}
	}
	return kids
}

func (l slowLayout) size(at int) int {
	n := ownNodes[l.p[at].Kind]
	for _, kid := range l.kids(at) {
		n += l.size(kid)
	}
	return n
}

func (l slowLayout) enters(at int) int64 {
	if l.p[at].Kind == impl.StepSeq {
		return l.enters(l.kids(at)[0])
	}
	return int64(l.first[at])
}

func (l slowLayout) leaves(at int) int64 {
	if kids := l.kids(at); l.p[at].Kind == impl.StepSeq {
		return l.leaves(kids[len(kids)-1])
	}
	return int64(l.first[at] + l.size(at) - 1)
}

// lay counts the nodes of each step ahead of any node.
func lay(p []impl.Step) slowLayout {
	l := slowLayout{p, make([]int, len(p))}
	l.first[0] = 1
	for at, s := range p {
		next := l.first[at]
		if s.Kind != impl.StepSeq {
			next++
		}
		for i, kid := range l.kids(at) {
			if s.Kind == impl.StepGuard && i == 1 {
				next++
			}
			l.first[kid] = next
			next += l.size(kid)
		}
	}
	return l
}

// slowGraphOf tells it once more: flows are put in order by From alone, those of one node as they were found.
func slowGraphOf(p []impl.Step) impl.Graph {
	l := lay(p)
	end := int64(l.size(0)) + 1
	g := impl.Graph{Nodes: make([]impl.GNode, end+1)}
	g.Nodes[0].Kind, g.Nodes[end].Kind = impl.GStart, impl.GEnd
	g.Flows = append(g.Flows, flow(0, l.enters(0)), flow(l.leaves(0), end))
	for at, s := range p {
		kids, from, to := l.kids(at), l.enters(at), l.leaves(at)
		own := func(kind int64) impl.GNode { return impl.GNode{Kind: kind, Step: int64(at)} }
		switch s.Kind {
		case impl.StepSeq:
			for i := range kids[1:] {
				g.Flows = append(g.Flows, flow(l.leaves(kids[i]), l.enters(kids[i+1])))
			}
		case impl.StepXor, impl.StepAnd:
			g.Nodes[from], g.Nodes[to] = own(impl.GSplit), own(impl.GJoin)
			if s.Kind == impl.StepAnd {
				g.Nodes[from], g.Nodes[to] = own(impl.GFork), own(impl.GMeet)
			}
			for _, kid := range kids {
				g.Flows = append(g.Flows, impl.Flow{From: from, To: l.enters(kid), Cond: p[kid].Cond}, flow(l.leaves(kid), to))
			}
		case impl.StepGuard:
			closed := int64(l.first[kids[0]] + l.size(kids[0]))
			g.Nodes[from], g.Nodes[closed], g.Nodes[to] = own(impl.GOpen), own(impl.GClose), own(impl.GMerge)
			g.Nodes[from].Arg = s.Arg
			g.Flows = append(g.Flows, flow(from, l.enters(kids[0])), flow(from, l.enters(kids[1])), flow(l.leaves(kids[0]), closed), flow(closed, to), flow(l.leaves(kids[1]), to))
		default:
			kind := map[int64]int64{impl.StepTask: impl.GTask, impl.StepWait: impl.GWait, impl.StepTimer: impl.GTimer, impl.StepSet: impl.GSet}[s.Kind]
			g.Nodes[from] = impl.GNode{Kind: kind, Step: int64(at), Name: s.Name, Arg: s.Arg, Expr: s.Expr}
		}
	}
	slices.SortStableFunc(g.Flows, func(a, b impl.Flow) int { return int(a.From - b.From) })
	return g
}

// askForward asks promise 7 of the graph of p, which has no fault.
func askForward(t *testing.T, p []impl.Step) {
	t.Helper()
	got := impl.GraphOf(p)
	g := got.Graph
	if fault := impl.GraphFault(g); got.Code != 0 || fault != 0 {
		t.Fatalf("GraphOf %v: the code %d, the fault %d", p, got.Code, fault)
	}
	for _, f := range g.Flows {
		if f.From >= f.To {
			t.Errorf("of %v a flow leads from %d to %d", p, f.From, f.To)
		}
	}
	last := int64(len(g.Nodes)) - 1
	for node := range last + 1 {
		from, to := impl.FlowsFrom(g, node), impl.FlowsTo(g, node)
		if from.Code != 0 || to.Code != 0 || (len(from.List) == 0) != (node == last) || (len(to.List) == 0) != (node == 0) {
			t.Errorf("of %v the node %d has the flows %v from it, %v to it", p, node, from, to)
		}
	}
	for at := range p {
		want := ownNodes[p[at].Kind]
		for _, n := range g.Nodes[1:last] {
			if n.Step == int64(at) {
				want--
			}
		}
		if want != 0 {
			t.Errorf("of %v the step %d comes to other nodes", p, at)
		}
	}
}

// greatProc is the one of some processes that has the most steps from one up, or the most steps.
func greatProc(r *rand.Rand) []impl.Step {
	p := randomProc(r, 24)
	for range r.Intn(20) {
		q := randomProc(r, 24)
		deeper := impl.DeepOf(q).Value - impl.DeepOf(p).Value
		if deeper > 0 || deeper == 0 && len(q) > len(p) || r.Intn(2) == 0 && len(q) > len(p) {
			p = q
		}
	}
	return p
}

// Promise 7, of many processes; and GraphOf as it is told once more.
func TestGraphsLeadForward(t *testing.T) {
	r := rand.New(rand.NewSource(41))
	many, long := 0, 0
	for range 6000 {
		p := greatProc(r)
		got, want := impl.GraphOf(p), slowGraphOf(p)
		if got.Code != 0 || !impl.SameGraphs(got.Graph, want) {
			t.Fatalf("GraphOf %v = %s, want %s", p, tellGraph(got.Graph), tellGraph(want))
		}
		askForward(t, p)
		if len(got.Graph.Nodes) > 30 {
			many++
		}
		if impl.DeepOf(p).Value >= 6 {
			long++
		}
	}
	if many < 50 || long < 50 {
		t.Error(many, long)
	}
}

// Each process of up to 6 steps of some kinds, and what would be one if more were behind it.
func TestGraphOfEachSmallProc(t *testing.T) {
	count := map[int64]int{}
	var grow func(p []impl.Step, left int)
	grow = func(p []impl.Step, left int) {
		got, fault := impl.GraphOf(p), slowProcFault(p)
		count[got.Code]++
		if got.Code != fault || fault != 0 && !reflect.DeepEqual(got.Graph, impl.Graph{}) {
			t.Fatalf("GraphOf %v = %v, want the code %d", p, got, fault)
		}
		if fault == 0 && !impl.SameGraphs(got.Graph, slowGraphOf(p)) {
			t.Fatalf("GraphOf %v = %s, want %s", p, tellGraph(got.Graph), tellGraph(slowGraphOf(p)))
		}
		if left == 0 {
			return
		}
		for _, kind := range []int64{1, 2, 3, 8} {
			for _, parent := range placesUp(p, int64(len(p))-1) {
				if !slices.Contains([]int64{1, 3, 4, 8}, p[parent].Kind) {
					continue
				}
				s := aloneOf(kind, parent)
				grow(append(slices.Clip(p), s), left-1)
				if p[parent].Kind == impl.StepXor {
					grow(append(slices.Clip(p), ifSo(yes(), s)), left-1)
				}
			}
		}
	}
	for kind := int64(1); kind <= 8; kind++ {
		grow(proc(aloneOf(kind, -1)), 5)
	}
	if count[impl.OK] < 100 || count[impl.ErrForm] < 100 {
		t.Error(count)
	}
}

func TestGraphOfWrong(t *testing.T) {
	for _, c := range []procCase{
		{"nil", nil, impl.ErrMany},
		{"no step", []impl.Step{}, impl.ErrMany},
		{"25 steps", seqOf(25), impl.ErrMany},
		{"8 steps from one up", nestOf(8), impl.ErrMany},
		{"a kind that is none", proc(impl.Step{Parent: -1}), impl.ErrForm},
		{"a task with an Arg", proc(impl.Step{Kind: impl.StepTask, Parent: -1, Name: "a", Arg: 1}), impl.ErrForm},
		{"a first step with a Parent", proc(taskAt(0)), impl.ErrRange},
		{"a Parent behind", proc(seqAt(-1), taskAt(1)), impl.ErrRange},
		{"a Parent that is over", proc(seqAt(-1), seqAt(0), taskAt(1), taskAt(0), taskAt(1)), impl.ErrForm},
		{"an empty Name", proc(impl.Step{Kind: impl.StepTask, Parent: -1}), impl.ErrText},
		{"a Name of 9 bytes", proc(impl.Step{Kind: impl.StepTask, Parent: -1, Name: "abcdefghi"}), impl.ErrMany},
		{"a message 10", proc(waitAt(-1, 10)), impl.ErrRange},
		{"a timer of 0 ticks", proc(timerAt(-1, 0)), impl.ErrRange},
		{"an Expr of 17 nodes", proc(setAt(-1, 1, nots(17))), impl.ErrMany},
		{"a seq without kids", proc(seqAt(-1)), impl.ErrForm},
		{"a xor of one kid", proc(xorAt(-1), taskAt(0)), impl.ErrForm},
		{"a guard of one kid", proc(guardAt(-1, 1), taskAt(0)), impl.ErrForm},
		{"a guard of three kids", proc(guardAt(-1, 1), taskAt(0), taskAt(0), taskAt(0)), impl.ErrForm},
		{"a xor without a Cond", proc(xorAt(-1), taskAt(0), taskAt(0)), impl.ErrForm},
		{"a Cond of an and's kid", proc(andAt(-1), ifSo(yes(), taskAt(0)), taskAt(0)), impl.ErrForm},
		{"a Cond that is an int", proc(xorAt(-1), ifSo(num(1), taskAt(0)), taskAt(0)), impl.ErrType},
		{"an Expr that is a bool", proc(setAt(-1, 1, yes())), impl.ErrType},
	} {
		if got := impl.GraphOf(c.p); !reflect.DeepEqual(got, impl.GraphResult{Code: c.want}) {
			t.Errorf("GraphOf %s = %v, want the code %d", c.why, got, c.want)
		}
	}
	r := rand.New(rand.NewSource(42))
	count := map[int64]int{}
	for range 15000 {
		p := spoilProc(r, randomProc(r, 1+r.Intn(26)))
		got, fault := impl.GraphOf(p), slowProcFault(p)
		count[fault]++
		if fault != 0 && !reflect.DeepEqual(got, impl.GraphResult{Code: fault}) || fault == 0 && !impl.SameGraphs(got.Graph, slowGraphOf(p)) {
			t.Fatalf("GraphOf %v = %v, its fault is %d", p, got, fault)
		}
	}
	for _, code := range []int64{impl.OK, impl.ErrForm, impl.ErrMany, impl.ErrRange, impl.ErrText, impl.ErrType} {
		if count[code] < 20 {
			t.Error(count)
		}
	}
}

type graphCase struct {
	why  string
	g    impl.Graph
	want int64
}

// askGraphFaults asks the fault of each, and that it is the code of all that ask for it, with nothing beside it.
func askGraphFaults(t *testing.T, cases []graphCase) {
	t.Helper()
	for _, c := range cases {
		if got := impl.GraphFault(c.g); got != c.want {
			t.Errorf("GraphFault of %s = %d, want %d", c.why, got, c.want)
		}
		if slow := slowGraphFault(c.g); slow != c.want {
			t.Errorf("the test's own fault of %s = %d, want %d", c.why, slow, c.want)
		}
		if c.want == 0 {
			continue
		}
		for _, node := range []int64{math.MinInt64, -1, 0, 1, int64(len(c.g.Nodes)), math.MaxInt64} {
			if from, to := impl.FlowsFrom(c.g, node), impl.FlowsTo(c.g, node); from.Code != c.want || to.Code != c.want || len(from.List)+len(to.List) != 0 {
				t.Errorf("the flows at %d of %s: %v, %v, want the code %d", node, c.why, from, to, c.want)
			}
		}
		if text := impl.GraphText(c.g); text != (impl.TextResult{Code: c.want}) {
			t.Errorf("GraphText of %s = %v, want the code %d", c.why, text, c.want)
		}
	}
}

// slowGraphFault tells it once more, with the bounds as numbers.
func slowGraphFault(g impl.Graph) int64 {
	if len(g.Nodes) < 2 || len(g.Nodes) > 60 || len(g.Flows) > 80 {
		return impl.ErrMany
	}
	for _, n := range g.Nodes {
		hasArg := slices.Contains([]int64{4, 5, 6, 11}, n.Kind)
		switch {
		case n.Kind < 1, n.Kind > 13, n.Kind <= 2 && n.Step != 0, n.Kind != 3 && n.Name != "", !hasArg && n.Arg != 0, n.Kind != 6 && len(n.Expr) > 0:
			return impl.ErrForm
		case n.Step < 0, n.Step > 23, n.Arg < 0, n.Arg > 99:
			return impl.ErrRange
		case len(n.Expr) > 16:
			return impl.ErrMany
		case n.Kind == 3 && impl.NameFault(n.Name) != 0:
			return impl.NameFault(n.Name)
		}
	}
	for i, f := range g.Flows {
		switch {
		case f.From < 0, f.To < 0, f.From >= int64(len(g.Nodes)), f.To >= int64(len(g.Nodes)):
			return impl.ErrRange
		case len(f.Cond) > 16:
			return impl.ErrMany
		case i > 0 && f.From < g.Flows[i-1].From:
			return impl.ErrForm
		}
	}
	return 0
}

func TestGraphFaultOfCounts(t *testing.T) {
	flows := func(n int) impl.Graph {
		g := lineOf(3)
		g.Flows = slices.Repeat([]impl.Flow{flow(1, 2)}, n)
		return g
	}
	both := flows(81)
	both.Nodes[0].Kind = 0
	askGraphFaults(t, []graphCase{
		{"the zero value", impl.Graph{}, impl.ErrMany},
		{"no node", impl.Graph{Nodes: []impl.GNode{}, Flows: []impl.Flow{}}, impl.ErrMany},
		{"no node and a flow", impl.Graph{Flows: []impl.Flow{flow(0, 0)}}, impl.ErrMany},
		{"1 node", impl.Graph{Nodes: lineOf(3).Nodes[:1]}, impl.ErrMany},
		{"1 node that is none", impl.Graph{Nodes: make([]impl.GNode, 1)}, impl.ErrMany},
		{"2 nodes", lineOf(2), 0},
		{"2 nodes without flows", impl.Graph{Nodes: lineOf(2).Nodes}, 0},
		{"59 nodes", lineOf(59), 0},
		{"60 nodes", lineOf(60), 0},
		{"61 nodes", lineOf(61), impl.ErrMany},
		{"61 nodes that are none", impl.Graph{Nodes: make([]impl.GNode, 61)}, impl.ErrMany},
		{"60 nodes that are none", impl.Graph{Nodes: make([]impl.GNode, 60)}, impl.ErrForm},
		{"very many nodes", impl.Graph{Nodes: make([]impl.GNode, 100000)}, impl.ErrMany},
		{"80 flows", flows(80), 0},
		{"81 flows", flows(81), impl.ErrMany},
		{"81 flows and a kind that is none", both, impl.ErrMany},
		{"very many flows", flows(100000), impl.ErrMany},
	})
}

// nodesWith is a graph in which a node that may be wrong stands at each place in turn.
func nodesWith(n impl.GNode) []impl.Graph {
	var graphs []impl.Graph
	for at := range 4 {
		g := lineOf(4)
		g.Nodes[at] = n
		graphs = append(graphs, g)
	}
	return graphs
}

func askNodeFault(t *testing.T, why string, n impl.GNode, want int64) {
	t.Helper()
	for at, g := range nodesWith(n) {
		askGraphFaults(t, []graphCase{{why + " at " + strconv.Itoa(at), g, want}})
	}
}

func TestGraphFaultOfKinds(t *testing.T) {
	for kind := int64(1); kind <= 13; kind++ {
		askNodeFault(t, "the kind "+strconv.FormatInt(kind, 10), nodeOf(kind), 0)
	}
	for _, kind := range []int64{math.MinInt64, -13, -1, 0, 14, 15, 259, 1<<32 + 3, math.MaxInt64} {
		for _, n := range []impl.GNode{{Kind: kind}, {Kind: kind, Name: "a"}, {Kind: kind, Step: 24}, {Kind: kind, Arg: 100}, {Kind: kind, Expr: nots(17)}} {
			askNodeFault(t, "the kind "+strconv.FormatInt(kind, 10), n, impl.ErrForm)
		}
	}
}

// What a kind has not is ErrForm, whatever it is; what it has may be there or not.
func TestGraphFaultOfWhatAKindHasNot(t *testing.T) {
	for kind := int64(1); kind <= 13; kind++ {
		why := "the kind " + strconv.FormatInt(kind, 10)
		for _, name := range []string{"a", "abcdefgh", "abcdefghi", "A", " ", "\x00"} {
			n := nodeOf(kind)
			n.Name = name
			want := int64(impl.ErrForm)
			if kind == impl.GTask {
				want = impl.NameFault(name)
			}
			askNodeFault(t, why+" with the Name "+name, n, want)
		}
		for _, arg := range []int64{math.MinInt64, -100, -1, 1, 9, 10, 98, 99, 100, 1 << 32, math.MaxInt64} {
			n := nodeOf(kind)
			n.Arg = arg
			want := int64(impl.ErrForm)
			if kind == impl.GWait || kind == impl.GTimer || kind == impl.GSet || kind == impl.GOpen {
				want = 0
				if arg < 0 || arg > 99 {
					want = impl.ErrRange
				}
			}
			askNodeFault(t, why+" with the Arg "+strconv.FormatInt(arg, 10), n, want)
		}
		// An Expr is counted, and nothing else is asked of it.
		for _, e := range [][]impl.Node{num(0), yes(), {{}}, make([]impl.Node, 16), nots(16), make([]impl.Node, 17), nots(17), make([]impl.Node, 1000)} {
			n := nodeOf(kind)
			n.Expr = e
			want := int64(impl.ErrForm)
			if kind == impl.GSet && len(e) <= 16 {
				want = 0
			} else if kind == impl.GSet {
				want = impl.ErrMany
			}
			askNodeFault(t, why+" with an Expr of "+strconv.Itoa(len(e)), n, want)
		}
		empty := nodeOf(kind)
		empty.Expr = []impl.Node{}
		askNodeFault(t, why+" with an Expr of no nodes", empty, 0)
	}
}

// stepAt is a node of the kind that has no fault but for its Step.
func stepAt(kind, step int64) impl.GNode {
	n := nodeOf(kind)
	n.Step = step
	return n
}

// The Step has bounds; a start and an end have none, so that one is ErrForm within the bounds and outside them.
func TestGraphFaultOfSteps(t *testing.T) {
	for kind := int64(1); kind <= 13; kind++ {
		for step, want := range map[int64]int64{0: 0, 1: 0, 2: 0, 22: 0, 23: 0, 24: impl.ErrRange, 25: impl.ErrRange, 60: impl.ErrRange, -1: impl.ErrRange, -23: impl.ErrRange, 1 << 32: impl.ErrRange, math.MaxInt64: impl.ErrRange, math.MinInt64: impl.ErrRange} {
			if step != 0 && (kind == impl.GStart || kind == impl.GEnd) {
				want = impl.ErrForm
			}
			askNodeFault(t, "the kind "+strconv.FormatInt(kind, 10)+" of the Step "+strconv.FormatInt(step, 10), stepAt(kind, step), want)
		}
	}
}

// A start and an end with a Step, beside what they have not either, too many elements, and the same of both.
func TestGraphFaultOfStepsOfEnds(t *testing.T) {
	for _, kind := range []int64{impl.GStart, impl.GEnd} {
		for _, step := range []int64{0, 1, 23, 24, -1, math.MinInt64} {
			why := "the kind " + strconv.FormatInt(kind, 10) + " of the Step " + strconv.FormatInt(step, 10)
			askSeveral(stepAt(kind, step), []spoilt[impl.GNode]{
				{impl.ErrForm, func(n *impl.GNode) { n.Name = "abcdefghi" }},
				{impl.ErrForm, func(n *impl.GNode) { n.Arg = 100 }},
				{impl.ErrForm, func(n *impl.GNode) { n.Expr = nots(17) }},
			}, func(n impl.GNode, want int64) {
				askNodeFault(t, why+" and more", n, want)
			})
			want := int64(impl.ErrForm)
			if step == 0 {
				want = 0
			}
			both, many, flows := lineOf(2), lineOf(61), lineOf(2)
			both.Nodes[0], both.Nodes[1] = stepAt(impl.GStart, step), stepAt(impl.GEnd, step)
			many.Nodes[60] = stepAt(kind, step)
			flows.Nodes[1], flows.Flows = stepAt(kind, step), slices.Repeat(flows.Flows, 81)
			askGraphFaults(t, []graphCase{
				{"both ends of the Step " + strconv.FormatInt(step, 10), both, want},
				{why + " among 61 nodes", many, impl.ErrMany},
				{why + " and 81 flows", flows, impl.ErrMany},
			})
		}
	}
}

func TestGraphFaultOfNames(t *testing.T) {
	for name, want := range map[string]int64{"a": 0, "z": 0, "abcdefgh": 0, "abcdefghi": impl.ErrMany, strings.Repeat("z", 1000): impl.ErrMany, "": impl.ErrText, "A": impl.ErrText, "a1": impl.ErrText, " a": impl.ErrText, "abcdefghI": impl.ErrText, "ä": impl.ErrText, "`": impl.ErrText, "{": impl.ErrText} {
		askNodeFault(t, "the Name "+name, impl.GNode{Kind: impl.GTask, Name: name}, want)
	}
}

// flowsWith is a graph of 4 nodes in which a flow that may be wrong stands at each place in turn.
func flowsWith(f impl.Flow) []impl.Graph {
	var graphs []impl.Graph
	for at := range 3 {
		g := lineOf(4)
		g.Flows = []impl.Flow{flow(1, 2), flow(1, 2), flow(1, 2)}
		g.Flows[at] = f
		graphs = append(graphs, g)
	}
	return graphs
}

func TestGraphFaultOfFlows(t *testing.T) {
	for _, place := range []int64{math.MinInt64, -4, -1, 4, 5, 60, 1 << 32, 1<<32 + 1, math.MaxInt64} {
		for at := range 3 {
			for _, f := range []impl.Flow{flow(place, 2), flow(1, place), flow(place, place)} {
				askGraphFaults(t, []graphCase{{"a place " + strconv.FormatInt(place, 10), flowsWith(f)[at], impl.ErrRange}})
			}
		}
	}
	for to := range int64(4) {
		for at := range 3 {
			askGraphFaults(t, []graphCase{{"a flow to " + strconv.FormatInt(to, 10), flowsWith(flow(1, to))[at], 0}})
		}
	}
	// A Cond is counted, and nothing else is asked of it; each flow may have one.
	for _, cond := range [][]impl.Node{{}, num(0), yes(), {{}}, make([]impl.Node, 16), nots(16), make([]impl.Node, 17), nots(17), make([]impl.Node, 1000)} {
		want := int64(0)
		if len(cond) > 16 {
			want = impl.ErrMany
		}
		for at := range 3 {
			askGraphFaults(t, []graphCase{{"a Cond of " + strconv.Itoa(len(cond)), flowsWith(impl.Flow{From: 1, To: 2, Cond: cond})[at], want}})
		}
	}
	for _, c := range []struct {
		froms []int64
		want  int64
	}{
		{[]int64{0}, 0}, {[]int64{3}, 0}, {[]int64{0, 0}, 0}, {[]int64{0, 1}, 0}, {[]int64{0, 3}, 0}, {[]int64{3, 3, 3}, 0}, {[]int64{0, 0, 1, 1, 3, 3}, 0},
		{[]int64{1, 0}, impl.ErrForm}, {[]int64{3, 0}, impl.ErrForm}, {[]int64{3, 2}, impl.ErrForm}, {[]int64{0, 1, 0}, impl.ErrForm}, {[]int64{0, 2, 1}, impl.ErrForm}, {[]int64{1, 0, 1}, impl.ErrForm}, {[]int64{0, 3, 1, 3}, impl.ErrForm}, {[]int64{0, 1, 2, 3, 2}, impl.ErrForm},
	} {
		// The order of To is not asked for.
		for to := range int64(4) {
			g := lineOf(4)
			g.Flows = nil
			for i, from := range c.froms {
				g.Flows = append(g.Flows, flow(from, (to+int64(i)*3)%4))
			}
			askGraphFaults(t, []graphCase{{"the flows of some nodes", g, c.want}})
		}
	}
	twice, loop := lineOf(4), lineOf(4)
	twice.Flows = []impl.Flow{flow(0, 1), {From: 0, To: 1, Cond: yes()}, flow(0, 1)}
	loop.Flows = []impl.Flow{flow(0, 0), flow(3, 0), flow(3, 3)}
	askGraphFaults(t, []graphCase{
		{"two flows that are the same", twice, 0},
		{"flows that lead back, and to where they come from", loop, 0},
		{"nodes without flows", impl.Graph{Nodes: lineOf(5).Nodes, Flows: []impl.Flow{flow(1, 3)}}, 0},
		{"two starts and no end", impl.Graph{Nodes: []impl.GNode{nodeOf(1), nodeOf(1)}}, 0},
	})
}

// spoilt is one fault of an element, and its code.
type spoilt[T any] struct {
	code int64
	make func(x *T)
}

// askSeveral tells each choice of some faults, in the order in which they are asked, and the code of the first of the choice.
func askSeveral[T any](base T, faults []spoilt[T], tell func(x T, want int64)) {
	for choice := 1; choice < 1<<len(faults); choice++ {
		x, want := base, int64(0)
		for i, f := range faults {
			if choice>>i&1 == 0 {
				continue
			}
			f.make(&x)
			if want == 0 {
				want = f.code
			}
		}
		tell(x, want)
	}
}

func TestGraphFaultOfSeveralInOneNode(t *testing.T) {
	withName := spoilt[impl.GNode]{impl.ErrForm, func(n *impl.GNode) { n.Name = "A" }}
	withArg := spoilt[impl.GNode]{impl.ErrForm, func(n *impl.GNode) { n.Arg = 100 }}
	withExpr := spoilt[impl.GNode]{impl.ErrForm, func(n *impl.GNode) { n.Expr = nots(17) }}
	step := spoilt[impl.GNode]{impl.ErrRange, func(n *impl.GNode) { n.Step = 24 }}
	below := spoilt[impl.GNode]{impl.ErrRange, func(n *impl.GNode) { n.Arg = -1 }}
	long := spoilt[impl.GNode]{impl.ErrMany, func(n *impl.GNode) { n.Expr = nots(17) }}
	longName := spoilt[impl.GNode]{impl.ErrMany, func(n *impl.GNode) { n.Name = "abcdefghi" }}
	noName := spoilt[impl.GNode]{impl.ErrText, func(n *impl.GNode) { n.Name = "" }}
	for _, c := range []struct {
		kind   int64
		faults []spoilt[impl.GNode]
	}{
		{impl.GSet, []spoilt[impl.GNode]{withName, step, below, long}},
		{impl.GTask, []spoilt[impl.GNode]{withArg, withExpr, step, longName}},
		{impl.GTask, []spoilt[impl.GNode]{withArg, withExpr, step, noName}},
		{impl.GWait, []spoilt[impl.GNode]{withName, withExpr, step, below}},
		{impl.GTimer, []spoilt[impl.GNode]{withName, withExpr, step, below}},
		{impl.GOpen, []spoilt[impl.GNode]{withName, withExpr, step, below}},
		{impl.GMerge, []spoilt[impl.GNode]{withName, withArg, withExpr, step}},
	} {
		askSeveral(nodeOf(c.kind), c.faults, func(n impl.GNode, want int64) {
			askNodeFault(t, "several faults of the kind "+strconv.FormatInt(c.kind, 10), n, want)
		})
	}
	askSeveral(flow(1, 2), []spoilt[impl.Flow]{
		{impl.ErrRange, func(f *impl.Flow) { f.To = 4 }},
		{impl.ErrMany, func(f *impl.Flow) { f.Cond = nots(17) }},
		{impl.ErrForm, func(f *impl.Flow) { f.From = 0 }},
	}, func(f impl.Flow, want int64) {
		for at, g := range flowsWith(f)[1:] {
			askGraphFaults(t, []graphCase{{"several faults of the flow behind " + strconv.Itoa(at), g, want}})
		}
	})
}

// Node by node, then flow by flow: the first element that has a fault tells the code, whatever those behind it have.
func TestGraphFaultOfSeveralInTwo(t *testing.T) {
	type nodeCase struct {
		n    impl.GNode
		want int64
	}
	nodes := []nodeCase{
		{impl.GNode{}, impl.ErrForm}, {impl.GNode{Kind: 14}, impl.ErrForm}, {impl.GNode{Kind: impl.GJoin, Arg: 1}, impl.ErrForm},
		{impl.GNode{Kind: impl.GJoin, Step: 24}, impl.ErrRange}, {impl.GNode{Kind: impl.GOpen, Arg: 100}, impl.ErrRange},
		{impl.GNode{Kind: impl.GSet, Expr: nots(17)}, impl.ErrMany},
		{impl.GNode{Kind: impl.GTask, Name: "abcdefghi"}, impl.ErrMany}, {impl.GNode{Kind: impl.GTask}, impl.ErrText},
	}
	for _, step := range []int64{1, 23, 24, -1} {
		nodes = append(nodes, nodeCase{stepAt(impl.GStart, step), impl.ErrForm}, nodeCase{stepAt(impl.GEnd, step), impl.ErrForm})
	}
	flows := []struct {
		f    impl.Flow
		want int64
	}{
		{flow(-1, 2), impl.ErrRange}, {flow(4, 2), impl.ErrRange}, {flow(1, -1), impl.ErrRange}, {flow(1, 4), impl.ErrRange},
		{impl.Flow{From: 1, To: 2, Cond: nots(17)}, impl.ErrMany},
		{flow(0, 2), impl.ErrForm},
	}
	for _, a := range nodes {
		for _, b := range nodes {
			g := lineOf(4)
			g.Nodes[1], g.Nodes[2] = a.n, b.n
			askGraphFaults(t, []graphCase{{"two nodes", g, a.want}})
			g.Nodes[0], g.Nodes[1], g.Nodes[2], g.Nodes[3] = nodeOf(1), nodeOf(3), a.n, b.n
			askGraphFaults(t, []graphCase{{"the last two nodes", g, a.want}})
		}
		for _, right := range []impl.GNode{nodeOf(impl.GStart), nodeOf(impl.GEnd), stepAt(impl.GTask, 23)} {
			ahead, behind := lineOf(4), lineOf(4)
			ahead.Nodes[1], ahead.Nodes[2] = right, a.n
			behind.Nodes[1], behind.Nodes[2] = a.n, right
			askGraphFaults(t, []graphCase{{"a node behind one without a fault", ahead, a.want}, {"a node ahead of one without a fault", behind, a.want}})
		}
		for _, b := range flows {
			for _, at := range []int{0, 3} {
				g := flowsWith(b.f)[1]
				g.Nodes[at] = a.n
				askGraphFaults(t, []graphCase{{"a node and a flow", g, a.want}})
			}
		}
	}
	for _, a := range flows {
		for _, b := range flows {
			g := flowsWith(a.f)[1]
			g.Flows[2] = b.f
			askGraphFaults(t, []graphCase{{"two flows", g, a.want}})
		}
	}
}

// spoilGraph makes one thing of g another one, right or wrong.
func spoilGraph(r *rand.Rand, g impl.Graph) impl.Graph {
	g = cloneGraph(g)
	some := []int64{-1, 0, 1, 9, 23, 24, 99, 100, math.MaxInt64, math.MinInt64}
	exprs := [][]impl.Node{nil, {}, yes(), num(1), nots(16), nots(17), spoilExpr(r, yes())}
	if len(g.Nodes) == 0 || len(g.Flows) == 0 {
		return lineOf(r.Intn(4))
	}
	n, f := &g.Nodes[r.Intn(len(g.Nodes))], &g.Flows[r.Intn(len(g.Flows))]
	switch r.Intn(14) {
	case 0:
		n.Kind = int64(r.Intn(15))
	case 1:
		n.Step = some[r.Intn(len(some))]
	case 2:
		n.Name = []string{"", "A", "abcdefghi", "z"}[r.Intn(4)]
	case 3:
		n.Arg = some[r.Intn(len(some))]
	case 4:
		n.Expr = exprs[r.Intn(len(exprs))]
	case 5:
		f.From = int64(r.Intn(len(g.Nodes)+2)) - 1
	case 6, 7:
		f.To = int64(r.Intn(len(g.Nodes)+2)) - 1
	case 8, 9:
		f.Cond = exprs[r.Intn(len(exprs))]
	case 10:
		g.Flows = append(g.Flows, *f)
	case 11:
		at := r.Intn(len(g.Flows))
		g.Flows = slices.Insert(g.Flows, at, g.Flows[at])
	case 12:
		g.Flows = g.Flows[r.Intn(len(g.Flows)):]
	case 13:
		g.Nodes = append(g.Nodes, nodeOf(1+int64(r.Intn(13))))
	}
	return g
}

func randomGraph(r *rand.Rand) impl.Graph {
	g := slowGraphOf(randomProc(r, 1+r.Intn(24)))
	for range r.Intn(4) {
		g = spoilGraph(r, g)
	}
	return g
}

func TestGraphFaultOfSpoiltGraphs(t *testing.T) {
	r := rand.New(rand.NewSource(43))
	count := map[int64]int{}
	for range 20000 {
		g := randomGraph(r)
		got, want := impl.GraphFault(g), slowGraphFault(g)
		count[got]++
		if got != want {
			t.Fatalf("GraphFault(%v) = %d, want %d", g, got, want)
		}
		askFlows(t, g)
		if text, slow := impl.GraphText(g), slowGraphText(g); text != slow {
			t.Fatalf("GraphText(%v) = %v, want %v", g, text, slow)
		}
	}
	for _, code := range []int64{impl.OK, impl.ErrForm, impl.ErrMany, impl.ErrRange, impl.ErrText} {
		if count[code] < 20 {
			t.Error(count)
		}
	}
}

// askFlows asks FlowsFrom and FlowsTo at each node of g and around them: each flow is from one node and to one.
func askFlows(t *testing.T, g impl.Graph) {
	t.Helper()
	fault := slowGraphFault(g)
	for node := int64(-2); node <= int64(len(g.Nodes))+1; node++ {
		var from, to impl.IntsResult
		switch {
		case fault != 0:
			from.Code, to.Code = fault, fault
		case node < 0 || node >= int64(len(g.Nodes)):
			from.Code, to.Code = impl.ErrRange, impl.ErrRange
		default:
			for i, f := range g.Flows {
				if f.From == node {
					from.List = append(from.List, int64(i))
				}
				if f.To == node {
					to.List = append(to.List, int64(i))
				}
			}
		}
		if got := impl.FlowsFrom(g, node); got.Code != from.Code || !slices.Equal(got.List, from.List) {
			t.Fatalf("FlowsFrom(%v, %d) = %v, want %v", g, node, got, from)
		}
		if got := impl.FlowsTo(g, node); got.Code != to.Code || !slices.Equal(got.List, to.List) {
			t.Fatalf("FlowsTo(%v, %d) = %v, want %v", g, node, got, to)
		}
	}
}

// slowGraphText tells it once more: each flow is put behind the line of its From.
func slowGraphText(g impl.Graph) impl.TextResult {
	if fault := slowGraphFault(g); fault != 0 {
		return impl.TextResult{Code: fault}
	}
	var lines []string
	for at, n := range g.Nodes {
		lines = append(lines, strconv.Itoa(at)+": "+nodeWords[n.Kind-1])
	}
	for _, f := range g.Flows {
		lines[f.From] += " " + strconv.FormatInt(f.To, 10)
	}
	return impl.TextResult{Text: strings.Join(lines, "\n") + "\n"}
}

func TestFlowsFromAndTo(t *testing.T) {
	g := impl.Graph{Nodes: lineOf(5).Nodes, Flows: []impl.Flow{flow(0, 2), flow(0, 1), {From: 0, To: 2, Cond: yes()}, flow(1, 1), flow(2, 0), flow(2, 4), flow(2, 4)}}
	froms := [][]int64{{0, 1, 2}, {3}, {4, 5, 6}, {}, {}}
	tos := [][]int64{{4}, {1, 3}, {0, 2}, {}, {5, 6}}
	for node := range int64(5) {
		if got := impl.FlowsFrom(g, node); got.Code != 0 || !slices.Equal(got.List, froms[node]) {
			t.Errorf("FlowsFrom(.., %d) = %v, want %v", node, got, froms[node])
		}
		if got := impl.FlowsTo(g, node); got.Code != 0 || !slices.Equal(got.List, tos[node]) {
			t.Errorf("FlowsTo(.., %d) = %v, want %v", node, got, tos[node])
		}
	}
	for _, node := range []int64{math.MinInt64, -1 << 32, -5, -1, 5, 6, 7, 59, 60, 1 << 32, math.MaxInt64} {
		for _, some := range []impl.Graph{g, {Nodes: g.Nodes}} {
			if from, to := impl.FlowsFrom(some, node), impl.FlowsTo(some, node); from.Code != impl.ErrRange || to.Code != impl.ErrRange || len(from.List)+len(to.List) != 0 {
				t.Errorf("the flows at %d: %v, %v, want ErrRange", node, from, to)
			}
		}
	}
	for _, some := range []impl.Graph{lineOf(2), lineOf(60), {Nodes: lineOf(2).Nodes}} {
		askFlows(t, some)
	}
}

func TestGraphText(t *testing.T) {
	var all impl.Graph
	want := ""
	for kind := range int64(13) {
		all.Nodes = append(all.Nodes, nodeOf(kind+1))
		want += strconv.FormatInt(kind, 10) + ": " + nodeWords[kind] + "\n"
	}
	if got := impl.GraphText(all); got != (impl.TextResult{Text: want}) {
		t.Errorf("GraphText of each kind = %v", got)
	}
	long := "0: start 1\n"
	for at := 1; at < 59; at++ {
		long += strconv.Itoa(at) + ": task " + strconv.Itoa(at+1) + "\n"
	}
	twice := lineOf(3)
	twice.Flows = []impl.Flow{flow(0, 2), flow(0, 1), flow(0, 2), {From: 0, To: 0, Cond: yes()}, flow(2, 1)}
	for _, c := range []struct {
		why  string
		g    impl.Graph
		want string
	}{
		{"2 nodes", lineOf(2), "0: start 1\n1: end\n"},
		{"2 nodes without flows", impl.Graph{Nodes: lineOf(2).Nodes}, "0: start\n1: end\n"},
		{"60 nodes", lineOf(60), long + "59: end\n"},
		{"flows twice, and in no order", twice, "0: start 2 1 2 0\n1: task\n2: end 1\n"},
		{"a process", impl.GraphOf(orderProc()).Graph, "0: start 1\n1: task 2\n2: split 3 4 5\n3: wait 9\n4: timer 9\n5: fork 6 7\n6: set 8\n7: task 8\n8: meet 9\n9: join 10\n10: open 11 13\n11: wait 12\n12: close 14\n13: set 14\n14: merge 15\n15: end\n"},
	} {
		if got := impl.GraphText(c.g); got != (impl.TextResult{Text: c.want}) {
			t.Errorf("GraphText of %s = %v, want %q", c.why, got, c.want)
		}
	}
}

func TestSameGraphs(t *testing.T) {
	e := pair(impl.ExprLess, variable(1), num(2))
	base := func() impl.Graph {
		g := lineOf(4)
		g.Nodes[1] = impl.GNode{Kind: impl.GSet, Step: 3, Name: "a", Arg: 1, Expr: slices.Clone(e)}
		g.Flows[1].Cond = slices.Clone(e)
		return g
	}
	if !impl.SameGraphs(base(), base()) {
		t.Error("the same are not the same")
	}
	changes := map[string]func(n *impl.GNode, f *impl.Flow){
		"Kind":         func(n *impl.GNode, f *impl.Flow) { n.Kind = impl.GWait },
		"Step":         func(n *impl.GNode, f *impl.Flow) { n.Step = 4 },
		"Name":         func(n *impl.GNode, f *impl.Flow) { n.Name = "b" },
		"no Name":      func(n *impl.GNode, f *impl.Flow) { n.Name = "" },
		"a long Name":  func(n *impl.GNode, f *impl.Flow) { n.Name = "aa" },
		"Arg":          func(n *impl.GNode, f *impl.Flow) { n.Arg = 2 },
		"no Expr":      func(n *impl.GNode, f *impl.Flow) { n.Expr = nil },
		"a short Expr": func(n *impl.GNode, f *impl.Flow) { n.Expr = n.Expr[:2] },
		"a long Expr":  func(n *impl.GNode, f *impl.Flow) { n.Expr = append(n.Expr, impl.Node{}) },
		"From":         func(n *impl.GNode, f *impl.Flow) { f.From = 0 },
		"To":           func(n *impl.GNode, f *impl.Flow) { f.To = 3 },
		"no Cond":      func(n *impl.GNode, f *impl.Flow) { f.Cond = nil },
		"a short Cond": func(n *impl.GNode, f *impl.Flow) { f.Cond = f.Cond[:2] },
		"a long Cond":  func(n *impl.GNode, f *impl.Flow) { f.Cond = append(f.Cond, impl.Node{}) },
	}
	for at := range e {
		place := strconv.Itoa(at)
		changes["the Kind in Expr at "+place] = func(n *impl.GNode, f *impl.Flow) { n.Expr[at].Kind++ }
		changes["the Value in Expr at "+place] = func(n *impl.GNode, f *impl.Flow) { n.Expr[at].Value++ }
		changes["the Left in Expr at "+place] = func(n *impl.GNode, f *impl.Flow) { n.Expr[at].Left++ }
		changes["the Right in Expr at "+place] = func(n *impl.GNode, f *impl.Flow) { n.Expr[at].Right++ }
		changes["the Kind in Cond at "+place] = func(n *impl.GNode, f *impl.Flow) { f.Cond[at].Kind++ }
		changes["the Value in Cond at "+place] = func(n *impl.GNode, f *impl.Flow) { f.Cond[at].Value++ }
		changes["the Left in Cond at "+place] = func(n *impl.GNode, f *impl.Flow) { f.Cond[at].Left++ }
		changes["the Right in Cond at "+place] = func(n *impl.GNode, f *impl.Flow) { f.Cond[at].Right++ }
	}
	for why, change := range changes {
		other := base()
		change(&other.Nodes[1], &other.Flows[1])
		if impl.SameGraphs(base(), other) || impl.SameGraphs(other, base()) {
			t.Errorf("the same in spite of %s", why)
		}
		if !impl.SameGraphs(other, cloneGraph(other)) {
			t.Errorf("not the same as itself: %s", why)
		}
	}
	b := base()
	for _, other := range []impl.Graph{
		{}, {Nodes: b.Nodes}, {Flows: b.Flows}, {Nodes: b.Nodes[:3], Flows: b.Flows}, {Nodes: b.Nodes[1:], Flows: b.Flows}, {Nodes: b.Nodes, Flows: b.Flows[:2]}, {Nodes: b.Nodes, Flows: b.Flows[1:]},
		{Nodes: append(base().Nodes, impl.GNode{}), Flows: b.Flows}, {Nodes: b.Nodes, Flows: append(base().Flows, impl.Flow{})}, {Nodes: b.Nodes, Flows: []impl.Flow{b.Flows[1], b.Flows[0], b.Flows[2]}},
	} {
		if impl.SameGraphs(base(), other) || impl.SameGraphs(other, base()) {
			t.Errorf("%v is the same", other)
		}
	}
	// Nothing is asked: what has a fault is the same as what is the same; nil is the same as no element.
	none := impl.Graph{Nodes: []impl.GNode{}, Flows: []impl.Flow{}}
	wrong := impl.Graph{Nodes: make([]impl.GNode, 100), Flows: make([]impl.Flow, 100)}
	bare := cloneGraph(wrong)
	bare.Nodes[0].Expr, bare.Flows[0].Cond = []impl.Node{}, []impl.Node{}
	if !impl.SameGraphs(impl.Graph{}, impl.Graph{}) || !impl.SameGraphs(impl.Graph{}, none) || !impl.SameGraphs(none, impl.Graph{}) || !impl.SameGraphs(wrong, bare) || !impl.SameGraphs(bare, wrong) || impl.SameGraphs(wrong, none) {
		t.Error("of what has a fault")
	}
}

// askGraph asks all of g, and of the graph of p, that the chapter has functions for.
func askGraph(p []impl.Step, g, other impl.Graph) []any {
	answers := []any{impl.GraphOf(p), impl.GraphFault(g), impl.SameGraphs(g, g), impl.SameGraphs(g, other), impl.SameGraphs(other, g), impl.GraphText(g)}
	for node := int64(-2); node <= int64(len(g.Nodes)+1); node++ {
		answers = append(answers, impl.FlowsFrom(g, node), impl.FlowsTo(g, node))
	}
	for _, node := range []int64{math.MaxInt64, math.MinInt64} {
		answers = append(answers, impl.FlowsFrom(g, node), impl.FlowsTo(g, node))
	}
	return answers
}

// wildNumber is a small number, or any.
func wildNumber(r *rand.Rand) int64 {
	if r.Intn(2) == 0 {
		return int64(r.Intn(15)) - 1
	}
	return int64(r.Uint64())
}

func wildExpr(r *rand.Rand) []impl.Node {
	return []impl.Node{{Kind: wildNumber(r), Value: wildNumber(r), Left: wildNumber(r), Right: wildNumber(r)}}
}

// makeWild puts a node and a flow of any numbers into g.
func makeWild(r *rand.Rand, g impl.Graph) {
	if len(g.Nodes) > 0 && len(g.Flows) > 0 {
		g.Nodes[r.Intn(len(g.Nodes))] = impl.GNode{Kind: wildNumber(r), Step: wildNumber(r), Arg: wildNumber(r), Expr: wildExpr(r)}
		g.Flows[r.Intn(len(g.Flows))] = impl.Flow{From: wildNumber(r), To: wildNumber(r), Cond: wildExpr(r)}
	}
}

// Promise 1: every function answers at every argument and changes none, with nothing beside a code.
func TestGraphsAnswerAtEachArgument(t *testing.T) {
	r := rand.New(rand.NewSource(44))
	for i := range 5000 {
		p := spoilProc(r, randomProc(r, 1+r.Intn(12)))
		g := randomGraph(r)
		if i%4 == 0 {
			makeWild(r, g)
		}
		other := spoilGraph(r, g)
		beforeProc, before, beforeOther := cloneProc(p), cloneGraph(g), cloneGraph(other)
		for _, answer := range askGraph(p, g, other) {
			switch a := answer.(type) {
			case impl.GraphResult:
				if (a.Code != 0) != (len(a.Graph.Nodes) == 0) || (a.Code != 0) != (len(a.Graph.Flows) == 0) {
					t.Fatalf("of %v: %v", p, a)
				}
			case impl.TextResult:
				if (a.Code != 0) != (a.Text == "") {
					t.Fatalf("of %v: %v", g, a)
				}
			case impl.IntsResult:
				if a.Code != 0 && len(a.List) != 0 {
					t.Fatalf("of %v: %v", g, a)
				}
			}
		}
		if !reflect.DeepEqual(p, beforeProc) || !reflect.DeepEqual(g, before) || !reflect.DeepEqual(other, beforeOther) {
			t.Fatalf("changed: %v, %v, %v, before %v, %v, %v", p, g, other, beforeProc, before, beforeOther)
		}
	}
}

// sharedProc has steps whose Conds, and others whose Exprs, are one list, each with room behind it.
func sharedProc() []impl.Step {
	cond := append(make([]impl.Node, 0, 40), yes()...)
	e := append(make([]impl.Node, 0, 40), num(1)...)
	task := impl.Step{Kind: impl.StepTask, Name: strings.Clone("abcdefgh")}
	return append(make([]impl.Step, 0, 40), xorAt(-1), ifSo(cond, setAt(0, 1, e)), ifSo(cond, setAt(0, 2, e)), ifSo(cond, task), task)
}

// askOwnLists asks that no two lists share memory: all of the room of each is overwritten by its number.
func askOwnLists(t *testing.T, why string, lists [][]impl.Node) {
	t.Helper()
	for i, list := range lists {
		for j := range list[:cap(list)] {
			list[:cap(list)][j] = impl.Node{Kind: int64(100 + i)}
		}
	}
	for i, list := range lists {
		for _, n := range list[:cap(list)] {
			if n.Kind != int64(100+i) {
				t.Errorf("%s: the list %d is shared", why, i)
			}
		}
	}
}

func listsOfGraph(g impl.Graph) [][]impl.Node {
	var lists [][]impl.Node
	for _, n := range g.Nodes {
		lists = append(lists, n.Expr)
	}
	for _, f := range g.Flows {
		lists = append(lists, f.Cond)
	}
	return lists
}

// askRoomBehindGraph asks that nothing was written behind the nodes and flows of g.
func askRoomBehindGraph(t *testing.T, g impl.Graph) {
	t.Helper()
	for _, n := range g.Nodes[len(g.Nodes):cap(g.Nodes)] {
		if !reflect.DeepEqual(n, impl.GNode{}) {
			t.Errorf("behind the nodes stands %v", n)
		}
	}
	for _, f := range g.Flows[len(g.Flows):cap(g.Flows)] {
		if !reflect.DeepEqual(f, impl.Flow{}) {
			t.Errorf("behind the flows stands %v", f)
		}
	}
}

// Promise 1: a graph is new memory, no two lists of it share any, and room behind an argument is not written to.
func TestGraphOfIsNewMemory(t *testing.T) {
	p := sharedProc()
	want := cloneGraph(slowGraphOf(p))
	first, second := impl.GraphOf(p).Graph, impl.GraphOf(p).Graph
	if !impl.SameGraphs(first, want) {
		t.Fatal(first)
	}
	for _, n := range first.Nodes {
		if sharesBytes(n.Name, p[3].Name) {
			t.Errorf("the Name %q is shared", n.Name)
		}
	}
	askOwnLists(t, "GraphOf", listsOfGraph(first))
	clear(first.Nodes[:cap(first.Nodes)])
	clear(first.Flows[:cap(first.Flows)])
	if !impl.SameGraphs(second, want) || !impl.SameGraphs(impl.GraphOf(p).Graph, want) || !impl.SameProcs(p, sharedProc()) {
		t.Error("the graph is shared")
	}
	askRoomBehind(t, p)
}

// Promise 1: what is told of a graph is new memory, and room behind the graph is not written to.
func TestGraphAnswersAreNewMemory(t *testing.T) {
	g := cloneGraph(slowGraphOf(sharedProc()))
	g.Nodes, g.Flows = append(make([]impl.GNode, 0, 90), g.Nodes...), append(make([]impl.Flow, 0, 90), g.Flows...)
	from, to := impl.FlowsFrom(g, 1).List, impl.FlowsTo(g, 6).List
	if !slices.Equal(from, []int64{1, 2, 3, 4}) || !slices.Equal(to, []int64{5, 6, 7, 8}) {
		t.Fatal(from, to)
	}
	clear(from[:cap(from)])
	clear(to[:cap(to)])
	if from, to = impl.FlowsFrom(g, 1).List, impl.FlowsTo(g, 6).List; !slices.Equal(from, []int64{1, 2, 3, 4}) || !slices.Equal(to, []int64{5, 6, 7, 8}) {
		t.Errorf("two answers share a list: %v, %v", from, to)
	}
	askGraph(nil, g, g)
	askRoomBehindGraph(t, g)
}

// procsAndGraphs are as many of both, with and without faults.
func procsAndGraphs(r *rand.Rand) ([][]impl.Step, []impl.Graph) {
	procs := [][]impl.Step{nil, seqOf(24), seqOf(25), nestOf(7), nestOf(8), orderProc(), fullGuards(), sharedProc()}
	graphs := []impl.Graph{{}, lineOf(1), lineOf(2), lineOf(24), lineOf(60), lineOf(61)}
	for len(procs) < 120 {
		procs = append(procs, randomProc(r, 1+r.Intn(24)), spoilProc(r, randomProc(r, 8)))
	}
	for len(graphs) < len(procs) {
		graphs = append(graphs, randomGraph(r))
	}
	return procs, graphs
}

// Promise 1: an answer hangs on the arguments alone, not on what was asked ahead of it, nor on the order in which flows were kept.
func TestGraphsHangOnArgumentsAlone(t *testing.T) {
	r := rand.New(rand.NewSource(45))
	procs, graphs := procsAndGraphs(r)
	var first [][]any
	for i, p := range procs {
		first = append(first, askGraph(p, graphs[i], graphs[0]))
	}
	for i := len(procs) - 1; i >= 0; i-- {
		for range 5 {
			// A clone lies elsewhere: no answer hangs on an address or a capacity.
			if got := askGraph(cloneProc(procs[i]), cloneGraph(graphs[i]), graphs[0]); !reflect.DeepEqual(got, first[i]) {
				t.Errorf("%v, and ahead of that %v", got, first[i])
			}
		}
		// Nor on whether no element is nil.
		bare := cloneProc(procs[i])
		for at := range bare {
			bare[at].Cond, bare[at].Expr = append([]impl.Node{}, bare[at].Cond...), append([]impl.Node{}, bare[at].Expr...)
		}
		if a, b := impl.GraphOf(bare), impl.GraphOf(procs[i]); a.Code != b.Code || !impl.SameGraphs(a.Graph, b.Graph) {
			t.Errorf("%v, and of nil %v", a, b)
		}
	}
}
