package tests

import (
	"math/rand"
	"reflect"
	"regexp"
	"slices"
	"strconv"
	"strings"
	"testing"

	"loop.example/g00343/impl"
)

var stepTags = []string{"seq", "task", "xor", "and", "wait", "timer", "set", "guard"}

func attr(name, value string) impl.Attr {
	return impl.Attr{Name: name, Value: value}
}

func sameProcResults(a, b impl.ProcResult) bool {
	return a.Code == b.Code && impl.SameProcs(a.Proc, b.Proc)
}

func TestTagFault(t *testing.T) {
	for _, tag := range stepTags {
		if got := impl.TagFault(tag); got != 0 {
			t.Errorf("TagFault(%q) = %d, want 0", tag, got)
		}
	}
	for _, tag := range []string{"", " ", "s", "se", "seqs", "SEQ", "Seq", " seq", "seq ", "seq\x00", "tasks", "tas", "or", "xorr", "wai", "time", "timers", "sets", "guards", "if", "name", "msg", "ticks", "var", "to", "a", "abcdefghi", "1", "\xff", strings.Repeat("seq", 1000)} {
		if got := impl.TagFault(tag); got != impl.ErrNone {
			t.Errorf("TagFault(%q) = %d, want ErrNone", tag, got)
		}
	}
}

func TestReadProc(t *testing.T) {
	v0is2 := pair(impl.ExprSame, variable(0), num(2))
	less := pair(impl.ExprLess, variable(1), variable(2))
	both := pair(impl.ExprAnd, v0is2, less)
	cases := []struct {
		text string
		want []impl.Step
	}{
		{`<seq><task name="a"/><timer ticks="3"/></seq>`, proc(seqAt(-1), taskAt(0), timerAt(0, 3))},
		{`<task name="a"/>`, proc(taskAt(-1))},
		{`<task name="a"></task>`, proc(taskAt(-1))},
		{`<task name="&#97;"/>`, proc(taskAt(-1))},
		{"\n<seq >\n  <!-- first > --><task\nname=\"a\" />\n</seq>\n", proc(seqAt(-1), taskAt(0))},
		{`<wait msg="0"/>`, proc(waitAt(-1, 0))}, {`<wait msg="9"/>`, proc(waitAt(-1, 9))},
		{`<timer ticks="1"/>`, proc(timerAt(-1, 1))}, {`<timer ticks="10"/>`, proc(timerAt(-1, 10))}, {`<timer ticks="99"/>`, proc(timerAt(-1, 99))},
		{`<set var="0" to="v3"/>`, proc(setAt(-1, 0, variable(3)))},
		{`<set to="(v0+2)" var="3"/>`, proc(setAt(-1, 3, pair(impl.ExprAdd, variable(0), num(2))))},
		{`<and><task name="a"/><wait msg="1"/></and>`, proc(andAt(-1), taskAt(0), waitAt(0, 1))},
		{`<guard ticks="99"><task name="a"/><wait msg="1"/></guard>`, proc(guardAt(-1, 99), taskAt(0), waitAt(0, 1))},
		{`<xor><task if="(v0=2)" name="a"/><task name="a"/></xor>`, proc(xorAt(-1), ifSo(v0is2, taskAt(0)), taskAt(0))},
		{`<xor><task name="a" if="(v0=2)"/><task name="a"/></xor>`, proc(xorAt(-1), ifSo(v0is2, taskAt(0)), taskAt(0))},
		{`<xor><seq if="(v1&lt;v2)"><task name="a"/></seq><set to="1" if="((v0=2)&amp;(v1&lt;v2))" var="1"/><guard if="!(v0=2)" ticks="5"><task name="a"/><task name="a"/></guard><task name="a"/></xor>`,
			proc(xorAt(-1), ifSo(less, seqAt(0)), taskAt(1), ifSo(both, setAt(0, 1, num(1))), ifSo(not(v0is2), guardAt(0, 5)), taskAt(4), taskAt(4), taskAt(0))},
	}
	for _, c := range cases {
		if got := impl.ReadProc(c.text); !sameProcResults(got, impl.ProcResult{Proc: c.want}) {
			t.Errorf("ReadProc(%q) = %v, want %v", c.text, got, c.want)
		}
	}
}

func TestReadProcUpToItsBounds(t *testing.T) {
	nested := func(n int) string {
		return strings.Repeat("<seq>", n-1) + `<task name="a"/>` + strings.Repeat("</seq>", n-1)
	}
	flat := func(n int) string {
		return "<seq>" + strings.Repeat(`<task name="a"/>`, n-1) + "</seq>"
	}
	cases := []struct {
		why  string
		text string
		want impl.ProcResult
	}{
		{"7 from one up", nested(7), impl.ProcResult{Proc: nestOf(7)}},
		{"8 from one up", nested(8), impl.ProcResult{Code: impl.ErrMany}},
		{"9 from one up, no tree", nested(9), impl.ProcResult{Code: impl.ErrMany}},
		{"24 steps", flat(24), impl.ProcResult{Proc: seqOf(24)}},
		{"25 steps", flat(25), impl.ProcResult{Code: impl.ErrMany}},
		{"40 steps", flat(40), impl.ProcResult{Code: impl.ErrMany}},
		{"41 steps, no tree", flat(41), impl.ProcResult{Code: impl.ErrMany}},
		{"1500 bytes", flat(24) + strings.Repeat(" ", 1500-len(flat(24))), impl.ProcResult{Proc: seqOf(24)}},
		{"1501 bytes", flat(24) + strings.Repeat(" ", 1501-len(flat(24))), impl.ProcResult{Code: impl.ErrMany}},
		{"40 steps that are none", strings.ReplaceAll(flat(40), "task", "tusk"), impl.ProcResult{Code: impl.ErrNone}},
		{"an expression of 40 bytes", `<set var="1" to="((v0+1234)+((v1+2345)+((v2+34)+(v3+1))))"/>`, impl.ProcResult{Proc: proc(setAt(-1, 1, impl.ParseExpr("((v0+1234)+((v1+2345)+((v2+34)+(v3+1))))").Expr))}},
		{"an expression of 41 bytes", `<set var="1" to="((v0+1234)+((v1+2345)+((v2+34)+(v3+12))))"/>`, impl.ProcResult{Code: impl.ErrMany}},
	}
	for _, c := range cases {
		if got := impl.ReadProc(c.text); !sameProcResults(got, c.want) {
			t.Errorf("ReadProc of %s = %v, want %v", c.why, got, c.want)
		}
	}
}

func TestReadProcWrong(t *testing.T) {
	cases := []struct {
		text string
		want int64
	}{
		// The code of ParseTree.
		{"", impl.ErrForm}, {" \n", impl.ErrForm}, {"x", impl.ErrText}, {"<seq", impl.ErrText}, {"<seq>", impl.ErrForm}, {"</seq>", impl.ErrForm}, {"<seq></xor>", impl.ErrForm}, {`<task name="a"/><task name="a"/>`, impl.ErrForm},
		{`<task name='a'/>`, impl.ErrText}, {`<task name="a" name="b"/>`, impl.ErrTaken}, {`<Task name="a"/>`, impl.ErrText}, {`<tasktasks/>`, impl.ErrMany}, {`<?seq?>`, impl.ErrText}, {`<task name="a">b</task>`, impl.ErrText}, {`<task name="&x;"/>`, impl.ErrText},
		// The TagFault.
		{`<a/>`, impl.ErrNone}, {`<tasks name="a"/>`, impl.ErrNone}, {`<seq><b/></seq>`, impl.ErrNone}, {`<process><task name="a"/></process>`, impl.ErrNone},
		// Attrs that are not of its kind, or not there.
		{`<task/>`, impl.ErrText}, {`<wait/>`, impl.ErrText}, {`<timer/>`, impl.ErrText}, {`<guard><task name="a"/><task name="a"/></guard>`, impl.ErrText}, {`<set/>`, impl.ErrText}, {`<set var="1"/>`, impl.ErrText}, {`<set to="1"/>`, impl.ErrText},
		{`<task if="(0&lt;1)"/>`, impl.ErrText}, {`<set var="1" if="(0&lt;1)"/>`, impl.ErrText},
		{`<task name="a" x="1"/>`, impl.ErrText}, {`<task name="a" msg="1"/>`, impl.ErrText}, {`<seq name="a"><task name="a"/></seq>`, impl.ErrText}, {`<xor ticks="1"/>`, impl.ErrText}, {`<and to="1"/>`, impl.ErrText}, {`<seq var="1"/>`, impl.ErrText},
		{`<wait ticks="1"/>`, impl.ErrText}, {`<timer msg="1"/>`, impl.ErrText}, {`<wait arg="1"/>`, impl.ErrText}, {`<wait msg="1" ticks="1"/>`, impl.ErrText}, {`<timer ticks="1" to="1"/>`, impl.ErrText}, {`<set var="1" to="1" name="a"/>`, impl.ErrText}, {`<guard ticks="1" var="1"/>`, impl.ErrText},
		// The ProcFault.
		{`<task name=""/>`, impl.ErrText}, {`<task name="A"/>`, impl.ErrText}, {`<task name="abcdefghi"/>`, impl.ErrMany},
		{`<wait msg="10"/>`, impl.ErrRange}, {`<wait msg="99"/>`, impl.ErrRange}, {`<timer ticks="0"/>`, impl.ErrRange}, {`<guard ticks="0"/>`, impl.ErrRange}, {`<set var="4" to="1"/>`, impl.ErrRange},
		{`<seq/>`, impl.ErrForm}, {`<seq></seq>`, impl.ErrForm}, {`<xor/>`, impl.ErrForm}, {`<and><task name="a"/></and>`, impl.ErrForm}, {`<guard ticks="1"><task name="a"/></guard>`, impl.ErrForm}, {`<task name="a"><task name="a"/></task>`, impl.ErrForm},
		{`<task name="a" if="(0&lt;1)"/>`, impl.ErrForm}, {`<xor><task name="a"/><task name="a"/></xor>`, impl.ErrForm}, {`<xor><task name="a" if="(0&lt;1)"/><task name="a" if="(0&lt;1)"/></xor>`, impl.ErrForm},
		{`<set var="1" to="(0&lt;1)"/>`, impl.ErrType}, {`<set var="1" to="!1"/>`, impl.ErrType}, {`<xor><task name="a" if="1"/><task name="a"/></xor>`, impl.ErrType},
	}
	for _, c := range cases {
		if got := impl.ReadProc(c.text); got.Code != c.want || len(got.Proc) != 0 {
			t.Errorf("ReadProc(%q) = %v, want the code %d", c.text, got, c.want)
		}
	}
}

func TestReadProcOfNumbers(t *testing.T) {
	texts := []string{"", " ", "+1", "-1", "-0", " 1", "1 ", "1 0", "00", "01", "09", "001", "010", "100", "101", "999", "1000", "a", "1a", "0x1", "1.0", "1e1", "1_0", "v1", "٣", "&#49;&#48;&#48;", "99999999999999999999"}
	marks := map[string]int64{`<wait msg="?"/>`: 9, `<timer ticks="?"/>`: 99, `<set to="1" var="?"/>`: 3, `<guard ticks="?"><task name="a"/><task name="a"/></guard>`: 99}
	for mark, most := range marks {
		for _, text := range texts {
			if got := impl.ReadProc(strings.Replace(mark, "?", text, 1)); got.Code != impl.ErrText || len(got.Proc) != 0 {
				t.Errorf("ReadProc of %q with %q = %v, want ErrText", mark, text, got)
			}
		}
		for number := range int64(100) {
			got := impl.ReadProc(strings.Replace(mark, "?", strconv.FormatInt(number, 10), 1))
			outside := number > most || number == 0 && most == 99
			if outside && (got.Code != impl.ErrRange || len(got.Proc) != 0) || !outside && (got.Code != 0 || got.Proc[0].Arg != number) {
				t.Errorf("ReadProc of %q with %d = %v", mark, number, got)
			}
		}
		if got := impl.ReadProc(strings.Replace(mark, "?", "&#50;", 1)); got.Code != 0 || got.Proc[0].Arg != 2 {
			t.Errorf("ReadProc of %q with an escaped 2 = %v", mark, got)
		}
	}
}

func TestReadProcOfExprs(t *testing.T) {
	for _, text := range []string{"", " ", "01", "10000", "v4", "v", "1+2", "(1+2", "(1)", " 1", "1 ", "( 1+2)", "(1 +2)", "x", "!", "(1=2)x", strings.Repeat("!", 16) + "7", strings.Repeat("!", 40)} {
		for _, mark := range []string{`<set var="1" to="?"/>`, `<xor><task name="a" if="?"/><task name="a"/></xor>`, `<task name="a" if="?"/>`, `<xor><seq if="?"><task name="a"/></seq><task name="a"/></xor>`} {
			if got := impl.ReadProc(strings.Replace(mark, "?", text, 1)); got.Code != impl.ErrText || len(got.Proc) != 0 {
				t.Errorf("ReadProc of %q with %q = %v, want ErrText", mark, text, got)
			}
		}
	}
}

func TestProcOf(t *testing.T) {
	elems := []impl.Elem{elem("guard", -1, attr("ticks", "7")), elem("task", 0, attr("name", "a")), elem("seq", 0), elem("wait", 2, attr("msg", "3"))}
	want := proc(guardAt(-1, 7), taskAt(0), seqAt(0), waitAt(2, 3))
	if got := impl.ProcOf(elems); !sameProcResults(got, impl.ProcResult{Proc: want}) {
		t.Errorf("ProcOf = %v, want %v", got, want)
	}
	for _, c := range []struct {
		why   string
		elems []impl.Elem
		want  int64
	}{
		{"nil", nil, impl.ErrMany},
		{"41 elements", fanOf(41), impl.ErrMany},
		{"9 from one up", chainOf(9), impl.ErrMany},
		{"a tag with a wrong byte", []impl.Elem{elem("Seq", -1)}, impl.ErrText},
		{"a tag that is too long", []impl.Elem{elem("abcdefghi", -1)}, impl.ErrMany},
		{"a Parent of the first one", []impl.Elem{elem("task", 0, attr("name", "a"))}, impl.ErrRange},
		{"an attr twice", []impl.Elem{elem("task", -1, attr("name", "a"), attr("name", "a"))}, impl.ErrTaken},
		{"7 attrs", []impl.Elem{elem("task", -1, attrsOf(7)...)}, impl.ErrMany},
		{"a Value of 41 bytes", []impl.Elem{elem("task", -1, attr("name", strings.Repeat("a", 41)))}, impl.ErrMany},
		{"a Value with a line feed", []impl.Elem{elem("task", -1, attr("name", "\n"))}, impl.ErrText},
		{"a Parent that is over", []impl.Elem{elem("seq", -1), elem("seq", 0), elem("task", 1, attr("name", "a")), elem("task", 0, attr("name", "a")), elem("task", 1, attr("name", "a"))}, impl.ErrForm},
	} {
		if got := impl.ProcOf(c.elems); got.Code != c.want || len(got.Proc) != 0 {
			t.Errorf("ProcOf of %s = %v, want the code %d", c.why, got, c.want)
		}
	}
}

// Each code is asked ahead of those behind it, of one element ahead of the next one, up to a "then".
func TestProcOfInOrder(t *testing.T) {
	noTag, noAttr := elem("a", 0), elem("task", 0)
	noNumber, noRange := elem("wait", 0, attr("msg", "x")), elem("wait", 0, attr("msg", "10"))
	noTree := elem("task", 7, attr("name", "a"))
	of := func(elems ...impl.Elem) []impl.Elem { return append([]impl.Elem{elem("seq", -1)}, elems...) }
	tasks := slices.Repeat([]impl.Elem{elem("task", 0, attr("name", "a"))}, 24)
	for _, c := range []struct {
		why   string
		elems []impl.Elem
		want  int64
	}{
		{"the tree ahead of a tag", of(noTag, noTree), impl.ErrRange},
		{"the tree ahead of an attr", of(noAttr, noTree), impl.ErrRange},
		{"a tag ahead of its attrs", of(elem("a", 0, attr("x", "1"))), impl.ErrNone},
		{"a tag ahead of the attrs of the next one", of(noTag, noAttr), impl.ErrNone},
		{"an attr ahead of the tag of the next one", of(noAttr, noTag), impl.ErrText},
		{"a number ahead of the tag of the next one", of(noNumber, noTag), impl.ErrText},
		{"a tag ahead of the number of the next one", of(noTag, noNumber), impl.ErrNone},
		{"a tag ahead of a process fault ahead of it", of(noRange, noTag), impl.ErrNone},
		{"an attr ahead of a process fault ahead of it", of(noRange, noAttr), impl.ErrText},
		{"a number ahead of a process fault ahead of it", of(noRange, noNumber), impl.ErrText},
		{"how many steps there are", of(tasks...), impl.ErrMany},
		{"a number ahead of how many steps there are", of(append(tasks, noNumber)...), impl.ErrText},
		{"a process fault", of(noRange), impl.ErrRange},
	} {
		if got := impl.ProcOf(c.elems); got.Code != c.want || len(got.Proc) != 0 {
			t.Errorf("%s: %v, want the code %d", c.why, got, c.want)
		}
	}
}

var shortNumber = regexp.MustCompile(`^(0|[1-9][0-9]?)$`)

// slowProcOf tells it once more: an element is held against a line with its kind and the names of its attrs.
func slowProcOf(elems []impl.Elem) impl.ProcResult {
	if fault := slowTreeFault(elems); fault != 0 {
		return impl.ProcResult{Code: fault}
	}
	wanted := []string{"", "", "name", "", "", "msg", "ticks", "to var", "ticks"}
	var p []impl.Step
	for _, e := range elems {
		s := impl.Step{Kind: int64(slices.Index(stepTags, e.Tag)) + 1, Parent: e.Parent}
		if s.Kind == 0 {
			return impl.ProcResult{Code: impl.ErrNone}
		}
		var names []string
		readable := true
		for _, a := range e.Attrs {
			if a.Name != "if" {
				names = append(names, a.Name)
			}
			switch a.Name {
			case "if":
				s.Cond, readable = impl.ParseExpr(a.Value).Expr, readable && isExprText(a.Value)
			case "to":
				s.Expr, readable = impl.ParseExpr(a.Value).Expr, readable && isExprText(a.Value)
			case "name":
				s.Name = a.Value
			default:
				s.Arg, _ = strconv.ParseInt(a.Value, 10, 64)
				readable = readable && shortNumber.MatchString(a.Value)
			}
		}
		slices.Sort(names)
		if !readable || strings.Join(names, " ") != wanted[s.Kind] {
			return impl.ProcResult{Code: impl.ErrText}
		}
		p = append(p, s)
	}
	if fault := slowProcFault(p); fault != 0 {
		return impl.ProcResult{Code: fault}
	}
	return impl.ProcResult{Proc: p}
}

// elemsOf are the elements that tell p, their attrs in any order.
func elemsOf(r *rand.Rand, p []impl.Step) []impl.Elem {
	var elems []impl.Elem
	for _, s := range p {
		arg := strconv.FormatInt(s.Arg, 10)
		var attrs []impl.Attr
		switch s.Kind {
		case impl.StepTask:
			attrs = append(attrs, attr("name", s.Name))
		case impl.StepWait:
			attrs = append(attrs, attr("msg", arg))
		case impl.StepTimer, impl.StepGuard:
			attrs = append(attrs, attr("ticks", arg))
		case impl.StepSet:
			attrs = append(attrs, attr("var", arg), attr("to", impl.ExprText(s.Expr).Text))
		}
		if len(s.Cond) > 0 {
			attrs = append(attrs, attr("if", impl.ExprText(s.Cond).Text))
		}
		r.Shuffle(len(attrs), func(i, j int) { attrs[i], attrs[j] = attrs[j], attrs[i] })
		elems = append(elems, elem(stepTags[s.Kind-1], s.Parent, attrs...))
	}
	return elems
}

// spoilForm makes one thing of elems another one, right or wrong.
func spoilForm(r *rand.Rand, elems []impl.Elem) []impl.Elem {
	elems = cloneTree(elems)
	e := &elems[r.Intn(len(elems))]
	names := []string{"if", "name", "msg", "ticks", "var", "to", "x"}
	values := []string{"", "0", "00", "1", "01", "9", "10", "99", "100", "a", "A", "v0", "v4", "(0<1)", "!1", "(v0+1)", strings.Repeat("a", 41)}
	switch r.Intn(7) {
	case 0:
		e.Tag = append(stepTags, "a", "", "tasks")[r.Intn(11)]
	case 1:
		e.Parent = int64(r.Intn(len(elems)+2)) - 1
	case 2:
		e.Attrs = append(e.Attrs, attr(names[r.Intn(7)], values[r.Intn(len(values))]))
	case 3:
		e.Attrs = e.Attrs[:r.Intn(len(e.Attrs)+1)]
	case 4:
		for i := range e.Attrs {
			e.Attrs[i].Value = values[r.Intn(len(values))]
		}
	case 5:
		for i := range e.Attrs {
			e.Attrs[i].Name = names[r.Intn(7)]
		}
	case 6:
		elems = append(elems, *e)
	}
	return elems
}

func TestProcOfManyTrees(t *testing.T) {
	r := rand.New(rand.NewSource(31))
	count := map[int64]int{}
	for range 40000 {
		elems := elemsOf(r, randomProc(r, 1+r.Intn(26)))
		for range r.Intn(4) {
			elems = spoilForm(r, elems)
		}
		before := cloneTree(elems)
		got, want := impl.ProcOf(elems), slowProcOf(elems)
		count[got.Code]++
		if !sameProcResults(got, want) {
			t.Fatalf("ProcOf(%v) = %v, want %v", elems, got, want)
		}
		if !reflect.DeepEqual(elems, before) {
			t.Fatalf("changed: %v, before %v", elems, before)
		}
		// What is written is read as the elements are.
		if text := impl.WriteTree(elems); text.Code == 0 {
			if read := impl.ReadProc(text.Text); !sameProcResults(read, got) {
				t.Fatalf("ReadProc(%q) = %v, want %v", text.Text, read, got)
			}
		}
	}
	for _, code := range []int64{impl.OK, impl.ErrForm, impl.ErrMany, impl.ErrRange, impl.ErrNone, impl.ErrText, impl.ErrTaken, impl.ErrType} {
		if count[code] < 20 {
			t.Error(count)
		}
	}
}

func TestReadProcHasNoFault(t *testing.T) {
	r := rand.New(rand.NewSource(32))
	read := 0
	for range 10000 {
		p := randomProc(r, 1+r.Intn(24))
		text := impl.WriteTree(elemsOf(r, p))
		if text.Code != 0 {
			continue
		}
		read++
		got := impl.ReadProc(text.Text)
		if got.Code != 0 || !impl.SameProcs(got.Proc, p) || impl.ProcFault(got.Proc) != 0 {
			t.Fatalf("ReadProc(%q) = %v, want %v", text.Text, got, p)
		}
	}
	if read < 3000 {
		t.Errorf("only %d were read", read)
	}
}

// Promise 1: it answers at every text, with nothing beside a code, and what it reads has no fault.
func TestReadProcAnswersAtEachText(t *testing.T) {
	ask := func(text string) {
		got := impl.ReadProc(text)
		if tree := impl.ParseTree(text); tree.Code != 0 {
			if got.Code != tree.Code || len(got.Proc) != 0 {
				t.Fatalf("ReadProc(%q) = %v, want the code %d", text, got, tree.Code)
			}
		} else if want := slowProcOf(tree.Elems); !sameProcResults(got, want) {
			t.Fatalf("ReadProc(%q) = %v, want %v", text, got, want)
		}
	}
	joinedTexts([]string{"<seq>", "</seq>", "<xor>", "</xor>", `<task name="a"/>`, `<set if="(0=0)" var="1" to="1"/>`, "<!-- -->", " "}, 5, ask)
	joinedTexts([]string{`<guard ticks="2">`, "</guard>", `<wait msg="1"/>`, `<timer ticks="1" >`, "</timer>", "<a/>", "x"}, 5, ask)
	for a := range 256 {
		for b := range 256 {
			x := string([]byte{byte(a), byte(b)})
			for _, text := range []string{x, "<" + x + "/>", `<task name="` + x + `"/>`, `<wait msg="` + x + `"/>`, `<timer ticks="` + x + `"/>`, `<set var="1" to="` + x + `"/>`, `<set var="` + x + `" to="1"/>`, `<task name="a"` + x + `/>`} {
				ask(text)
			}
		}
	}
	ask(strings.Repeat("<seq>", 1<<16))
}

// Promise 1: what is answered is new memory, and no two lists of one answer share any.
func TestReadProcIsNewMemory(t *testing.T) {
	text := strings.Clone(`<xor><set if="(v0=2)" var="1" to="(v0+2)"/><set if="(v0=2)" var="1" to="(v0+2)"/><task name="abcdefgh"/></xor>`)
	first, second := impl.ReadProc(text), impl.ReadProc(text)
	if first.Code != 0 || len(first.Proc) != 4 {
		t.Fatal(first)
	}
	want := cloneProc(second.Proc)
	for _, s := range first.Proc {
		clear(s.Cond[:cap(s.Cond)])
	}
	for i, s := range first.Proc {
		if !slices.Equal(s.Expr, want[i].Expr) {
			t.Error("a Cond and an Expr are shared")
		}
	}
	clear(first.Proc[1].Expr[:cap(first.Proc[1].Expr)])
	if !slices.Equal(first.Proc[2].Expr, want[2].Expr) {
		t.Error("two expressions of one answer are shared")
	}
	clear(first.Proc[:cap(first.Proc)])
	if !impl.SameProcs(second.Proc, want) || !impl.SameProcs(impl.ReadProc(text).Proc, want) {
		t.Error("two answers are shared")
	}
	if name := second.Proc[3].Name; name != "abcdefgh" || sharesBytes(name, text) {
		t.Errorf("the Name %q is shared", name)
	}
	elems := []impl.Elem{elem("task", -1, attr("name", strings.Clone("abcdefgh")))}
	if name := impl.ProcOf(elems).Proc[0].Name; name != "abcdefgh" || sharesBytes(name, elems[0].Attrs[0].Value) {
		t.Errorf("the Name %q is shared", name)
	}
}

// Promise 1: an answer hangs on the arguments alone, not on what was asked ahead of it.
func TestReadProcHangsOnTheTextAlone(t *testing.T) {
	texts := []string{"", "<seq/>", `<task name="a"/>`, `<task name="A"/>`, `<seq><task name="a"/><timer ticks="3"/></seq>`, `<set var="1" to="(v0+2)"/>`, `<set var="1" to="(v0+2"/>`, "<a/>", "<seq>"}
	ask := func(text string) []any {
		return []any{impl.ReadProc(text), impl.ProcOf(impl.ParseTree(text).Elems), impl.TagFault(text)}
	}
	var first [][]any
	for _, text := range texts {
		first = append(first, ask(text))
	}
	for i := len(texts) - 1; i >= 0; i-- {
		for range 3 {
			if got := ask(texts[i]); !reflect.DeepEqual(got, first[i]) {
				t.Errorf("of %q: %v, and ahead of that %v", texts[i], got, first[i])
			}
		}
	}
}
