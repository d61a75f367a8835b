package tests

import (
	"math/rand"
	"reflect"
	"regexp"
	"slices"
	"strconv"
	"strings"
	"testing"

	"loop.example/g00343/impl"
)

var stepTags = []string{"seq", "task", "xor", "and", "wait", "timer", "set", "guard"}

func attr(name, value string) impl.Attr {
	return impl.Attr{Name: name, Value: value}
}

func sameProcResults(a, b impl.ProcResult) bool {
	return a.Code == b.Code && impl.SameProcs(a.Proc, b.Proc)
}

func TestTagFault(t *testing.T) {
	for _, tag := range stepTags {
		if got := impl.TagFault(tag); got != 0 {
			t.Errorf("TagFault(%q) = %d, want 0", tag, got)
		}
	}
	for _, tag := range []string{"", " ", "s", "se", "seqs", "SEQ", "Seq", " seq", "seq ", "seq\x00", "tasks", "tas", "or", "xorr", "wai", "time", "timers", "sets", "guards", "if", "name", "msg", "ticks", "var", "to", "a", "abcdefghi", "1", "\xff", strings.Repeat("seq", 1000)} {
		if got := impl.TagFault(tag); got != impl.ErrNone {
			t.Errorf("TagFault(%q) = %d, want ErrNone", tag, got)
		}
	}
}

func TestReadProc(t *testing.T) {
	v0is2 := pair(impl.ExprSame, variable(0), num(2))
	less := pair(impl.ExprLess, variable(1), variable(2))
	both := pair(impl.ExprAnd, v0is2, less)
	cases := []struct {
		text string
		want []impl.Step
	}{
		{`<seq><task name="a"/><timer ticks="3"/></seq>`, proc(seqAt(-1), taskAt(0), timerAt(0, 3))},
		{`<task name="a"/>`, proc(taskAt(-1))},
		{`<task name="a"></task>`, proc(taskAt(-1))},
		{`<task name="&#97;"/>`, proc(taskAt(-1))},
		{"\n<seq >\n  <!-- first > --><task\nname=\"a\" />\n</seq>\n", proc(seqAt(-1), taskAt(0))},
		{`<wait msg="0"/>`, proc(waitAt(-1, 0))}, {`<wait msg="9"/>`, proc(waitAt(-1, 9))},
		{`<timer ticks="1"/>`, proc(timerAt(-1, 1))}, {`<timer ticks="10"/>`, proc(timerAt(-1, 10))}, {`<timer ticks="99"/>`, proc(timerAt(-1, 99))},
		{`<set var="0" to="v3"/>`, proc(setAt(-1, 0, variable(3)))},
		{`<set to="(v0+2)" var="3"/>`, proc(setAt(-1, 3, pair(impl.ExprAdd, variable(0), num(2))))},
		{`<and><task name="a"/><wait msg="1"/></and>`, proc(andAt(-1), taskAt(0), waitAt(0, 1))},
		{`<guard ticks="99"><task name="a"/><wait msg="1"/></guard>`, proc(guardAt(-1, 99), taskAt(0), waitAt(0, 1))},
		{`<xor><task if="(v0=2)" name="a"/><task name="a"/></xor>`, proc(xorAt(-1), ifSo(v0is2, taskAt(0)), taskAt(0))},
		{`<xor><task name="a" if="(v0=2)"/><task name="a"/></xor>`, proc(xorAt(-1), ifSo(v0is2, taskAt(0)), taskAt(0))},
		{`<xor><seq if="(v1&lt;v2)"><task name="a"/></seq><set to="1" if="((v0=2)&amp;(v1&lt;v2))" var="1"/><guard if="!(v0=2)" ticks="5"><task name="a"/><task name="a"/></guard><task name="a"/></xor>`,
			proc(xorAt(-1), ifSo(less, seqAt(0)), taskAt(1), ifSo(both, setAt(0, 1, num(1))), ifSo(not(v0is2), guardAt(0, 5)), taskAt(4), taskAt(4), taskAt(0))},
	}
	for _, c := range cases {
		if got := impl.ReadProc(c.text); !sameProcResults(got, impl.ProcResult{Proc: c.want}) {
			t.Errorf("ReadProc(%q) = %v, want %v", c.text, got, c.want)
		}
	}
}

func TestReadProcUpToItsBounds(t *testing.T) {
	nested := func(n int) string {
		return strings.Repeat("<seq>", n-1) + `<task name="a"/>` + strings.Repeat("</seq>", n-1)
	}
	flat := func(n int) string {
		return "<seq>" + strings.Repeat(`<task name="a"/>`, n-1) + "</seq>"
	}
	cases := []struct {
		why  string
		text string
		want impl.ProcResult
	}{
		{"7 from one up", nested(7), impl.ProcResult{Proc: nestOf(7)}},
		{"8 from one up", nested(8), impl.ProcResult{Code: impl.ErrMany}},
		{"9 from one up, no tree", nested(9), impl.ProcResult{Code: impl.ErrMany}},
		{"24 steps", flat(24), impl.ProcResult{Proc: seqOf(24)}},
		{"25 steps", flat(25), impl.ProcResult{Code: impl.ErrMany}},
		{"40 steps", flat(40), impl.ProcResult{Code: impl.ErrMany}},
		{"41 steps, no tree", flat(41), impl.ProcResult{Code: impl.ErrMany}},
		{"1500 bytes", flat(24) + strings.Repeat(" ", 1500-len(flat(24))), impl.ProcResult{Proc: seqOf(24)}},
		{"1501 bytes", flat(24) + strings.Repeat(" ", 1501-len(flat(24))), impl.ProcResult{Code: impl.ErrMany}},
		{"40 steps that are none", strings.ReplaceAll(flat(40), "task", "tusk"), impl.ProcResult{Code: impl.ErrNone}},
		{"an expression of 40 bytes", `<set var="1" to="((v0+1234)+((v1+2345)+((v2+34)+(v3+1))))"/>`, impl.ProcResult{Proc: proc(setAt(-1, 1, impl.ParseExpr("((v0+1234)+((v1+2345)+((v2+34)+(v3+1))))").Expr))}},
		{"an expression of 41 bytes", `<set var="1" to="((v0+1234)+((v1+2345)+((v2+34)+(v3+12))))"/>`, impl.ProcResult{Code: impl.ErrMany}},
	}
	for _, c := range cases {
		if got := impl.ReadProc(c.text); !sameProcResults(got, c.want) {
			t.Errorf("ReadProc of %s = %v, want %v", c.why, got, c.want)
		}
	}
}

func TestReadProcWrong(t *testing.T) {
	cases := []struct {
		text string
		want int64
	}{
		// The code of ParseTree.
		{"", impl.ErrForm}, {" \n", impl.ErrForm}, {"x", impl.ErrText}, {"<seq", impl.ErrText}, {"<seq>", impl.ErrForm}, {"</seq>", impl.ErrForm}, {"<seq></xor>", impl.ErrForm}, {`<task name="a"/><task name="a"/>`, impl.ErrForm},
		{`<task name='a'/>`, impl.ErrText}, {`<task name="a" name="b"/>`, impl.ErrTaken}, {`<Task name="a"/>`, impl.ErrText}, {`<tasktasks/>`, impl.ErrMany}, {`<?seq?>`, impl.ErrText}, {`<task name="a">b</task>`, impl.ErrText}, {`<task name="&x;"/>`, impl.ErrText},
		// The TagFault.
		{`<a/>`, impl.ErrNone}, {`<tasks name="a"/>`, impl.ErrNone}, {`<seq><b/></seq>`, impl.ErrNone}, {`<process><task name="a"/></process>`, impl.ErrNone},
		// Attrs that are not of its kind, or not there.
		{`<task/>`, impl.ErrText}, {`<wait/>`, impl.ErrText}, {`<timer/>`, impl.ErrText}, {`<guard><task name="a"/><task name="a"/></guard>`, impl.ErrText}, {`<set/>`, impl.ErrText}, {`<set var="1"/>`, impl.ErrText}, {`<set to="1"/>`, impl.ErrText},
		{`<task if="(0&lt;1)"/>`, impl.ErrText}, {`<set var="1" if="(0&lt;1)"/>`, impl.ErrText},
		{`<task name="a" x="1"/>`, impl.ErrText}, {`<task name="a" msg="1"/>`, impl.ErrText}, {`<seq name="a"><task name="a"/></seq>`, impl.ErrText}, {`<xor ticks="1"/>`, impl.ErrText}, {`<and to="1"/>`, impl.ErrText}, {`<seq var="1"/>`, impl.ErrText},
		{`<wait ticks="1"/>`, impl.ErrText}, {`<timer msg="1"/>`, impl.ErrText}, {`<wait arg="1"/>`, impl.ErrText}, {`<wait msg="1" ticks="1"/>`, impl.ErrText}, {`<timer ticks="1" to="1"/>`, impl.ErrText}, {`<set var="1" to="1" name="a"/>`, impl.ErrText}, {`<guard ticks="1" var="1"/>`, impl.ErrText},
		// The ProcFault.
		{`<task name=""/>`, impl.ErrText}, {`<task name="A"/>`, impl.ErrText}, {`<task name="abcdefghi"/>`, impl.ErrMany},
		{`<wait msg="10"/>`, impl.ErrRange}, {`<wait msg="99"/>`, impl.ErrRange}, {`<timer ticks="0"/>`, impl.ErrRange}, {`<guard ticks="0"/>`, impl.ErrRange}, {`<set var="4" to="1"/>`, impl.ErrRange},
		{`<seq/>`, impl.ErrForm}, {`<seq></seq>`, impl.ErrForm}, {`<xor/>`, impl.ErrForm}, {`<and><task name="a"/></and>`, impl.ErrForm}, {`<guard ticks="1"><task name="a"/></guard>`, impl.ErrForm}, {`<task name="a"><task name="a"/></task>`, impl.ErrForm},
		{`<task name="a" if="(0&lt;1)"/>`, impl.ErrForm}, {`<xor><task name="a"/><task name="a"/></xor>`, impl.ErrForm}, {`<xor><task name="a" if="(0&lt;1)"/><task name="a" if="(0&lt;1)"/></xor>`, impl.ErrForm},
		{`<set var="1" to="(0&lt;1)"/>`, impl.ErrType}, {`<set var="1" to="!1"/>`, impl.ErrType}, {`<xor><task name="a" if="1"/><task name="a"/></xor>`, impl.ErrType},
	}
	for _, c := range cases {
		if got := impl.ReadProc(c.text); got.Code != c.want || len(got.Proc) != 0 {
			t.Errorf("ReadProc(%q) = %v, want the code %d", c.text, got, c.want)
		}
	}
}

func TestReadProcOfNumbers(t *testing.T) {
	texts := []string{"", " ", "+1", "-1", "-0", " 1", "1 ", "1 0", "00", "01", "09", "001", "010", "100", "101", "999", "1000", "a", "1a", "0x1", "1.0", "1e1", "1_0", "v1", "٣", "&#49;&#48;&#48;", "99999999999999999999"}
	marks := map[string]int64{`<wait msg="?"/>`: 9, `<timer ticks="?"/>`: 99, `<set to="1" var="?"/>`: 3, `<guard ticks="?"><task name="a"/><task name="a"/></guard>`: 99}
	for mark, most := range marks {
		for _, text := range texts {
			if got := impl.ReadProc(strings.Replace(mark, "?", text, 1)); got.Code != impl.ErrText || len(got.Proc) != 0 {
				t.Errorf("ReadProc of %q with %q = %v, want ErrText", mark, text, got)
			}
		}
		for number := range int64(100) {
			got := impl.ReadProc(strings.Replace(mark, "?", strconv.FormatInt(number, 10), 1))
			outside := number > most || number == 0 && most == 99
			if outside && (got.Code != impl.ErrRange || len(got.Proc) != 0) || !outside && (got.Code != 0 || got.Proc[0].Arg != number) {
				t.Errorf("ReadProc of %q with %d = %v", mark, number, got)
			}
		}
		if got := impl.ReadProc(strings.Replace(mark, "?", "&#50;", 1)); got.Code != 0 || got.Proc[0].Arg != 2 {
			t.Errorf("ReadProc of %q with an escaped 2 = %v", mark, got)
		}
	}
}

func TestReadProcOfExprs(t *testing.T) {
	for _, text := range []string{"", " ", "01", "10000", "v4", "v", "1+2", "(1+2", "(1)", " 1", "1 ", "( 1+2)", "(1 +2)", "x", "!", "(1=2)x", strings.Repeat("!", 16) + "7", strings.Repeat("!", 40)} {
		for _, mark := range []string{`<set var="1" to="?"/>`, `<xor><task name="a" if="?"/><task name="a"/></xor>`, `<task name="a" if="?"/>`, `<xor><seq if="?"><task name="a"/></seq><task name="a"/></xor>`} {
			if got := impl.ReadProc(strings.Replace(mark, "?", text, 1)); got.Code != impl.ErrText || len(got.Proc) != 0 {
				t.Errorf("ReadProc of %q with %q = %v, want ErrText", mark, text, got)
			}
		}
	}
}

func TestProcOf(t *testing.T) {
	elems := []impl.Elem{elem("guard", -1, attr("ticks", "7")), elem("task", 0, attr("name", "a")), elem("seq", 0), elem("wait", 2, attr("msg", "3"))}
	want := proc(guardAt(-1, 7), taskAt(0), seqAt(0), waitAt(2, 3))
	if got := impl.ProcOf(elems); !sameProcResults(got, impl.ProcResult{Proc: want}) {
		t.Errorf("ProcOf = %v, want %v", got, want)
	}
	for _, c := range []struct {
		why   string
		elems []impl.Elem
		want  int64
	}{
		{"nil", nil, impl.ErrMany},
		{"41 elements", fanOf(41), impl.ErrMany},
		{"9 from one up", chainOf(9), impl.ErrMany},
		{"a tag with a wrong byte", []impl.Elem{elem("Seq", -1)}, impl.ErrText},
		{"a tag that is too long", []impl.Elem{elem("abcdefghi", -1)}, impl.ErrMany},
		{"a Parent of the first one", []impl.Elem{elem("task", 0, attr("name", "a"))}, impl.ErrRange},
		{"an attr twice", []impl.Elem{elem("task", -1, attr("name", "a"), attr("name", "a"))}, impl.ErrTaken},
		{"7 attrs", []impl.Elem{elem("task", -1, attrsOf(7)...)}, impl.ErrMany},
		{"a Value of 41 bytes", []impl.Elem{elem("task", -1, attr("name", strings.Repeat("a", 41)))}, impl.ErrMany},
		{"a Value with a line feed", []impl.Elem{elem("task", -1, attr("name", "\n"))}, impl.ErrText},
		{"a Parent that is over", []impl.Elem{elem("seq", -1), elem("seq", 0), elem("task", 1, attr("name", "a")), elem("task", 0, attr("name", "a")), elem("task", 1, attr("name", "a"))}, impl.ErrForm},
	} {
		if got := impl.ProcOf(c.elems); got.Code != c.want || len(got.Proc) != 0 {
			t.Errorf("ProcOf of %s = %v, want the code %d", c.why, got, c.want)
		}
	}
}

// Each code is asked ahead of those behind it, of one element ahead of the next one, up to a "then".
func TestProcOfInOrder(t *testing.T) {
	noTag, noAttr := elem("a", 0), elem("task", 0)
	noNumber, noRange := elem("wait", 0, attr("msg", "x")), elem("wait", 0, attr("msg", "10"))
	noTree := elem("task", 7, attr("name", "a"))
	of := func(elems ...impl.Elem) []impl.Elem { return append([]impl.Elem{elem("seq", -1)}, elems...) }
	tasks := slices.Repeat([]impl.Elem{elem("task", 0, attr("name", "a"))}, 24)
	for _, c := range []struct {
		why   string
		elems []impl.Elem
		want  int64
	}{
		{"the tree ahead of a tag", of(noTag, noTree), impl.ErrRange},
		{"the tree ahead of an attr", of(noAttr, noTree), impl.ErrRange},
		{"a tag ahead of its attrs", of(elem("a", 0, attr("x", "1"))), impl.ErrNone},
		{"a tag ahead of the attrs of the next one", of(noTag, noAttr), impl.ErrNone},
		{"an attr ahead of the tag of the next one", of(noAttr, noTag), impl.ErrText},
		{"a number ahead of the tag of the next one", of(noNumber, noTag), impl.ErrText},
		{"a tag ahead of the number of the next one", of(noTag, noNumber), impl.ErrNone},
		{"a tag ahead of a process fault ahead of it", of(noRange, noTag), impl.ErrNone},
		{"an attr ahead of a process fault ahead of it", of(noRange, noAttr), impl.ErrText},
		{"a number ahead of a process fault ahead of it", of(noRange, noNumber), impl.ErrText},
		{"how many steps there are", of(tasks...), impl.ErrMany},
		{"a number ahead of how many steps there are", of(append(tasks, noNumber)...), impl.ErrText},
		{"a process fault", of(noRange), impl.ErrRange},
	} {
		if got := impl.ProcOf(c.elems); got.Code != c.want || len(got.Proc) != 0 {
			t.Errorf("%s: %v, want the code %d", c.why, got, c.want)
		}
	}
}

var shortNumber = regexp.MustCompile(`^(0|[1-9][0-9]?)$`)

// slowProcOf tells it once more: an element is held against a line with its kind and the names of its attrs.
func slowProcOf(elems []impl.Elem) impl.ProcResult {
	if fault := slowTreeFault(elems); fault != 0 {
		return impl.ProcResult{Code: fault}
	}
	wanted := []string{"", "", "name", "", "", "msg", "ticks", "to var", "ticks"}
	var p []impl.Step
	for _, e := range elems {
		s := impl.Step{Kind: int64(slices.Index(stepTags, e.Tag)) + 1, Parent: e.Parent}
		if s.Kind == 0 {
			return impl.ProcResult{Code: impl.ErrNone}
		}
		var names []string
		readable := true
		for _, a := range e.Attrs {
			if a.Name != "if" {
				names = append(names, a.Name)
			}
			switch a.Name {
			case "if":
				s.Cond, readable = impl.ParseExpr(a.Value).Expr, readable && isExprText(a.Value)
			case "to":
				s.Expr, readable = impl.ParseExpr(a.Value).Expr, readable && isExprText(a.Value)
			case "name":
				s.Name = a.Value
			default:
				s.Arg, _ = strconv.ParseInt(a.Value, 10, 64)
				readable = readable && shortNumber.MatchString(a.Value)
			}
		}
		slices.Sort(names)
		if !readable || strings.Join(names, " ") != wanted[s.Kind] {
			return impl.ProcResult{Code: impl.ErrText}
		}
		p = append(p, s)
	}
	if fault := slowProcFault(p); fault != 0 {
		return impl.ProcResult{Code: fault}
	}
	return impl.ProcResult{Proc: p}
}

// elemsOf are the elements that tell p, their attrs in any order.
func elemsOf(r *rand.Rand, p []impl.Step) []impl.Elem {
	var elems []impl.Elem
	for _, s := range p {
		arg := strconv.FormatInt(s.Arg, 10)
		var attrs []impl.Attr
		switch s.Kind {
		case impl.StepTask:
			attrs = append(attrs, attr("name", s.Name))
		case impl.StepWait:
			attrs = append(attrs, attr("msg", arg))
		case impl.StepTimer, impl.StepGuard:
			attrs = append(attrs, attr("ticks", arg))
		case impl.StepSet:
			attrs = append(attrs, attr("var", arg), attr("to", impl.ExprText(s.Expr).Text))
		}
		if len(s.Cond) > 0 {
			attrs = append(attrs, attr("if", impl.ExprText(s.Cond).Text))
		}
		r.Shuffle(len(attrs), func(i, j int) { attrs[i], attrs[j] = attrs[j], attrs[i] })
		elems = append(elems, elem(stepTags[s.Kind-1], s.Parent, attrs...))
	}
	return elems
}

// spoilForm makes one thing of elems another one, right or wrong.
func spoilForm(r *rand.Rand, elems []impl.Elem) []impl.Elem {
	elems = cloneTree(elems)
	e := &elems[r.Intn(len(elems))]
	names := []string{"if", "name", "msg", "ticks", "var", "to", "x"}
	values := []string{"", "0", "00", "1", "01", "9", "10", "99", "100", "a", "A", "v0", "v4", "(0<1)", "!1", "(v0+1)", strings.Repeat("a", 41)}
	switch r.Intn(7) {
	case 0:
		e.Tag = append(stepTags, "a", "", "tasks")[r.Intn(11)]
	case 1:
		e.Parent = int64(r.Intn(len(elems)+2)) - 1
	case 2:
		e.Attrs = append(e.Attrs, attr(names[r.Intn(7)], values[r.Intn(len(values))]))
	case 3:
		e.Attrs = e.Attrs[:r.Intn(len(e.Attrs)+1)]
	case 4:
		for i := range e.Attrs {
			e.Attrs[i].Value = values[r.Intn(len(values))]
		}
	case 5:
		for i := range e.Attrs {
			e.Attrs[i].Name = names[r.Intn(7)]
		}
	case 6:
		elems = append(elems, *e)
	}
	return elems
}

func TestProcOfManyTrees(t *testing.T) {
	r := rand.New(rand.NewSource(31))
	count := map[int64]int{}
	for range 40000 {
		elems := elemsOf(r, randomProc(r, 1+r.Intn(26)))
		for range r.Intn(4) {
			elems = spoilForm(r, elems)
		}
		before := cloneTree(elems)
		got, want := impl.ProcOf(elems), slowProcOf(elems)
		count[got.Code]++
		if !sameProcResults(got, want) {
			t.Fatalf("ProcOf(%v) = %v, want %v", elems, got, want)
		}
		if !reflect.DeepEqual(elems, before) {
			t.Fatalf("changed: %v, before %v", elems, before)
		}
		// What is written is read as the elements are.
		if text := impl.WriteTree(elems); text.Code == 0 {
			if read := impl.ReadProc(text.Text); !sameProcResults(read, got) {
				t.Fatalf("ReadProc(%q) = %v, want %v", text.Text, read, got)
			}
		}
	}
	for _, code := range []int64{impl.OK, impl.ErrForm, impl.ErrMany, impl.ErrRange, impl.ErrNone, impl.ErrText, impl.ErrTaken, impl.ErrType} {
		if count[code] < 20 {
			t.Error(count)
		}
	}
}

func TestReadProcHasNoFault(t *testing.T) {
	r := rand.New(rand.NewSource(32))
	read := 0
	for range 10000 {
		p := randomProc(r, 1+r.Intn(24))
		text := impl.WriteTree(elemsOf(r, p))
		if text.Code != 0 {
			continue
		}
		read++
		got := impl.ReadProc(text.Text)
		if got.Code != 0 || !impl.SameProcs(got.Proc, p) || impl.ProcFault(got.Proc) != 0 {
			t.Fatalf("ReadProc(%q) = %v, want %v", text.Text, got, p)
		}
	}
	if read < 3000 {
		t.Errorf("only %d were read", read)
	}
}

// Promise 1: it answers at every text, with nothing beside a code, and what it reads has no fault.
func TestReadProcAnswersAtEachText(t *testing.T) {
	ask := func(text string) {
		got := impl.ReadProc(text)
		if tree := impl.ParseTree(text); tree.Code != 0 {
			if got.Code != tree.Code || len(got.Proc) != 0 {
				t.Fatalf("ReadProc(%q) = %v, want the code %d", text, got, tree.Code)
			}
		} else if want := slowProcOf(tree.Elems); !sameProcResults(got, want) {
			t.Fatalf("ReadProc(%q) = %v, want %v", text, got, want)
		}
	}
	joinedTexts([]string{"<seq>", "</seq>", "<xor>", "</xor>", `<task name="a"/>`, `<set if="(0=0)" var="1" to="1"/>`, "<!-- -->", " "}, 5, ask)
	joinedTexts([]string{`<guard ticks="2">`, "</guard>", `<wait msg="1"/>`, `<timer ticks="1" >`, "</timer>", "<a/>", "x"}, 5, ask)
	for a := range 256 {
		for b := range 256 {
			x := string([]byte{byte(a), byte(b)})
			for _, text := range []string{x, "<" + x + "/>", `<task name="` + x + `"/>`, `<wait msg="` + x + `"/>`, `<timer ticks="` + x + `"/>`, `<set var="1" to="` + x + `"/>`, `<set var="` + x + `" to="1"/>`, `<task name="a"` + x + `/>`} {
				ask(text)
			}
		}
	}
	ask(strings.Repeat("<seq>", 1<<16))
}

// Promise 1: what is answered is new memory, and no two lists of one answer share any.
func TestReadProcIsNewMemory(t *testing.T) {
	text := strings.Clone(`<xor><set if="(v0=2)" var="1" to="(v0+2)"/><set if="(v0=2)" var="1" to="(v0+2)"/><task name="abcdefgh"/></xor>`)
	first, second := impl.ReadProc(text), impl.ReadProc(text)
	if first.Code != 0 || len(first.Proc) != 4 {
		t.Fatal(first)
	}
	want := cloneProc(second.Proc)
	for _, s := range first.Proc {
		clear(s.Cond[:cap(s.Cond)])
	}
	for i, s := range first.Proc {
		if !slices.Equal(s.Expr, want[i].Expr) {
			t.Error("a Cond and an Expr are shared")
		}
	}
	clear(first.Proc[1].Expr[:cap(first.Proc[1].Expr)])
	if !slices.Equal(first.Proc[2].Expr, want[2].Expr) {
		t.Error("two expressions of one answer are shared")
	}
	clear(first.Proc[:cap(first.Proc)])
	if !impl.SameProcs(second.Proc, want) || !impl.SameProcs(impl.ReadProc(text).Proc, want) {
		t.Error("two answers are shared")
	}
	if name := second.Proc[3].Name; name != "abcdefgh" || sharesBytes(name, text) {
		t.Errorf("the Name %q is shared", name)
	}
	elems := []impl.Elem{elem("task", -1, attr("name", strings.Clone("abcdefgh")))}
	if name := impl.ProcOf(elems).Proc[0].Name; name != "abcdefgh" || sharesBytes(name, elems[0].Attrs[0].Value) {
		t.Errorf("the Name %q is shared", name)
	}
}

// Promise 1: an answer hangs on the arguments alone, not on what was asked ahead of it.
func TestReadProcHangsOnTheTextAlone(t *testing.T) {
	texts := []string{"", "<seq/>", `<task name="a"/>`, `<task name="A"/>`, `<seq><task name="a"/><timer ticks="3"/></seq>`, `<set var="1" to="(v0+2)"/>`, `<set var="1" to="(v0+2"/>`, "<a/>", "<seq>"}
	ask := func(text string) []any {
		return []any{impl.ReadProc(text), impl.ProcOf(impl.ParseTree(text).Elems), impl.TagFault(text)}
	}
	var first [][]any
	for _, text := range texts {
		first = append(first, ask(text))
	}
	for i := len(texts) - 1; i >= 0; i-- {
		for range 3 {
			if got := ask(texts[i]); !reflect.DeepEqual(got, first[i]) {
				t.Errorf("of %q: %v, and ahead of that %v", texts[i], got, first[i])
			}
		}
	}
}

// textOfBytes is the text of an int that has n bytes.
func textOfBytes(n int) string {
	if n <= 4 {
		return "1234"[:n]
	}
	left := min(4, n-4)
	return "(" + textOfBytes(left) + "+" + textOfBytes(n-3-left) + ")"
}

// exprOfBytes is an int whose text has n bytes.
func exprOfBytes(n int) []impl.Node {
	return impl.ParseExpr(textOfBytes(n)).Expr
}

// condOfBytes is a bool of that sign whose text has n bytes.
func condOfBytes(n int, sign string) []impl.Node {
	return impl.ParseExpr("(1" + sign + textOfBytes(n-4) + ")").Expr
}

// longProc is 24 steps whose text has n bytes, 1484 to 1523 (three more for each sign that is escaped).
func longProc(n int, signs ...string) []impl.Step {
	p := proc(xorAt(-1))
	for i := range 22 {
		p = append(p, ifSo(condOfBytes(20, append(signs, slices.Repeat([]string{"="}, 22)...)[i]), setAt(0, 1, exprOfBytes(20))))
	}
	return append(p, setAt(0, 2, exprOfBytes(n-1483)))
}

func TestTreeOfAndWriteProc(t *testing.T) {
	named := impl.Step{Kind: impl.StepTask, Parent: -1, Name: "abcdefgh"}
	less := pair(impl.ExprLess, variable(1), variable(2))
	both := pair(impl.ExprAnd, pair(impl.ExprSame, variable(0), num(2)), less)
	task := elem("task", 0, attr("name", "a"))
	cases := []struct {
		p    []impl.Step
		tree []impl.Elem
		text string
	}{
		{proc(taskAt(-1)), []impl.Elem{elem("task", -1, attr("name", "a"))}, `<task name="a"/>`},
		{proc(named), []impl.Elem{elem("task", -1, attr("name", "abcdefgh"))}, `<task name="abcdefgh"/>`},
		{proc(seqAt(-1), taskAt(0), timerAt(0, 3)), []impl.Elem{elem("seq", -1), task, elem("timer", 0, attr("ticks", "3"))}, `<seq><task name="a"/><timer ticks="3"/></seq>`},
		{proc(waitAt(-1, 0)), []impl.Elem{elem("wait", -1, attr("msg", "0"))}, `<wait msg="0"/>`},
		{proc(waitAt(-1, 9)), []impl.Elem{elem("wait", -1, attr("msg", "9"))}, `<wait msg="9"/>`},
		{proc(timerAt(-1, 1)), []impl.Elem{elem("timer", -1, attr("ticks", "1"))}, `<timer ticks="1"/>`},
		{proc(timerAt(-1, 99)), []impl.Elem{elem("timer", -1, attr("ticks", "99"))}, `<timer ticks="99"/>`},
		{proc(setAt(-1, 0, num(0))), []impl.Elem{elem("set", -1, attr("var", "0"), attr("to", "0"))}, `<set var="0" to="0"/>`},
		{proc(setAt(-1, 3, pair(impl.ExprSub, variable(3), num(9999)))), []impl.Elem{elem("set", -1, attr("var", "3"), attr("to", "(v3-9999)"))}, `<set var="3" to="(v3-9999)"/>`},
		{proc(andAt(-1), taskAt(0), waitAt(0, 1)), []impl.Elem{elem("and", -1), task, elem("wait", 0, attr("msg", "1"))}, `<and><task name="a"/><wait msg="1"/></and>`},
		{proc(guardAt(-1, 10), taskAt(0), taskAt(0)), []impl.Elem{elem("guard", -1, attr("ticks", "10")), task, task}, `<guard ticks="10"><task name="a"/><task name="a"/></guard>`},
		{proc(xorAt(-1), ifSo(less, taskAt(0)), taskAt(0)), []impl.Elem{elem("xor", -1), elem("task", 0, attr("if", "(v1<v2)"), attr("name", "a")), task}, `<xor><task if="(v1&lt;v2)" name="a"/><task name="a"/></xor>`},
		{
			proc(xorAt(-1), ifSo(both, setAt(0, 1, num(7))), ifSo(less, waitAt(0, 2)), ifSo(not(less), timerAt(0, 8)), taskAt(0)),
			[]impl.Elem{elem("xor", -1), elem("set", 0, attr("if", "((v0=2)&(v1<v2))"), attr("var", "1"), attr("to", "7")), elem("wait", 0, attr("if", "(v1<v2)"), attr("msg", "2")), elem("timer", 0, attr("if", "!(v1<v2)"), attr("ticks", "8")), task},
			`<xor><set if="((v0=2)&amp;(v1&lt;v2))" var="1" to="7"/><wait if="(v1&lt;v2)" msg="2"/><timer if="!(v1&lt;v2)" ticks="8"/><task name="a"/></xor>`,
		},
		{
			proc(xorAt(-1), ifSo(less, seqAt(0)), taskAt(1), ifSo(less, xorAt(0)), ifSo(yes(), taskAt(3)), waitAt(3, 1), ifSo(less, andAt(0)), waitAt(6, 1), waitAt(6, 2), ifSo(less, guardAt(0, 4)), waitAt(9, 1), waitAt(9, 2), taskAt(0)),
			[]impl.Elem{
				elem("xor", -1), elem("seq", 0, attr("if", "(v1<v2)")), elem("task", 1, attr("name", "a")),
				elem("xor", 0, attr("if", "(v1<v2)")), elem("task", 3, attr("if", "(0<1)"), attr("name", "a")), elem("wait", 3, attr("msg", "1")),
				elem("and", 0, attr("if", "(v1<v2)")), elem("wait", 6, attr("msg", "1")), elem("wait", 6, attr("msg", "2")),
				elem("guard", 0, attr("if", "(v1<v2)"), attr("ticks", "4")), elem("wait", 9, attr("msg", "1")), elem("wait", 9, attr("msg", "2")), task,
			},
			`<xor><seq if="(v1&lt;v2)"><task name="a"/></seq><xor if="(v1&lt;v2)"><task if="(0&lt;1)" name="a"/><wait msg="1"/></xor><and if="(v1&lt;v2)"><wait msg="1"/><wait msg="2"/></and><guard if="(v1&lt;v2)" ticks="4"><wait msg="1"/><wait msg="2"/></guard><task name="a"/></xor>`,
		},
	}
	for _, c := range cases {
		if got := impl.TreeOf(c.p); !sameTreeResults(got, impl.TreeResult{Elems: c.tree}) {
			t.Errorf("TreeOf(%v) = %v, want %v", c.p, got, c.tree)
		}
		if got := impl.WriteProc(c.p); got != (impl.TextResult{Text: c.text}) {
			t.Errorf("WriteProc(%v) = %v, want %q", c.p, got, c.text)
		}
		askReadBack(t, c.p)
	}
}

// askReadBack asks that a process is told whole: by its elements, and by its text, if it has one.
func askReadBack(t *testing.T, p []impl.Step) {
	t.Helper()
	tree := impl.TreeOf(p)
	if tree.Code != 0 {
		t.Fatalf("TreeOf(%v) = %v", p, tree)
	}
	if got := impl.ProcOf(tree.Elems); !sameProcResults(got, impl.ProcResult{Proc: p}) {
		t.Fatalf("ProcOf(TreeOf(%v)) = %v", p, got)
	}
	text := impl.WriteProc(p)
	if text != impl.WriteTree(tree.Elems) {
		t.Fatalf("WriteProc(%v) = %v, not WriteTree of its elements", p, text)
	}
	if text.Code != 0 {
		return
	}
	if got := impl.ReadProc(text.Text); !sameProcResults(got, impl.ProcResult{Proc: p}) {
		t.Fatalf("ReadProc(%q) = %v, want %v", text.Text, got, p)
	}
}

func TestTreeOfLongTexts(t *testing.T) {
	of := func(cond, expr []impl.Node) []impl.Step {
		return proc(xorAt(-1), ifSo(cond, taskAt(0)), setAt(0, 1, expr))
	}
	for n := 5; n <= 48; n++ {
		want := int64(0)
		if n > 40 {
			want = impl.ErrMany
		}
		for _, sign := range []string{"=", "<"} {
			cond := condOfBytes(n, sign)
			if got := impl.ExprText(cond); len(got.Text) != n {
				t.Fatalf("the Cond %q has not %d bytes", got.Text, n)
			}
			askTreeOf(t, "a Cond of "+strconv.Itoa(n)+" bytes with "+sign, of(cond, num(1)), want)
		}
		expr := exprOfBytes(n)
		if got := impl.ExprText(expr); len(got.Text) != n {
			t.Fatalf("the Expr %q has not %d bytes", got.Text, n)
		}
		askTreeOf(t, "an Expr of "+strconv.Itoa(n)+" bytes", of(yes(), expr), want)
		askTreeOf(t, "a Cond of 40 bytes and an Expr of "+strconv.Itoa(n)+" bytes", of(condOfBytes(40, "<"), expr), want)
		askTreeOf(t, "an Expr of "+strconv.Itoa(n)+" bytes of the first step", proc(setAt(-1, 0, expr)), want)
	}
	// What counts is the text itself, not how many bytes are written for it.
	ands := impl.ParseExpr("((1234<1234)&((v0<v1)&((234<3)&(9<10))))").Expr
	if text := impl.ExprText(ands).Text; len(text) != 40 {
		t.Fatalf("%q has %d bytes", text, len(text))
	}
	askTreeOf(t, "a Cond of 40 bytes with many to escape", of(ands, num(1)), 0)
}

// askTreeOf asks both that tell a process: with a code there is nothing beside it, without it is read back.
func askTreeOf(t *testing.T, why string, p []impl.Step, want int64) {
	t.Helper()
	tree, text := impl.TreeOf(p), impl.WriteProc(p)
	if tree.Code != want || text.Code != want {
		t.Errorf("of %s: TreeOf %v, WriteProc %v, want the code %d", why, tree, text, want)
		return
	}
	if want == 0 {
		askReadBack(t, p)
	} else if tree.At != 0 || len(tree.Elems) != 0 || text.Text != "" {
		t.Errorf("of %s: TreeOf %v, WriteProc %v, with something beside the code", why, tree, text)
	}
}

func TestWriteProcUpToItsBounds(t *testing.T) {
	for n := 1484; n <= 1523; n++ {
		p := longProc(n)
		if len(p) != 24 || impl.ProcFault(p) != 0 {
			t.Fatal(p)
		}
		askReadBack(t, p)
		got := impl.WriteProc(p)
		if n <= 1500 && (got.Code != 0 || len(got.Text) != n) || n > 1500 && got != (impl.TextResult{Code: impl.ErrMany}) {
			t.Errorf("WriteProc of %d bytes = %v", n, got)
		}
	}
	// A sign that is escaped has its four bytes.
	for n, want := range map[int]int64{1496: 0, 1497: 0, 1498: impl.ErrMany, 1500: impl.ErrMany} {
		p := longProc(n, "<")
		askReadBack(t, p)
		if got := impl.WriteProc(p); got.Code != want || want == 0 && len(got.Text) != n+3 || want != 0 && got.Text != "" {
			t.Errorf("WriteProc of %d bytes and three more = %v, want the code %d", n, got, want)
		}
	}
	// What is written last is read; one blank more is too much to read.
	full := impl.WriteProc(longProc(1500)).Text
	if got := impl.ReadProc(full); !sameProcResults(got, impl.ProcResult{Proc: longProc(1500)}) {
		t.Errorf("ReadProc of 1500 bytes = %v", got)
	}
	if got := impl.ReadProc(full + " "); got.Code != impl.ErrMany || len(got.Proc) != 0 {
		t.Errorf("ReadProc of 1501 bytes = %v", got)
	}
	widest := proc(xorAt(-1))
	for range 22 {
		widest = append(widest, ifSo(condOfBytes(40, "<"), setAt(0, 3, exprOfBytes(40))))
	}
	widest = append(widest, setAt(0, 3, exprOfBytes(40)))
	askReadBack(t, widest)
	if got := impl.WriteProc(widest); got != (impl.TextResult{Code: impl.ErrMany}) {
		t.Errorf("WriteProc of all that a process may have = %v", got)
	}
	for why, p := range map[string][]impl.Step{"24 steps": seqOf(24), "7 from one up": nestOf(7), "each kind": orderProc(), "24 steps, 7 of them from one up": append(nestOf(7), seqOf(24)[7:]...)} {
		askTreeOf(t, why, p, 0)
	}
	if got := impl.WriteProc(nestOf(7)).Text; got != strings.Repeat("<seq>", 6)+`<task name="a"/>`+strings.Repeat("</seq>", 6) {
		t.Errorf("WriteProc of 7 from one up = %q", got)
	}
	if got := impl.WriteProc(seqOf(24)).Text; got != "<seq>"+strings.Repeat(`<task name="a"/>`, 23)+"</seq>" {
		t.Errorf("WriteProc of 24 steps = %q", got)
	}
}

func TestTreeOfWrong(t *testing.T) {
	long, longCond := exprOfBytes(41), condOfBytes(41, "=")
	for _, c := range []procCase{
		{"nil", nil, impl.ErrMany},
		{"no step", []impl.Step{}, impl.ErrMany},
		{"25 steps", seqOf(25), impl.ErrMany},
		{"8 from one up", nestOf(8), impl.ErrMany},
		{"a kind that is none", proc(impl.Step{Parent: -1}), impl.ErrForm},
		{"the kind 9", proc(impl.Step{Kind: 9, Parent: -1}), impl.ErrForm},
		{"a Parent of the first step", proc(taskAt(0)), impl.ErrRange},
		{"no Name", proc(impl.Step{Kind: impl.StepTask, Parent: -1}), impl.ErrText},
		{"a Name of 9 bytes", proc(impl.Step{Kind: impl.StepTask, Parent: -1, Name: "abcdefghi"}), impl.ErrMany},
		{"a message of 10", proc(waitAt(-1, 10)), impl.ErrRange},
		{"no ticks", proc(timerAt(-1, 0)), impl.ErrRange},
		{"100 ticks", proc(guardAt(-1, 100), taskAt(0), taskAt(0)), impl.ErrRange},
		{"the variable 4", proc(setAt(-1, 4, num(1))), impl.ErrRange},
		{"no Expr", proc(setAt(-1, 1, nil)), impl.ErrMany},
		{"an Expr that is a bool", proc(setAt(-1, 1, yes())), impl.ErrType},
		{"no kids", proc(seqAt(-1)), impl.ErrForm},
		{"a Cond of the first step", proc(ifSo(yes(), taskAt(-1))), impl.ErrForm},
		{"a Cond that is an int", proc(xorAt(-1), ifSo(num(1), taskAt(0)), taskAt(0)), impl.ErrType},
		// The fault of the process is asked ahead of its texts, wherever it is.
		{"a long Expr, and a type behind it", proc(seqAt(-1), setAt(0, 1, long), setAt(0, 1, yes())), impl.ErrType},
		{"a long Expr, and an Arg behind it", proc(seqAt(-1), setAt(0, 1, long), waitAt(0, 10)), impl.ErrRange},
		{"a long Expr, and an Arg in the same step", proc(setAt(-1, 4, long)), impl.ErrRange},
		{"a long Expr, and a Name behind it", proc(seqAt(-1), setAt(0, 1, long), impl.Step{Kind: impl.StepTask}), impl.ErrText},
		{"a long Cond that may not be", proc(ifSo(longCond, taskAt(-1))), impl.ErrForm},
		{"a long Cond that is an int", proc(xorAt(-1), ifSo(long, taskAt(0)), taskAt(0)), impl.ErrType},
		{"a long Cond, and kids behind it", proc(xorAt(-1), ifSo(longCond, taskAt(0)), seqAt(0)), impl.ErrForm},
	} {
		askTreeOf(t, c.why, c.p, c.want)
	}
}

// slowTreeOf tells it once more: each element from the words of its line of the ProcText.
func slowTreeOf(p []impl.Step) impl.TreeResult {
	if fault := slowProcFault(p); fault != 0 {
		return impl.TreeResult{Code: fault}
	}
	names := map[string][]string{"task": {"name"}, "wait": {"msg"}, "timer": {"ticks"}, "guard": {"ticks"}, "set": {"var", "to"}}
	var elems []impl.Elem
	for line := range strings.Lines(impl.ProcText(p).Text) {
		words := strings.Fields(line)
		var attrs []impl.Attr
		if words[0] == "if" {
			attrs, words = append(attrs, attr("if", words[1])), words[2:]
		}
		for i, name := range names[words[0]] {
			value := words[1+i]
			if name == "var" {
				value = strings.TrimPrefix(value, "v")
			}
			attrs = append(attrs, attr(name, value))
		}
		for _, a := range attrs {
			if len(a.Value) > 40 {
				return impl.TreeResult{Code: impl.ErrMany}
			}
		}
		elems = append(elems, elem(words[0], p[len(elems)].Parent, attrs...))
	}
	return impl.TreeResult{Elems: elems}
}

// stretch gives some steps of p expressions of up to 16 nodes, whose texts may be too long.
func stretch(r *rand.Rand, p []impl.Step) []impl.Step {
	p = cloneProc(p)
	for i := range p {
		if len(p[i].Cond) > 0 && r.Intn(3) == 0 {
			p[i].Cond = randomTyped(r, 16, impl.TypeBool)
		}
		if p[i].Kind == impl.StepSet && r.Intn(3) == 0 {
			p[i].Expr = randomTyped(r, 16, impl.TypeInt)
		}
	}
	return p
}

// Promise 6: a process is read back from what is written of it.
func TestProcReadBack(t *testing.T) {
	r := rand.New(rand.NewSource(33))
	written, longTexts, longProcs := 0, 0, 0
	for range 20000 {
		p := stretch(r, randomProc(r, 1+r.Intn(24)))
		want := slowTreeOf(p)
		if got := impl.TreeOf(p); !sameTreeResults(got, want) {
			t.Fatalf("TreeOf(%v) = %v, want %v", p, got, want)
		}
		text := impl.WriteProc(p)
		switch {
		case want.Code != 0:
			longTexts++
			if text != (impl.TextResult{Code: impl.ErrMany}) {
				t.Fatalf("WriteProc(%v) = %v, want ErrMany", p, text)
			}
			continue
		case text.Code != 0:
			longProcs++
		default:
			written++
		}
		askReadBack(t, p)
	}
	for range 2000 {
		p := longProc(1484 + r.Intn(40))
		for range r.Intn(8) {
			p[1+r.Intn(22)].Cond = randomTyped(r, 3+r.Intn(8), impl.TypeBool)
		}
		askReadBack(t, p)
		if impl.WriteProc(p).Code != 0 {
			longProcs++
		}
	}
	if written < 10000 || longTexts < 200 || longProcs < 200 {
		t.Errorf("%d were written, %d had a text that is too long, %d were too long", written, longTexts, longProcs)
	}
}

// What is read is written in one way alone, however it was told.
func TestProcIsWrittenInOneWay(t *testing.T) {
	r := rand.New(rand.NewSource(34))
	for range 5000 {
		p := randomProc(r, 1+r.Intn(24))
		elems := elemsOf(r, p)
		got := impl.ProcOf(elems)
		if !sameProcResults(got, impl.ProcResult{Proc: p}) {
			t.Fatalf("ProcOf(%v) = %v, want %v", elems, got, p)
		}
		if tree := impl.TreeOf(got.Proc); !sameTreeResults(tree, slowTreeOf(p)) {
			t.Fatalf("TreeOf(%v) = %v", got.Proc, tree)
		}
	}
	set := []string{`if="(v0=2)"`, `var="1"`, `to="(v0+2)"`}
	const written = `<xor><set if="(v0=2)" var="1" to="(v0+2)"/><task name="a"/></xor>`
	for _, order := range [][]int{{0, 1, 2}, {0, 2, 1}, {1, 0, 2}, {1, 2, 0}, {2, 0, 1}, {2, 1, 0}} {
		text := "<xor><set"
		for _, i := range order {
			text += "\n " + set[i]
		}
		text += ` ></set> <task name="a" /></xor>`
		read := impl.ReadProc(text)
		if got := impl.WriteProc(read.Proc); read.Code != 0 || got.Text != written {
			t.Errorf("%q is %v, written as %v", text, read, got)
		}
	}
	for _, kid := range [][3]string{{"task", `if="(0=1)"`, `name="b"`}, {"wait", `if="(0=1)"`, `msg="0"`}, {"timer", `if="(0=1)"`, `ticks="99"`}} {
		want := "<xor><" + kid[0] + " " + kid[1] + " " + kid[2] + `/><task name="a"/></xor>`
		other := "<xor><" + kid[0] + " " + kid[2] + " " + kid[1] + `/><task name="a"/></xor>`
		for _, text := range []string{want, other} {
			read := impl.ReadProc(text)
			if got := impl.WriteProc(read.Proc); read.Code != 0 || got.Text != want {
				t.Errorf("%q is %v, written as %v", text, read, got)
			}
		}
	}
}

// Each kind with each choice of attrs, all of them right in themselves: it is read with just its own, an if or none.
func TestProcOfEachChoiceOfAttrs(t *testing.T) {
	all := []impl.Attr{attr("if", "(0<1)"), attr("name", "a"), attr("msg", "1"), attr("ticks", "1"), attr("var", "1"), attr("to", "1"), attr("x", "1")}
	wanted := map[string]string{"task": "name", "wait": "msg", "timer": "ticks", "guard": "ticks", "set": "var to"}
	kids := map[string]int{"seq": 1, "xor": 2, "and": 2, "guard": 2}
	read := 0
	for _, tag := range stepTags {
		for choice := range 1 << len(all) {
			var attrs []impl.Attr
			var names []string
			for i, a := range all {
				if choice>>i&1 == 0 {
					continue
				}
				attrs = append(attrs, a)
				if i > 0 {
					names = append(names, a.Name)
				}
			}
			elems := []impl.Elem{elem("xor", -1), elem(tag, 0, attrs...)}
			for i := range kids[tag] {
				kid := elem("wait", 1, attr("msg", "2"))
				if tag == "xor" && i == 0 {
					kid.Attrs = append(kid.Attrs, attr("if", "(0<1)"))
				}
				elems = append(elems, kid)
			}
			elems = append(elems, elem("task", 0, attr("name", "z")))
			want := int64(impl.ErrText)
			switch {
			case len(attrs) > 6:
				want = impl.ErrMany
			case strings.Join(names, " ") == wanted[tag] && choice&1 == 1:
				want = 0
			case strings.Join(names, " ") == wanted[tag]:
				want = impl.ErrForm
			}
			got := impl.ProcOf(elems)
			if got.Code != want || (want == 0) != (len(got.Proc) > 0) {
				t.Errorf("ProcOf(%v) = %v, want the code %d", elems, got, want)
			}
			if got.Code == 0 {
				read++
				askReadBack(t, got.Proc)
			}
		}
	}
	if read != len(stepTags) {
		t.Errorf("%d were read", read)
	}
}

// Several faults at once: what is asked first counts, of one element or of two, on both sides of the "then".
func TestProcOfSeveralFaults(t *testing.T) {
	of := func(elems ...impl.Elem) []impl.Elem { return append([]impl.Elem{elem("seq", -1)}, elems...) }
	one := func(tag string, attrs ...impl.Attr) []impl.Elem { return []impl.Elem{elem(tag, -1, attrs...)} }
	noTag, noAttr := elem("a", 0), elem("task", 0)
	noExpr, noBool := elem("set", 0, attr("var", "1"), attr("to", "1+1")), elem("set", 0, attr("var", "1"), attr("to", "(0<1)"))
	longName, wrongName := elem("task", 0, attr("name", "abcdefghi")), elem("task", 0, attr("name", "A"))
	noRange, noKids := elem("timer", 0, attr("ticks", "0")), elem("seq", 0)
	condOfNone := elem("task", 0, attr("name", "a"), attr("if", "(0<1)"))
	long := strings.Repeat("1", 41)
	for _, c := range []struct {
		why   string
		elems []impl.Elem
		want  int64
	}{
		// In one element.
		{"an empty tag", one(""), impl.ErrText},
		{"an empty tag with an attr", one("", attr("name", "a")), impl.ErrText},
		{"a tag that is none, with a long Value", one("a", attr("name", long)), impl.ErrMany},
		{"a tag that is none, with an attr twice", one("a", attr("x", "1"), attr("x", "1")), impl.ErrTaken},
		{"a tag that is none, without an attr that all others have", one("a"), impl.ErrNone},
		{"a tag that is none, with an expression that is none", one("a", attr("if", "x")), impl.ErrNone},
		{"a tag that is that of an attr", one("name", attr("name", "a")), impl.ErrNone},
		{"an attr of another kind with a long Value", one("task", attr("name", "a"), attr("to", long)), impl.ErrMany},
		{"an attr of another kind with a Name that is wrong", one("task", attr("name", "a"), attr("X", "1")), impl.ErrText},
		{"an attr of another kind and a number that is out of range", one("timer", attr("ticks", "0"), attr("msg", "1")), impl.ErrText},
		{"an attr too few and a number that is out of range", one("set", attr("var", "4")), impl.ErrText},
		{"an attr too few and a type", one("set", attr("to", "(0<1)")), impl.ErrText},
		{"an expression that is none and a number that is out of range", one("set", attr("var", "4"), attr("to", "x")), impl.ErrText},
		{"a number that is none and a type", one("set", attr("var", "01"), attr("to", "(0<1)")), impl.ErrText},
		{"an expression that is none and a Name of 9 bytes", one("task", attr("name", "abcdefghi"), attr("if", "x")), impl.ErrText},
		{"a Name of 9 bytes and an if that may not be", one("task", attr("name", "abcdefghi"), attr("if", "(0<1)")), impl.ErrMany},
		{"a Name of 8 bytes and an if that may not be", one("task", attr("name", "abcdefgh"), attr("if", "(0<1)")), impl.ErrForm},
		{"a number that is out of range and an if that may not be", one("wait", attr("if", "(0<1)"), attr("msg", "10")), impl.ErrRange},
		{"a number that is out of range and a type", one("set", attr("var", "4"), attr("to", "(0<1)")), impl.ErrRange},
		{"an if that may not be and a type", one("set", attr("if", "1"), attr("var", "1"), attr("to", "(0<1)")), impl.ErrForm},
		{"no kids and a number that is out of range", one("guard", attr("ticks", "0")), impl.ErrRange},
		{"no kids and a number of three digits", one("guard", attr("ticks", "100")), impl.ErrText},
		// In two elements ahead of the "then".
		{"an expression that is none, then a tag", of(noExpr, noTag), impl.ErrText},
		{"a tag, then an expression that is none", of(noTag, noExpr), impl.ErrNone},
		{"an attr too few, then a tag that is no name", of(noAttr, elem("A", 0)), impl.ErrText},
		{"a tag that is none, then one that is too long", of(noTag, elem("abcdefghi", 0)), impl.ErrMany},
		{"an expression that is none, then a Parent", of(noExpr, elem("seq", 9)), impl.ErrRange},
		// On both sides of the "then".
		{"a Name of 9 bytes, then a tag", of(longName, noTag), impl.ErrNone},
		{"a tag, then a Name of 9 bytes", of(noTag, longName), impl.ErrNone},
		{"a Name of 9 bytes, then an attr too few", of(longName, noAttr), impl.ErrText},
		{"a type, then an expression that is none", of(noBool, noExpr), impl.ErrText},
		{"a type, then a tag", of(noBool, noTag), impl.ErrNone},
		{"no kids, then a tag", of(noKids, noTag), impl.ErrNone},
		{"an if that may not be, then a tag", of(condOfNone, noTag), impl.ErrNone},
		{"an if that may not be, then a number that is none", of(condOfNone, elem("wait", 0, attr("msg", "00"))), impl.ErrText},
		{"a number that is out of range, then an attr too few", of(noRange, noAttr), impl.ErrText},
		// Both behind the "then": as the ProcFault has it.
		{"a Name of 9 bytes, then a wrong one", of(longName, wrongName), impl.ErrMany},
		{"a wrong Name, then one of 9 bytes", of(wrongName, longName), impl.ErrText},
		{"a type, then a number that is out of range", of(noBool, noRange), impl.ErrRange},
		{"a type, then no kids", of(noBool, noKids), impl.ErrForm},
		{"no kids, then a Name of 9 bytes", of(noKids, longName), impl.ErrMany},
		{"an if that may not be, then a number that is out of range", of(condOfNone, noRange), impl.ErrRange},
		{"a type alone", of(noBool), impl.ErrType},
	} {
		if got := impl.ProcOf(c.elems); got.Code != c.want || len(got.Proc) != 0 {
			t.Errorf("ProcOf of %s = %v, want the code %d", c.why, got, c.want)
		}
		if slow := slowProcOf(c.elems); slow.Code != c.want {
			t.Errorf("the test's own ProcOf of %s = %v, want the code %d", c.why, slow, c.want)
		}
	}
}

// Promise 1: TreeOf and WriteProc answer at every process and change none, with nothing beside a code.
func TestTreeOfAnswersAtEachProc(t *testing.T) {
	r := rand.New(rand.NewSource(35))
	count := map[int64]int{}
	for i := range 20000 {
		p := stretch(r, randomProc(r, 1+r.Intn(24)))
		for range r.Intn(4) {
			p = spoilProc(r, p)
		}
		if i%8 == 0 {
			p[r.Intn(len(p))] = impl.Step{Kind: int64(r.Uint64()), Parent: int64(r.Uint64()), Name: "a", Arg: int64(r.Uint64()), Expr: []impl.Node{{Kind: int64(r.Uint64())}}}
		}
		before := cloneProc(p)
		want, got := slowTreeOf(p), impl.TreeOf(p)
		count[got.Code]++
		if !sameTreeResults(got, want) {
			t.Fatalf("TreeOf(%v) = %v, want %v", p, got, want)
		}
		wantText := impl.TextResult{Code: want.Code}
		if want.Code == 0 {
			wantText = impl.WriteTree(want.Elems)
		}
		if text := impl.WriteProc(p); text != wantText {
			t.Fatalf("WriteProc(%v) = %v, want %v", p, text, wantText)
		}
		if !reflect.DeepEqual(p, before) {
			t.Fatalf("changed: %v, before %v", p, before)
		}
	}
	for _, code := range []int64{impl.OK, impl.ErrForm, impl.ErrMany, impl.ErrRange, impl.ErrText, impl.ErrType} {
		if count[code] < 20 {
			t.Error(count)
		}
	}
}

// Promise 1: what TreeOf and WriteProc answer is new memory, and room behind an argument is not written to.
func TestTreeOfIsNewMemory(t *testing.T) {
	p := append(make([]impl.Step, 0, 40), orderProc()...)
	p[1].Name = strings.Clone("abcdefgh")
	for i := range p {
		p[i].Cond = append(make([]impl.Node, 0, 40), p[i].Cond...)
		p[i].Expr = append(make([]impl.Node, 0, 40), p[i].Expr...)
	}
	first, second := impl.TreeOf(p), impl.TreeOf(p)
	want := cloneTree(second.Elems)
	if first.Code != 0 || len(first.Elems) != len(p) {
		t.Fatal(first)
	}
	if value := first.Elems[1].Attrs[0].Value; value != "abcdefgh" || sharesBytes(value, p[1].Name) {
		t.Errorf("the Value %q is shared", value)
	}
	for i, e := range first.Elems {
		clear(e.Attrs[:cap(e.Attrs)])
		for _, other := range first.Elems[i+1:] {
			if slices.Contains(other.Attrs, impl.Attr{}) {
				t.Errorf("the attrs at %d are shared with others", i)
			}
		}
	}
	clear(first.Elems[:cap(first.Elems)])
	if !impl.SameTrees(second.Elems, want) || !impl.SameTrees(impl.TreeOf(p).Elems, want) {
		t.Error("two answers are shared")
	}
	one := proc(impl.Step{Kind: impl.StepTask, Parent: -1, Name: strings.Clone("abcdefgh")})
	if text := impl.WriteProc(one); text.Text != `<task name="abcdefgh"/>` || sharesBytes(text.Text, one[0].Name) || sharesBytes(one[0].Name, text.Text) {
		t.Errorf("the text %q is shared", text.Text)
	}
	impl.WriteProc(p)
	askRoomBehind(t, p)
}

// Promise 1: what TreeOf and WriteProc answer hangs on the process alone, not on what was asked ahead of it.
func TestTreeOfHangsOnTheProcAlone(t *testing.T) {
	r := rand.New(rand.NewSource(36))
	procs := [][]impl.Step{nil, seqOf(24), seqOf(25), nestOf(7), nestOf(8), orderProc(), longProc(1500), longProc(1501), proc(setAt(-1, 1, exprOfBytes(41)))}
	for range 100 {
		procs = append(procs, randomProc(r, 1+r.Intn(24)), spoilProc(r, randomProc(r, 8)))
	}
	ask := func(p []impl.Step) []any { return []any{impl.TreeOf(p), impl.WriteProc(p)} }
	var first [][]any
	for _, p := range procs {
		first = append(first, ask(p))
	}
	for i := len(procs) - 1; i >= 0; i-- {
		for range 3 {
			// A clone lies elsewhere: no answer hangs on an address or a capacity.
			if got := ask(cloneProc(procs[i])); !reflect.DeepEqual(got, first[i]) {
				t.Errorf("%v, and ahead of that %v", got, first[i])
			}
		}
	}
}
