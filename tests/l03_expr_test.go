package tests

import (
	"math"
	"math/big"
	"math/rand"
	"reflect"
	"regexp"
	"slices"
	"strconv"
	"strings"
	"testing"

	"loop.example/g00343/impl"
)

const signsInOrder = "+-*/<=&"

func num(value int64) []impl.Node {
	return []impl.Node{{Kind: impl.ExprConst, Value: value}}
}

func variable(number int64) []impl.Node {
	return []impl.Node{{Kind: impl.ExprVar, Value: number}}
}

func not(part []impl.Node) []impl.Node {
	return append(slices.Clone(part), impl.Node{Kind: impl.ExprNot, Left: int64(len(part)) - 1})
}

func pair(kind int64, left, right []impl.Node) []impl.Node {
	e := slices.Clone(left)
	for _, n := range right {
		if n.Kind > impl.ExprVar {
			n.Left += int64(len(left))
		}
		if n.Kind > impl.ExprVar && n.Kind < impl.ExprNot {
			n.Right += int64(len(left))
		}
		e = append(e, n)
	}
	return append(e, impl.Node{Kind: kind, Left: int64(len(left)) - 1, Right: int64(len(e)) - 1})
}

// yes is an expression of three nodes that is a bool.
func yes() []impl.Node {
	return pair(impl.ExprLess, num(0), num(1))
}

// nots is an expression of n nodes, each but the first the not of the one ahead.
func nots(n int) []impl.Node {
	e := num(7)
	for len(e) < n {
		e = not(e)
	}
	return e
}

// sums is an expression of n pairs around one another, the further ones on the right.
func sums(n int) []impl.Node {
	e := num(1)
	for range n {
		e = pair(impl.ExprAdd, variable(2), e)
	}
	return e
}

func TestExprConstants(t *testing.T) {
	kinds := []int64{impl.ExprConst, impl.ExprVar, impl.ExprAdd, impl.ExprSub, impl.ExprMul, impl.ExprDiv, impl.ExprLess, impl.ExprSame, impl.ExprAnd, impl.ExprNot}
	for i, kind := range kinds {
		if kind != int64(i)+1 {
			t.Errorf("the kind at %d is %d", i, kind)
		}
	}
	if impl.TypeInt != 1 || impl.TypeBool != 2 || impl.MaxVars != 4 || impl.MaxNodes != 16 || impl.MaxBig != 1000000 {
		t.Error("a constant is another one")
	}
}

func TestExprFault(t *testing.T) {
	cases := []struct {
		why  string
		e    []impl.Node
		want int64
	}{
		{"nil", nil, impl.ErrMany},
		{"no node", []impl.Node{}, impl.ErrMany},
		{"one node", num(1), 0},
		{"16 nodes", nots(16), 0},
		{"17 nodes", nots(17), impl.ErrMany},
		{"15 nodes in pairs", sums(7), 0},
		{"16 nodes in pairs and a not", not(sums(7)), 0},
		{"17 nodes in pairs", sums(8), impl.ErrMany},
		{"17 nodes that are none", make([]impl.Node, 17), impl.ErrMany},
		{"very many nodes", make([]impl.Node, 100000), impl.ErrMany},
		{"16 nodes that are none", make([]impl.Node, 16), impl.ErrForm},
		{"a const of 0", num(0), 0},
		{"a const of 9999", num(9999), 0},
		{"a const of 10000", num(10000), impl.ErrRange},
		{"a const of -1", num(-1), impl.ErrRange},
		{"a const of the most", num(math.MaxInt64), impl.ErrRange},
		{"a const of the least", num(math.MinInt64), impl.ErrRange},
		{"a variable 0", variable(0), 0},
		{"a variable 3", variable(3), 0},
		{"a variable 4", variable(4), impl.ErrRange},
		{"a variable -1", variable(-1), impl.ErrRange},
		{"a variable of the most", variable(math.MaxInt64), impl.ErrRange},
		{"a variable of the least", variable(math.MinInt64), impl.ErrRange},
		{"a wrong type", not(num(3)), 0},
		{"a wrong type in a pair", pair(impl.ExprAnd, num(3), yes()), 0},
		{"the same twice", pair(impl.ExprAdd, variable(1), variable(1)), 0},
		{"pairs on the left", pair(impl.ExprSub, pair(impl.ExprSub, num(1), num(2)), num(3)), 0},
		{"pairs on the right", pair(impl.ExprSub, num(1), pair(impl.ExprSub, num(2), num(3))), 0},
		{"pairs on both sides", pair(impl.ExprAnd, not(yes()), not(not(yes()))), 0},
	}
	for _, c := range cases {
		if got := impl.ExprFault(c.e); got != c.want {
			t.Errorf("ExprFault of %s = %d, want %d", c.why, got, c.want)
		}
	}
}

func TestExprFaultOfEachKind(t *testing.T) {
	leaf := impl.Node{Kind: impl.ExprConst}
	// What each kind tells alone, behind one node, behind two nodes.
	none := [3]int64{impl.ErrForm, impl.ErrForm, impl.ErrForm}
	single := [3]int64{impl.OK, impl.ErrForm, impl.ErrForm}
	pairs := [3]int64{impl.ErrRange, impl.ErrForm, impl.OK}
	nots := [3]int64{impl.ErrRange, impl.OK, impl.ErrForm}
	wants := map[int64][3]int64{1: single, 2: single, 3: pairs, 4: pairs, 5: pairs, 6: pairs, 7: pairs, 8: pairs, 9: pairs, 10: nots}
	for _, kind := range []int64{math.MinInt64, -3, -2, -1, 0, 11, 12, 13, 257, 1<<32 + 1, math.MaxInt64} {
		wants[kind] = none
	}
	for kind, want := range wants {
		got := [3]int64{
			impl.ExprFault([]impl.Node{{Kind: kind}}),
			impl.ExprFault([]impl.Node{leaf, {Kind: kind}}),
			impl.ExprFault([]impl.Node{leaf, leaf, {Kind: kind, Right: 1}}),
		}
		if got != want {
			t.Errorf("ExprFault of the kind %d = %v, want %v", kind, got, want)
		}
	}
}

// What a kind has not is ErrForm, whatever it is; what it has is ErrRange.
func TestExprFaultOfWhatAKindHasNot(t *testing.T) {
	for _, x := range []int64{-1, 1, 2, 9999, 10000, math.MaxInt64, math.MinInt64} {
		for _, kind := range []int64{impl.ExprConst, impl.ExprVar} {
			for _, n := range []impl.Node{{Kind: kind, Left: x}, {Kind: kind, Right: x}, {Kind: kind, Left: x, Right: x}} {
				if got := impl.ExprFault([]impl.Node{n}); got != impl.ErrForm {
					t.Errorf("ExprFault of %v = %d, want ErrForm", n, got)
				}
			}
		}
		for kind := int64(impl.ExprAdd); kind <= impl.ExprAnd; kind++ {
			e := []impl.Node{{Kind: 1}, {Kind: 2}, {Kind: kind, Value: x, Left: 0, Right: 1}}
			if got := impl.ExprFault(e); got != impl.ErrForm {
				t.Errorf("ExprFault of %v = %d, want ErrForm", e, got)
			}
		}
		for _, n := range []impl.Node{{Kind: impl.ExprNot, Value: x, Left: 1}, {Kind: impl.ExprNot, Left: 1, Right: x}} {
			e := []impl.Node{{Kind: 1}, {Kind: 10}, n}
			if got := impl.ExprFault(e); got != impl.ErrForm {
				t.Errorf("ExprFault of %v = %d, want ErrForm", e, got)
			}
		}
	}
}

func TestExprFaultOfPlaces(t *testing.T) {
	for kind := int64(impl.ExprAdd); kind <= impl.ExprAnd; kind++ {
		cases := []struct {
			left, right int64
			want        int64
		}{
			{0, 1, 0},
			{1, 0, impl.ErrForm}, {0, 0, impl.ErrForm}, {1, 1, impl.ErrForm},
			{-1, 1, impl.ErrRange}, {0, -1, impl.ErrRange}, {-1, -1, impl.ErrRange},
			{2, 1, impl.ErrRange}, {0, 2, impl.ErrRange}, {3, 1, impl.ErrRange}, {0, 3, impl.ErrRange},
			{math.MaxInt64, 1, impl.ErrRange}, {0, math.MaxInt64, impl.ErrRange},
			{math.MinInt64, 1, impl.ErrRange}, {0, math.MinInt64, impl.ErrRange}, {1 << 32, 1, impl.ErrRange}, {0, 1<<32 + 1, impl.ErrRange},
		}
		for _, c := range cases {
			e := []impl.Node{{Kind: 1}, {Kind: 1}, {Kind: kind, Left: c.left, Right: c.right}}
			if got := impl.ExprFault(e); got != c.want {
				t.Errorf("ExprFault(%v) = %d, want %d", e, got, c.want)
			}
			// One behind is a node all the same, and no place ahead.
			e = append(e, impl.Node{Kind: impl.ExprNot, Left: 2})
			if got := impl.ExprFault(e); got != c.want {
				t.Errorf("ExprFault(%v) = %d, want %d", e, got, c.want)
			}
		}
	}
	for left, want := range map[int64]int64{0: impl.ErrForm, 1: 0, 2: impl.ErrRange, 3: impl.ErrRange, -1: impl.ErrRange, math.MaxInt64: impl.ErrRange, math.MinInt64: impl.ErrRange} {
		e := []impl.Node{{Kind: 1}, {Kind: 10}, {Kind: 10, Left: left}}
		if got := impl.ExprFault(e); got != want {
			t.Errorf("ExprFault(%v) = %d, want %d", e, got, want)
		}
	}
}

func TestExprFaultOfOrder(t *testing.T) {
	add := func(left, right int64) impl.Node {
		return impl.Node{Kind: impl.ExprAdd, Left: left, Right: right}
	}
	leaf := impl.Node{Kind: impl.ExprConst}
	cases := []struct {
		why string
		e   []impl.Node
	}{
		{"a node that is a part of none", []impl.Node{leaf, leaf}},
		{"a node in the middle that is a part of none", []impl.Node{leaf, leaf, {Kind: impl.ExprNot, Left: 0}}},
		{"a node ahead that is a part of none", []impl.Node{leaf, leaf, leaf, add(1, 2)}},
		{"a node that is both parts", []impl.Node{leaf, add(0, 0)}},
		{"a node that is a part of two", []impl.Node{leaf, {Kind: impl.ExprNot}, add(0, 1)}},
		{"a node that is a part of two pairs", []impl.Node{leaf, leaf, add(0, 1), add(1, 2)}},
		{"the right one ahead of the left one", []impl.Node{leaf, leaf, add(1, 0)}},
		{"a pair on the right ahead of the left one", []impl.Node{leaf, leaf, add(0, 1), leaf, add(3, 2)}},
		{"the left pair's parts around the right one", []impl.Node{leaf, leaf, leaf, add(0, 2), add(3, 1)}},
		{"the parts of two pairs mixed", []impl.Node{leaf, leaf, leaf, leaf, add(0, 2), add(1, 3), add(4, 5)}},
		{"all parts ahead of all pairs", []impl.Node{leaf, leaf, leaf, leaf, add(0, 1), add(2, 3), add(4, 5)}},
		{"one piece behind another one", append(yes(), variable(0)...)},
	}
	for _, c := range cases {
		if got := impl.ExprFault(c.e); got != impl.ErrForm {
			t.Errorf("ExprFault of %s = %d, want ErrForm", c.why, got)
		}
	}
	for _, e := range [][]impl.Node{
		{leaf, leaf, add(0, 1), leaf, leaf, add(3, 4), add(2, 5)},
		{leaf, leaf, leaf, leaf, add(2, 3), add(1, 4), add(0, 5)},
		{leaf, leaf, add(0, 1), leaf, add(2, 3), leaf, add(4, 5)},
		{leaf, leaf, leaf, add(1, 2), add(0, 3)},
	} {
		if got := impl.ExprFault(e); got != 0 {
			t.Errorf("ExprFault(%v) = %d, want 0", e, got)
		}
	}
	// Were each way gone, two ways at each node would be some 30000 nodes.
	doubled := []impl.Node{leaf}
	for at := range int64(15) {
		doubled = append(doubled, add(at, at))
	}
	if got := impl.ExprFault(doubled); got != impl.ErrForm {
		t.Errorf("ExprFault of nodes that are parts twice = %d, want ErrForm", got)
	}
}

// Each code is asked ahead of those behind it, of one node ahead of the next one.
func TestExprFaultInOrder(t *testing.T) {
	cases := []struct {
		why  string
		e    []impl.Node
		want int64
	}{
		{"what a const has not ahead of its value", []impl.Node{{Kind: 1, Value: -1, Left: 1}}, impl.ErrForm},
		{"what a variable has not ahead of its value", []impl.Node{{Kind: 2, Value: 4, Right: 1}}, impl.ErrForm},
		{"the value of a pair ahead of its parts", []impl.Node{{Kind: 3, Value: 1, Left: -1, Right: 9}}, impl.ErrForm},
		{"the right of a not ahead of its left", []impl.Node{{Kind: 10, Left: -1, Right: 1}}, impl.ErrForm},
		{"a kind ahead of all else", []impl.Node{{Kind: 11, Value: -1, Left: -1, Right: -1}}, impl.ErrForm},
		{"the value of one ahead of the kind of the next one", []impl.Node{{Kind: 1, Value: 10000}, {Kind: 11}}, impl.ErrRange},
		{"the kind of one ahead of the value of the next one", []impl.Node{{Kind: 0}, {Kind: 1, Value: 10000}}, impl.ErrForm},
		{"the left of one ahead of the right of a not behind it", []impl.Node{{Kind: 10}, {Kind: 10, Right: 1}}, impl.ErrRange},
		{"the right of a not ahead of the left of one behind it", []impl.Node{{Kind: 1}, {Kind: 10, Right: 1}, {Kind: 10, Left: 5}}, impl.ErrForm},
		{"a range ahead of the order", []impl.Node{{Kind: 1}, {Kind: 1}, {Kind: 2, Value: 4}}, impl.ErrRange},
		{"a range behind nodes in another order", []impl.Node{{Kind: 1}, {Kind: 3}, {Kind: 3, Left: 0, Right: 2}}, impl.ErrRange},
		{"how many ahead of a range", append(nots(16), impl.Node{Kind: 1, Value: -1}), impl.ErrMany},
	}
	for _, c := range cases {
		if got := impl.ExprFault(c.e); got != c.want {
			t.Errorf("%s: %d, want %d", c.why, got, c.want)
		}
	}
}

// slowExprFault tells it once more: what is visited from the last node on is listed, and held against the places.
func slowExprFault(e []impl.Node) int64 {
	if len(e) == 0 || len(e) > 16 {
		return impl.ErrMany
	}
	ahead := func(place int64, at int) bool { return place >= 0 && place < int64(at) }
	for at, n := range e {
		leaf, pair := n.Kind == 1 || n.Kind == 2, n.Kind >= 3 && n.Kind <= 9
		if n.Kind < 1 || n.Kind > 10 || leaf && n.Left != 0 || !pair && n.Right != 0 || !leaf && n.Value != 0 {
			return impl.ErrForm
		}
		if n.Kind == 1 && (n.Value < 0 || n.Value > 9999) || n.Kind == 2 && (n.Value < 0 || n.Value > 3) {
			return impl.ErrRange
		}
		if !leaf && !ahead(n.Left, at) || pair && !ahead(n.Right, at) {
			return impl.ErrRange
		}
	}
	var visited, places []int64
	var visit func(at int64)
	visit = func(at int64) {
		if n := e[at]; n.Kind > 2 && len(visited) <= len(e) {
			visit(n.Left)
			if n.Kind != 10 {
				visit(n.Right)
			}
		}
		visited = append(visited, at)
	}
	visit(int64(len(e)) - 1)
	for at := range e {
		places = append(places, int64(at))
	}
	if !slices.Equal(visited, places) {
		return impl.ErrForm
	}
	return 0
}

func TestExprFaultOfEachSmallExpr(t *testing.T) {
	count := map[int64]int{}
	ask := func(e []impl.Node) {
		got, want := impl.ExprFault(e), slowExprFault(e)
		count[got]++
		if got != want {
			t.Fatalf("ExprFault(%v) = %d, want %d", e, got, want)
		}
	}
	var grow func(e []impl.Node, kinds, values []int64, left int)
	grow = func(e []impl.Node, kinds, values []int64, left int) {
		ask(e)
		if left == 0 {
			return
		}
		for _, kind := range kinds {
			for _, value := range values {
				for l := int64(-1); l <= 3; l++ {
					for r := int64(-1); r <= 3; r++ {
						grow(append(slices.Clip(e), impl.Node{Kind: kind, Value: value, Left: l, Right: r}), kinds, values, left-1)
					}
				}
			}
		}
	}
	grow(nil, []int64{0, 1, 2, 3, 9, 10, 11}, []int64{-1, 0, 3, 4}, 2)
	grow(nil, []int64{1, 5, 10}, []int64{0, 1}, 3)
	// Of five and six nodes those alone that have the form of their kind.
	var places func(e []impl.Node, left int)
	places = func(e []impl.Node, left int) {
		ask(e)
		if left == 0 {
			return
		}
		places(append(slices.Clip(e), impl.Node{Kind: 2}), left-1)
		for l := range int64(len(e)) {
			places(append(slices.Clip(e), impl.Node{Kind: 10, Left: l}), left-1)
			for r := range int64(len(e)) {
				places(append(slices.Clip(e), impl.Node{Kind: 4, Left: l, Right: r}), left-1)
			}
		}
	}
	places(nil, 6)
	if count[impl.OK] == 0 || count[impl.ErrRange] == 0 || count[impl.ErrForm] == 0 || count[impl.ErrMany] == 0 {
		t.Error(count)
	}
}

// randomExpr is one of at most so many nodes without a fault, of any types.
func randomExpr(r *rand.Rand, most int) []impl.Node {
	switch {
	case most >= 3 && r.Intn(5) > 0:
		left := randomExpr(r, most-2)
		return pair(3+int64(r.Intn(7)), left, randomExpr(r, most-1-len(left)))
	case most >= 2 && r.Intn(4) == 0:
		return not(randomExpr(r, most-1))
	case r.Intn(2) == 0:
		return variable(int64(r.Intn(4)))
	}
	return num([]int64{0, 1, 2, 9, 10, 99, 100, 999, 1000, 9999}[r.Intn(10)])
}

// randomTyped is one of at most so many nodes that has the type.
func randomTyped(r *rand.Rand, most int, want int64) []impl.Node {
	of := func(kind int64, part int64) []impl.Node {
		left := randomTyped(r, (most-1)/2, part)
		return pair(kind, left, randomTyped(r, most-1-len(left), part))
	}
	switch {
	case want == impl.TypeInt && most >= 3 && r.Intn(5) > 0:
		return of(3+int64(r.Intn(4)), impl.TypeInt)
	case want == impl.TypeInt && r.Intn(3) > 0:
		return variable(int64(r.Intn(4)))
	case want == impl.TypeInt:
		return num(int64(r.Intn(10000)) / []int64{1, 10, 1000, 5000}[r.Intn(4)])
	case most >= 7 && r.Intn(2) == 0:
		return of(9, impl.TypeBool)
	case most >= 4 && r.Intn(3) == 0:
		return not(randomTyped(r, most-1, impl.TypeBool))
	}
	return of(7+int64(r.Intn(2)), impl.TypeInt)
}

// spoilExpr makes one thing of e wrong, or another one that is right.
func spoilExpr(r *rand.Rand, e []impl.Node) []impl.Node {
	e = slices.Clone(e)
	n := &e[r.Intn(len(e))]
	some := []int64{-1, 0, 1, 3, 4, 9999, 10000, math.MaxInt64, math.MinInt64}
	place := int64(r.Intn(len(e)+2)) - 1
	switch r.Intn(7) {
	case 0:
		n.Kind = int64(r.Intn(12))
	case 1:
		n.Value = some[r.Intn(len(some))]
	case 2:
		n.Left = place
	case 3:
		n.Right = place
	case 4:
		e = append(e, *n)
	case 5:
		at := r.Intn(len(e))
		*n, e[at] = e[at], *n
	case 6:
		e = e[r.Intn(len(e)):]
	}
	return e
}

func TestExprFaultOfSpoiltExprs(t *testing.T) {
	r := rand.New(rand.NewSource(11))
	for range 100000 {
		e := randomExpr(r, 1+r.Intn(18))
		for range r.Intn(4) {
			e = spoilExpr(r, e)
		}
		if got, want := impl.ExprFault(e), slowExprFault(e); got != want {
			t.Fatalf("ExprFault(%v) = %d, want %d", e, got, want)
		}
	}
}

// A fault of the nodes is the code of all that ask for it, with nothing beside it.
func TestExprFaultIsAskedFirst(t *testing.T) {
	r := rand.New(rand.NewSource(12))
	asked := 0
	ask := func(e []impl.Node) {
		want := slowExprFault(e)
		if want == 0 {
			return
		}
		asked++
		vars := [][]int64{{1, 2, 3, 4}, nil, {math.MaxInt64, 0, 0, 0}}[r.Intn(3)]
		if got := impl.TypeOf(e); got != (impl.IntResult{Code: want}) {
			t.Fatalf("TypeOf(%v) = %v, want the code %d", e, got, want)
		}
		if got := impl.EvalExpr(e, vars); got != (impl.IntResult{Code: want}) {
			t.Fatalf("EvalExpr(%v, %v) = %v, want the code %d", e, vars, got, want)
		}
		if got := impl.ExprText(e); got != (impl.TextResult{Code: want}) {
			t.Fatalf("ExprText(%v) = %v, want the code %d", e, got, want)
		}
		if got := impl.VarsIn(e); got.Code != want || len(got.List) != 0 {
			t.Fatalf("VarsIn(%v) = %v, want the code %d", e, got, want)
		}
	}
	ask(nil)
	ask(nots(17))
	ask(not(not(num(10000))))
	ask([]impl.Node{{Kind: 2}, {Kind: 2}})
	for range 20000 {
		ask(spoilExpr(r, spoilExpr(r, randomExpr(r, 8))))
	}
	if asked < 5000 {
		t.Errorf("only %d had a fault", asked)
	}
}

// slowTypeOf tells the types of the nodes from the first one on; 0: there is none.
func slowTypeOf(e []impl.Node) int64 {
	var types []int64
	for _, n := range e {
		asked, own := int64(1), int64(1)
		if n.Kind >= 7 {
			own = 2
		}
		if n.Kind >= 9 {
			asked = 2
		}
		if n.Kind > 2 && types[n.Left] != asked || n.Kind > 2 && n.Kind < 10 && types[n.Right] != asked {
			return 0
		}
		types = append(types, own)
	}
	return types[len(types)-1]
}

func TestTypeOf(t *testing.T) {
	wrong := impl.IntResult{Code: impl.ErrType}
	isInt, isBool := impl.IntResult{Value: impl.TypeInt}, impl.IntResult{Value: impl.TypeBool}
	if got := impl.TypeOf(num(0)); got != isInt {
		t.Errorf("TypeOf a const = %v", got)
	}
	if got := impl.TypeOf(variable(3)); got != isInt {
		t.Errorf("TypeOf a variable = %v", got)
	}
	if impl.TypeOf(not(yes())) != isBool || impl.TypeOf(not(not(yes()))) != isBool {
		t.Error("TypeOf the not of a bool")
	}
	for _, part := range [][]impl.Node{num(1), num(0), variable(0), sums(2)} {
		if got := impl.TypeOf(not(part)); got != wrong {
			t.Errorf("TypeOf the not of %v = %v, want ErrType", part, got)
		}
	}
	ints := [][]impl.Node{num(1), variable(0), sums(1), pair(impl.ExprDiv, num(1), num(0))}
	bools := [][]impl.Node{yes(), not(yes()), pair(impl.ExprSame, num(1), num(1)), pair(impl.ExprAnd, yes(), yes())}
	for kind := int64(impl.ExprAdd); kind <= impl.ExprAnd; kind++ {
		ofInts, ofBools := isInt, wrong
		if kind >= impl.ExprLess {
			ofInts = isBool
		}
		if kind == impl.ExprAnd {
			ofInts, ofBools = wrong, isBool
		}
		for i := range ints {
			for j := range bools {
				for _, c := range []struct {
					e    []impl.Node
					want impl.IntResult
				}{
					{pair(kind, ints[i], ints[j]), ofInts}, {pair(kind, bools[i], bools[j]), ofBools},
					{pair(kind, ints[i], bools[j]), wrong}, {pair(kind, bools[i], ints[j]), wrong},
				} {
					if got := impl.TypeOf(c.e); got != c.want {
						t.Errorf("TypeOf(%v) = %v, want %v", c.e, got, c.want)
					}
				}
			}
		}
	}
	// A wrong type far below is one of the whole.
	for _, e := range [][]impl.Node{pair(impl.ExprAdd, num(1), pair(impl.ExprMul, yes(), num(2))), pair(impl.ExprAnd, pair(impl.ExprLess, not(num(1)), num(2)), yes()), not(not(not(num(1))))} {
		if got := impl.TypeOf(e); got != wrong {
			t.Errorf("TypeOf(%v) = %v, want ErrType", e, got)
		}
	}
}

func TestTypeOfManyExprs(t *testing.T) {
	r := rand.New(rand.NewSource(13))
	count := map[impl.IntResult]int{}
	for range 60000 {
		e := randomExpr(r, 1+r.Intn(16))
		if r.Intn(2) == 0 {
			e = randomTyped(r, 3+r.Intn(14), 1+int64(r.Intn(2)))
		}
		want := impl.IntResult{Value: slowTypeOf(e)}
		if want.Value == 0 {
			want.Code = impl.ErrType
		}
		count[want]++
		if got := impl.TypeOf(e); got != want {
			t.Fatalf("TypeOf(%v) = %v, want %v", e, got, want)
		}
	}
	if len(count) != 3 {
		t.Error(count)
	}
}

func TestVarsFault(t *testing.T) {
	most, least := int64(impl.MaxBig), int64(-impl.MaxBig)
	cases := []struct {
		vars []int64
		want int64
	}{
		{[]int64{0, 0, 0, 0}, 0}, {[]int64{most, least, most, least}, 0}, {[]int64{-1, 2, -3, 4}, 0},
		{nil, impl.ErrMany}, {[]int64{}, impl.ErrMany}, {[]int64{1, 2, 3}, impl.ErrMany}, {[]int64{1, 2, 3, 4, 5}, impl.ErrMany},
		{make([]int64, 100000), impl.ErrMany},
		// How many there are is asked ahead of what they are.
		{[]int64{most + 1, 0, 0}, impl.ErrMany}, {[]int64{0, 0, 0, 0, least - 1}, impl.ErrMany},
	}
	for at := range 4 {
		for value, want := range map[int64]int64{
			most: 0, least: 0, most + 1: impl.ErrRange, least - 1: impl.ErrRange, math.MaxInt64: impl.ErrRange, math.MinInt64: impl.ErrRange, 1 << 32: impl.ErrRange, -1 << 32: impl.ErrRange,
		} {
			vars := make([]int64, 4)
			vars[at] = value
			cases = append(cases, struct {
				vars []int64
				want int64
			}{vars, want})
		}
	}
	for _, c := range cases {
		if got := impl.VarsFault(c.vars); got != c.want {
			t.Errorf("VarsFault(%v) = %d, want %d", c.vars, got, c.want)
		}
	}
}

func TestEvalExpr(t *testing.T) {
	v := func(n int64) []impl.Node { return variable(n) }
	add, sub, mul, div := int64(impl.ExprAdd), int64(impl.ExprSub), int64(impl.ExprMul), int64(impl.ExprDiv)
	big := int64(impl.MaxBig)
	// Of the variables v0 and v1: a sign, two numbers, what they come to.
	numbers := []struct {
		kind, left, right, want int64
	}{
		{add, 3, 2, 5}, {add, -3, 2, -1}, {add, big, 0, big}, {add, big - 1, 1, big}, {add, -big, big, 0}, {add, 1 - big, -1, -big},
		{sub, 3, 2, 1}, {sub, 2, 3, -1}, {sub, 0, big, -big}, {sub, 0, -big, big}, {sub, big, big, 0}, {sub, big - 1, -1, big}, {sub, 1 - big, 1, -big},
		{mul, 3, 2, 6}, {mul, -3, 2, -6}, {mul, -3, -2, 6}, {mul, 1000, 1000, big}, {mul, -1000, 1000, -big}, {mul, big, 0, 0}, {mul, big, -1, -big}, {mul, -big, -1, big}, {mul, 500000, 2, big}, {mul, 2, -500000, -big},
		{div, 7, 2, 3}, {div, -7, 2, -3}, {div, 7, -2, -3}, {div, -7, -2, 3}, {div, 1, 2, 0}, {div, -1, 2, 0}, {div, 1, -2, 0}, {div, -1, -2, 0}, {div, 0, 5, 0}, {div, 0, -5, 0},
		{div, 6, 3, 2}, {div, -6, 3, -2}, {div, 6, -3, -2}, {div, -6, -3, 2}, {div, -5, 3, -1}, {div, 5, -3, -1}, {div, big, 1, big}, {div, big, -1, -big}, {div, -big, -1, big}, {div, -big, 1, -big}, {div, big, big, 1}, {div, -big, big, -1}, {div, 999999, big, 0}, {div, -999999, big, 0},
	}
	for _, c := range numbers {
		if got := impl.EvalExpr(pair(c.kind, v(0), v(1)), []int64{c.left, c.right, 0, 0}); got != (impl.IntResult{Value: c.want}) {
			t.Errorf("%d %c %d = %v, want %d", c.left, signsInOrder[c.kind-3], c.right, got, c.want)
		}
	}
	outside := []struct{ kind, left, right int64 }{
		{add, big, 1}, {add, 1, big}, {add, -big, -1}, {add, big, big}, {add, -big, -big}, {add, 500000, 500001},
		{sub, big, -1}, {sub, -big, 1}, {sub, -1, big}, {sub, 1, -big}, {sub, big, -big}, {sub, -big, big},
		{mul, 1000, 1001}, {mul, -1000, 1001}, {mul, 1001, -1000}, {mul, -1001, -1000}, {mul, big, 2}, {mul, big, big}, {mul, -big, -big}, {mul, big, -big}, {mul, 500001, 2}, {mul, -500001, 2},
		{div, 1, 0}, {div, 0, 0}, {div, -1, 0}, {div, big, 0}, {div, -big, 0},
	}
	for _, c := range outside {
		if got := impl.EvalExpr(pair(c.kind, v(0), v(1)), []int64{c.left, c.right, 0, 0}); got != (impl.IntResult{Code: impl.ErrValue}) {
			t.Errorf("%d %c %d = %v, want ErrValue", c.left, signsInOrder[c.kind-3], c.right, got)
		}
	}
	for _, number := range []int64{0, 1, -1, big, -big} {
		if got := impl.EvalExpr(v(1), []int64{0, number, 0, 0}); got != (impl.IntResult{Value: number}) {
			t.Errorf("a variable of %d = %v", number, got)
		}
	}
	for at := range int64(4) {
		if got := impl.EvalExpr(v(at), []int64{10, 11, 12, 13}); got != (impl.IntResult{Value: 10 + at}) {
			t.Errorf("the variable %d = %v", at, got)
		}
	}
	if got := impl.EvalExpr(num(9999), []int64{0, 0, 0, 0}); got != (impl.IntResult{Value: 9999}) {
		t.Errorf("a const of 9999 = %v", got)
	}
}

func TestEvalExprOfAnswers(t *testing.T) {
	v := func(n int64) []impl.Node { return variable(n) }
	numbers := []int64{-impl.MaxBig, -2, -1, 0, 1, 2, impl.MaxBig}
	ask := func(e []impl.Node, vars []int64, want bool) {
		value := int64(0)
		if want {
			value = 1
		}
		if got := impl.EvalExpr(e, vars); got != (impl.IntResult{Value: value}) {
			t.Errorf("EvalExpr(%v, %v) = %v, want %d", e, vars, got, value)
		}
	}
	for _, a := range numbers {
		for _, b := range numbers {
			vars := []int64{a, b, 0, 0}
			less, same := pair(impl.ExprLess, v(0), v(1)), pair(impl.ExprSame, v(0), v(1))
			ask(less, vars, a < b)
			ask(same, vars, a == b)
			ask(not(less), vars, a >= b)
			ask(not(not(same)), vars, a == b)
			ask(pair(impl.ExprAnd, not(less), not(same)), vars, a > b)
			ask(pair(impl.ExprAnd, less, not(same)), vars, a < b)
			ask(pair(impl.ExprAnd, less, same), vars, false)
			ask(pair(impl.ExprAnd, not(less), same), vars, a == b)
		}
	}
}

// An error is one wherever it stands, and told even where the rest would do without it.
func TestEvalExprOfErrorsBelow(t *testing.T) {
	none := pair(impl.ExprDiv, num(1), variable(0))
	tooBig := pair(impl.ExprMul, num(9999), num(9999))
	no := pair(impl.ExprLess, num(1), num(0))
	for _, bad := range [][]impl.Node{none, tooBig} {
		isBad := pair(impl.ExprLess, bad, num(1))
		for _, e := range [][]impl.Node{
			bad, isBad, not(isBad), pair(impl.ExprAnd, no, isBad), pair(impl.ExprAnd, isBad, no), pair(impl.ExprSame, bad, bad),
			pair(impl.ExprMul, num(0), bad), pair(impl.ExprMul, bad, num(0)), pair(impl.ExprSub, bad, bad), pair(impl.ExprDiv, bad, bad), pair(impl.ExprDiv, bad, num(9999)), pair(impl.ExprAdd, bad, num(0)),
		} {
			if got := impl.EvalExpr(e, []int64{0, 0, 0, 0}); got != (impl.IntResult{Code: impl.ErrValue}) {
				t.Errorf("EvalExpr(%v) = %v, want ErrValue", e, got)
			}
		}
	}
}

// The nodes are asked ahead of the types, those ahead of the variables, those ahead of the values.
func TestEvalExprInOrder(t *testing.T) {
	good, short, far := []int64{0, 0, 0, 0}, []int64{0, 0, 0}, []int64{0, 0, 0, impl.MaxBig + 1}
	noValue := pair(impl.ExprDiv, num(1), variable(0))
	noType := pair(impl.ExprAdd, noValue, yes())
	noForm := append(slices.Clone(noType), impl.Node{Kind: 11})
	cases := []struct {
		e    []impl.Node
		vars []int64
		want int64
	}{
		{noForm, short, impl.ErrForm}, {noForm, far, impl.ErrForm}, {noForm, good, impl.ErrForm},
		{noType, short, impl.ErrType}, {noType, far, impl.ErrType}, {noType, good, impl.ErrType}, {noType, nil, impl.ErrType},
		{noValue, short, impl.ErrMany}, {noValue, far, impl.ErrRange}, {noValue, good, impl.ErrValue}, {noValue, nil, impl.ErrMany},
		// All variables are asked, whether it has them or not.
		{num(1), short, impl.ErrMany}, {num(1), far, impl.ErrRange}, {variable(0), far, impl.ErrRange}, {num(1), []int64{1, 2, 3, 4, 5}, impl.ErrMany},
		{nil, short, impl.ErrMany}, {nil, far, impl.ErrMany},
	}
	for _, c := range cases {
		if got := impl.EvalExpr(c.e, c.vars); got != (impl.IntResult{Code: c.want}) {
			t.Errorf("EvalExpr(%v, %v) = %v, want the code %d", c.e, c.vars, got, c.want)
		}
	}
}

// slowEval tells the values of the nodes from the first one on, by numbers without bounds.
func slowEval(e []impl.Node, vars []int64) impl.IntResult {
	var values []*big.Int
	most := big.NewInt(impl.MaxBig)
	yesNo := map[bool]int64{true: 1, false: 0}
	for _, n := range e {
		left, right, value := values, values, new(big.Int)
		if n.Kind > 2 {
			left, right = values[n.Left:], values[n.Right:]
		}
		switch n.Kind {
		case 1:
			value.SetInt64(n.Value)
		case 2:
			value.SetInt64(vars[n.Value])
		case 3:
			value.Add(left[0], right[0])
		case 4:
			value.Sub(left[0], right[0])
		case 5:
			value.Mul(left[0], right[0])
		case 6:
			if right[0].Sign() == 0 {
				return impl.IntResult{Code: impl.ErrValue}
			}
			value.Quo(left[0], right[0])
		case 7:
			value.SetInt64(yesNo[left[0].Cmp(right[0]) < 0])
		case 8:
			value.SetInt64(yesNo[left[0].Cmp(right[0]) == 0])
		case 9:
			value.SetInt64(yesNo[left[0].Sign() > 0 && right[0].Sign() > 0])
		case 10:
			value.SetInt64(yesNo[left[0].Sign() == 0])
		}
		if value.CmpAbs(most) > 0 {
			return impl.IntResult{Code: impl.ErrValue}
		}
		values = append(values, value)
	}
	return impl.IntResult{Value: values[len(values)-1].Int64()}
}

func randomVars(r *rand.Rand) []int64 {
	some := []int64{0, 0, 1, -1, 2, -2, 7, -7, 100, -1000, 1000, 1001, 999999, -999999, impl.MaxBig, -impl.MaxBig}
	var vars []int64
	for range 4 {
		vars = append(vars, some[r.Intn(len(some))])
	}
	return vars
}

// Promise 4: what it comes to is within its bounds, and hangs on the variables that it has alone.
func TestEvalManyExprs(t *testing.T) {
	r := rand.New(rand.NewSource(14))
	count := map[int64]int{}
	for range 60000 {
		e := randomTyped(r, 3+r.Intn(14), 1+int64(r.Intn(2)))
		vars := randomVars(r)
		got, want := impl.EvalExpr(e, vars), slowEval(e, vars)
		if got != want {
			t.Fatalf("EvalExpr(%v, %v) = %v, want %v", e, vars, got, want)
		}
		count[got.Code]++
		isBool := impl.TypeOf(e).Value == impl.TypeBool
		if got.Value < -impl.MaxBig || got.Value > impl.MaxBig || isBool && got.Value != 0 && got.Value != 1 {
			t.Fatalf("EvalExpr(%v, %v) = %v, which is outside", e, vars, got)
		}
		others := randomVars(r)
		for _, number := range impl.VarsIn(e).List {
			others[number] = vars[number]
		}
		if again := impl.EvalExpr(e, others); again != got {
			t.Fatalf("EvalExpr(%v, %v) = %v, but %v = %v", e, vars, got, others, again)
		}
	}
	if count[impl.OK] < 10000 || count[impl.ErrValue] < 1000 {
		t.Error(count)
	}
}

func TestVarsIn(t *testing.T) {
	v := func(n int64) []impl.Node { return variable(n) }
	add := func(a, b []impl.Node) []impl.Node { return pair(impl.ExprAdd, a, b) }
	cases := []struct {
		e    []impl.Node
		want []int64
	}{
		{num(0), nil}, {num(3), nil}, {not(yes()), nil},
		{v(0), []int64{0}}, {v(3), []int64{3}}, {not(v(1)), []int64{1}},
		{add(v(0), v(1)), []int64{0, 1}}, {add(v(3), v(1)), []int64{1, 3}}, {add(v(2), v(2)), []int64{2}}, {add(num(1), v(2)), []int64{2}},
		{add(add(v(3), v(2)), add(v(1), v(0))), []int64{0, 1, 2, 3}},
		{add(add(v(3), num(0)), add(v(3), v(0))), []int64{0, 3}},
		// No type is asked.
		{pair(impl.ExprAnd, v(3), not(v(0))), []int64{0, 3}},
	}
	for _, c := range cases {
		if got := impl.VarsIn(c.e); got.Code != 0 || !slices.Equal(got.List, c.want) {
			t.Errorf("VarsIn(%v) = %v, want %v", c.e, got, c.want)
		}
	}
	r := rand.New(rand.NewSource(15))
	for range 10000 {
		e := randomExpr(r, 1+r.Intn(16))
		var want []int64
		for _, n := range e {
			if n.Kind == impl.ExprVar {
				want = append(want, n.Value)
			}
		}
		slices.Sort(want)
		if got := impl.VarsIn(e); got.Code != 0 || !slices.Equal(got.List, slices.Compact(want)) {
			t.Fatalf("VarsIn(%v) = %v, want %v", e, got, slices.Compact(want))
		}
	}
}

// exprTexts are expressions and their texts.
func exprTexts() map[string][]impl.Node {
	v := func(n int64) []impl.Node { return variable(n) }
	texts := map[string][]impl.Node{
		"0": num(0), "7": num(7), "9": num(9), "10": num(10), "42": num(42), "100": num(100), "999": num(999), "1000": num(1000), "9999": num(9999),
		"v0": v(0), "v1": v(1), "v2": v(2), "v3": v(3),
		"!0": not(num(0)), "!9999": not(num(9999)), "!v3": not(v(3)), "!!v0": not(not(v(0))), "!!!1": not(not(not(num(1)))),
		"((v0+2)<7)":                  pair(impl.ExprLess, pair(impl.ExprAdd, v(0), num(2)), num(7)),
		"(1-(2-3))":                   pair(impl.ExprSub, num(1), pair(impl.ExprSub, num(2), num(3))),
		"((1-2)-3)":                   pair(impl.ExprSub, pair(impl.ExprSub, num(1), num(2)), num(3)),
		"((v0*v1)/(10=0))":            pair(impl.ExprDiv, pair(impl.ExprMul, v(0), v(1)), pair(impl.ExprSame, num(10), num(0))),
		"(!v1&!!(v2<3))":              pair(impl.ExprAnd, not(v(1)), not(not(pair(impl.ExprLess, v(2), num(3))))),
		strings.Repeat("!", 15) + "7": nots(16),
		"!" + strings.Repeat("(v2+", 7) + "1" + ")))))))": not(sums(7)),
	}
	for i, sign := range signsInOrder {
		kind := int64(3 + i)
		texts["(v0"+string(sign)+"v3)"] = pair(kind, v(0), v(3))
		texts["(0"+string(sign)+"9999)"] = pair(kind, num(0), num(9999))
		texts["!(v1"+string(sign)+"1)"] = not(pair(kind, v(1), num(1)))
		texts["(!1"+string(sign)+"!v1)"] = pair(kind, not(num(1)), not(v(1)))
		texts["((1"+string(sign)+"2)"+string(sign)+"(3"+string(sign)+"4))"] = pair(kind, pair(kind, num(1), num(2)), pair(kind, num(3), num(4)))
	}
	return texts
}

func TestExprText(t *testing.T) {
	for text, e := range exprTexts() {
		if got := impl.ExprText(e); got != (impl.TextResult{Text: text}) {
			t.Errorf("ExprText(%v) = %v, want %q", e, got, text)
		}
	}
}

func TestParseExpr(t *testing.T) {
	for text, e := range exprTexts() {
		if got := impl.ParseExpr(text); got.Code != 0 || !slices.Equal(got.Expr, e) {
			t.Errorf("ParseExpr(%q) = %v, want %v", text, got, e)
		}
	}
	for number := range int64(10000) {
		text := strconv.FormatInt(number, 10)
		if got := impl.ParseExpr(text); got.Code != 0 || !slices.Equal(got.Expr, num(number)) {
			t.Errorf("ParseExpr(%q) = %v", text, got)
		}
	}
}

func TestParseExprWrong(t *testing.T) {
	texts := []string{
		"", " ", "\n", "(", ")", "()", "(())", "!", "!!", "v", "+", "-", "*", "/", "<", "=", "&", "x", "\x00", "\xff", "é", "٣",
		// Numbers: five digits, a 0 ahead, a sign ahead.
		"10000", "99999", "00", "01", "07", "000", "0000", "00000", "0001", "09999", "(01+2)", "(1+02)", "!01", "-1", "+1", "1.0", "1e3", "0x1", "1_0", "(1+-2)", "18446744073709551616", "9223372036854775808",
		"v4", "v9", "v00", "v01", "v10", "v-1", "v+1", "v 1", "vv0", "v(0)", "V0", "v!0", "0v", "v0v", "v0v1", "v01v", "1v0", "v12", "(v4+1)", "(1+v4)", "!v4", "v9999",
		// A part without brackets, brackets around one part.
		"1+2", "v0<v1", "1+2+3", "(1+2+3)", "(1+2)+3", "1+(2+3)", "(1)", "(v0)", "((1+2))", "(!1)", "((1)+2)", "(1+(2))", "!(1)", "!1+2", "1&!2",
		"(1+2", "(1+", "(1", "(", "((1+2)", "((1+2)+3", "(1+2]", "1+2)", "1)", "v0)", "(1+2))", "[1+2]", "!(1+2",
		"(+2)", "(1+)", "(+)", "(12)", "(1 2)", "(v0v1)", "(1++2)", "(1+*2)", "(1<=2)", "(1==2)", "(1&&2)", "(1!2)", "(1!=2)", "(1>2)", "(1|2)", "(1%2)", "(1^2)", "(1,2)", "(1!+2)", "(!+2)",
		" 1", "1 ", "( 1+2)", "(1 +2)", "(1+ 2)", "(1+2 )", "(1+2) ", " (1+2)", "! 1", "!\n1", "1\n", "\t1", "(1\n+2)", "1 0",
		"11 ", "1x", "v0x", "(1+2)3", "(1+2)(3+4)", "(1+2)!", "1!", "v0!", "1(", "1\x00", "0 0",
		// 17 nodes and more.
		strings.Repeat("!", 16) + "7", strings.Repeat("(v2+", 8) + "1" + strings.Repeat(")", 8), strings.Repeat("(", 8) + "1" + strings.Repeat("+1)", 8),
		strings.Repeat("!", 199) + "1", strings.Repeat("!", 200), strings.Repeat("(", 200), strings.Repeat("(!", 100), strings.Repeat("1", 200), strings.Repeat("0", 200), strings.Repeat(" ", 200), "v" + strings.Repeat("0", 199),
		"(" + strings.Repeat("9", 198) + ")", strings.Repeat("(1+", 49) + "1111" + strings.Repeat(")", 49),
	}
	for _, text := range texts {
		if len(text) > 200 {
			t.Fatalf("%q is too long to be asked here", text)
		}
		if got := impl.ParseExpr(text); got.Code != impl.ErrText || len(got.Expr) != 0 {
			t.Errorf("ParseExpr(%q) = %v, want ErrText", text, got)
		}
	}
}

func TestParseExprOfManyBytes(t *testing.T) {
	for _, long := range []string{strings.Repeat("!", 200) + "1", strings.Repeat("0", 201), strings.Repeat(" ", 201), "1" + strings.Repeat(" ", 200), "(1+2)" + strings.Repeat(")", 196), strings.Repeat("(", 1<<20), strings.Repeat("\xff", 201)} {
		if got := impl.ParseExpr(long); got.Code != impl.ErrMany || len(got.Expr) != 0 {
			t.Errorf("ParseExpr of %d bytes = %v, want ErrMany", len(long), got)
		}
		if got := impl.ParseExpr(long[:200]); got.Code != impl.ErrText || len(got.Expr) != 0 {
			t.Errorf("ParseExpr of 200 bytes = %v, want ErrText", got)
		}
	}
}

var (
	numbersInText = regexp.MustCompile(`v?[0-9]+`)
	rightNumber   = regexp.MustCompile(`^(v[0-3]|0|[1-9][0-9]{0,3})$`)
	termInText    = regexp.MustCompile(`![.]|\([.][-+*/<=&][.]\)`)
)

// isExprText asks a text by making it shorter: each number is a point, each not of a point and each pair of points too.
func isExprText(text string) bool {
	if strings.Contains(text, ".") {
		return false
	}
	nodes := 0
	short := numbersInText.ReplaceAllStringFunc(text, func(number string) string {
		nodes++
		if rightNumber.MatchString(number) {
			return "."
		}
		return "?"
	})
	for termInText.MatchString(short) {
		short = termInText.ReplaceAllStringFunc(short, func(string) string {
			nodes++
			return "."
		})
	}
	return short == "." && nodes <= 16
}

// Promise 4: an expression is read back from its text, and nothing but its text is read.
func TestParseExprOfEachSmallText(t *testing.T) {
	read := 0
	ask := func(text string) {
		got := impl.ParseExpr(text)
		if !isExprText(text) {
			if got.Code != impl.ErrText || len(got.Expr) != 0 {
				t.Fatalf("ParseExpr(%q) = %v, want ErrText", text, got)
			}
			return
		}
		read++
		if got.Code != 0 || impl.ExprFault(got.Expr) != 0 || impl.ExprText(got.Expr) != (impl.TextResult{Text: text}) {
			t.Fatalf("ParseExpr(%q) = %v, which is %v", text, got, impl.ExprText(got.Expr))
		}
	}
	joinedTexts([]string{"(", ")", "!", "v", "0", "3", "4", "+", "&", " "}, 5, ask)
	joinedTexts([]string{"(", ")", "!", "v1", "10", "-", "<"}, 7, ask)
	joinedTexts([]string{"(v0*", "(1=", "!", "12", ")", "v2/", "(("}, 6, ask)
	joinedTexts([]string{"!!!!!", "(!1/", "!9)", "v3", "!"}, 6, ask)
	if read < 500 {
		t.Errorf("only %d were read", read)
	}
	for a := range 256 {
		for b := range 256 {
			x, y := string([]byte{byte(a)}), string([]byte{byte(b)})
			for _, text := range []string{x + y, "(1" + x + y + ")", "(" + x + "+" + y + ")", "v" + x + y, "!" + x + y, x + "(v0<1)" + y} {
				ask(text)
			}
		}
	}
}

func TestExprReadBack(t *testing.T) {
	r := rand.New(rand.NewSource(16))
	for range 60000 {
		e := randomExpr(r, 1+r.Intn(16))
		text := impl.ExprText(e)
		if text.Code != 0 || !isExprText(text.Text) {
			t.Fatalf("ExprText(%v) = %v", e, text)
		}
		if got := impl.ParseExpr(text.Text); got.Code != 0 || !slices.Equal(got.Expr, e) {
			t.Fatalf("ParseExpr(%q) = %v, want %v", text.Text, got, e)
		}
		wrong := []byte(text.Text)
		wrong[r.Intn(len(wrong))] = "()!v0149+-*/<=& "[r.Intn(16)]
		if got := impl.ParseExpr(string(wrong)); (got.Code == 0) != isExprText(string(wrong)) || got.Code != 0 && (got.Code != impl.ErrText || len(got.Expr) != 0) {
			t.Fatalf("ParseExpr(%q) = %v", wrong, got)
		}
	}
}

// The table of examples at the end of the document.
func TestExprExample(t *testing.T) {
	if got := impl.EvalExpr(impl.ParseExpr("(v0+2)").Expr, []int64{3, 0, 0, 0}); got != (impl.IntResult{Value: 5}) {
		t.Errorf("(v0+2) where v0 is 3: %v", got)
	}
}

// askExpr asks all of e that the chapter has functions for.
func askExpr(e []impl.Node, vars []int64) []any {
	return []any{impl.ExprFault(e), impl.TypeOf(e), impl.EvalExpr(e, vars), impl.ExprText(e), impl.VarsIn(e), impl.VarsFault(vars)}
}

// Promise 1: every function answers at every argument and changes none, with nothing beside a code.
func TestExprsAnswerAtEachArgument(t *testing.T) {
	r := rand.New(rand.NewSource(17))
	wild := func() int64 {
		if r.Intn(2) == 0 {
			return int64(r.Intn(14)) - 1
		}
		return int64(r.Uint64())
	}
	for i := range 60000 {
		e := randomExpr(r, 1+r.Intn(18))
		for range r.Intn(4) {
			e = spoilExpr(r, e)
		}
		if i%4 == 0 {
			e[r.Intn(len(e))] = impl.Node{Kind: wild(), Value: wild(), Left: wild(), Right: wild()}
		}
		vars := randomVars(r)
		if r.Intn(4) == 0 {
			vars[r.Intn(4)] = wild()
		}
		vars = append(vars, 5)[:4+r.Intn(2)-r.Intn(2)]
		beforeExpr, beforeVars := slices.Clone(e), slices.Clone(vars)
		for _, answer := range askExpr(e, vars) {
			switch a := answer.(type) {
			case impl.IntResult:
				if a.Code != 0 && a.Value != 0 {
					t.Fatalf("of %v, %v: %v", e, vars, a)
				}
			case impl.TextResult:
				if (a.Code != 0) != (a.Text == "") {
					t.Fatalf("of %v: %v", e, a)
				}
			case impl.IntsResult:
				if a.Code != 0 && len(a.List) != 0 {
					t.Fatalf("of %v: %v", e, a)
				}
			}
		}
		if !slices.Equal(e, beforeExpr) || !slices.Equal(vars, beforeVars) {
			t.Fatalf("changed: %v, %v, before %v, %v", e, vars, beforeExpr, beforeVars)
		}
	}
}

// Promise 1: what is answered is new memory.
func TestExprsAreNewMemory(t *testing.T) {
	first, second := impl.ParseExpr("(v0+(v1+v2))"), impl.ParseExpr("(v0+(v1+v2))")
	want := slices.Clone(second.Expr)
	clear(first.Expr[:cap(first.Expr)])
	if !slices.Equal(second.Expr, want) || !slices.Equal(impl.ParseExpr("(v0+(v1+v2))").Expr, want) {
		t.Error("two expressions are shared")
	}
	list := impl.VarsIn(want)
	again := impl.VarsIn(want)
	clear(list.List[:cap(list.List)])
	if !slices.Equal(again.List, []int64{0, 1, 2}) || !slices.Equal(impl.VarsIn(want).List, []int64{0, 1, 2}) {
		t.Error("two lists are shared")
	}
	// Room behind an argument is not written to.
	e := append(make([]impl.Node, 0, 40), want...)
	vars := append(make([]int64, 0, 40), 1, 2, 3, 4)
	askExpr(e, vars)
	for _, n := range e[len(e):cap(e)] {
		if n != (impl.Node{}) {
			t.Errorf("behind the expression stands %v", n)
		}
	}
	for _, v := range vars[len(vars):cap(vars)] {
		if v != 0 {
			t.Errorf("behind the variables stands %d", v)
		}
	}
}

// Promise 1: an answer hangs on the arguments alone, not on what was asked ahead of it.
func TestExprsHangOnArgumentsAlone(t *testing.T) {
	r := rand.New(rand.NewSource(18))
	var asks []func() []any
	for _, text := range []string{"", "1", "v3", "(v0+2)", "(1+", "!!!1", "01", strings.Repeat("!", 16) + "1", strings.Repeat("1", 201)} {
		asks = append(asks, func() []any { return []any{impl.ParseExpr(text)} })
	}
	exprs := [][]impl.Node{nil, nots(16), nots(17), sums(7), not(yes())}
	for range 100 {
		exprs = append(exprs, randomTyped(r, 12, 1+int64(r.Intn(2))), spoilExpr(r, randomExpr(r, 8)))
	}
	for _, e := range exprs {
		vars := randomVars(r)
		asks = append(asks, func() []any { return askExpr(e, vars) })
	}
	var first [][]any
	for _, ask := range asks {
		first = append(first, ask())
	}
	for i := len(asks) - 1; i >= 0; i-- {
		for range 3 {
			if got := asks[i](); !reflect.DeepEqual(got, first[i]) {
				t.Errorf("%v, and ahead of that %v", got, first[i])
			}
		}
	}
}
