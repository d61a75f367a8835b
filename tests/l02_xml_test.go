package tests

import (
	"math"
	"math/rand"
	"reflect"
	"regexp"
	"slices"
	"strings"
	"testing"

	"loop.example/g00343/impl"
)

func elem(tag string, parent int64, attrs ...impl.Attr) impl.Elem {
	return impl.Elem{Tag: tag, Parent: parent, Attrs: attrs}
}

// chainOf is a tree of n elements, each but the first a kid of the one ahead.
func chainOf(n int) []impl.Elem {
	var elems []impl.Elem
	for i := range n {
		elems = append(elems, elem("a", int64(i)-1))
	}
	return elems
}

// fanOf is a tree of n elements, each but the first a kid of the first one.
func fanOf(n int) []impl.Elem {
	elems := []impl.Elem{elem("a", -1)}
	for range n - 1 {
		elems = append(elems, elem("b", 0))
	}
	return elems
}

// attrsOf are n attrs of names that differ.
func attrsOf(n int) []impl.Attr {
	var attrs []impl.Attr
	for i := range n {
		attrs = append(attrs, impl.Attr{Name: string(rune('a' + i)), Value: "v"})
	}
	return attrs
}

func TestTreeFault(t *testing.T) {
	forty := strings.Repeat("v", 40)
	cases := []struct {
		why   string
		elems []impl.Elem
		want  int64
	}{
		{"one element", chainOf(1), 0},
		{"nil", nil, impl.ErrMany},
		{"no element", []impl.Elem{}, impl.ErrMany},
		{"40 elements", fanOf(40), 0},
		{"41 elements", fanOf(41), impl.ErrMany},
		{"41 elements of which one is wrong", append(fanOf(40), elem("", -7)), impl.ErrMany},
		{"8 from one up", chainOf(8), 0},
		{"9 from one up", chainOf(9), impl.ErrMany},
		{"8 from the last one up, by way of others", append(chainOf(8), elem("b", 6), elem("b", 6)), 0},
		{"9 from the last one up, by way of others", append(chainOf(8), elem("b", 6), elem("b", 8)), impl.ErrMany},
		{"6 attrs", []impl.Elem{elem("a", -1, attrsOf(6)...)}, 0},
		{"7 attrs", []impl.Elem{elem("a", -1, attrsOf(7)...)}, impl.ErrMany},
		{"7 attrs of one name that is none", []impl.Elem{elem("a", -1, make([]impl.Attr, 7)...)}, impl.ErrMany},
		{"a tag of 8", []impl.Elem{elem("abcdefgh", -1)}, 0},
		{"a tag of 9", []impl.Elem{elem("abcdefghi", -1)}, impl.ErrMany},
		{"an empty tag", []impl.Elem{elem("", -1)}, impl.ErrText},
		{"a tag that is no name", []impl.Elem{elem("a1", -1)}, impl.ErrText},
		{"a name of 9", []impl.Elem{elem("a", -1, impl.Attr{Name: "abcdefghi"})}, impl.ErrMany},
		{"an empty name", []impl.Elem{elem("a", -1, impl.Attr{Value: "v"})}, impl.ErrText},
		{"two attrs of one name", []impl.Elem{elem("a", -1, impl.Attr{Name: "x", Value: "1"}, impl.Attr{Name: "y"}, impl.Attr{Name: "x", Value: "2"})}, impl.ErrTaken},
		{"one name in two elements", []impl.Elem{elem("a", -1, attrsOf(2)...), elem("a", 0, attrsOf(2)...)}, 0},
		{"an empty value", []impl.Elem{elem("a", -1, impl.Attr{Name: "x"})}, 0},
		{"a value of 40", []impl.Elem{elem("a", -1, impl.Attr{Name: "x", Value: forty})}, 0},
		{"a value of 41", []impl.Elem{elem("a", -1, impl.Attr{Name: "x", Value: forty + "v"})}, impl.ErrMany},
		{"a value of 40 to be escaped", []impl.Elem{elem("a", -1, impl.Attr{Name: "x", Value: strings.Repeat("\"", 40)})}, 0},
		{"a line feed in a value", []impl.Elem{elem("a", -1, impl.Attr{Name: "x", Value: "a\nb"})}, impl.ErrText},
		{"a line feed in a value of 41", []impl.Elem{elem("a", -1, impl.Attr{Name: "x", Value: "\n" + forty})}, impl.ErrMany},
	}
	for _, c := range cases {
		if got := impl.TreeFault(c.elems); got != c.want {
			t.Errorf("TreeFault of %s = %d, want %d", c.why, got, c.want)
		}
	}
}

func TestTreeFaultOfParents(t *testing.T) {
	under := func(parents ...int64) []impl.Elem {
		var elems []impl.Elem
		for _, p := range parents {
			elems = append(elems, elem("a", p))
		}
		return elems
	}
	cases := []struct {
		parents []int64
		want    int64
	}{
		{[]int64{-1}, 0},
		{[]int64{0}, impl.ErrRange}, {[]int64{1}, impl.ErrRange}, {[]int64{-2}, impl.ErrRange},
		{[]int64{math.MaxInt64}, impl.ErrRange}, {[]int64{math.MinInt64}, impl.ErrRange},
		{[]int64{-1, 0}, 0},
		{[]int64{-1, -1}, impl.ErrRange}, {[]int64{-1, 1}, impl.ErrRange}, {[]int64{-1, 2}, impl.ErrRange},
		{[]int64{-1, math.MaxInt64}, impl.ErrRange}, {[]int64{-1, math.MinInt64}, impl.ErrRange},
		{[]int64{-1, 1 << 32}, impl.ErrRange},
		{[]int64{-1, 0, 2}, impl.ErrRange}, {[]int64{-1, 0, 3, 0}, impl.ErrRange},
		{[]int64{-1, 0, 1, 2, 1, 0}, 0},
		// The one at 1 was left when the one at 2 began.
		{[]int64{-1, 0, 0, 1}, impl.ErrForm},
		{[]int64{-1, 0, 1, 2, 1, 3}, impl.ErrForm}, {[]int64{-1, 0, 1, 2, 1, 2}, impl.ErrForm},
		{[]int64{-1, 0, 1, 0, 3, 1}, impl.ErrForm}, {[]int64{-1, 0, 1, 0, 3, 0}, 0},
	}
	for _, c := range cases {
		if got := impl.TreeFault(under(c.parents...)); got != c.want {
			t.Errorf("TreeFault of the parents %v = %d, want %d", c.parents, got, c.want)
		}
	}
}

// Each code is asked ahead of those behind it, of one element ahead of the next one.
func TestTreeFaultInOrder(t *testing.T) {
	long := strings.Repeat("v", 41)
	two := func(second impl.Elem) []impl.Elem { return []impl.Elem{elem("a", -1), second} }
	cases := []struct {
		why   string
		elems []impl.Elem
		want  int64
	}{
		{"the tag ahead of the parent", two(elem("abcdefghi", 9)), impl.ErrMany},
		{"the place of the parent ahead of how many attrs", two(elem("b", 9, attrsOf(7)...)), impl.ErrRange},
		{"the parent ahead of how many attrs", append(fanOf(3), elem("b", 1, attrsOf(7)...)), impl.ErrForm},
		{"how many are above ahead of the attrs", append(chainOf(8), elem("b", 7, impl.Attr{})), impl.ErrMany},
		{"the name ahead of the value", two(elem("b", 0, impl.Attr{Name: "", Value: long})), impl.ErrText},
		{"the name that is taken ahead of the value", two(elem("b", 0, impl.Attr{Name: "x"}, impl.Attr{Name: "x", Value: long})), impl.ErrTaken},
		{"the value of one ahead of the name of the next one", two(elem("b", 0, impl.Attr{Name: "x", Value: long}, impl.Attr{Name: "x"})), impl.ErrMany},
		{"the parent of one ahead of the tag of the next one", []impl.Elem{elem("a", 0), elem("", 0)}, impl.ErrRange},
		{"the attrs of one ahead of the tag of the next one", []impl.Elem{elem("a", -1, impl.Attr{Name: "x"}, impl.Attr{Name: "x"}), elem("", 0)}, impl.ErrTaken},
	}
	for _, c := range cases {
		if got := impl.TreeFault(c.elems); got != c.want {
			t.Errorf("%s: %d, want %d", c.why, got, c.want)
		}
	}
}

// slowTreeFault tells it once more, with the whole way up of each element.
func slowTreeFault(elems []impl.Elem) int64 {
	if len(elems) == 0 || len(elems) > 40 {
		return impl.ErrMany
	}
	ways := [][]int64{}
	for i, e := range elems {
		if f := impl.NameFault(e.Tag); f != 0 {
			return f
		}
		if i == 0 && e.Parent != -1 || i > 0 && (e.Parent < 0 || e.Parent >= int64(i)) {
			return impl.ErrRange
		}
		if i > 0 && !slices.Contains(ways[i-1], e.Parent) {
			return impl.ErrForm
		}
		way := []int64{int64(i)}
		if i > 0 {
			way = append(way, ways[e.Parent]...)
		}
		ways = append(ways, way)
		if len(way) > 8 || len(e.Attrs) > 6 {
			return impl.ErrMany
		}
		names := map[string]bool{}
		for _, a := range e.Attrs {
			if f := impl.NameFault(a.Name); f != 0 {
				return f
			}
			if names[a.Name] {
				return impl.ErrTaken
			}
			names[a.Name] = true
			if r := impl.EscapeText(a.Value); r.Code != 0 {
				return r.Code
			}
		}
	}
	return 0
}

func TestTreeFaultOfEachSmallTree(t *testing.T) {
	count := map[int64]int{}
	var grow func(elems []impl.Elem, left int)
	grow = func(elems []impl.Elem, left int) {
		got, want := impl.TreeFault(elems), slowTreeFault(elems)
		count[got]++
		if got != want {
			t.Fatalf("TreeFault(%v) = %d, want %d", elems, got, want)
		}
		if left == 0 {
			return
		}
		for parent := int64(-2); parent <= 6; parent++ {
			grow(append(slices.Clip(elems), elem("a", parent)), left-1)
		}
	}
	grow(nil, 6)
	if count[impl.OK] == 0 || count[impl.ErrRange] == 0 || count[impl.ErrForm] == 0 {
		t.Error(count)
	}
}

// randomTree is one without a fault.
func randomTree(r *rand.Rand, most int) []impl.Elem {
	values := []string{"", "v", "a<b", "\"&'>", " x ", strings.Repeat("~", 40), "&lt;", "/>", "-->"}
	elems := []impl.Elem{elem("root", -1)}
	for len(elems) < most {
		parent := int64(len(elems)) - 1
		for parent > 0 && r.Intn(2) == 0 {
			parent = elems[parent].Parent
		}
		attrs := attrsOf(r.Intn(3) * r.Intn(4))
		for i := range attrs {
			attrs[i].Value = values[r.Intn(len(values))]
		}
		elems = append(elems, elem([]string{"a", "bc", "abcdefgh"}[r.Intn(3)], parent, attrs...))
		if slowTreeFault(elems) != 0 {
			return elems[:len(elems)-1]
		}
	}
	return elems
}

// spoil makes one thing of elems wrong, or another one that is right.
func spoil(r *rand.Rand, elems []impl.Elem) []impl.Elem {
	elems = slices.Clone(elems)
	at := r.Intn(len(elems))
	e := &elems[at]
	e.Attrs = slices.Clone(e.Attrs)
	switch r.Intn(6) {
	case 0:
		e.Tag = []string{"", "A", "abcdefghi", "abcdefghiJ", "z"}[r.Intn(5)]
	case 1:
		e.Parent = int64(r.Intn(len(elems)+3)) - 2
	case 2:
		e.Attrs = append(e.Attrs, impl.Attr{Name: "a"})
	case 3:
		e.Attrs = append(e.Attrs, impl.Attr{Name: []string{"", "a-", "abcdefghi", "z"}[r.Intn(4)]})
	case 4:
		e.Attrs = append(e.Attrs, impl.Attr{Name: "y", Value: []string{strings.Repeat("v", 41), "\n", "\x7f", "v"}[r.Intn(4)]})
	case 5:
		e.Attrs = attrsOf(6 + r.Intn(2))
	}
	return elems
}

func TestTreeFaultOfSpoiltTrees(t *testing.T) {
	r := rand.New(rand.NewSource(1))
	for range 20000 {
		elems := randomTree(r, 1+r.Intn(12))
		for range r.Intn(4) {
			elems = spoil(r, elems)
		}
		if got, want := impl.TreeFault(elems), slowTreeFault(elems); got != want {
			t.Fatalf("TreeFault(%v) = %d, want %d", elems, got, want)
		}
	}
}

func TestWriteTree(t *testing.T) {
	cases := []struct {
		elems []impl.Elem
		want  string
	}{
		{[]impl.Elem{elem("a", -1)}, `<a/>`},
		{[]impl.Elem{elem("a", -1, impl.Attr{Name: "x", Value: "1"}, impl.Attr{Name: "y"})}, `<a x="1" y=""/>`},
		{[]impl.Elem{elem("a", -1, impl.Attr{Name: "x", Value: `<>&"'`})}, `<a x="&lt;&gt;&amp;&quot;'"/>`},
		{[]impl.Elem{elem("a", -1), elem("b", 0)}, `<a><b/></a>`},
		{[]impl.Elem{elem("a", -1), elem("b", 0), elem("c", 1), elem("d", 1), elem("e", 0)}, `<a><b><c/><d/></b><e/></a>`},
		{[]impl.Elem{elem("a", -1, attrsOf(1)...), elem("a", 0, attrsOf(2)...), elem("a", 1)}, `<a a="v"><a a="v" b="v"><a/></a></a>`},
	}
	for _, c := range cases {
		if got := impl.WriteTree(c.elems); got != (impl.TextResult{Text: c.want}) {
			t.Errorf("WriteTree(%v) = %v, want %q", c.elems, got, c.want)
		}
	}
	r := rand.New(rand.NewSource(2))
	for range 3000 {
		elems := spoil(r, randomTree(r, 6))
		if want := slowTreeFault(elems); want != 0 && impl.WriteTree(elems) != (impl.TextResult{Code: want}) {
			t.Fatalf("WriteTree(%v) = %v, want the code %d", elems, impl.WriteTree(elems), want)
		}
	}
	if got := impl.WriteTree(nil); got != (impl.TextResult{Code: impl.ErrMany}) {
		t.Errorf("WriteTree(nil) = %v", got)
	}
}

// longElem is an element whose mark (without its end) is written with n bytes.
func longElem(parent int64, n int) impl.Elem {
	e := elem("a", parent)
	n -= len("<a")
	for i := 0; n > 0; i++ {
		part := min(n, 246)
		if rest := n - part; rest > 0 && rest < 6 {
			part -= 6
		}
		value := strings.Repeat("\"", (part-6)/6) + strings.Repeat("v", (part-6)%6)
		e.Attrs = append(e.Attrs, impl.Attr{Name: string(rune('a'+i)) + "x", Value: value})
		n -= part
	}
	return e
}

func TestWriteTreeOfManyBytes(t *testing.T) {
	cases := []struct {
		why    string
		elems  []impl.Elem
		length int
	}{
		{"a mark of 600 without kids", []impl.Elem{longElem(-1, 598)}, 600},
		{"a mark of 601 without kids", []impl.Elem{longElem(-1, 599)}, 0},
		{"a mark of 600 with kids", []impl.Elem{longElem(-1, 599), elem("b", 0)}, 608},
		{"a mark of 601 with kids", []impl.Elem{longElem(-1, 600), elem("b", 0)}, 0},
		{"a kid of 600", []impl.Elem{elem("b", -1), longElem(0, 598)}, 607},
		{"a kid of 601", []impl.Elem{elem("b", -1), longElem(0, 599), elem("b", 0)}, 0},
		{"a text of 1500", []impl.Elem{longElem(-1, 499), longElem(0, 498), longElem(0, 494)}, 1500},
		{"a text of 1501", []impl.Elem{longElem(-1, 499), longElem(0, 498), longElem(0, 495)}, 0},
		{"a text of 40 long elements", slices.Repeat([]impl.Elem{longElem(0, 598)}, 40), 0},
	}
	cases[len(cases)-1].elems[0].Parent = -1
	for _, c := range cases {
		if f := impl.TreeFault(c.elems); f != 0 {
			t.Fatalf("%s has the fault %d", c.why, f)
		}
		got := impl.WriteTree(c.elems)
		if c.length == 0 && got != (impl.TextResult{Code: impl.ErrMany}) || c.length > 0 && (got.Code != 0 || len(got.Text) != c.length) {
			t.Errorf("WriteTree of %s = %d with %d bytes", c.why, got.Code, len(got.Text))
		}
		if c.length > 0 && !impl.SameTrees(impl.ParseTree(got.Text).Elems, c.elems) {
			t.Errorf("%s is not read back", c.why)
		}
	}
}

func sameTreeResults(a, b impl.TreeResult) bool {
	return a.Code == b.Code && a.At == b.At && impl.SameTrees(a.Elems, b.Elems)
}

func TestParseTag(t *testing.T) {
	x, y := impl.Attr{Name: "x", Value: "1"}, impl.Attr{Name: "y", Value: "2"}
	cases := []struct {
		mark   string
		closed int64
		want   impl.Elem
	}{
		{`<a>`, 0, elem("a", -1)},
		{`<a/>`, 1, elem("a", -1)},
		{`<abcdefgh>`, 0, elem("abcdefgh", -1)},
		{`<a >`, 0, elem("a", -1)},
		{"<a\n />", 1, elem("a", -1)},
		{`<a x="1">`, 0, elem("a", -1, x)},
		{`<a x="1"/>`, 1, elem("a", -1, x)},
		{`<a x="1" >`, 0, elem("a", -1, x)},
		{"<a x=\"1\"\n/>", 1, elem("a", -1, x)},
		{`<a   y="2"  x="1"/>`, 1, elem("a", -1, y, x)},
		{"<a\nx=\"1\"\n \ny=\"2\" \n >", 0, elem("a", -1, x, y)},
		{`<a x="">`, 0, elem("a", -1, impl.Attr{Name: "x"})},
		{`<a x="/">`, 0, elem("a", -1, impl.Attr{Name: "x", Value: "/"})},
		{`<a x=" = "/>`, 1, elem("a", -1, impl.Attr{Name: "x", Value: " = "})},
		{`<a x="/" />`, 1, elem("a", -1, impl.Attr{Name: "x", Value: "/"})},
		{`<a x="&lt;&gt;&amp;&quot;&apos;&#65;">`, 0, elem("a", -1, impl.Attr{Name: "x", Value: `<>&"'A`})},
		{`<a abcdefgh="v">`, 0, elem("a", -1, impl.Attr{Name: "abcdefgh", Value: "v"})},
		{`<a x="` + strings.Repeat("&quot;", 40) + `">`, 0, elem("a", -1, impl.Attr{Name: "x", Value: strings.Repeat(`"`, 40)})},
		{`<g a="v" b="v" c="v" d="v" e="v" f="v"/>`, 1, elem("g", -1, attrsOf(6)...)},
	}
	for _, c := range cases {
		want := impl.TreeResult{At: c.closed, Elems: []impl.Elem{c.want}}
		if got := impl.ParseTag(c.mark); !sameTreeResults(got, want) {
			t.Errorf("ParseTag(%q) = %v, want %v", c.mark, got, want)
		}
	}
}

func TestParseTagWrong(t *testing.T) {
	texts := []string{
		``, `<`, `>`, `/>`, `<>`, `</>`, `< >`, `< />`, `<//>`, `a`, `<a`, `a>`, `<a/`, `<<a>`, `<a>>`, `<a>b>`, ` <a>`, `<a> `, "<a>\n",
		`</a>`, `< a>`, "<\na>", `<a/ >`, `<a / >`, `<a/b>`, `<a//>`, `<a / x="1">`, `<A>`, `<a1>`, `<a-b>`, `<é>`, "<a\x00>",
		`<!a>`, `<!-- a -->`, `<?a?>`,
		`<a x>`, `<a x/>`, `<a x=>`, `<a x=1>`, `<a x='1'>`, `<a x=">`, `<a x="1>`, `<a x="1/>`, `<a x=1">`, `<a x"1">`, `<a "1">`, `<a =>`, `<a ="1">`,
		`<a x ="1">`, `<a x= "1">`, `<a x = "1">`, "<a x=\n\"1\">", `<a x=="1">`, `<a x y="1">`, `<a x="1" y>`,
		`<a x="1"y="2">`, `<ax="1">`, `<a"1">`, `<a x="1"">`, `<a x="1""2">`, `<a x="1" "2">`, `<a x="1"/ >`,
		`<a x="<">`, `<a x=">">`, `<a x="&">`, `<a x="&x;">`, "<a x=\"\n\">", "<a x=\"\t\">", `<a x="é">`, `<a x="&#10;">`,
		`<a X="1">`, `<a x1="1">`, `<a /x="1">`,
		"<a\t>", "<a\tx=\"1\">", "<a x=\"1\"\t>", "<a x=\"1\"\r\n>", "<a\r>",
	}
	for _, mark := range texts {
		if got := impl.ParseTag(mark); !sameTreeResults(got, impl.TreeResult{Code: impl.ErrText}) {
			t.Errorf("ParseTag(%q) = %v, want ErrText", mark, got)
		}
	}
}

func TestParseTagCodes(t *testing.T) {
	blanks := strings.Repeat(" ", 596)
	long := strings.Repeat("v", 41)
	cases := []struct {
		mark string
		want int64
	}{
		{"<a " + blanks + ">", 0}, {"<a  " + blanks + ">", impl.ErrMany},
		{"<a" + strings.Repeat("\n", 596) + "/>", 0}, {"<a" + strings.Repeat("\n", 597) + "/>", impl.ErrMany},
		{strings.Repeat("x", 600), impl.ErrText}, {strings.Repeat("x", 601), impl.ErrMany}, {strings.Repeat("<", 1<<20), impl.ErrMany},
		{`<abcdefghi>`, impl.ErrMany}, {`<abcdefghi/>`, impl.ErrMany}, {`<` + strings.Repeat("a", 598) + `>`, impl.ErrMany},
		{`<abcdefghI>`, impl.ErrText}, {`<abcdefghIJ/>`, impl.ErrText},
		{`<a abcdefghi="1">`, impl.ErrMany}, {`<a abcdefghI="1">`, impl.ErrText},
		{`<a x="` + long + `">`, impl.ErrMany}, {`<a x="` + long[1:] + `">`, 0},
		{`<a x="` + strings.Repeat("&#65;", 80) + `">`, impl.ErrMany}, {`<a x="` + strings.Repeat("&#65;", 40) + `">`, 0},
		{`<a x="` + strings.Repeat("v", 400) + `&">`, impl.ErrMany},
		{`<a x="1" x="1">`, impl.ErrTaken}, {`<a x="1" y="1" x="2"/>`, impl.ErrTaken},
		{`<a a="" b="" c="" d="" e="" f="">`, 0}, {`<a a="" b="" c="" d="" e="" f="" g="">`, impl.ErrMany},
		// The form of all of it is asked ahead of what stands in it.
		{`<abcdefghi x>`, impl.ErrText}, {`<a x="1" x="2" y>`, impl.ErrText}, {`<a x="` + long + `" y=1>`, impl.ErrText},
		{`<a a="" b="" c="" d="" e="" f="" g="" h>`, impl.ErrText},
		// Then the tag, then attr by attr its name, its value, who is ahead of it, and how many they are.
		{`<abcdefghi X="1">`, impl.ErrMany}, {`<abcdefghi x="1" x="1">`, impl.ErrMany},
		{`<a abcdefghi="&">`, impl.ErrMany}, {`<a x="` + long + `" Y="1">`, impl.ErrMany}, {`<a x="&" abcdefghi="1">`, impl.ErrText},
		{`<a x="1" x="&">`, impl.ErrText}, {`<a x="1" x="` + long + `">`, impl.ErrMany}, {`<a x="1" x="2" y="&">`, impl.ErrTaken},
		{`<a a="" b="" c="" d="" e="" f="" a="">`, impl.ErrTaken}, {`<a a="" b="" c="" d="" e="" f="" g="&">`, impl.ErrText},
		{`<a a="" b="" c="&" d="" e="" f="" g="">`, impl.ErrText},
	}
	for _, c := range cases {
		got := impl.ParseTag(c.mark)
		if got.Code != c.want || c.want != 0 && !sameTreeResults(got, impl.TreeResult{Code: c.want}) {
			t.Errorf("ParseTag(%q) = %v, want the code %d", c.mark, got, c.want)
		}
	}
}

var markForm = regexp.MustCompile(`^<([^ \n]*?)((?:[ \n]+[^ \n=]*="[^"]*")*)[ \n]*(/?)>$`)
var attrForm = regexp.MustCompile(`[ \n]+([^ \n=]*)="([^"]*)"`)

// grammarTag tells what a mark is by two patterns.
func grammarTag(mark string) impl.TreeResult {
	m := markForm.FindStringSubmatch(mark)
	if m == nil {
		return impl.TreeResult{Code: impl.ErrText}
	}
	if f := impl.NameFault(m[1]); f != 0 {
		return impl.TreeResult{Code: f}
	}
	e := elem(m[1], -1)
	for _, a := range attrForm.FindAllStringSubmatch(m[2], -1) {
		value := impl.UnescapeText(a[2])
		taken := slices.ContainsFunc(e.Attrs, func(b impl.Attr) bool { return b.Name == a[1] })
		switch f := impl.NameFault(a[1]); {
		case f != 0:
			return impl.TreeResult{Code: f}
		case value.Code != 0:
			return impl.TreeResult{Code: value.Code}
		case taken:
			return impl.TreeResult{Code: impl.ErrTaken}
		}
		e.Attrs = append(e.Attrs, impl.Attr{Name: a[1], Value: value.Text})
	}
	return impl.TreeResult{At: int64(len(m[3])), Elems: []impl.Elem{e}}
}

func TestParseTagByGrammar(t *testing.T) {
	parts := []string{"<", "a", ">", "/", " ", "\n", "=", "\"", "x=\"1\"", " y=\"&lt;\"", "abcdefghi"}
	count := map[int64]int{}
	check := func(mark string) {
		got, want := impl.ParseTag(mark), grammarTag(mark)
		count[got.Code]++
		if !sameTreeResults(got, want) {
			t.Fatalf("ParseTag(%q) = %v, want %v", mark, got, want)
		}
	}
	joinedTexts(parts, 4, func(text string) {
		check(text)
		check("<a" + text + ">")
		check("<a x=\"2\"" + text + ">")
		check("<b y=\"" + text + "/>")
	})
	if len(count) != 4 {
		t.Error("not all codes were met", count)
	}
}

func TestParseTree(t *testing.T) {
	x := impl.Attr{Name: "x", Value: "1"}
	cases := []struct {
		text string
		want []impl.Elem
	}{
		{`<a/>`, []impl.Elem{elem("a", -1)}},
		{`<a></a>`, []impl.Elem{elem("a", -1)}},
		{"\n <a/> \n", []impl.Elem{elem("a", -1)}},
		{`<!-- x --><a/><!-- <b> -->`, []impl.Elem{elem("a", -1)}},
		{`<!----><a><!-- </a> --></a>`, []impl.Elem{elem("a", -1)}},
		{`<a x="1"></a>`, []impl.Elem{elem("a", -1, x)}},
		{`<a><a/></a>`, []impl.Elem{elem("a", -1), elem("a", 0)}},
		{`<a><b/><b/></a>`, []impl.Elem{elem("a", -1), elem("b", 0), elem("b", 0)}},
		{`<a><b></b><b/></a>`, []impl.Elem{elem("a", -1), elem("b", 0), elem("b", 0)}},
		{`<a><b><c/></b><d><e></e></d></a>`, []impl.Elem{elem("a", -1), elem("b", 0), elem("c", 1), elem("d", 0), elem("e", 3)}},
		{`<a><a><a></a></a><a/></a>`, []impl.Elem{elem("a", -1), elem("a", 0), elem("a", 1), elem("a", 0)}},
		{"<a\n x=\"1\"\n>\n  <b  x=\"1\" />\n</a>\n", []impl.Elem{elem("a", -1, x), elem("b", 0, x)}},
	}
	for _, c := range cases {
		if got := impl.ParseTree(c.text); !sameTreeResults(got, impl.TreeResult{Elems: c.want}) {
			t.Errorf("ParseTree(%q) = %v, want %v", c.text, got, c.want)
		}
	}
}

func TestParseTreeWrong(t *testing.T) {
	deep := strings.Repeat("<a>", 8)
	cases := []struct {
		text string
		code int64
		at   int64
	}{
		// Behind all: one is open, or there is none.
		{``, impl.ErrForm, 0}, {` `, impl.ErrForm, 1}, {`<!-- a -->`, impl.ErrForm, 1}, {"\n<!-- a --> <!-- b -->", impl.ErrForm, 4},
		{`<a>`, impl.ErrForm, 1}, {`<a> `, impl.ErrForm, 2}, {`<a><b></b>`, impl.ErrForm, 3}, {`<a><b/>`, impl.ErrForm, 2},
		// CutMarks has a code: there is no place.
		{`<a/><`, impl.ErrText, 0}, {`<a/> >`, impl.ErrText, 0}, {`<a/><!-- `, impl.ErrText, 0},
		{`<a/>` + strings.Repeat(" ", 1497), impl.ErrMany, 0}, {`<b>x` + strings.Repeat("<", 1500), impl.ErrMany, 0},
		// What is no mark has to be space.
		{`x`, impl.ErrText, 0}, {`x<a/>`, impl.ErrText, 0}, {`<a/>x`, impl.ErrText, 1}, {`<a> <b/> x </a>`, impl.ErrText, 3}, {"<a>\t</a>", impl.ErrText, 1}, {"<a>\r\n</a>", impl.ErrText, 1}, {`<a></b>x`, impl.ErrForm, 1},
		// A mark that begins with <! or <? and is no comment.
		{`<!a><a/>`, impl.ErrText, 0}, {`<?xml?><a/>`, impl.ErrText, 0}, {`<a><!></a>`, impl.ErrText, 1}, {`<a><!- x --></a>`, impl.ErrText, 1}, {`<a/> <??>`, impl.ErrText, 2}, {`<a/><?b?>`, impl.ErrText, 1}, {`<a/><!b>`, impl.ErrText, 1},
		{`<a/><?` + strings.Repeat("b", 600) + `>`, impl.ErrText, 1}, {`<a><!` + strings.Repeat("b", 600) + `></a>`, impl.ErrText, 1},
		// What is closed is the innermost open one alone.
		{`</a>`, impl.ErrForm, 0}, {` </a>`, impl.ErrForm, 1}, {`<a></b>`, impl.ErrForm, 1}, {`<a><b></a></b>`, impl.ErrForm, 2}, {`<a><b/></b></a>`, impl.ErrForm, 2}, {`<a/></a>`, impl.ErrForm, 1}, {`<a></a></a>`, impl.ErrForm, 2},
		{`<a></a >`, impl.ErrForm, 1}, {`<a></ a>`, impl.ErrForm, 1}, {`<a></>`, impl.ErrForm, 1}, {`<a></aa>`, impl.ErrForm, 1}, {`<aa></a>`, impl.ErrForm, 1}, {`<a></a/>`, impl.ErrForm, 1}, {`<a></A>`, impl.ErrForm, 1}, {`<a></a x="1">`, impl.ErrForm, 1},
		// An element where there are elements and none is open.
		{`<a/><a/>`, impl.ErrForm, 1}, {`<a></a><a>`, impl.ErrForm, 2}, {`<a/> <b></b>`, impl.ErrForm, 2}, {`<a/><!-- x --><B>`, impl.ErrForm, 2}, {`<a/><abcdefghi/>`, impl.ErrForm, 1},
		// The code of ParseTag.
		{`<>`, impl.ErrText, 0}, {`< a>`, impl.ErrText, 0}, {`<a><b y></b></a>`, impl.ErrText, 1}, {`<a>` + "\n" + `<b y="1" y="2"/></a>`, impl.ErrTaken, 2}, {`<a><abcdefghi/></a>`, impl.ErrMany, 1},
		{`<a><b y="1"z="1"/></a>`, impl.ErrText, 1}, {`<a><b y="<"/></a>`, impl.ErrText, 1}, {`<a><b` + strings.Repeat(" ", 600) + `/></a>`, impl.ErrMany, 1},
		{`<a><b a="" b="" c="" d="" e="" f="" g=""/></a>`, impl.ErrMany, 1},
		// A value ends a mark with its >, so what is behind that is another piece.
		{`<a x=">"/>`, impl.ErrText, 0},
		// There would be too many.
		{`<a>` + strings.Repeat(`<b/>`, 40) + `</a>`, impl.ErrMany, 40}, {`<a>` + strings.Repeat(`<b></b>`, 40) + `</a>`, impl.ErrMany, 79}, {`<a>` + strings.Repeat(`<b/>`, 39) + ` <B/></a>`, impl.ErrText, 41},
		{deep + `<a>`, impl.ErrMany, 8}, {deep + `<a/>`, impl.ErrMany, 8}, {deep + `<A/>`, impl.ErrText, 8}, {deep, impl.ErrForm, 8}, {deep + `</a><a><b/>`, impl.ErrMany, 10},
	}
	for _, c := range cases {
		if got := impl.ParseTree(c.text); !sameTreeResults(got, impl.TreeResult{Code: c.code, At: c.at}) {
			t.Errorf("ParseTree(%q) = %v, want the code %d at %d", c.text, got, c.code, c.at)
		}
	}
}

func TestParseTreeUpToItsBounds(t *testing.T) {
	ends := strings.Repeat("</a>", 8)
	cases := []struct {
		text string
		want []impl.Elem
	}{
		{strings.Repeat("<a>", 8) + ends, chainOf(8)},
		{strings.Repeat("<a>", 7) + "<a/>" + ends[4:], chainOf(8)},
		{strings.Repeat("<a>", 8) + "</a>" + "<b/>" + ends[4:], append(chainOf(8), elem("b", 6))},
		{"<a>" + strings.Repeat("<b/>", 39) + "</a>", fanOf(40)},
		{"<a>" + strings.Repeat("<b></b> ", 39) + "</a>", fanOf(40)},
		{"<a/>" + strings.Repeat(" ", 1496), chainOf(1)},
		{"<a" + strings.Repeat(" ", 597) + ">" + "</a>", chainOf(1)},
		{"<!-- " + strings.Repeat("x", 1400) + " --><a/>", chainOf(1)},
	}
	for _, c := range cases {
		if got := impl.ParseTree(c.text); !sameTreeResults(got, impl.TreeResult{Elems: c.want}) {
			t.Errorf("ParseTree(%q) = %v", c.text, got)
		}
	}
}

// slowParseTree tells what a text is once more, with the tags that are open in a list.
func slowParseTree(text string) impl.TreeResult {
	cut := impl.CutMarks(text)
	if cut.Code != 0 {
		return impl.TreeResult{Code: cut.Code}
	}
	var elems []impl.Elem
	var open []int64
	for i, piece := range cut.Texts {
		fault := func(code int64) impl.TreeResult { return impl.TreeResult{Code: code, At: int64(i)} }
		if strings.HasPrefix(piece, "<!--") || strings.Trim(piece, " \n") == "" {
			continue
		}
		if piece[0] != '<' || piece[1] == '!' || piece[1] == '?' {
			return fault(impl.ErrText)
		}
		if piece[1] == '/' {
			if len(open) == 0 || piece[2:] != elems[open[len(open)-1]].Tag+">" {
				return fault(impl.ErrForm)
			}
			open = open[:len(open)-1]
			continue
		}
		if len(elems) > 0 && len(open) == 0 {
			return fault(impl.ErrForm)
		}
		tag := grammarTag(piece)
		if tag.Code != 0 {
			return fault(tag.Code)
		}
		if len(elems) >= 40 || len(open) >= 8 {
			return fault(impl.ErrMany)
		}
		parent := int64(-1)
		if len(open) > 0 {
			parent = open[len(open)-1]
		}
		tag.Elems[0].Parent = parent
		elems = append(elems, tag.Elems[0])
		if !strings.HasSuffix(piece, "/>") {
			open = append(open, int64(len(elems))-1)
		}
	}
	if len(open) > 0 || len(elems) == 0 {
		return impl.TreeResult{Code: impl.ErrForm, At: int64(len(cut.Texts))}
	}
	return impl.TreeResult{Elems: elems}
}

func TestParseTreeOfEachSmallText(t *testing.T) {
	parts := []string{"<a>", "</a>", "<b x=\"1\">", "</b>", "<a/>", " ", "x", "<!-- < -->", "<!a>", "<b x>", "<"}
	joinedTexts(parts, 5, func(text string) {
		if got, want := impl.ParseTree(text), slowParseTree(text); !sameTreeResults(got, want) {
			t.Fatalf("ParseTree(%q) = %v, want %v", text, got, want)
		}
	})
	joinedTexts([]string{"<a>", "</a>", "<b>", "</b>", "<b/>"}, 8, func(text string) {
		if got, want := impl.ParseTree(text), slowParseTree(text); !sameTreeResults(got, want) {
			t.Fatalf("ParseTree(%q) = %v, want %v", text, got, want)
		}
	})
}

// Promise 3: a tree is read back from what is written of it.
func TestTreeReadBack(t *testing.T) {
	r := rand.New(rand.NewSource(3))
	written := 0
	readBack := func(elems []impl.Elem) {
		text := impl.WriteTree(elems)
		if text.Code != 0 {
			return
		}
		written++
		got := impl.ParseTree(text.Text)
		if !sameTreeResults(got, impl.TreeResult{Elems: elems}) {
			t.Fatalf("of %q: %v, want %v", text.Text, got, elems)
		}
		if again := impl.WriteTree(got.Elems); again != text {
			t.Fatalf("written again: %v, want %v", again, text)
		}
	}
	for n := range 41 {
		for range 50 {
			readBack(randomTree(r, n+1))
		}
		readBack(fanOf(n))
		readBack(chainOf(n))
	}
	for b := byte(32); b <= 126; b++ {
		readBack([]impl.Elem{elem("a", -1, impl.Attr{Name: "x", Value: strings.Repeat(string(rune(b)), 40)}), elem("b", 0)})
	}
	if written < 1000 {
		t.Errorf("only %d trees were written", written)
	}
}

// Promise 3, of what is read with other spaces than those that are written.
func TestReadTreesHaveNoFault(t *testing.T) {
	joinedTexts([]string{"<a>", "</a>", "<b x=\"&gt;\"\n>", "</b>", "<a />", "\n"}, 6, func(text string) {
		read := impl.ParseTree(text)
		if read.Code != 0 {
			return
		}
		if f := impl.TreeFault(read.Elems); f != 0 {
			t.Fatalf("the tree of %q has the fault %d", text, f)
		}
		if again := impl.ParseTree(impl.WriteTree(read.Elems).Text); !sameTreeResults(again, read) {
			t.Fatalf("of %q: %v, written and read %v", text, read, again)
		}
	})
}

func TestKidsOf(t *testing.T) {
	elems := []impl.Elem{elem("a", -1), elem("b", 0), elem("c", 1), elem("d", 1), elem("e", 0)}
	for at, want := range [][]int64{{1, 4}, {2, 3}, nil, nil, nil} {
		if got := impl.KidsOf(elems, int64(at)); got.Code != 0 || !slices.Equal(got.List, want) {
			t.Errorf("KidsOf %d = %v, want %v", at, got, want)
		}
	}
	for _, at := range []int64{-1, 5, 6, 1 << 32, math.MaxInt64, math.MinInt64} {
		if got := impl.KidsOf(elems, at); got.Code != impl.ErrRange || len(got.List) != 0 {
			t.Errorf("KidsOf %d = %v, want ErrRange", at, got)
		}
		// The fault is asked ahead of the place.
		if got := impl.KidsOf(nil, at); got.Code != impl.ErrMany || len(got.List) != 0 {
			t.Errorf("KidsOf no elements at %d = %v, want ErrMany", at, got)
		}
	}
	if got := impl.KidsOf(append(slices.Clip(elems), elem("f", 2)), 0); got.Code != impl.ErrForm || len(got.List) != 0 {
		t.Errorf("KidsOf a tree with a fault = %v", got)
	}
}

// Promise 3: each element but the first is a kid of just one.
func TestEachElementIsKidOfOne(t *testing.T) {
	r := rand.New(rand.NewSource(4))
	for n := range 400 {
		elems := randomTree(r, 1+n/10)
		kidOf := make([]int, len(elems))
		for at := range elems {
			kids := impl.KidsOf(elems, int64(at))
			if kids.Code != 0 || !slices.IsSorted(kids.List) {
				t.Fatalf("KidsOf(%v, %d) = %v", elems, at, kids)
			}
			for _, kid := range kids.List {
				kidOf[kid]++
				if elems[kid].Parent != int64(at) {
					t.Fatalf("KidsOf(%v, %d) has %d", elems, at, kid)
				}
			}
		}
		for at, count := range kidOf {
			if count != min(at, 1) {
				t.Fatalf("of %v the one at %d is a kid of %d", elems, at, count)
			}
		}
	}
}

func TestValueOf(t *testing.T) {
	elems := []impl.Elem{
		elem("a", -1, impl.Attr{Name: "x", Value: "a<b"}, impl.Attr{Name: "y"}),
		elem("b", 0, impl.Attr{Name: "x", Value: "2"}),
	}
	cases := []struct {
		at   int64
		name string
		want impl.TextResult
	}{
		{0, "x", impl.TextResult{Text: "a<b"}}, {0, "y", impl.TextResult{}}, {1, "x", impl.TextResult{Text: "2"}},
		{1, "y", impl.TextResult{Code: impl.ErrNone}}, {0, "z", impl.TextResult{Code: impl.ErrNone}}, {0, "", impl.TextResult{Code: impl.ErrNone}},
		{0, "X", impl.TextResult{Code: impl.ErrNone}}, {0, strings.Repeat("x", 5000), impl.TextResult{Code: impl.ErrNone}},
		{-1, "x", impl.TextResult{Code: impl.ErrRange}}, {2, "x", impl.TextResult{Code: impl.ErrRange}}, {-1, "z", impl.TextResult{Code: impl.ErrRange}},
		{math.MaxInt64, "x", impl.TextResult{Code: impl.ErrRange}}, {math.MinInt64, "x", impl.TextResult{Code: impl.ErrRange}}, {1 << 32, "x", impl.TextResult{Code: impl.ErrRange}},
	}
	for _, c := range cases {
		if got := impl.ValueOf(elems, c.at, c.name); got != c.want {
			t.Errorf("ValueOf %d %q = %v, want %v", c.at, c.name, got, c.want)
		}
	}
	// The fault is asked ahead of the place and of the name.
	if got := impl.ValueOf(append(slices.Clip(elems), elem("", 0)), 9, "z"); got != (impl.TextResult{Code: impl.ErrText}) {
		t.Errorf("ValueOf a tree with a fault = %v", got)
	}
	if got := impl.ValueOf(nil, 0, "x"); got != (impl.TextResult{Code: impl.ErrMany}) {
		t.Errorf("ValueOf no elements = %v", got)
	}
}

func TestSameTrees(t *testing.T) {
	base := func() []impl.Elem {
		return []impl.Elem{elem("a", -1, attrsOf(2)...), elem("b", 0)}
	}
	changes := []func(e []impl.Elem) []impl.Elem{
		func(e []impl.Elem) []impl.Elem { return nil },
		func(e []impl.Elem) []impl.Elem { return e[:1] },
		func(e []impl.Elem) []impl.Elem { return append(e, elem("b", 0)) },
		func(e []impl.Elem) []impl.Elem { e[1].Tag = "c"; return e },
		func(e []impl.Elem) []impl.Elem { e[1].Parent = 1; return e },
		func(e []impl.Elem) []impl.Elem { e[0].Attrs[1].Name = "c"; return e },
		func(e []impl.Elem) []impl.Elem { e[0].Attrs[1].Value = "w"; return e },
		func(e []impl.Elem) []impl.Elem { e[0].Attrs = e[0].Attrs[:1]; return e },
		func(e []impl.Elem) []impl.Elem { slices.Reverse(e[0].Attrs); return e },
		func(e []impl.Elem) []impl.Elem { e[1].Attrs = attrsOf(1); return e },
		func(e []impl.Elem) []impl.Elem { slices.Reverse(e); return e },
	}
	if !impl.SameTrees(base(), base()) {
		t.Error("a tree is not the same as itself")
	}
	for i, change := range changes {
		if impl.SameTrees(base(), change(base())) || impl.SameTrees(change(base()), base()) {
			t.Errorf("the change %d is not seen", i)
		}
	}
	// An empty list and nil are the same value; no fault is asked.
	if !impl.SameTrees(nil, []impl.Elem{}) || !impl.SameTrees([]impl.Elem{{Attrs: []impl.Attr{}}}, []impl.Elem{{}}) {
		t.Error("an empty list is not the same as nil")
	}
	if !impl.SameTrees(fanOf(50), fanOf(50)) || impl.SameTrees(fanOf(50), fanOf(51)) {
		t.Error("trees with a fault are not compared")
	}
}

func cloneTree(elems []impl.Elem) []impl.Elem {
	elems = slices.Clone(elems)
	for i := range elems {
		elems[i].Attrs = slices.Clone(elems[i].Attrs)
	}
	return elems
}

// askTree asks all of elems that the chapter has functions for.
func askTree(elems []impl.Elem) []any {
	answers := []any{impl.TreeFault(elems), impl.WriteTree(elems), impl.SameTrees(elems, elems)}
	for at := int64(-2); at <= int64(len(elems)+1); at++ {
		answers = append(answers, impl.KidsOf(elems, at), impl.ValueOf(elems, at, "a"), impl.ValueOf(elems, at, ""))
	}
	return answers
}

// Promise 1: every function answers at every argument and changes none, with nothing beside a code.
func TestTreesAnswerAtEachArgument(t *testing.T) {
	r := rand.New(rand.NewSource(5))
	for range 3000 {
		elems := randomTree(r, 1+r.Intn(10))
		for range r.Intn(5) {
			elems = spoil(r, elems)
		}
		before := cloneTree(elems)
		for _, answer := range askTree(elems) {
			switch a := answer.(type) {
			case impl.TextResult:
				if a.Code != 0 && a.Text != "" {
					t.Fatalf("of %v: %v", elems, a)
				}
			case impl.IntsResult:
				if a.Code != 0 && len(a.List) != 0 {
					t.Fatalf("of %v: %v", elems, a)
				}
			}
		}
		if !reflect.DeepEqual(elems, before) {
			t.Fatalf("changed: %v, before %v", elems, before)
		}
	}
	for a := range 256 {
		for b := range 256 {
			x, y := string([]byte{byte(a)}), string([]byte{byte(b)})
			for _, text := range []string{x + y, "<" + x + y + ">", "<a" + x + "b" + y + "\"1\">", "<a b=\"" + x + y + "\"/>", "<a>" + x + "<b/>" + y + "</a>"} {
				tag, tree := impl.ParseTag(text), impl.ParseTree(text)
				if tag.Code != 0 && (tag.At != 0 || len(tag.Elems) != 0) || tree.Code != 0 && len(tree.Elems) != 0 || tree.Code == 0 && tree.At != 0 {
					t.Fatalf("of %q: %v and %v", text, tag, tree)
				}
			}
		}
	}
}

// Promise 1: what is answered is new memory.
func TestTreesAreNewMemory(t *testing.T) {
	mark := strings.Clone(`<mark name="value" other="&lt;more"/>`)
	tag := impl.ParseTag(mark)
	text := strings.Clone(`<tag name="value">` + mark + mark + `</tag>`)
	tree := impl.ParseTree(text)
	if len(tag.Elems) != 1 || len(tree.Elems) != 3 {
		t.Fatal(tag, tree)
	}
	for _, e := range append(slices.Clone(tag.Elems), tree.Elems...) {
		parts := []string{e.Tag}
		for _, a := range e.Attrs {
			parts = append(parts, a.Name, a.Value)
		}
		for _, part := range parts {
			if sharesBytes(part, text) || sharesBytes(part, mark) {
				t.Errorf("%q is shared", part)
			}
		}
	}
	// Room behind one list of an answer is not part of another one.
	second := cloneTree(tree.Elems)[2]
	tree.Elems[1].Attrs = append(tree.Elems[1].Attrs, impl.Attr{Name: "x"})
	clear(tree.Elems[1].Attrs)
	if !reflect.DeepEqual(tree.Elems[2], second) || !impl.SameTrees(impl.ParseTree(text).Elems[1:2], []impl.Elem{{Tag: "mark", Attrs: second.Attrs}}) {
		t.Error("two lists are shared")
	}
	elems := []impl.Elem{elem("a", -1, impl.Attr{Name: "x", Value: strings.Clone("plain")}), elem("b", 0), elem("b", 0)}
	if got := impl.ValueOf(elems, 0, "x"); got.Text != "plain" || sharesBytes(got.Text, elems[0].Attrs[0].Value) {
		t.Errorf("the value %q is shared", got.Text)
	}
	kids := impl.KidsOf(elems, 0)
	clear(kids.List)
	if again := impl.KidsOf(elems, 0); !slices.Equal(again.List, []int64{1, 2}) {
		t.Errorf("two answers share a list: %v", again)
	}
}

// Promise 1: an answer hangs on the arguments alone, not on what was asked ahead of it.
func TestTreesHangOnArgumentsAlone(t *testing.T) {
	r := rand.New(rand.NewSource(6))
	texts := []string{"", "<a/>", "<a>", "<a></b>", "<a x=\"1\"><b/></a>", "<a x=\"1\" x=\"2\"/>", "<a/><b/>", "x", strings.Repeat("<a>", 9)}
	trees := [][]impl.Elem{nil, chainOf(9), fanOf(41)}
	for range 50 {
		trees = append(trees, spoil(r, randomTree(r, 5)))
	}
	var asks []func() []any
	for _, text := range texts {
		asks = append(asks, func() []any { return []any{impl.ParseTag(text), impl.ParseTree(text)} })
	}
	for _, elems := range trees {
		asks = append(asks, func() []any { return askTree(elems) })
	}
	var first [][]any
	for _, ask := range asks {
		first = append(first, ask())
	}
	for i := len(asks) - 1; i >= 0; i-- {
		for range 3 {
			if got := asks[i](); !reflect.DeepEqual(got, first[i]) {
				t.Errorf("%v, and ahead of that %v", got, first[i])
			}
		}
	}
}
