package tests

import (
	"html"
	"reflect"
	"regexp"
	"strconv"
	"strings"
	"testing"
	"unsafe"

	"loop.example/g00343/impl"
)

// joinedTexts tells every text of 0 to most of the parts, one behind the other.
func joinedTexts(parts []string, most int, tell func(string)) {
	var grow func(text string, left int)
	grow = func(text string, left int) {
		tell(text)
		if left == 0 {
			return
		}
		for _, part := range parts {
			grow(text+part, left-1)
		}
	}
	grow("", most)
}

func TestNameFault(t *testing.T) {
	cases := []struct {
		name string
		want int64
	}{
		{"a", 0}, {"z", 0}, {"az", 0}, {"abcdefgh", 0},
		{"abcdefghi", impl.ErrMany}, {strings.Repeat("z", 5000), impl.ErrMany},
		{"", impl.ErrText}, {"a1", impl.ErrText}, {"A", impl.ErrText}, {"a b", impl.ErrText},
		{"`", impl.ErrText}, {"{", impl.ErrText}, {"a\x00", impl.ErrText}, {"\xe1", impl.ErrText}, {"é", impl.ErrText},
		// ErrText is asked over all of the name ahead of ErrMany.
		{"abcdefghI", impl.ErrText}, {"abcdefghijklmnop ", impl.ErrText},
	}
	for _, c := range cases {
		if got := impl.NameFault(c.name); got != c.want {
			t.Errorf("NameFault(%q) = %d, want %d", c.name, got, c.want)
		}
	}
}

func TestNameFaultOfEachByte(t *testing.T) {
	for b := range 256 {
		want := int64(impl.ErrText)
		if b >= 'a' && b <= 'z' {
			want = impl.OK
		}
		for _, name := range []string{string([]byte{byte(b)}), string([]byte{'m', byte(b), 'm'})} {
			if got := impl.NameFault(name); got != want {
				t.Errorf("NameFault(%q) = %d, want %d", name, got, want)
			}
		}
	}
}

func TestEscapeText(t *testing.T) {
	forty := strings.Repeat("x", 40)
	cases := []struct {
		text string
		want impl.TextResult
	}{
		{"", impl.TextResult{}},
		{"a<b", impl.TextResult{Text: "a&lt;b"}},
		{"<>&\"", impl.TextResult{Text: "&lt;&gt;&amp;&quot;"}},
		{"'", impl.TextResult{Text: "'"}},
		{"&lt;", impl.TextResult{Text: "&amp;lt;"}},
		{" ~", impl.TextResult{Text: " ~"}},
		{forty, impl.TextResult{Text: forty}},
		{strings.Repeat("\"", 40), impl.TextResult{Text: strings.Repeat("&quot;", 40)}},
		{forty + "x", impl.TextResult{Code: impl.ErrMany}},
		{forty[1:] + "\n", impl.TextResult{Code: impl.ErrText}},
		{"é", impl.TextResult{Code: impl.ErrText}},
		// ErrMany is asked ahead of ErrText.
		{forty + "\n", impl.TextResult{Code: impl.ErrMany}},
		{"\n" + forty, impl.TextResult{Code: impl.ErrMany}},
	}
	for _, c := range cases {
		if got := impl.EscapeText(c.text); got != c.want {
			t.Errorf("EscapeText(%q) = %v, want %v", c.text, got, c.want)
		}
	}
}

func TestEscapeTextOfEachByte(t *testing.T) {
	written := map[byte]string{'<': "&lt;", '>': "&gt;", '&': "&amp;", '"': "&quot;"}
	for b := range 256 {
		text := string([]byte{byte(b)})
		want := impl.TextResult{Text: text}
		if w, ok := written[byte(b)]; ok {
			want.Text = w
		}
		if b < 32 || b > 126 {
			want = impl.TextResult{Code: impl.ErrText}
		}
		if got := impl.EscapeText(text); got != want {
			t.Errorf("EscapeText(%q) = %v, want %v", text, got, want)
		}
	}
}

func TestUnescapeText(t *testing.T) {
	full := strings.Repeat("&quot;", 40)
	cases := []struct {
		text string
		want impl.TextResult
	}{
		{"", impl.TextResult{}},
		{"a&lt;b", impl.TextResult{Text: "a<b"}},
		{"&lt;&gt;&amp;&quot;&apos;", impl.TextResult{Text: "<>&\"'"}},
		{"'", impl.TextResult{Text: "'"}},
		{"&#65;&#126;", impl.TextResult{Text: "A~"}},
		{"a#65;b", impl.TextResult{Text: "a#65;b"}},
		// A byte that is told begins nothing any more.
		{"&amp;lt;", impl.TextResult{Text: "&lt;"}},
		{"&#38;#65;", impl.TextResult{Text: "&#65;"}},
		{"&#60;&#62;&#34;", impl.TextResult{Text: "<>\""}},
		{full, impl.TextResult{Text: strings.Repeat("\"", 40)}},
		{strings.Repeat("x", 40), impl.TextResult{Text: strings.Repeat("x", 40)}},
		{strings.Repeat("x", 41), impl.TextResult{Code: impl.ErrMany}},
		{full + "&lt;", impl.TextResult{Code: impl.ErrMany}},
		{strings.Repeat("&#65;", 80), impl.TextResult{Code: impl.ErrMany}},
		// Of 400 bytes ErrText is asked ahead of how many come of them, of 401 behind.
		{strings.Repeat("x", 399) + "<", impl.TextResult{Code: impl.ErrText}},
		{strings.Repeat("x", 400), impl.TextResult{Code: impl.ErrMany}},
		{strings.Repeat("x", 400) + "<", impl.TextResult{Code: impl.ErrMany}},
		{"<" + strings.Repeat("x", 400), impl.TextResult{Code: impl.ErrMany}},
	}
	for _, c := range cases {
		if got := impl.UnescapeText(c.text); got != c.want {
			t.Errorf("UnescapeText(%q) = %v, want %v", c.text, got, c.want)
		}
	}
}

func TestUnescapeTextWrong(t *testing.T) {
	texts := []string{
		"&", "&;", "&x;", "&lt", "&LT;", "& lt;", "&ltx;", "&&lt;", "a&b", "&lt;&",
		"&#", "&#;", "&#65", "&#x41;", "&#6a;", "&#-5;", "&#+65;", "&# 65;", "&#65 ;", "&#1234;", "&#0065;",
		// Numbers are read without a 0 ahead (general rule 9).
		"&#065;", "&#032;", "&#00;",
		"<", ">", "\"", "a<b", "&lt;>", "\n", "\x1f", "\x7f", "\x80", "\xff", "é",
	}
	for _, text := range texts {
		if got := impl.UnescapeText(text); got != (impl.TextResult{Code: impl.ErrText}) {
			t.Errorf("UnescapeText(%q) = %v, want ErrText", text, got)
		}
	}
}

func TestUnescapeTextOfEachNumber(t *testing.T) {
	for n := range 70000 {
		text := "&#" + strconv.Itoa(n) + ";"
		want := impl.TextResult{Code: impl.ErrText}
		if n >= 32 && n <= 126 {
			want = impl.TextResult{Text: string(rune(n))}
		}
		if got := impl.UnescapeText(text); got != want {
			t.Errorf("UnescapeText(%q) = %v, want %v", text, got, want)
		}
	}
}

func TestUnescapeTextOfEachPairAsNumber(t *testing.T) {
	for a := range 256 {
		for b := range 256 {
			text := string([]byte{'&', '#', byte(a), byte(b), ';'})
			want := impl.TextResult{Code: impl.ErrText}
			digits := a >= '1' && a <= '9' && b >= '0' && b <= '9'
			if number := (a-'0')*10 + b - '0'; digits && number >= 32 {
				want = impl.TextResult{Text: string(rune(number))}
			}
			if got := impl.UnescapeText(text); got != want {
				t.Errorf("UnescapeText(%q) = %v, want %v", text, got, want)
			}
		}
	}
}

func TestUnescapeTextOfEachByte(t *testing.T) {
	for b := range 256 {
		text := string([]byte{byte(b)})
		want := impl.TextResult{Text: text}
		if b < 32 || b > 126 || strings.Contains("<>\"&", text) {
			want = impl.TextResult{Code: impl.ErrText}
		}
		if got := impl.UnescapeText(text); got != want {
			t.Errorf("UnescapeText(%q) = %v, want %v", text, got, want)
		}
	}
}

// What is readable is told by a grammar, and what it comes to by the library's own reader.
func TestUnescapeTextByGrammar(t *testing.T) {
	grammar := regexp.MustCompile(`^(?:[ !#-%'-;=?-~]|&(?:lt|gt|amp|quot|apos);|&#(?:3[2-9]|[4-9][0-9]|1[01][0-9]|12[0-6]);)*$`)
	parts := []string{"&lt;", "&amp;", "&apos;", "&", "#", ";", "0", "1", "6", "2", "gt;", "quot", "<", "'", "a", "\n"}
	joinedTexts(parts, 5, func(text string) {
		want := impl.TextResult{Code: impl.ErrText}
		if grammar.MatchString(text) {
			want = impl.TextResult{Text: html.UnescapeString(text)}
		}
		if got := impl.UnescapeText(text); got != want {
			t.Errorf("UnescapeText(%q) = %v, want %v", text, got, want)
		}
	})
}

// Promise 2: a value is read back from what is written of it.
func TestValueReadBack(t *testing.T) {
	readBack := func(value string) {
		written := impl.EscapeText(value)
		if written.Code != impl.OK || strings.ContainsAny(written.Text, "<>\"") {
			t.Errorf("EscapeText(%q) = %v", value, written)
		}
		if got := impl.UnescapeText(written.Text); got != (impl.TextResult{Text: value}) {
			t.Errorf("UnescapeText(%q) = %v, want %q", written.Text, got, value)
		}
	}
	readBack("")
	for a := byte(32); a <= 126; a++ {
		readBack(strings.Repeat(string(rune(a)), 40))
		for b := byte(32); b <= 126; b++ {
			readBack(string([]byte{a, b}))
		}
	}
	joinedTexts([]string{"&", "lt;", "#", "65;", "\"", "'", "amp", ";"}, 5, readBack)
}

func TestIsSpace(t *testing.T) {
	for text, want := range map[string]bool{
		"": true, " ": true, "\n": true, " \n ": true, strings.Repeat(" \n", 5000): true,
		"a": false, " a ": false, "\t": false, "\r\n": false, " \x00": false, "\n\v": false, "\u00a0": false, "\x1f": false, "!": false,
		strings.Repeat(" ", 5000) + "x": false,
	} {
		if got := impl.IsSpace(text); got != want {
			t.Errorf("IsSpace(%q) = %v", text, got)
		}
	}
	for b := range 256 {
		if got := impl.IsSpace(string([]byte{' ', byte(b), '\n'})); got != (b == 32 || b == 10) {
			t.Errorf("IsSpace with the byte %d = %v", b, got)
		}
	}
}

func TestCutMarks(t *testing.T) {
	cases := []struct {
		text string
		want []string
	}{
		{"", nil},
		{"a", []string{"a"}},
		{" \n", []string{" \n"}},
		{"<a>", []string{"<a>"}},
		{"<>", []string{"<>"}},
		{"<a/><b>", []string{"<a/>", "<b>"}},
		{"x<a>y<b>z", []string{"x", "<a>", "y", "<b>", "z"}},
		{"<a b=\"<\">", []string{"<a b=\"<\">"}},
		{"<a <b>", []string{"<a <b>"}},
		{"<a> x<!-- > --></a>", []string{"<a>", " x", "<!-- > -->", "</a>"}},
		{"<!-- <a> <!-- -->x", []string{"<!-- <a> <!-- -->", "x"}},
		{"<!-- a --> --<b>", []string{"<!-- a -->", " --", "<b>"}},
		{"<!----><!-----><!-->-->", []string{"<!---->", "<!----->", "<!-->-->"}},
		{"<!--->-->", []string{"<!--->-->"}},
		{"<!--a->-->", []string{"<!--a->-->"}},
		{"<!>", []string{"<!>"}},
		{"<!->", []string{"<!->"}},
		{"<!-a--><b>", []string{"<!-a-->", "<b>"}},
		{"< !-->", []string{"< !-->"}},
		{"<?x?>", []string{"<?x?>"}},
		{"\x00<\xff>\t", []string{"\x00", "<\xff>", "\t"}},
		{"é<é>", []string{"é", "<é>"}},
	}
	for _, c := range cases {
		if got := impl.CutMarks(c.text); got.Code != impl.OK || strings.Join(got.Texts, "|") != strings.Join(c.want, "|") || len(got.Texts) != len(c.want) {
			t.Errorf("CutMarks(%q) = %v, want %q", c.text, got, c.want)
		}
	}
}

func TestCutMarksWrong(t *testing.T) {
	for _, text := range []string{
		"<", "<a", "x<", "<a><b", ">", "a>", ">a", "<a>>", "<a>x>y<b>", "<a>x>", "<!-- a -->>",
		"<!--", "<!-->", "<!--->", "<!-- >", "<!-- --", "<!-- -- >", "<!-- ->", "<a><!-- x></a>", "<!-- a --><!-- b",
	} {
		if got := impl.CutMarks(text); got.Code != impl.ErrText || len(got.Texts) != 0 {
			t.Errorf("CutMarks(%q) = %v, want ErrText", text, got)
		}
	}
}

func TestCutMarksOfManyBytes(t *testing.T) {
	whole := func(n int) []string {
		return []string{
			strings.Repeat("x", n),
			"<" + strings.Repeat("x", n-2) + ">",
			"<!--" + strings.Repeat("-", n-7) + "-->",
			strings.Repeat("<>", n/2) + strings.Repeat(" ", n%2),
		}
	}
	for _, text := range whole(1500) {
		if got := impl.CutMarks(text); got.Code != impl.OK || strings.Join(got.Texts, "") != text {
			t.Errorf("CutMarks of 1500 bytes: %v", got)
		}
	}
	for _, text := range append(whole(1501), strings.Repeat(">", 1501), strings.Repeat("<", 1501), strings.Repeat("x", 1<<20)) {
		if got := impl.CutMarks(text); got.Code != impl.ErrMany || len(got.Texts) != 0 {
			t.Errorf("CutMarks of %d bytes: %v, want ErrMany", len(text), got)
		}
	}
	for _, text := range []string{strings.Repeat(">", 1500), strings.Repeat("<", 1500), strings.Repeat("x", 1499) + "<"} {
		if got := impl.CutMarks(text); got.Code != impl.ErrText || len(got.Texts) != 0 {
			t.Errorf("CutMarks of 1500 bytes: %v, want ErrText", got)
		}
	}
}

// cutSlowly tells the pieces of text once more, by looking for what ends each.
func cutSlowly(text string) ([]string, bool) {
	if text == "" {
		return nil, true
	}
	var piece string
	switch behind, comment := strings.CutPrefix(text, "<!--"); {
	case comment:
		inner, _, ended := strings.Cut(behind, "-->")
		if !ended {
			return nil, false
		}
		piece = "<!--" + inner + "-->"
	case text[0] == '<':
		inner, _, ended := strings.Cut(text, ">")
		if !ended {
			return nil, false
		}
		piece = inner + ">"
	default:
		piece, _, _ = strings.Cut(text, "<")
		if strings.Contains(piece, ">") {
			return nil, false
		}
	}
	others, ok := cutSlowly(text[len(piece):])
	if !ok {
		return nil, false
	}
	return append([]string{piece}, others...), true
}

// Promise 2: what is cut into marks is all of the text.
func TestMarksAreAllOfTheText(t *testing.T) {
	joinedTexts([]string{"<", "!", "-", ">", "a", "<!--", "-->"}, 7, func(text string) {
		got := impl.CutMarks(text)
		want, ok := cutSlowly(text)
		if ok != (got.Code == impl.OK) || !ok && got.Code != impl.ErrText {
			t.Fatalf("CutMarks(%q) = %v", text, got)
		}
		if strings.Join(got.Texts, "\x00") != strings.Join(want, "\x00") || ok && strings.Join(got.Texts, "") != text {
			t.Fatalf("CutMarks(%q) = %q, want %q", text, got.Texts, want)
		}
	})
}

// Promise 1: every function answers, whatever bytes it is given.
func TestMarksAnswerAtEachText(t *testing.T) {
	ask := func(text string) {
		checkCodes(t, text)
		impl.IsSpace(text)
	}
	for a := range 256 {
		for b := range 256 {
			ask(string([]byte{byte(a), byte(b)}))
			ask(string([]byte{'&', '#', byte(a), byte(b), ';'}))
			ask(string([]byte{'<', byte(a), '!', byte(b), '>'}))
		}
		for _, n := range []int{8, 9, 40, 41, 400, 401, 1500, 1501, 1 << 20} {
			ask(strings.Repeat(string([]byte{byte(a)}), n))
		}
	}
}

// checkCodes asks that a code is one that the chapter names, and that nothing stands beside it.
func checkCodes(t *testing.T, text string) {
	t.Helper()
	for _, r := range []impl.TextResult{impl.EscapeText(text), impl.UnescapeText(text)} {
		if r.Code != impl.OK && (r.Code != impl.ErrMany && r.Code != impl.ErrText || r.Text != "") {
			t.Errorf("of %q: %v", text, r)
		}
	}
	if c := impl.CutMarks(text); c.Code != impl.OK && (c.Code != impl.ErrMany && c.Code != impl.ErrText || len(c.Texts) != 0) {
		t.Errorf("CutMarks(%q) = %v", text, c)
	}
	if c := impl.NameFault(text); c != impl.OK && c != impl.ErrMany && c != impl.ErrText {
		t.Errorf("NameFault(%q) = %d", text, c)
	}
}

// sharesBytes tells whether part lies in the memory of text.
func sharesBytes(part, text string) bool {
	if part == "" || text == "" {
		return false
	}
	from := uintptr(unsafe.Pointer(unsafe.StringData(text)))
	at := uintptr(unsafe.Pointer(unsafe.StringData(part)))
	return at >= from && at < from+uintptr(len(text))
}

// Promise 1: what is answered is new memory.
func TestMarksAreNewMemory(t *testing.T) {
	text := strings.Clone("plain text")
	for _, r := range []impl.TextResult{impl.EscapeText(text), impl.UnescapeText(text)} {
		if r.Text != text || sharesBytes(r.Text, text) {
			t.Errorf("the text %q is shared", r.Text)
		}
	}
	text = strings.Clone("some <mark> and <!-- more --> of it")
	first := impl.CutMarks(text)
	if len(first.Texts) != 5 {
		t.Fatal(first)
	}
	for _, piece := range first.Texts {
		if sharesBytes(piece, text) {
			t.Errorf("the piece %q is shared", piece)
		}
	}
	second := impl.CutMarks(text)
	clear(first.Texts)
	if strings.Join(second.Texts, "") != text || text != "some <mark> and <!-- more --> of it" {
		t.Error("two answers share a list")
	}
}

// Promise 1: an answer hangs on the arguments alone, not on what was asked ahead of it.
func TestMarksHangOnArgumentsAlone(t *testing.T) {
	texts := []string{"", "a", "abcdefghi", "a<b", "&lt;&#65;", "&x;", "<a>", "<!-- > -->", "<a", " \n", strings.Repeat("&", 41), strings.Repeat("<>", 750), strings.Repeat("x", 1501)}
	ask := func(text string) []any {
		return []any{impl.NameFault(text), impl.EscapeText(text), impl.UnescapeText(text), impl.CutMarks(text), impl.IsSpace(text)}
	}
	var first [][]any
	for _, text := range texts {
		first = append(first, ask(text))
	}
	for i := len(texts) - 1; i >= 0; i-- {
		for range 3 {
			if got := ask(texts[i]); !reflect.DeepEqual(got, first[i]) {
				t.Errorf("of %q: %v, and ahead of that %v", texts[i], got, first[i])
			}
		}
	}
}
