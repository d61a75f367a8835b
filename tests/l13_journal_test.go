package tests

import (
	"bytes"
	"math"
	"math/big"
	"math/rand"
	"reflect"
	"slices"
	"strconv"
	"strings"
	"testing"
	"unsafe"

	"loop.example/g00343/impl"
)

// slowSums answers a function that tells the sum of bytes: all of it at once, each byte times its power of 251.
func slowSums() func(data string) int64 {
	var powers []int64
	for n := range 300 {
		power := new(big.Int).Exp(big.NewInt(251), big.NewInt(int64(n)), big.NewInt(65521))
		powers = append(powers, power.Int64())
	}
	return func(data string) int64 {
		sum := powers[len(data)]
		for i := range len(data) {
			sum += int64(data[i]) * powers[len(data)-1-i]
		}
		return sum % 65521
	}
}

var slowSum = slowSums()

func twoBytes(sum int64) string {
	return string([]byte{byte(sum / 256), byte(sum % 256)})
}

// rawPack packs whatever it is given, up to 255 bytes, with the right sum.
func rawPack(line string) string {
	told := string([]byte{byte(len(line))}) + line
	return told + twoBytes(slowSum(told))
}

// packs is lines packed one behind the other.
func packs(lines ...string) string {
	told := ""
	for _, line := range lines {
		told += rawPack(line)
	}
	return told
}

func slowLineFault(line string) int64 {
	if len(line) == 0 || len(line) > 40 {
		return impl.ErrMany
	}
	for _, b := range []byte(line) {
		if !strings.Contains(" !\"#$%&'()*+,-./0123456789:;<=>?@ABCDEFGHIJKLMNOPQRSTUVWXYZ[\\]^_`abcdefghijklmnopqrstuvwxyz{|}~", string(rune(b))) {
			return impl.ErrText
		}
	}
	return 0
}

// slowSize is how many bytes the PackLine takes that data begins with, or 0.
func slowSize(data string) int {
	for n := 1; n <= 40 && n+3 <= len(data); n++ {
		if data[0] == byte(n) && slowLineFault(data[1:n+1]) == 0 && data[n+1:n+3] == twoBytes(slowSum(data[:n+1])) {
			return n + 3
		}
	}
	return 0
}

func slowLines(data string) ([]string, string) {
	var lines []string
	for {
		size := slowSize(data)
		if size == 0 {
			return lines, data
		}
		lines = append(lines, data[1:size-2])
		data = data[size:]
	}
}

func slowRead(data string) impl.LinesResult {
	if len(data) > 2400 {
		return impl.LinesResult{Code: impl.ErrMany}
	}
	lines, rest := slowLines(data)
	broken := false
	for at := 1; at < len(rest); at++ {
		broken = broken || slowSize(rest[at:]) > 0
	}
	return impl.LinesResult{Lines: lines, Broken: broken}
}

func sameLines(a, b impl.LinesResult) bool {
	return a.Code == b.Code && a.Broken == b.Broken && slices.Equal(a.Lines, b.Lines)
}

// askRead asks ReadLines, and that the data stay as they were.
func askRead(t *testing.T, why, data string) impl.LinesResult {
	t.Helper()
	given := []byte(data)
	got, want := impl.ReadLines(given), slowRead(data)
	if !sameLines(got, want) {
		t.Errorf("%s: ReadLines(%q) = %v, want %v", why, data, got, want)
	}
	if string(given) != data {
		t.Errorf("%s: the data %q are %q now", why, data, given)
	}
	return got
}

func TestLineFaults(t *testing.T) {
	letters := strings.Repeat("a", 60)
	for _, c := range []struct {
		why, line string
		want      int64
	}{
		{"nothing", "", impl.ErrMany},
		{"one byte", "a", 0},
		{"a blank", " ", 0},
		{"the last one that is so", "~", 0},
		{"words", "claim 1 0 2", 0},
		{"signs", `<task name="a"/>`, 0},
		{"39 bytes", letters[:39], 0},
		{"40 bytes", letters[:40], 0},
		{"41 bytes", letters[:41], impl.ErrMany},
		{"60 bytes", letters, impl.ErrMany},
		{"255 bytes", strings.Repeat("a", 255), impl.ErrMany},
		{"256 bytes", strings.Repeat("a", 256), impl.ErrMany},
		{"257 bytes", strings.Repeat("a", 257), impl.ErrMany},
		{"300 bytes", strings.Repeat("a", 300), impl.ErrMany},
		{"65537 bytes", strings.Repeat("a", 65537), impl.ErrMany},
		{"40 blanks", strings.Repeat(" ", 40), 0},
		{"40 of the last one", strings.Repeat("~", 40), 0},
		{"the byte 31", "\x1f", impl.ErrText},
		{"the byte 32", "\x20", 0},
		{"the byte 126", "\x7e", 0},
		{"the byte 127", "\x7f", impl.ErrText},
		{"the byte 0", "\x00", impl.ErrText},
		{"the byte 128", "\x80", impl.ErrText},
		{"the byte 255", "\xff", impl.ErrText},
		{"a line feed behind", "tick 3\n", impl.ErrText},
		{"a line feed ahead", "\ntick 3", impl.ErrText},
		{"a tab", "tick\t3", impl.ErrText},
		{"a rune of two bytes", "\u00e9", impl.ErrText},
		{"a rune of which one byte would be so", "\u0141", impl.ErrText},
		{"20 runes of two bytes", strings.Repeat("\u00e9", 20), impl.ErrText},
		{"21 runes of two bytes", strings.Repeat("\u00e9", 21), impl.ErrMany},
		{"14 runes of three bytes", strings.Repeat("\u20ac", 14), impl.ErrMany},
		{"40 bytes, a wrong one at the end", letters[:39] + "\x1f", impl.ErrText},
		{"40 bytes, a wrong one at the beginning", "\x7f" + letters[:39], impl.ErrText},
		{"40 wrong bytes", strings.Repeat("\x00", 40), impl.ErrText},
		{"41 bytes, a wrong one at the end", letters[:40] + "\x1f", impl.ErrMany},
		{"41 bytes, a wrong one at the beginning", "\x1f" + letters[:40], impl.ErrMany},
		{"41 wrong bytes", strings.Repeat("\x00", 41), impl.ErrMany},
	} {
		if got := impl.LineFault(c.line); got != c.want {
			t.Errorf("%s: LineFault(%q) = %d, want %d", c.why, c.line, got, c.want)
		}
		if got := impl.PackLine(c.line); got.Code != c.want || (c.want != 0) != (len(got.Bytes) == 0) {
			t.Errorf("%s: PackLine(%q) = %v, want the code %d", c.why, c.line, got, c.want)
		}
		if got := impl.AppendLine(impl.Journal{}, c.line); got.Code != c.want {
			t.Errorf("%s: AppendLine(%q) = %v, want the code %d", c.why, c.line, got, c.want)
		}
	}
}

// Each byte at each place of lines of some lengths.
func TestLineFaultOfEachByte(t *testing.T) {
	for _, size := range []int{1, 2, 3, 39, 40, 41} {
		for at := range size {
			line := []byte(strings.Repeat("k", size))
			for b := range 256 {
				line[at] = byte(b)
				want := int64(0)
				if size > 40 {
					want = impl.ErrMany
				} else if b < 32 || b > 126 {
					want = impl.ErrText
				}
				if got := impl.LineFault(string(line)); got != want {
					t.Fatalf("LineFault(%q) = %d, want %d", line, got, want)
				}
			}
		}
	}
}

// The sums were worked out by hand, or with numbers that have no bounds.
func TestPackLines(t *testing.T) {
	for _, c := range []struct{ line, want string }{
		{"A", "\x01A\xf7\x55"},
		{" ", "\x01 \xf7\x34"},
		{"~", "\x01~\xf7\x92"},
		{"ab", "\x02ab\xa4\x6f"},
		{"~~", "\x02~~\xc0\xfa"},
		{"tick 3", "\x06tick 3\xca\x81"},
		{"drop 0", "\x06drop 0\xe9\x97"},
		{strings.Repeat("a", 39), "\x27" + strings.Repeat("a", 39) + "\xbb\xe6"},
		{strings.Repeat(" ", 40), "\x28" + strings.Repeat(" ", 40) + "\xf6\xa3"},
		{strings.Repeat("~", 40), "\x28" + strings.Repeat("~", 40) + "\x62\x99"},
	} {
		if got := impl.PackLine(c.line); got.Code != 0 || string(got.Bytes) != c.want {
			t.Errorf("PackLine(%q) = %d %q, want %q", c.line, got.Code, got.Bytes, c.want)
		}
		if rawPack(c.line) != c.want {
			t.Errorf("the slow way packs %q", rawPack(c.line))
		}
		askRead(t, "a line", c.want)
	}
}

// askPacked asks that a line is packed as it should be, and read back from that, alone and ahead of itself.
func askPacked(t *testing.T, line string) {
	t.Helper()
	want := rawPack(line)
	got := impl.PackLine(line)
	if got.Code != 0 || string(got.Bytes) != want {
		t.Fatalf("PackLine(%q) = %d %q, want %q", line, got.Code, got.Bytes, want)
	}
	if back := impl.ReadLines(got.Bytes); !sameLines(back, impl.LinesResult{Lines: []string{line}}) {
		t.Fatalf("%q is read back as %v", line, back)
	}
	if back := impl.ReadLines([]byte(want + want)); !sameLines(back, impl.LinesResult{Lines: []string{line, line}}) {
		t.Fatalf("%q, twice, is read back as %v", line, back)
	}
}

// Promise 14: a line is read back from what is packed of it: all of one and two bytes, and many longer ones.
func TestLinesAreReadBack(t *testing.T) {
	for a := 32; a <= 126; a++ {
		askPacked(t, string([]byte{byte(a)}))
		for b := 32; b <= 126; b++ {
			askPacked(t, string([]byte{byte(a), byte(b)}))
		}
	}
	rnd := rand.New(rand.NewSource(130))
	for i := range 4000 {
		line := someLine(rnd)
		if i%4 == 0 {
			line = strings.Repeat(line[:1], 1+i%40)
		}
		askPacked(t, line)
	}
}

// lineOfSum is a line whose sum, as it is told, is so.
func lineOfSum(t *testing.T, is func(sum int64) bool) string {
	t.Helper()
	rnd := rand.New(rand.NewSource(131))
	for range 5_000_000 {
		line := []byte{byte(32 + rnd.Intn(95)), byte(32 + rnd.Intn(95)), byte(32 + rnd.Intn(95)), byte(32 + rnd.Intn(95))}
		if is(slowSum("\x04" + string(line))) {
			return string(line)
		}
	}
	t.Fatal("no line has such a sum")
	return ""
}

// Sums at the ends of what 65521 leaves, and at those of a byte.
func TestSumsAtTheirEnds(t *testing.T) {
	for _, sum := range []int64{0, 1, 2, 14, 15, 255, 256, 257, 511, 512, 32767, 32768, 65279, 65280, 65519, 65520} {
		line := lineOfSum(t, func(got int64) bool { return got == sum })
		askPacked(t, line)
		good := rawPack(line)
		if good[5:] != twoBytes(sum) {
			t.Fatal("another sum")
		}
		// What is left of a sum is below 65521: the same and 65521 more would go into two bytes too.
		for _, other := range []int64{sum + 65521, sum - 1, sum + 1, sum + 256, sum - 256, 65521 - sum, 65535 - sum, sum%256*256 + sum/256} {
			if other < 0 || other > 65535 || other == sum {
				continue
			}
			data := good[:5] + twoBytes(other)
			if got := askRead(t, "another sum", data); len(got.Lines) != 0 || got.Broken {
				t.Errorf("a line with the sum %d for %d: %v", other, sum, got)
			}
			if code := impl.JournalFault(impl.Journal{Sure: []byte(data)}); code != impl.ErrText {
				t.Errorf("a line with the sum %d for %d: JournalFault = %d", other, sum, code)
			}
		}
	}
}

// someLine is a line of any length.
func someLine(rnd *rand.Rand) string {
	size := []int{1, 2, 3, 6, 10, 20, 32, 33, 39, 40, 1 + rnd.Intn(40)}[rnd.Intn(11)]
	line := make([]byte, size)
	for i := range line {
		line[i] = byte(32 + rnd.Intn(95))
	}
	return string(line)
}

func someLines(rnd *rand.Rand, most int) []string {
	var lines []string
	for range rnd.Intn(most + 1) {
		lines = append(lines, someLine(rnd))
	}
	return lines
}

type readCase struct {
	why, data string
	broken    bool
	lines     []string
}

func askReadCases(t *testing.T, cases []readCase) {
	t.Helper()
	for _, c := range cases {
		got := askRead(t, c.why, c.data)
		if want := (impl.LinesResult{Broken: c.broken, Lines: c.lines}); !sameLines(got, want) {
			t.Errorf("%s: ReadLines(%q) = %v, want %v", c.why, c.data, got, want)
		}
	}
}

func TestReadLines(t *testing.T) {
	long := strings.Repeat("~", 40)
	three := packs("tick 3", "claim 1 0 2", "drop 0")
	askReadCases(t, []readCase{
		{"no data", "", false, nil},
		{"a line", packs("tick 3"), false, []string{"tick 3"}},
		{"a line of one byte", packs("a"), false, []string{"a"}},
		{"a blank", packs(" "), false, []string{" "}},
		{"a line of 40 bytes", packs(long), false, []string{long}},
		{"two lines", packs("tick 3", "drop 0"), false, []string{"tick 3", "drop 0"}},
		{"a line twice", packs("tick 3", "tick 3"), false, []string{"tick 3", "tick 3"}},
		{"three lines", three, false, []string{"tick 3", "claim 1 0 2", "drop 0"}},
		{"the last byte is away", three[:len(three)-1], false, []string{"tick 3", "claim 1 0 2"}},
		{"the sum is away", three[:len(three)-2], false, []string{"tick 3", "claim 1 0 2"}},
		{"the length alone is there", packs("a") + "\x06", false, []string{"a"}},
		{"the first byte is away", three[1:], true, nil},
		{"one byte behind", three + "\x00", false, []string{"tick 3", "claim 1 0 2", "drop 0"}},
		{"one byte ahead", "\x00" + three, true, nil},
		{"a byte between", packs("a") + "\x00" + packs("b"), true, []string{"a"}},
		{"a length between, of which no line comes", packs("a") + "\x05" + packs("b"), true, []string{"a"}},
		{"many bytes between", packs("a") + strings.Repeat("\x03", 100) + packs("b"), true, []string{"a"}},
		{"bytes between and behind", "zz" + packs("b") + "zz", true, nil},
		{"bytes alone", "some bytes", false, nil},
		{"zeros", strings.Repeat("\x00", 60), false, nil},
		{"bytes, and a line that is cut", "zz" + packs("tick 3")[:8], false, nil},
		{"a line that is cut, and a whole one", packs("tick 3")[:8] + packs("drop 0"), true, nil},
		{"a line that is cut behind its length, and a whole one", "\x06" + packs("drop 0"), true, nil},
		{"a whole one behind bytes behind a whole one", packs("a") + "\xff\xff" + packs("b") + "\xff" + packs("c"), true, []string{"a"}},
		{"the length, and at once a whole one", "\x01" + packs("a"), true, nil},
	})
}

func TestReadLinesThatAreWrong(t *testing.T) {
	good := packs("tick 3")
	higher := good[:7] + "\xcb\x81"
	lower := good[:7] + "\xca\x80"
	letters := strings.Repeat("a", 256)
	var cases []readCase
	for _, c := range []struct{ why, data string }{
		{"a wrong higher byte", higher},
		{"a wrong higher byte, one less", good[:7] + "\xc9\x81"},
		{"a wrong lower byte", lower},
		{"a wrong lower byte, one more", good[:7] + "\xca\x82"},
		{"both bytes wrong", good[:7] + "\xcb\x82"},
		{"the lower one first", good[:7] + "\x81\xca"},
		{"a sum of 0", good[:7] + "\x00\x00"},
		{"another letter", "\x06tick 4\xca\x81"},
		{"a length of 0", "\x00"},
		{"a length of 0 and its sum", rawPack("")},
		{"a length of 0, and a line behind", "\x00tick 3\xca\x81"},
		{"a length of 41 and its sum", rawPack(letters[:41])},
		{"a length of 42 and its sum", rawPack(letters[:42])},
		{"a length of 127 and its sum", rawPack(letters[:127])},
		{"a length of 128 and its sum", rawPack(letters[:128])},
		{"a length of 254 and its sum", rawPack(letters[:254])},
		{"a length of 255 and its sum", rawPack(letters[:255])},
		{"a length of 255 alone", "\xff"},
		{"a length of 255, and little behind", "\xfftick 3\xca\x81"},
		{"a length of 41 alone", "\x29"},
		{"one less than the length", "\x05tick 3\xca\x81"},
		{"one more than the length", "\x07tick 3\xca\x81"},
		{"the byte 31 and the right sum", rawPack("tick\x1f3")},
		{"the byte 127 and the right sum", rawPack("tick 3\x7f")},
		{"the byte 128 and the right sum", rawPack("\x80tick 3")},
		{"the byte 255 and the right sum", rawPack("\xff")},
		{"the byte 0 and the right sum", rawPack("\x00")},
		{"a line feed and the right sum", rawPack("tick 3\n")},
		{"two bytes of one rune and the right sum", rawPack("tick \u00e9")},
		{"bytes that are no rune", "\x06tick \xff\xca\x81"},
	} {
		cases = append(cases,
			readCase{c.why, c.data, false, nil},
			readCase{c.why + ", behind a line", packs("a b") + c.data, false, []string{"a b"}},
			readCase{c.why + ", ahead of a line", c.data + packs("a b"), true, nil},
			readCase{c.why + ", ahead of a line that is cut", c.data + packs("a b")[:5], false, nil},
			readCase{c.why + ", between two lines", packs("a", "c") + c.data + packs("b"), true, []string{"a", "c"}},
			readCase{c.why + ", twice", c.data + c.data, false, nil},
		)
	}
	askReadCases(t, cases)
}

// lineWithin is a line that has within it all that is packed of another one, ahead and behind as many letters as are told.
func lineWithin(t *testing.T, ahead, size, behind int) (string, string) {
	t.Helper()
	rnd := rand.New(rand.NewSource(132))
	for range 100000 {
		inner := make([]byte, size)
		for i := range inner {
			inner[i] = byte('a' + rnd.Intn(26))
		}
		packed := rawPack(string(inner))
		if slowLineFault(packed[size+1:]) == 0 {
			return strings.Repeat("z", ahead) + packed + strings.Repeat("z", behind), string(inner)
		}
	}
	t.Fatal("no line lies within another one")
	return "", ""
}

// A length of 32 to 40 is a byte that a line may have, so that a whole PackLine may lie within a line.
func TestReadLinesWithinLines(t *testing.T) {
	for _, c := range [][3]int{{0, 32, 0}, {0, 32, 5}, {5, 32, 0}, {1, 33, 2}, {0, 37, 0}} {
		outer, inner := lineWithin(t, c[0], c[1], c[2])
		whole := packs(outer)
		wrong := whole[:len(whole)-1] + string([]byte{whole[len(whole)-1] ^ 1})
		behind := whole[1+c[0]:]
		askReadCases(t, []readCase{
			{"a whole line with a line within", whole, false, []string{outer}},
			{"two such", whole + whole, false, []string{outer, outer}},
			{"a wrong sum around a line", wrong, true, nil},
			{"a wrong sum around a line, behind a line", packs("a") + wrong, true, []string{"a"}},
			{"cut behind the line within", whole[:len(whole)-2-c[2]], true, nil},
			{"cut within the line within", whole[:len(whole)-3-c[2]], false, nil},
			// What begins right at the first byte that is not taken is taken then.
			{"from the line within on", behind, false, []string{inner}},
			{"from the line within on, behind a line", packs("a") + behind, false, []string{"a", inner}},
			{"from the line within on, behind a byte", "z" + behind, true, nil},
		})
	}
}

// Data of as many bytes as go.
func TestReadLinesOfMost(t *testing.T) {
	ones := slices.Repeat([]string{"a"}, 600)
	long := strings.Repeat("~", 40)
	longs := append(slices.Repeat([]string{long}, 55), long[:32])
	full := packs(longs...)
	if len(packs(ones...)) != 2400 || len(full) != 2400 {
		t.Fatal("not 2400 bytes")
	}
	askReadCases(t, []readCase{
		{"2400 bytes of short lines", packs(ones...), false, ones},
		{"2400 bytes of long lines", full, false, longs},
		{"2399 bytes of them", full[:2399], false, longs[:55]},
		{"2400 bytes, all 0", strings.Repeat("\x00", 2400), false, nil},
		{"2400 bytes, all 1", strings.Repeat("\x01", 2400), false, nil},
		{"2400 bytes, all 40", strings.Repeat("(", 2400), false, nil},
		{"2400 bytes, all 255", strings.Repeat("\xff", 2400), false, nil},
		{"2400 bytes, a line at the end", strings.Repeat("\x00", 2396) + packs("a"), true, nil},
		{"2400 bytes, a line at the end that is cut", strings.Repeat("\x00", 2397) + packs("a")[:3], false, nil},
		{"2400 bytes, a long line at the end", strings.Repeat("(", 2357) + packs(long), true, nil},
		{"2400 bytes, the first one away", full[1:] + "\x00", true, nil},
	})
	for why, data := range map[string]string{
		"2401 bytes of lines":              packs(append(ones[:599:599], "ab")...),
		"2401 bytes, all 0":                strings.Repeat("\x00", 2401),
		"2401 bytes, one behind the lines": full + "\x00",
		"2401 bytes, one ahead":            "\x00" + full,
		"2403 bytes":                       full[:2365] + packs(long),
		"4800 bytes":                       full + full,
		"100000 bytes":                     strings.Repeat("a", 100000),
	} {
		if got := askRead(t, why, data); got.Code != impl.ErrMany || got.Broken || len(got.Lines) != 0 {
			t.Errorf("%s: ReadLines = %v", why, got)
		}
	}
}

// All that is one byte away from three lines: another byte, one less and one more, and all that is cut.
func TestReadLinesOneByteAway(t *testing.T) {
	count := map[string]int{}
	tell := func(data string, most int) {
		got := askRead(t, "one byte away", data)
		if got.Broken {
			count["broken"]++
		}
		if len(got.Lines) > most {
			t.Errorf("%q has the lines %q", data, got.Lines)
		}
		count[strconv.Itoa(len(got.Lines))]++
	}
	whole := packs("tick 3", "a", "drop 0 !")
	for at := range len(whole) {
		tell(whole[:at], 2)
		tell(whole[at:], 3)
		tell(whole[:at]+whole[at+1:], 2)
		for b := range 256 {
			tell(whole[:at]+string([]byte{byte(b)})+whole[at+1:], 3)
			tell(whole[:at]+string([]byte{byte(b)})+whole[at:], 3)
		}
	}
	askCounts(t, count, 50, "broken", "0", "1", "2")
}

// All data of a few bytes, of some bytes that matter.
func TestReadLinesOfFewBytes(t *testing.T) {
	if packs("a") != "\x01a\xf7\x75" {
		t.Fatalf("%q", packs("a"))
	}
	count := map[string]int{}
	joinedTexts([]string{"\x00", "\x01", "\x02", "a", "\xf7", "\x75"}, 5, func(data string) {
		got := askRead(t, "few bytes", data)
		if got.Broken {
			count["broken"]++
		}
		count[strconv.Itoa(len(got.Lines))]++
	})
	// The line alone or with one of six bytes behind it, and with one of them ahead of it.
	if count["1"] != 7 || count["broken"] != 6 {
		t.Errorf("%v", count)
	}
}

// someData is lines, or lines that are spoilt.
func someData(rnd *rand.Rand, count map[string]int) string {
	data := packs(someLines(rnd, []int{3, 20, 60}[rnd.Intn(3)])...)
	data = data[:min(len(data), 2300)]
	for range rnd.Intn(4) {
		at := rnd.Intn(len(data) + 1)
		switch rnd.Intn(5) {
		case 0:
			data = data[:at]
			count["cut"]++
		case 1:
			data = data[:at] + string([]byte{byte(rnd.Intn(256))}) + data[min(at+1, len(data)):]
			count["other"]++
		case 2:
			data = data[:at] + someLine(rnd) + data[at:]
			count["more"]++
		case 3:
			data = data[:at] + data[min(at+rnd.Intn(50), len(data)):]
			count["less"]++
		case 4:
			data = data[at:]
			count["behind"]++
		}
	}
	return data
}

func TestReadLinesOfMuch(t *testing.T) {
	rnd := rand.New(rand.NewSource(133))
	count := map[string]int{}
	for range 3000 {
		data := someData(rnd, count)
		got := askRead(t, "much", data)
		switch {
		case got.Code != 0:
			count["code"]++
		case got.Broken:
			count["broken"]++
		case packs(got.Lines...) == data:
			count["whole"]++
		default:
			count["rest"]++
		}
	}
	askCounts(t, count, 100, "cut", "other", "more", "less", "behind", "broken", "whole", "rest")
}

func journalOf(sure, loose string) impl.Journal {
	return impl.Journal{Sure: []byte(sure), Loose: []byte(loose)}
}

func cloneJournal(j impl.Journal) impl.Journal {
	return journalOf(string(j.Sure), string(j.Loose))
}

// sameJournals holds no list and an empty one alike.
func sameJournals(a, b impl.Journal) bool {
	return bytes.Equal(a.Sure, b.Sure) && bytes.Equal(a.Loose, b.Loose)
}

func sameJournalResults(a, b impl.JournalResult) bool {
	return a.Code == b.Code && a.Count == b.Count && sameJournals(a.Journal, b.Journal)
}

func tellJournal(got impl.JournalResult) string {
	if got.Code != 0 {
		if !reflect.DeepEqual(got, impl.JournalResult{Code: got.Code}) {
			return "a code and a journal"
		}
		return "code " + strconv.FormatInt(got.Code, 10)
	}
	return strconv.FormatInt(got.Count, 10) + ": " + strconv.Quote(string(got.Journal.Sure)) + " | " + strconv.Quote(string(got.Journal.Loose))
}

// journalCall is what is done to a journal: "append" of a line, "sync", or "crash" with so many bytes kept.
type journalCall struct {
	word string
	line string
	kept int64
}

func (x journalCall) ask(j impl.Journal) impl.JournalResult {
	switch x.word {
	case "append":
		return impl.AppendLine(j, x.line)
	case "sync":
		return impl.SyncJournal(j)
	case "crash":
		return impl.CrashJournal(j, x.kept)
	}
	panic(x.word)
}

func appendCall(line string) journalCall { return journalCall{"append", line, 0} }
func syncCall() journalCall              { return journalCall{"sync", "", 0} }
func crashCall(kept int64) journalCall   { return journalCall{"crash", "", kept} }

func slowJournalFault(j impl.Journal) int64 {
	if len(string(j.Sure)+string(j.Loose)) > 2400 {
		return impl.ErrMany
	}
	for _, part := range [][]byte{j.Sure, j.Loose} {
		if _, rest := slowLines(string(part)); rest != "" {
			return impl.ErrText
		}
	}
	return 0
}

func slowJournalCall(j impl.Journal, x journalCall) impl.JournalResult {
	if fault := slowJournalFault(j); fault != 0 {
		return impl.JournalResult{Code: fault}
	}
	sure, _ := slowLines(string(j.Sure))
	loose, _ := slowLines(string(j.Loose))
	switch x.word {
	case "append":
		if fault := slowLineFault(x.line); fault != 0 {
			return impl.JournalResult{Code: fault}
		}
		loose = append(loose, x.line)
		if len(packs(sure...))+len(packs(loose...)) > 2400 {
			return impl.JournalResult{Code: impl.ErrMany}
		}
	case "sync":
		sure, loose = append(sure, loose...), nil
	case "crash":
		if x.kept < 0 || x.kept > int64(len(j.Loose)) {
			return impl.JournalResult{Code: impl.ErrRange}
		}
		sure, _ = slowLines(string(j.Sure) + string(j.Loose)[:x.kept])
		loose = nil
	}
	return impl.JournalResult{Count: int64(len(sure) + len(loose)), Journal: journalOf(packs(sure...), packs(loose...))}
}

// askJournal asks a call, that the journal stays as it was, and promise 14 of the answer.
func askJournal(t *testing.T, j impl.Journal, x journalCall) impl.JournalResult {
	t.Helper()
	before := cloneJournal(j)
	got, want := x.ask(j), slowJournalCall(before, x)
	if !sameJournalResults(got, want) || got.Code != 0 && tellJournal(got) != tellJournal(want) {
		t.Errorf("%v of %q and %q: %s, want %s", x, j.Sure, j.Loose, tellJournal(got), tellJournal(want))
	}
	if !sameJournals(j, before) {
		t.Fatalf("%v changes the journal %q and %q to %q and %q", x, before.Sure, before.Loose, j.Sure, j.Loose)
	}
	if got.Code == 0 {
		askKept(t, j, x, got)
	}
	return got
}

// askKept asks of an answer without a code that it has no fault, and what promise 14 tells of its lines.
func askKept(t *testing.T, j impl.Journal, x journalCall, got impl.JournalResult) {
	t.Helper()
	if code := impl.JournalFault(got.Journal); code != 0 {
		t.Errorf("%v leads to a journal with the fault %d", x, code)
	}
	linesOf := func(parts ...[]byte) []string {
		read := impl.ReadLines(slices.Concat(parts...))
		if read.Code != 0 || read.Broken {
			t.Errorf("%v: a journal is read as %v", x, read)
		}
		return read.Lines
	}
	sure, all := linesOf(j.Sure), linesOf(j.Sure, j.Loose)
	now := linesOf(got.Journal.Sure, got.Journal.Loose)
	sureNow := linesOf(got.Journal.Sure)
	if got.Count != int64(len(now)) {
		t.Errorf("%v: the Count is %d of %d", x, got.Count, len(now))
	}
	switch x.word {
	case "append":
		if !slices.Equal(now, append(slices.Clone(all), x.line)) || !slices.Equal(sureNow, sure) {
			t.Errorf("%v: %q and of them %q sure, behind %q and %q", x, now, sureNow, all, sure)
		}
	case "sync":
		if !slices.Equal(now, all) || !slices.Equal(sureNow, all) {
			t.Errorf("%v: %q and of them %q sure, behind %q", x, now, sureNow, all)
		}
	case "crash":
		if len(now) < len(sure) || len(now) > len(all) || !slices.Equal(now, all[:len(now)]) || !slices.Equal(sureNow, now) {
			t.Errorf("%v: %q and of them %q sure, behind %q and %q", x, now, sureNow, all, sure)
		}
	}
}

// journalCase is what is done to a journal that is empty at first: each line has behind "=>" how many lines there are then, and how many of them are sure; or the code.
type journalCase struct {
	why   string
	lines []string
}

func readJournalCall(t *testing.T, told string) journalCall {
	t.Helper()
	word, rest, _ := strings.Cut(told, " ")
	switch word {
	case "append":
		return appendCall(rest)
	case "sync":
		return syncCall()
	case "crash":
		return crashCall(readNumbers(t, []string{rest})[0])
	}
	t.Fatalf("no call: %s", told)
	return journalCall{}
}

func askJournalCases(t *testing.T, cases []journalCase) {
	t.Helper()
	for _, c := range cases {
		j := impl.Journal{}
		for _, line := range c.lines {
			told, want, _ := strings.Cut(line, " => ")
			got := askJournal(t, j, readJournalCall(t, told))
			is := tellJournal(got)
			if got.Code == 0 {
				sure, _ := slowLines(string(got.Journal.Sure))
				is = strconv.FormatInt(got.Count, 10) + " " + strconv.Itoa(len(sure))
				j = got.Journal
			}
			if is != want {
				t.Errorf("%s: %s: %s, want %s", c.why, told, is, want)
			}
		}
	}
}

func TestJournals(t *testing.T) {
	askJournalCases(t, []journalCase{
		{"a journal of nothing", []string{
			"sync => 0 0",
			"crash 0 => 0 0",
			"crash 1 => code 3",
			"crash -1 => code 3",
			"append  => code 2",
		}},
		{"lines, synced, and more", []string{
			"append tick 3 => 1 0",
			"append start 0 1 => 2 0",
			"sync => 2 2",
			"append drop 0 => 3 2",
			"append drop 0 => 4 2",
			"sync => 4 4",
			"sync => 4 4",
		}},
		{"a crash with nothing sure and nothing kept", []string{
			"append tick 3 => 1 0",
			"append tick 4 => 2 0",
			"crash 0 => 0 0",
		}},
		{"a crash within the first line", []string{
			"append tick 3 => 1 0",
			"append tick 4 => 2 0",
			"crash 8 => 0 0",
			"append tick 5 => 1 0",
		}},
		{"a crash at the end of the first line", []string{
			"append tick 3 => 1 0",
			"append tick 4 => 2 0",
			"crash 9 => 1 1",
			"crash 0 => 1 1",
			"crash 1 => code 3",
			"append tick 5 => 2 1",
		}},
		{"a crash within the second line", []string{
			"append tick 3 => 1 0",
			"append tick 4 => 2 0",
			"crash 17 => 1 1",
		}},
		{"a crash with all kept", []string{
			"append tick 3 => 1 0",
			"append tick 4 => 2 0",
			"crash 19 => code 3",
			"crash 18 => 2 2",
		}},
		{"a crash with some of it sure", []string{
			"append tick 3 => 1 0",
			"sync => 1 1",
			"append tick 4 => 2 1",
			"append tick 5 => 3 1",
			"crash 9 => 2 2",
			"append tick 6 => 3 2",
			"crash 8 => 2 2",
			"append tick 7 => 3 2",
			"sync => 3 3",
			"crash 0 => 3 3",
		}},
		{"lines that are none", []string{
			"append tick 3 => 1 0",
			"append \x1f => code 5",
			"append " + strings.Repeat("a", 41) + " => code 2",
			"append " + strings.Repeat("a", 40) + " => 2 0",
			"sync => 2 2",
			"append \x7f => code 5",
		}},
	})
}

// A crash with each number of bytes kept, and those beyond the ends.
func TestCrashesAtEachByte(t *testing.T) {
	long := strings.Repeat("~", 40)
	for _, sure := range [][]string{nil, {"a"}, {"tick 3", "drop 0"}, {long}} {
		for _, loose := range [][]string{nil, {"b"}, {"b", "c"}, {"tick 4", "x", "start 0 1"}, {long, "b", long}} {
			j := journalOf(packs(sure...), packs(loose...))
			whole, end := 0, 0
			for kept := range len(j.Loose) + 1 {
				if whole < len(loose) && kept == end+len(loose[whole])+3 {
					end, whole = kept, whole+1
				}
				got := askJournal(t, j, crashCall(int64(kept)))
				want := impl.JournalResult{Count: int64(len(sure) + whole), Journal: journalOf(packs(slices.Concat(sure, loose[:whole])...), "")}
				if !sameJournalResults(got, want) {
					t.Errorf("%q and %q, %d kept: %s, want %s", sure, loose, kept, tellJournal(got), tellJournal(want))
				}
			}
			n := int64(len(j.Loose))
			for _, kept := range []int64{-1, -2, -n - 1, n + 1, n + 2, int64(len(j.Sure)) + n + 1, 2400, 2401, 1<<32 + n, 1 << 32, 1<<63 - 1, math.MinInt64, math.MinInt64 + n, -1 << 32} {
				if kept < 0 || kept > n {
					if got := askJournal(t, j, crashCall(kept)); tellJournal(got) != "code 3" {
						t.Errorf("%d kept of %d: %s", kept, n, tellJournal(got))
					}
				}
			}
		}
	}
}

// The bytes of a sum may be 0: a line lacks them all the same where they are not kept.
func TestCrashesAheadOfZeros(t *testing.T) {
	for _, is := range []func(sum int64) bool{
		func(sum int64) bool { return sum%256 == 0 },
		func(sum int64) bool { return sum/256 == 0 },
		func(sum int64) bool { return sum == 0 },
	} {
		line := lineOfSum(t, is)
		j := journalOf(packs("a"), packs(line, line))
		for kept, want := range []int64{6: 1, 7: 2, 12: 2, 13: 2, 14: 3} {
			if want == 0 {
				continue
			}
			if got := askJournal(t, j, crashCall(int64(kept))); got.Count != want {
				t.Errorf("%q, %d kept: %s", line, kept, tellJournal(got))
			}
		}
	}
}

func askJournalFault(t *testing.T, why string, j impl.Journal, want int64) {
	t.Helper()
	before := cloneJournal(j)
	if got := impl.JournalFault(j); got != want || slowJournalFault(j) != want {
		t.Errorf("%s: JournalFault = %d, the slow way %d, want %d", why, got, slowJournalFault(j), want)
	}
	if !sameJournals(j, before) {
		t.Errorf("%s: JournalFault changes the journal", why)
	}
	if want == 0 {
		return
	}
	n := int64(len(j.Loose))
	for _, x := range []journalCall{appendCall("tick 3"), appendCall(""), appendCall("\x1f"), appendCall(strings.Repeat("a", 41)), appendCall("\x00" + strings.Repeat("a", 41)), syncCall(), crashCall(0), crashCall(n), crashCall(-1), crashCall(n + 1), crashCall(math.MinInt64)} {
		if got := askJournal(t, j, x); !reflect.DeepEqual(got, impl.JournalResult{Code: want}) {
			t.Errorf("%s: %v: %s, want the code %d", why, x, tellJournal(got), want)
		}
	}
}

func TestJournalFaults(t *testing.T) {
	two := packs("tick 3", "drop 0")
	ones := strings.Repeat(packs("a"), 600)
	zeros := strings.Repeat("\x00", 2401)
	for _, c := range []struct {
		why, sure, loose string
		want             int64
	}{
		{"nothing", "", "", 0},
		{"lines that are sure", two, "", 0},
		{"lines that are loose", "", two, 0},
		{"both", two, packs("a"), 0},
		{"the same lines", two, two, 0},
		{"2400 bytes that are sure", ones, "", 0},
		{"2400 bytes that are loose", "", ones, 0},
		{"2400 bytes of both", ones[:1200], ones[1200:], 0},
		{"2400 bytes, the last line loose", ones[:2396], ones[:4], 0},
		{"2400 bytes, the first line sure", ones[:4], ones[:2396], 0},
		{"2401 bytes", ones[:2396], packs("ab"), impl.ErrMany},
		{"2401 bytes of lines that are sure", ones[:2396] + packs("ab"), "", impl.ErrMany},
		{"2401 bytes of lines that are loose", "", ones[:2396] + packs("ab"), impl.ErrMany},
		{"2404 bytes", ones, ones[:4], impl.ErrMany},
		{"2404 bytes the other way", ones[:4], ones, impl.ErrMany},
		{"2400 bytes each", ones, ones, impl.ErrMany},
		{"2401 bytes that are no lines, sure", zeros, "", impl.ErrMany},
		{"2401 bytes that are no lines, loose", "", zeros, impl.ErrMany},
		{"2401 bytes that are no lines, both", zeros[:1200], zeros[1200:], impl.ErrMany},
		{"2400 bytes that are no lines", zeros[:1200], zeros[1201:], impl.ErrText},
		{"2400 bytes of lines, and one behind", ones, "\x00", impl.ErrMany},
		{"one ahead of 2400 bytes of lines", "\x00", ones, impl.ErrMany},
		{"more than 2400, all of it sure", ones + ones, "", impl.ErrMany},
		{"2399 bytes, the last line cut", ones[:1200], ones[:1199], impl.ErrText},
		{"a byte behind the sure ones", two + "\x00", "", impl.ErrText},
		{"a byte behind the loose ones", "", two + "\x00", impl.ErrText},
		{"a byte behind the sure ones, and loose ones", two + "\x00", two, impl.ErrText},
		{"a byte behind the loose ones, and sure ones", two, two + "\x00", impl.ErrText},
		{"a byte behind both", two + "a", two + "a", impl.ErrText},
		{"a byte ahead of the sure ones", "\x00" + two, "", impl.ErrText},
		{"a byte ahead of the loose ones", "", "\x00" + two, impl.ErrText},
		{"a byte alone that is sure", "\x01", "", impl.ErrText},
		{"a byte alone that is loose", "", "\x01", impl.ErrText},
		{"the last sure line cut", two[:17], "", impl.ErrText},
		{"the last loose line cut", two, two[:17], impl.ErrText},
		{"a line that begins in Sure and ends in Loose", two[:12], two[12:], impl.ErrText},
		{"a line of which Loose has the last byte alone", two[:17], two[17:], impl.ErrText},
		{"a wrong sum that is sure", two[:17] + "\x00", two, impl.ErrText},
		{"a wrong sum that is loose", two, two[:17] + "\x00", impl.ErrText},
		{"a length of 0 and its sum", rawPack(""), two, impl.ErrText},
		{"a length of 41 and its sum", two, rawPack(strings.Repeat("a", 41)), impl.ErrText},
		{"a byte that is no line's, and its sum", two, rawPack("a\n"), impl.ErrText},
		{"a line behind what is broken", two + "\x00" + two, "", impl.ErrText},
	} {
		askJournalFault(t, c.why, journalOf(c.sure, c.loose), c.want)
	}
}

// No list and an empty one are the same.
func TestJournalsOfNothing(t *testing.T) {
	two := []byte(packs("tick 3", "drop 0"))
	for _, none := range [][]byte{nil, {}, two[:0], two[18:]} {
		for _, x := range []journalCall{appendCall("a"), syncCall(), crashCall(0)} {
			want := askJournal(t, impl.Journal{}, x)
			if got := askJournal(t, impl.Journal{Sure: none, Loose: none}, x); !sameJournalResults(got, want) {
				t.Errorf("%v: %s, want %s", x, tellJournal(got), tellJournal(want))
			}
			if got := askJournal(t, impl.Journal{Sure: two, Loose: none}, x); got.Code != 0 {
				t.Errorf("%v: %s", x, tellJournal(got))
			}
		}
		if got := impl.JournalFault(impl.Journal{Sure: none, Loose: none}); got != 0 {
			t.Errorf("JournalFault = %d", got)
		}
		if got := impl.ReadLines(none); got.Code != 0 || got.Broken || len(got.Lines) != 0 {
			t.Errorf("ReadLines = %v", got)
		}
	}
}

// Several faults at once: those of the journal are asked ahead of those of the line and of what is kept.
func TestJournalFaultsOfSeveral(t *testing.T) {
	ones := strings.Repeat(packs("a"), 600)
	many := spoilt[impl.Journal]{impl.ErrMany, func(j *impl.Journal) { j.Sure = []byte(ones + ones) }}
	manyLoose := spoilt[impl.Journal]{impl.ErrMany, func(j *impl.Journal) { j.Loose = []byte(ones + ones) }}
	behindSure := spoilt[impl.Journal]{impl.ErrText, func(j *impl.Journal) { j.Sure = slices.Concat(j.Sure, []byte("\x02")) }}
	behindLoose := spoilt[impl.Journal]{impl.ErrText, func(j *impl.Journal) { j.Loose = slices.Concat(j.Loose, []byte("\x02")) }}
	for _, faults := range [][]spoilt[impl.Journal]{{many, behindSure, behindLoose}, {manyLoose, behindSure, behindLoose}, {many, manyLoose, behindLoose}} {
		askSeveral(journalOf(packs("b"), packs("c", "d")), faults, func(j impl.Journal, want int64) { askJournalFault(t, "several faults", j, want) })
	}
	// A line with a fault, where there is no room either.
	full := journalOf(ones[:1200], ones[1200:])
	for line, want := range map[string]int64{"": impl.ErrMany, strings.Repeat("a", 41): impl.ErrMany, "\x1f": impl.ErrText, "a": impl.ErrMany, "\x1f" + strings.Repeat("a", 40): impl.ErrMany, strings.Repeat("\x7f", 40): impl.ErrText} {
		if got := askJournal(t, full, appendCall(line)); !reflect.DeepEqual(got, impl.JournalResult{Code: want}) {
			t.Errorf("AppendLine(%q) = %s, want the code %d", line, tellJournal(got), want)
		}
	}
}

// fillerOf is lines of so many bytes, packed; at least 4.
func fillerOf(size int) string {
	told := ""
	for size-len(told) > 46 {
		told += packs(strings.Repeat("f", 40))
	}
	left := size - len(told)
	if left > 43 {
		told += packs("f")
		left -= 4
	}
	return told + packs(strings.Repeat("f", left-3))
}

// A journal in which a line has just room, and such with a byte less and more.
func TestAppendLineWithRoom(t *testing.T) {
	for size := 1; size <= 40; size++ {
		line := strings.Repeat("k", size)
		for _, more := range []int{-2, -1, 0, 1, 2, 3} {
			filler := fillerOf(2400 - size - 3 + more)
			if len(filler) != 2397-size+more {
				t.Fatalf("%d bytes", len(filler))
			}
			lines, _ := slowLines(filler)
			middle := len(packs(lines[:20]...))
			want := int64(impl.ErrMany)
			if more <= 0 {
				want = 0
			}
			for _, at := range []int{0, middle, len(filler)} {
				got := askJournal(t, journalOf(filler[:at], filler[at:]), appendCall(line))
				if got.Code != want || want == 0 && got.Count != int64(len(lines)+1) {
					t.Errorf("%d bytes more, %d sure: %s, want the code %d", len(filler), at, tellJournal(got), want)
				}
			}
		}
	}
	// In one that is full even the shortest line has no room, but it may be synced, and crash.
	ones := strings.Repeat(packs("a"), 600)
	full := journalOf(ones[:8], ones[8:])
	for want, x := range map[string]journalCall{"code 2": appendCall("a"), "code 3": crashCall(2393)} {
		if got := askJournal(t, full, x); tellJournal(got) != want {
			t.Errorf("%v of a full one: %s", x, tellJournal(got))
		}
	}
	for want, x := range map[int64]journalCall{600: syncCall(), 2: crashCall(3), 3: crashCall(4), 599: crashCall(2391)} {
		if got := askJournal(t, full, x); got.Count != want || got.Code != 0 {
			t.Errorf("%v of a full one: %d, %d", x, got.Code, got.Count)
		}
	}
	if got := askJournal(t, full, crashCall(2392)); got.Count != 600 {
		t.Errorf("all kept of a full one: %d, %d", got.Code, got.Count)
	}
}

// A journal is filled from nothing, up to where nothing goes into it any more.
func TestJournalsAreFilled(t *testing.T) {
	for size := 1; size <= 40; size++ {
		line := strings.Repeat("w", size)
		j := impl.Journal{}
		for n := 1; n <= 2400/(size+3); n++ {
			got := impl.AppendLine(j, line)
			if got.Code != 0 || got.Count != int64(n) {
				t.Fatalf("the line %d of %d bytes: %s", n, size, tellJournal(got))
			}
			j = got.Journal
			if n%7 == 0 {
				j = impl.SyncJournal(j).Journal
			}
		}
		if got := impl.AppendLine(j, line); !reflect.DeepEqual(got, impl.JournalResult{Code: impl.ErrMany}) {
			t.Errorf("one line of %d bytes more: %s", size, tellJournal(got))
		}
		if got := string(j.Sure) + string(j.Loose); got != strings.Repeat(packs(line), 2400/(size+3)) {
			t.Errorf("lines of %d bytes: %q", size, got)
		}
	}
}

// pickJournalCall is mostly one that goes.
func pickJournalCall(rnd *rand.Rand, j impl.Journal) journalCall {
	switch rnd.Intn(12) {
	case 0, 1:
		return syncCall()
	case 2:
		return crashCall(int64(rnd.Intn(len(j.Loose) + 1)))
	case 3:
		return crashCall([]int64{-1, 0, int64(len(j.Loose)), int64(len(j.Loose)) + 1, wildNumber(rnd)}[rnd.Intn(5)])
	case 4:
		return appendCall([]string{"", strings.Repeat("a", 41), "\x1f", "\x7f", "tick\n", strings.Repeat("~", 40)}[rnd.Intn(6)])
	}
	return appendCall(someLine(rnd))
}

// Promise 14, of many journals: what stands in them is told by lines alone.
func TestJournalsKeepTheirLines(t *testing.T) {
	rnd := rand.New(rand.NewSource(134))
	count := map[string]int{}
	for i := range 400 {
		var sure, loose []string
		j := impl.Journal{}
		if i%4 == 0 {
			sure, loose = slices.Repeat([]string{"claim 1 0 2 and more"}, 80), []string{"tick 3"}
			j = journalOf(packs(sure...), packs(loose...))
		}
		for range 40 {
			x := pickJournalCall(rnd, j)
			got := askJournal(t, j, x)
			if got.Code != 0 {
				count[x.word+" code "+strconv.FormatInt(got.Code, 10)]++
				continue
			}
			switch x.word {
			case "append":
				loose = append(loose, x.line)
			case "sync":
				sure, loose = append(sure, loose...), nil
			case "crash":
				sure, loose = followCrash(sure, loose, x.kept, count)
			}
			count[x.word]++
			j = got.Journal
			if got.Count != int64(len(sure)+len(loose)) || string(j.Sure) != packs(sure...) || string(j.Loose) != packs(loose...) {
				t.Fatalf("%v: %s, want %q and %q", x, tellJournal(got), sure, loose)
			}
		}
	}
	askCounts(t, count, 50, "append", "sync", "crash", "append code 2", "append code 5", "crash code 3", "cut", "at an end", "nothing")
}

// followCrash answers what is sure behind a crash: the lines that end within what is kept.
func followCrash(sure, loose []string, kept int64, count map[string]int) ([]string, []string) {
	n := 0
	for n < len(loose) && int64(len(packs(loose[:n+1]...))) <= kept {
		n++
	}
	switch {
	case kept == 0:
		count["nothing"]++
	case int64(len(packs(loose[:n]...))) == kept:
		count["at an end"]++
	default:
		count["cut"]++
	}
	return append(sure, loose[:n]...), nil
}

// someJournal may have faults.
func someJournal(rnd *rand.Rand) impl.Journal {
	count := map[string]int{}
	pick := func() string {
		switch rnd.Intn(8) {
		case 0:
			return someData(rnd, count)
		case 1:
			return strings.Repeat(packs("a"), 300+rnd.Intn(5)*100)
		case 2:
			wild := make([]byte, rnd.Intn(60))
			rnd.Read(wild)
			return string(wild)
		case 3:
			return ""
		}
		return packs(someLines(rnd, 20)...)
	}
	return journalOf(pick(), pick())
}

func wildJournalCalls(rnd *rand.Rand, j impl.Journal) []journalCall {
	wild := make([]byte, rnd.Intn(50))
	rnd.Read(wild)
	calls := []journalCall{appendCall(string(wild)), appendCall(someLine(rnd)), syncCall()}
	for _, kept := range []int64{wildNumber(rnd), 0, -1, int64(len(j.Loose)), int64(len(j.Loose)) + 1, int64(rnd.Intn(len(j.Loose) + 1)), math.MinInt64, math.MaxInt64} {
		calls = append(calls, crashCall(kept))
	}
	return calls
}

// Promise 1: every function answers at every argument.
func TestJournalsAnswerAtEachArgument(t *testing.T) {
	rnd := rand.New(rand.NewSource(135))
	count := map[string]int{}
	for range 1500 {
		j := someJournal(rnd)
		fault := impl.JournalFault(j)
		if fault != slowJournalFault(j) {
			t.Errorf("JournalFault(%q, %q) = %d, want %d", j.Sure, j.Loose, fault, slowJournalFault(j))
		}
		count["fault "+strconv.FormatInt(fault, 10)]++
		for _, x := range wildJournalCalls(rnd, j) {
			got := askJournal(t, j, x)
			count[x.word+" "+strconv.FormatInt(got.Code, 10)]++
			if x.word == "append" {
				packed := impl.PackLine(x.line)
				if packed.Code != slowLineFault(x.line) || impl.LineFault(x.line) != packed.Code || packed.Code == 0 && string(packed.Bytes) != rawPack(x.line) || packed.Code != 0 && len(packed.Bytes) != 0 {
					t.Errorf("PackLine(%q) = %v", x.line, packed)
				}
			}
		}
		askRead(t, "some journal", string(j.Sure))
		askRead(t, "some journal", string(j.Sure)+string(j.Loose))
	}
	askCounts(t, count, 50, "fault 0", "fault 2", "fault 5", "append 0", "append 2", "append 5", "sync 0", "sync 2", "sync 5", "crash 0", "crash 2", "crash 3", "crash 5")
}

// roomyBytes is told with room behind it, all of it 77.
func roomyBytes(told string) []byte {
	room := bytes.Repeat([]byte{77}, len(told)+200)
	copy(room, told)
	return room[:len(told)]
}

func askRoomBehindBytes(t *testing.T, why string, data []byte) {
	t.Helper()
	for _, b := range data[len(data):cap(data)] {
		if b != 77 {
			t.Fatalf("%s: the room behind %q is written to", why, data)
		}
	}
}

func fillBytes(data []byte, with byte) {
	for i := range data[:cap(data)] {
		data[:cap(data)][i] = with
	}
}

// Promise 1: what is packed is new memory, and so is what is read.
func TestPacksAndLinesAreNewMemory(t *testing.T) {
	line := strings.Clone("start 0 1")
	first, second := impl.PackLine(line), impl.PackLine(line)
	fillBytes(first.Bytes, 6)
	if string(second.Bytes) != packs("start 0 1") || line != "start 0 1" || string(impl.PackLine(line).Bytes) != packs("start 0 1") {
		t.Error("two packs share memory")
	}
	for _, told := range []string{packs("tick 3", "drop 0"), packs("tick 3") + "rest", packs("tick 3") + "\x00" + packs("drop 0"), "", "rest", strings.Repeat("\x00", 2401)} {
		data := roomyBytes(told)
		want := slowRead(told)
		one, two := impl.ReadLines(data), impl.ReadLines(data)
		askRoomBehindBytes(t, "ReadLines", data)
		for i := range one.Lines {
			for _, other := range two.Lines {
				if sharesBytes(one.Lines[i], other) {
					t.Errorf("two answers share the line %q", other)
				}
			}
			one.Lines[i] = "another"
		}
		if string(data) != told {
			t.Fatal("the data are changed")
		}
		fillBytes(data, 6)
		if !sameLines(two, want) {
			t.Errorf("%v shares memory with the data, want %v", two, want)
		}
	}
}

// Promise 1: a journal is new memory, its two lists share none, and neither an argument nor the room behind it is written to.
func TestJournalsAreNewMemory(t *testing.T) {
	sure, loose := packs("tick 3", "start 0 1"), packs("drop 0", "a", "claim 1 0 2")
	for why, x := range map[string]journalCall{
		"AppendLine":                   appendCall("tick 4"),
		"AppendLine with a fault":      appendCall(""),
		"SyncJournal":                  syncCall(),
		"CrashJournal, nothing kept":   crashCall(0),
		"CrashJournal, one line kept":  crashCall(9),
		"CrashJournal, a byte less":    crashCall(8),
		"CrashJournal, all kept":       crashCall(int64(len(loose))),
		"CrashJournal with a fault":    crashCall(-1),
		"CrashJournal, all but a byte": crashCall(int64(len(loose)) - 1),
	} {
		for _, parts := range [][2]string{{sure, loose}, {sure + loose, loose}, {loose, loose}} {
			j := impl.Journal{Sure: roomyBytes(parts[0]), Loose: roomyBytes(parts[1])}
			before := cloneJournal(j)
			first, second := x.ask(j), x.ask(j)
			want := slowJournalCall(before, x)
			askRoomBehindBytes(t, why, j.Sure)
			askRoomBehindBytes(t, why, j.Loose)
			fillBytes(first.Journal.Sure, 6)
			fillBytes(first.Journal.Loose, 7)
			if slices.Contains(first.Journal.Sure, 7) {
				t.Errorf("%s: two lists of one answer share memory", why)
			}
			if !sameJournalResults(second, want) {
				t.Errorf("%s: two answers share memory", why)
			}
			askRoomBehindBytes(t, why, j.Sure)
			askRoomBehindBytes(t, why, j.Loose)
			if !sameJournals(j, before) {
				t.Fatalf("%s: the journal was written to", why)
			}
			fillBytes(j.Sure, 8)
			fillBytes(j.Loose, 9)
			if !sameJournalResults(second, want) {
				t.Errorf("%s: an answer shares memory with the journal", why)
			}
		}
	}
}

// Loose may lie in the room behind Sure, and both may be the same memory.
func TestJournalsOfOneMemory(t *testing.T) {
	whole := packs("tick 3", "start 0 1", "drop 0", "a")
	for _, cut := range []int{0, 9, 21, 30, len(whole)} {
		for _, x := range []journalCall{appendCall("another one"), appendCall("b"), syncCall(), crashCall(0), crashCall(int64(len(whole) - cut)), crashCall(3)} {
			data := roomyBytes(whole)
			askJournal(t, impl.Journal{Sure: data[:cut], Loose: data[cut:]}, x)
			askJournal(t, impl.Journal{Sure: data[cut:], Loose: data[:cut]}, x)
			askJournal(t, impl.Journal{Sure: data, Loose: data}, x)
			askJournal(t, impl.Journal{Sure: data[:cut], Loose: data[:cut]}, x)
			askJournal(t, impl.Journal{Sure: data[:cut], Loose: data}, x)
			if string(data) != whole {
				t.Fatalf("%v writes to the memory of the journal: %q", x, data)
			}
			askRoomBehindBytes(t, x.word, data)
		}
	}
}

// What a crash took is not to be found in the memory behind what stays.
func TestCrashesLeaveNothingBehind(t *testing.T) {
	j := journalOf(packs("tick 3"), packs("drop 0", "claim 1 0 2"))
	for kept := range len(j.Loose) + 1 {
		got := impl.CrashJournal(j, int64(kept)).Journal
		for _, list := range [][]byte{got.Sure, got.Loose} {
			for _, b := range list[len(list):cap(list)] {
				if b != 0 {
					t.Errorf("%d kept: behind %q stands %q", kept, list, list[len(list):cap(list)])
				}
			}
		}
	}
}

// askAllOfJournal is all that is answered of one journal.
func askAllOfJournal(j impl.Journal, calls []journalCall) []string {
	told := []string{strconv.FormatInt(impl.JournalFault(j), 10)}
	for _, x := range calls {
		told = append(told, tellJournal(x.ask(j)))
		if x.word == "append" {
			told = append(told, strconv.FormatInt(impl.LineFault(x.line), 10), string(impl.PackLine(x.line).Bytes))
		}
	}
	for _, data := range [][]byte{j.Sure, j.Loose} {
		read := impl.ReadLines(data)
		told = append(told, strconv.FormatInt(read.Code, 10)+strconv.FormatBool(read.Broken)+strconv.Quote(strings.Join(read.Lines, "\n")))
	}
	return told
}

// Promise 1: an answer hangs on the arguments alone, not on what was asked ahead of it, on an address or on a capacity.
func TestJournalsHangOnArgumentsAlone(t *testing.T) {
	rnd := rand.New(rand.NewSource(136))
	type given struct {
		j     impl.Journal
		calls []journalCall
	}
	var all []given
	var first [][]string
	for range 300 {
		j := someJournal(rnd)
		x := given{j, wildJournalCalls(rnd, j)}
		all = append(all, x)
		first = append(first, askAllOfJournal(x.j, x.calls))
	}
	for i := len(all) - 1; i >= 0; i-- {
		x := all[i]
		for range 2 {
			other := impl.Journal{Sure: roomyBytes(string(x.j.Sure)), Loose: roomyBytes(string(x.j.Loose))}
			if got := askAllOfJournal(other, x.calls); !slices.Equal(got, first[i]) {
				t.Errorf("%q, and ahead of that %q", got, first[i])
			}
		}
		// Memory that lines end at the end of, and nothing behind it.
		tight := impl.Journal{Sure: slices.Clip(bytes.Clone(x.j.Sure)), Loose: slices.Clip(bytes.Clone(x.j.Loose))}
		if got := askAllOfJournal(tight, x.calls); !slices.Equal(got, first[i]) {
			t.Errorf("%q, and ahead of that %q", got, first[i])
		}
	}
}

// A line is a text of its own: it does not change with the bytes that it was read from.
func TestLinesStayAsTheyWere(t *testing.T) {
	data := []byte(packs("tick 3", "drop 0"))
	got := impl.ReadLines(data)
	for _, line := range got.Lines {
		at := uintptr(unsafe.Pointer(unsafe.StringData(line)))
		from := uintptr(unsafe.Pointer(&data[0]))
		if at >= from && at < from+uintptr(len(data)) {
			t.Errorf("%q lies within the data", line)
		}
	}
	clear(data)
	if !slices.Equal(got.Lines, []string{"tick 3", "drop 0"}) {
		t.Errorf("%q", got.Lines)
	}
}
