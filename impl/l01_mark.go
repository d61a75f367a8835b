package impl

import (
	"iter"
	"strings"
)

const OK = 0
const ErrForm = 1
const ErrMany = 2
const ErrRange = 3
const ErrNone = 4
const ErrText = 5
const ErrTaken = 6
const ErrType = 7
const ErrValue = 8
const ErrState = 9
const ErrUser = 10
const MaxText = 1500
const MaxName = 8

type IntResult struct {
	Code  int64
	Value int64
}
type IntsResult struct {
	Code int64
	List []int64
}
type TextResult struct {
	Code int64
	Text string
}
type TextsResult struct {
	Code  int64
	Texts []string
}

const maxValue = 40
const maxEscaped = 400
const maxByteDigits = 3
const commentBegin = "<!--"
const commentEnd = "-->"

type entity struct {
	text    string
	stands  byte
	written bool
}

// A row that is not written is only read: a value may hold that byte as it is.
var entities = [...]entity{
	{"&lt;", '<', true},
	{"&gt;", '>', true},
	{"&amp;", '&', true},
	{"&quot;", '"', true},
	{"&apos;", '\'', false},
}

func NameFault(name string) int64 {
	if name == "" {
		return ErrText
	}
	for i := range len(name) {
		if name[i] < 'a' || name[i] > 'z' {
			return ErrText
		}
	}
	if len(name) > MaxName {
		return ErrMany
	}
	return OK
}

func EscapeText(text string) TextResult {
	if len(text) > maxValue {
		return TextResult{Code: ErrMany}
	}
	var out strings.Builder
	for i := range len(text) {
		if !isValueByte(text[i]) {
			return TextResult{Code: ErrText}
		}
		writeEscaped(&out, text[i])
	}
	return TextResult{Text: out.String()}
}

func isValueByte(b byte) bool {
	return b >= 32 && b <= 126
}

func writeEscaped(out *strings.Builder, b byte) {
	for _, e := range entities {
		if e.written && e.stands == b {
			out.WriteString(e.text)
			return
		}
	}
	out.WriteByte(b)
}

func UnescapeText(text string) TextResult {
	if len(text) > maxEscaped {
		return TextResult{Code: ErrMany}
	}
	var out strings.Builder
	for rest := text; rest != ""; {
		b, size := readByte(rest)
		if size == 0 || !isValueByte(b) {
			return TextResult{Code: ErrText}
		}
		out.WriteByte(b)
		rest = rest[size:]
	}
	if out.Len() > maxValue {
		return TextResult{Code: ErrMany}
	}
	return TextResult{Text: out.String()}
}

// readByte answers the byte that the beginning of text stands for, and how
// many bytes of text tell it: 0 where they tell none. Text is not empty.
func readByte(text string) (byte, int) {
	switch text[0] {
	case '<', '>', '"':
		return 0, 0
	case '&':
		if strings.HasPrefix(text, "&#") {
			return readNumbered(text)
		}
		return readNamed(text)
	}
	return text[0], 1
}

func readNamed(text string) (byte, int) {
	for _, e := range entities {
		if strings.HasPrefix(text, e.text) {
			return e.stands, len(e.text)
		}
	}
	return 0, 0
}

func readNumbered(text string) (byte, int) {
	end := strings.IndexByte(text, ';')
	if end < 0 {
		return 0, 0
	}
	number, ok := readNumber(text[len("&#"):end], maxByteDigits)
	// Asked here, for a byte would wrap a greater number round into its bounds.
	if !ok || number > 126 {
		return 0, 0
	}
	return byte(number), end + 1
}

// readNumber reads 1 to most digits. A 0 ahead of others is refused: each
// number has one way alone to be written (the document's general rule 9).
func readNumber(digits string, most int) (int64, bool) {
	if digits == "" || len(digits) > most {
		return 0, false
	}
	if digits[0] == '0' && len(digits) > 1 {
		return 0, false
	}
	number := int64(0)
	for i := range len(digits) {
		if digits[i] < '0' || digits[i] > '9' {
			return 0, false
		}
		number = number*10 + int64(digits[i]-'0')
	}
	return number, true
}

func CutMarks(text string) TextsResult {
	if len(text) > MaxText {
		return TextsResult{Code: ErrMany}
	}
	var pieces []string
	for piece, whole := range piecesOf(text) {
		if !whole {
			return TextsResult{Code: ErrText}
		}
		pieces = append(pieces, strings.Clone(piece))
	}
	return TextsResult{Texts: pieces}
}

// piecesOf tells marks and what stands between them, in order; the first
// piece that is not whole is the last one told.
func piecesOf(text string) iter.Seq2[string, bool] {
	return func(yield func(string, bool) bool) {
		for rest := text; rest != ""; {
			size := pieceSize(rest)
			if size == 0 {
				yield(rest, false)
				return
			}
			if !yield(rest[:size], true) {
				return
			}
			rest = rest[size:]
		}
	}
}

// pieceSize answers how many bytes the first piece of text has, 0 where it is
// not whole. Text is not empty.
func pieceSize(text string) int {
	if text[0] == '<' {
		return markSize(text)
	}
	end := strings.IndexAny(text, "<>")
	if end < 0 {
		return len(text)
	}
	if text[end] == '>' {
		return 0
	}
	return end
}

// markSize answers how many bytes the mark has that text begins with, 0 where
// it has no end.
func markSize(text string) int {
	at := 0
	if strings.HasPrefix(text, commentBegin) {
		// The end lies behind the whole beginning: the two share no dash.
		at = len(commentBegin)
		goto comment
	}
mark:
	if at == len(text) {
		return 0
	}
	at++
	if text[at-1] == '>' {
		return at
	}
	goto mark
comment:
	if at == len(text) {
		return 0
	}
	if strings.HasPrefix(text[at:], commentEnd) {
		return at + len(commentEnd)
	}
	at++
	goto comment
}

func IsSpace(text string) bool {
	for i := range len(text) {
		if text[i] != ' ' && text[i] != '\n' {
			return false
		}
	}
	return true
}
