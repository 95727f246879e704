package syntax

import (
	"strconv"
	"strings"

	"tillage/api"
)

// Kinds of pieces.
const (
	word   = 1
	number = 2
	text   = 3
	sign   = 4
)

// piece of a source: n of a number, s of all others (of a text what it tells).
type piece struct {
	kind int
	s    string
	n    int
}

func cut(s string) []piece {
	var l []piece
	for s = skipBlanks(s); s != ""; s = skipBlanks(s) {
		p, size := firstPiece(s)
		l, s = append(l, p), s[size:]
	}
	return l
}

func skipBlanks(s string) string { return strings.TrimLeft(s, " \t\n") }

// firstPiece: what a source begins with, and how many bytes of it that is.
func firstPiece(s string) (piece, int) {
	if size := leading(s, isLetter); size > 0 {
		// A copy: names outlive the source, that is not to be kept for them.
		return piece{kind: word, s: strings.Clone(s[:size])}, size
	}
	if size := leading(s, isDigit); size > 0 {
		return piece{kind: number, n: numberOf(s[:size])}, size
	}
	if s[0] == '"' {
		return firstText(s)
	}
	for _, t := range signs {
		if strings.HasPrefix(s, t) {
			return piece{kind: sign, s: t}, len(t)
		}
	}
	panic(api.ErrForm)
}

func leading(s string, is func(byte) bool) int {
	n := 0
	for n < len(s) && is(s[n]) {
		n++
	}
	return n
}

func isLetter(c byte) bool { return 'a' <= c && c <= 'z' || 'A' <= c && c <= 'Z' }

func isDigit(c byte) bool { return '0' <= c && c <= '9' }

func numberOf(digits string) int {
	refuse(len(digits) > 1 && digits[0] == '0', api.ErrForm)
	n, err := strconv.Atoi(digits)
	refuse(err != nil || n > api.MaxNumber, api.ErrRange)
	return n
}

// firstText: of a source that begins with a quote.
func firstText(s string) (piece, int) {
	var b strings.Builder
	for i := 1; i < len(s); i++ {
		switch s[i] {
		case '"':
			return piece{kind: text, s: b.String()}, i + 1
		case '\n':
			panic(api.ErrForm)
		case '\\':
			if i++; i < len(s) {
				b.WriteByte(escaped(s[i]))
			}
		default:
			b.WriteByte(s[i])
		}
	}
	panic(api.ErrShort)
}

func escaped(c byte) byte {
	switch c {
	case '"', '\\':
		return c
	case 'n':
		return '\n'
	}
	panic(api.ErrForm)
}
