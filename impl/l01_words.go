package impl

import (
	"strconv"
	"strings"
)

const (
	MaxText   = 20000
	MaxNumber = 1000000000
	MaxWords  = 600
	MaxParts  = 10
)

const hexFigures = "0123456789abcdef"

func VarText(n int) (string, bool) {
	if n < 0 || n > MaxNumber {
		return "", false
	}
	var out []byte
	for n > 127 {
		out = append(out, byte(n%128+128))
		n /= 128
	}
	return string(append(out, byte(n))), true
}

func ReadVar(text string, at int) (int, int, bool) {
	if at < 0 || at > len(text) {
		return 0, 0, false
	}
	n, worth := 0, 1
	// A byte worth more than MaxNumber belongs to no VarText, and stopping there keeps n from going round.
	for i := at; i < len(text) && worth <= MaxNumber; i++ {
		c := int(text[i])
		n += c % 128 * worth
		worth *= 128
		if c < 128 {
			return varIfExact(n, text, at, i+1)
		}
	}
	return 0, 0, false
}

// varIfExact writes n again, because a longer form gives the same number but isn't its VarText.
func varIfExact(n int, text string, from int, to int) (int, int, bool) {
	if form, ok := VarText(n); !ok || form != text[from:to] {
		return 0, 0, false
	}
	return n, to, true
}

func ShortText(s string) (string, bool) {
	if len(s) > MaxText {
		return "", false
	}
	head, ok := VarText(len(s))
	return head + s, ok
}

func ReadShort(text string, at int) (string, int, bool) {
	size, from, ok := ReadVar(text, at)
	if !ok || size > MaxText || size > len(text)-from {
		return "", 0, false
	}
	// A piece of text would share its memory with the answer.
	return strings.Clone(text[from : from+size]), from + size, true
}

func Hex(text string) (string, bool) {
	if len(text) > MaxText {
		return "", false
	}
	out := make([]byte, 0, 2*len(text))
	for i := 0; i < len(text); i++ {
		out = append(out, hexFigures[text[i]/16], hexFigures[text[i]%16])
	}
	return string(out), true
}

func Unhex(text string) (string, bool) {
	if len(text)%2 != 0 || len(text) > 2*MaxText {
		return "", false
	}
	out := make([]byte, 0, len(text)/2)
pairs:
	for at := 0; at < len(text); at += 2 {
		both := 0
		for i := at; i < at+2; i++ {
			half := strings.IndexByte(hexFigures, text[i])
			if half < 0 {
				break pairs
			}
			both = both*16 + half
		}
		out = append(out, byte(both))
	}
	if 2*len(out) != len(text) {
		return "", false
	}
	return string(out), true
}

func Decimal(n int) string {
	return strconv.Itoa(n)
}

func ReadDecimal(text string) (int, bool) {
	n := 0
figures:
	for i := 0; i < len(text); i++ {
		switch c := text[i]; {
		case c < '0', c > '9', n > MaxNumber:
			break figures
		default:
			n = n*10 + int(c-'0')
		}
	}
	// Writing n again tells needless noughts, and figures at which the loop was left, from its Decimal.
	if n > MaxNumber || Decimal(n) != text {
		return 0, false
	}
	return n, true
}

func PartsOf(line string) ([]string, bool) {
	if len(line) > MaxWords || !isPlain(line) {
		return nil, false
	}
	var parts []string
	for at := skipBlanks(line, 0); at < len(line); {
		if len(parts) == MaxParts {
			return nil, false
		}
		end := endOfPart(line, at)
		// A piece of line would share its memory with the answer.
		parts = append(parts, strings.Clone(line[at:end]))
		at = skipBlanks(line, end)
	}
	return parts, true
}

func isPlain(line string) bool {
	for i := 0; i < len(line); i++ {
		if line[i] < 32 || line[i] > 126 {
			return false
		}
	}
	return true
}

func skipBlanks(line string, at int) int {
	for at < len(line) && line[at] == ' ' {
		at++
	}
	return at
}

func endOfPart(line string, at int) int {
	for at < len(line) && line[at] != ' ' {
		at++
	}
	return at
}
