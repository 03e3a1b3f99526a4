package impl

import (
	"iter"
	"slices"
	"strconv"
	"strings"
)

const MaxText = 8000

const (
	maxDecDigits = 9
	maxHexDigits = 12
	maxNumBytes  = 6
)

const digitTexts = "0123456789abcdef"

func DecText(n int) string {
	return strconv.Itoa(n)
}

func ReadDec(s string) int {
	if len(s) > maxDecDigits || hasLeadingZero(s) {
		return -1
	}
	return readDigits(s, 10)
}

func HexText(n int, digits int) string {
	if n < 0 || digits < 1 || digits > maxHexDigits {
		return ""
	}
	text := make([]byte, digits)
	for i := range text {
		shift := 4 * (digits - 1 - i)
		text[i] = digitTexts[n>>shift&15]
	}
	return string(text)
}

func ReadHex(s string) int {
	if len(s) > maxHexDigits {
		return -1
	}
	return readDigits(s, 16)
}

func PutNum(n int, many int) string {
	if many < 1 || many > maxNumBytes {
		return ""
	}
	text := make([]byte, many)
	for i := range text {
		shift := 8 * (many - 1 - i)
		text[i] = byte(n >> shift)
	}
	return string(text)
}

func GetNum(s string, i int, many int) int {
	if many < 1 || many > maxNumBytes {
		return -1
	}
	// i is compared with a difference because i+many may overflow.
	if i < 0 || i > len(s)-many {
		return -1
	}
	n := 0
	for k := range many {
		n = n<<8 | int(s[i+k])
	}
	return n
}

func Lines(s string) []string {
	lines := slices.Collect(parts(s, isNewline))
	last := len(lines) - 1
	if lines[last] == "" {
		return lines[:last]
	}
	return lines
}

func Words(s string) []string {
	var words []string
	for part := range parts(s, isBlank) {
		if part != "" {
			words = append(words, part)
		}
	}
	return words
}

func hasLeadingZero(s string) bool {
	return len(s) > 1 && s[0] == '0'
}

// The callers limit the length of s, so that no number overflows.
func readDigits(s string, base int) int {
	if s == "" {
		return -1
	}
	n := 0
	for _, c := range s {
		digit := strings.IndexRune(digitTexts[:base], c)
		if digit < 0 {
			return -1
		}
		n = n*base + digit
	}
	return n
}

// Empty parts are included, so that there is always at least one. The separators
// must be ASCII: their bytes occur in no longer rune, which makes the range over
// runes right for all strings, valid UTF-8 or not.
func parts(s string, separates func(c rune) bool) iter.Seq[string] {
	return func(yield func(part string) bool) {
		start := 0
		for i, c := range s {
			if !separates(c) {
				continue
			}
			if !yield(s[start:i]) {
				return
			}
			start = i + 1
		}
		yield(s[start:])
	}
}

func isNewline(c rune) bool {
	return c == '\n'
}

func isBlank(c rune) bool {
	return c == ' ' || c == '\t'
}
