package tests

import (
	"math"
	"slices"
	"strconv"
	"strings"
	"testing"

	"loop.example/g00687/impl"
)

// Numbers at and around the limits of the functions and of int itself.
var edgeNumbers = []int{
	math.MinInt, math.MinInt + 1, -1 << 48, -999999999, -256, -2, -1, 0, 1, 2, 9, 10, 15, 16, 99, 100, 127, 128, 255, 256,
	4095, 4096, 65535, 65536, 999999998, 999999999, 1000000000, 4294967295, 4294967296,
	1<<48 - 1, 1 << 48, 1<<48 + 1, math.MaxInt - 1, math.MaxInt,
}

// Strings that are neither numbers nor empty, with broken UTF-8 among them.
var oddTexts = []string{
	" ", "\t", "\n", "\x00", "-", "+", ".", "_", "\xff", "\xc3", "\xe2\x80", "é", "１", "٣", "�",
}

func TestDecText(t *testing.T) {
	for _, n := range edgeNumbers {
		if got, want := impl.DecText(n), strconv.Itoa(n); got != want {
			t.Errorf("DecText(%d) = %q, want %q", n, got, want)
		}
	}
	fixed := map[int]string{
		0: "0", 7: "7", 10: "10", 120: "120", -1: "-1", -120: "-120", 999999999: "999999999",
		math.MaxInt: "9223372036854775807", math.MinInt: "-9223372036854775808",
	}
	for n, want := range fixed {
		if got := impl.DecText(n); got != want {
			t.Errorf("DecText(%d) = %q, want %q", n, got, want)
		}
	}
}

func TestReadDecOfDecText(t *testing.T) {
	check := func(n int) {
		want := n
		if n < 0 || n > 999999999 {
			want = -1
		}
		if got := impl.ReadDec(impl.DecText(n)); got != want {
			t.Errorf("ReadDec(DecText(%d)) = %d, want %d", n, got, want)
		}
	}
	for n := -20; n <= 12000; n++ {
		check(n)
	}
	for n := 12000; n < 2000000000; n = n*9/8 + 1 {
		check(n)
	}
	for _, n := range edgeNumbers {
		check(n)
	}
}

func TestReadDecRefuses(t *testing.T) {
	texts := []string{
		"", "00", "01", "012", "000", "-0", "-1", "-120", "+1", "+0", " 1", "1 ", "\t1", "1\t", "1\n", "1 2", "1.0", "1e3", "0x1", "1_0",
		"a", "1a", "a1", "f", "1000000000", "0999999999", "0000000001", "9999999999", "99999999999", "18446744073709551617",
		"18446744073709551616", "1\x00", "\x001", "1\xff", "\xff1", "１", "1é", "9223372036854775807", strings.Repeat("9", 5000), strings.Repeat("0", 5000),
	}
	for _, s := range slices.Concat(texts, oddTexts) {
		if got := impl.ReadDec(s); got != -1 {
			t.Errorf("ReadDec(%q) = %d, want -1", s, got)
		}
	}
}

func TestReadDecOfEveryByte(t *testing.T) {
	for c := range 256 {
		want := -1
		if c >= '0' && c <= '9' {
			want = c - '0'
		}
		if got := impl.ReadDec(string([]byte{byte(c)})); got != want {
			t.Errorf("ReadDec of byte %d = %d, want %d", c, got, want)
		}
		if want >= 0 {
			want += 50
		}
		if got := impl.ReadDec(string([]byte{'5', byte(c)})); got != want {
			t.Errorf("ReadDec of '5' and byte %d = %d, want %d", c, got, want)
		}
	}
}

func TestHexText(t *testing.T) {
	cases := []struct {
		n, digits int
		want      string
	}{
		{0, 1, "0"}, {0, 12, "000000000000"}, {4779, 4, "12ab"}, {4779, 6, "0012ab"}, {4779, 3, "2ab"}, {4779, 1, "b"},
		{255, 1, "f"}, {255, 2, "ff"}, {256, 2, "00"}, {10, 1, "a"}, {9, 1, "9"}, {0xcdef, 4, "cdef"},
		{1<<48 - 1, 12, "ffffffffffff"}, {1 << 48, 12, "000000000000"}, {1<<48 + 1, 12, "000000000001"},
		{math.MaxInt, 12, "ffffffffffff"}, {0x123456789abc, 12, "123456789abc"}, {0x123456789abc, 11, "23456789abc"},
		{1, 0, ""}, {1, 13, ""}, {0, 0, ""}, {0, 13, ""}, {1, -1, ""}, {1, math.MinInt, ""}, {1, math.MaxInt, ""},
		{-1, 1, ""}, {-1, 2, ""}, {-1, 12, ""}, {math.MinInt, 12, ""}, {-1, 0, ""}, {-4779, 4, ""},
	}
	for _, c := range cases {
		if got := impl.HexText(c.n, c.digits); got != c.want {
			t.Errorf("HexText(%d, %d) = %q, want %q", c.n, c.digits, got, c.want)
		}
	}
}

func TestReadHexOfHexText(t *testing.T) {
	check := func(n, digits int) {
		want := n & (1<<(4*digits) - 1)
		text := impl.HexText(n, digits)
		if got := impl.ReadHex(text); got != want {
			t.Errorf("ReadHex(HexText(%d, %d)) = %d, want %d", n, digits, got, want)
		}
		if len(text) != digits || impl.HexText(want, digits) != text {
			t.Errorf("HexText(%d, %d) = %q is not that of %d", n, digits, text, want)
		}
	}
	for digits := 1; digits <= 12; digits++ {
		for _, n := range edgeNumbers {
			if n >= 0 {
				check(n, digits)
			}
		}
		for n := 0; n < 1<<50; n = n*5/4 + 1 {
			check(n, digits)
		}
	}
}

func TestReadHex(t *testing.T) {
	valid := map[string]int{
		"0": 0, "9": 9, "a": 10, "f": 15, "00": 0, "0f": 15, "00ff": 255, "12ab": 4779, "000000000001": 1, "100000000000": 1 << 44,
		"cdef": 0xcdef, "ffffffffffff": 1<<48 - 1, "000000000000": 0, "123456789abc": 0x123456789abc,
	}
	for s, want := range valid {
		if got := impl.ReadHex(s); got != want {
			t.Errorf("ReadHex(%q) = %d, want %d", s, got, want)
		}
	}
	invalid := []string{
		"", "A", "F", "12AB", "12aB", "g", "1g", "g1", "0x1", "-1", "-f", "+1", " 1", "1 ", "1\n", "1_0", "1.0", "1\xff", "\xff1", "aé",
		"0000000000000", "0000000000001", "1ffffffffffff", "fffffffffffff", "ffffffffffffffff", "10000000000000001",
		strings.Repeat("f", 5000), strings.Repeat("0", 5000),
	}
	for _, s := range slices.Concat(invalid, oddTexts) {
		if got := impl.ReadHex(s); got != -1 {
			t.Errorf("ReadHex(%q) = %d, want -1", s, got)
		}
	}
}

func TestReadHexOfEveryByte(t *testing.T) {
	for c := range 256 {
		want := -1
		if c >= '0' && c <= '9' {
			want = c - '0'
		} else if c >= 'a' && c <= 'f' {
			want = c - 'a' + 10
		}
		if got := impl.ReadHex(string([]byte{byte(c)})); got != want {
			t.Errorf("ReadHex of byte %d = %d, want %d", c, got, want)
		}
		if want >= 0 {
			want += 16 * 14
		}
		if got := impl.ReadHex(string([]byte{'e', byte(c)})); got != want {
			t.Errorf("ReadHex of 'e' and byte %d = %d, want %d", c, got, want)
		}
	}
}

func TestPutNum(t *testing.T) {
	cases := []struct {
		n, many int
		want    string
	}{
		{0, 1, "\x00"}, {0, 6, "\x00\x00\x00\x00\x00\x00"}, {258, 1, "\x02"}, {258, 2, "\x01\x02"}, {258, 3, "\x00\x01\x02"},
		{255, 1, "\xff"}, {256, 1, "\x00"}, {0x0102030405, 5, "\x01\x02\x03\x04\x05"},
		{0x010203040506, 6, "\x01\x02\x03\x04\x05\x06"}, {0x01020304050607, 6, "\x02\x03\x04\x05\x06\x07"},
		{1<<48 - 1, 6, "\xff\xff\xff\xff\xff\xff"}, {1 << 48, 6, "\x00\x00\x00\x00\x00\x00"}, {math.MaxInt, 6, "\xff\xff\xff\xff\xff\xff"},
		{-1, 1, "\xff"}, {-1, 3, "\xff\xff\xff"}, {-1, 6, "\xff\xff\xff\xff\xff\xff"}, {-2, 2, "\xff\xfe"}, {-256, 2, "\xff\x00"},
		{math.MinInt, 6, "\x00\x00\x00\x00\x00\x00"}, {math.MinInt + 1, 2, "\x00\x01"},
		{1, 0, ""}, {1, 7, ""}, {-1, 0, ""}, {-1, 7, ""}, {1, -1, ""}, {1, 8, ""}, {1, math.MinInt, ""}, {1, math.MaxInt, ""},
	}
	for _, c := range cases {
		if got := impl.PutNum(c.n, c.many); got != c.want {
			t.Errorf("PutNum(%d, %d) = %q, want %q", c.n, c.many, got, c.want)
		}
	}
}

func TestGetNumOfPutNum(t *testing.T) {
	check := func(n, many int) {
		want := n & (1<<(8*many) - 1)
		text := impl.PutNum(n, many)
		for before := range 4 {
			s := strings.Repeat("\x9a", before) + text + "\x7f"
			if got := impl.GetNum(s, before, many); got != want {
				t.Errorf("GetNum(%q, %d, %d) = %d, want %d", s, before, many, got, want)
			}
		}
		if len(text) != many || impl.PutNum(want, many) != text {
			t.Errorf("PutNum(%d, %d) = %q is not that of %d", n, many, text, want)
		}
	}
	for many := 1; many <= 6; many++ {
		for _, n := range edgeNumbers {
			check(n, many)
		}
		for n := 0; n < 1<<50; n = n*5/4 + 1 {
			check(n, many)
			check(-n, many)
		}
	}
}

func TestGetNum(t *testing.T) {
	const six = "\x81\x02\x03\x04\x05\xff"
	cases := []struct {
		s             string
		i, many, want int
	}{
		{"a\x01\x02", 1, 2, 258}, {"a\x01\x02", 2, 1, 2}, {"a\x01\x02", 0, 1, 97}, {"\xff", 0, 1, 255}, {"\x00", 0, 1, 0},
		{six, 0, 6, 0x8102030405ff}, {six, 5, 1, 255}, {six, 1, 5, 0x02030405ff}, {"\xff\xff\xff\xff\xff\xff", 0, 6, 1<<48 - 1},
		{six, 1, 6, -1}, {six, 5, 2, -1}, {six, 6, 1, -1}, {six, 7, 1, -1}, {six, 0, 7, -1}, {six + "ab", 0, 7, -1}, {six, 0, 0, -1}, {six, 6, 0, -1},
		{six, 0, -1, -1}, {six, 3, -1, -1}, {six, 0, math.MinInt, -1}, {six, 0, math.MaxInt, -1},
		{six, -1, 1, -1}, {six, -1, 2, -1}, {six, -6, 6, -1}, {six, math.MinInt, 1, -1}, {six, math.MinInt, 6, -1},
		{six, math.MaxInt, 1, -1}, {six, math.MaxInt, 6, -1}, {six, math.MaxInt - 5, 6, -1}, {six, math.MaxInt, math.MaxInt, -1},
		{"", 0, 1, -1}, {"", 0, 0, -1}, {"", -1, 1, -1}, {"a", 0, 2, -1}, {"ab", 1, 2, -1},
	}
	for _, c := range cases {
		if got := impl.GetNum(c.s, c.i, c.many); got != c.want {
			t.Errorf("GetNum(%q, %d, %d) = %d, want %d", c.s, c.i, c.many, got, c.want)
		}
	}
}

func TestLines(t *testing.T) {
	cases := []struct {
		s    string
		want []string
	}{
		{"", nil}, {"a", []string{"a"}}, {"a\n", []string{"a"}}, {"a\nb", []string{"a", "b"}}, {"a\nb\n", []string{"a", "b"}},
		{"\n", []string{""}}, {"\n\n", []string{"", ""}}, {"\n\n\n", []string{"", "", ""}}, {"\na", []string{"", "a"}}, {"\n\na\n", []string{"", "", "a"}},
		{"a\n\nb", []string{"a", "", "b"}}, {"a\n\n", []string{"a", ""}}, {"a\n\n\n", []string{"a", "", ""}},
		{" ", []string{" "}}, {" \n\t\n ", []string{" ", "\t", " "}}, {" a b \n c", []string{" a b ", " c"}},
		{"a\r\nb\r", []string{"a\r", "b\r"}}, {"a\x00\nb\v\f", []string{"a\x00", "b\v\f"}}, {"a\u0085b\u2028c", []string{"a\u0085b\u2028c"}},
		{"\xff\n\xe2\n\x80", []string{"\xff", "\xe2", "\x80"}}, {"\xe2\x80\n\xc3\n", []string{"\xe2\x80", "\xc3"}}, {"é\nü", []string{"é", "ü"}},
	}
	for _, c := range cases {
		if got := impl.Lines(c.s); !slices.Equal(got, c.want) {
			t.Errorf("Lines(%q) = %q, want %q", c.s, got, c.want)
		}
	}
	long := impl.Lines(strings.Repeat("ab\n", impl.MaxText))
	if len(long) != impl.MaxText || long[0] != "ab" || long[impl.MaxText-1] != "ab" {
		t.Errorf("Lines of a long string: %d lines", len(long))
	}
}

func TestWords(t *testing.T) {
	cases := []struct {
		s    string
		want []string
	}{
		{"", nil}, {" ", nil}, {"\t", nil}, {" \t \t\t", nil}, {"a", []string{"a"}}, {"ab", []string{"ab"}}, {"a b", []string{"a", "b"}},
		{" a\tbc  d", []string{"a", "bc", "d"}}, {"\ta", []string{"a"}}, {" a", []string{"a"}}, {"a ", []string{"a"}}, {"a\t", []string{"a"}},
		{"  a \t b  ", []string{"a", "b"}}, {"a\t\tb", []string{"a", "b"}}, {"a\tb", []string{"a", "b"}}, {"b a", []string{"b", "a"}}, {"a a", []string{"a", "a"}},
		{"a\nb c", []string{"a\nb", "c"}}, {"\n", []string{"\n"}}, {" \n ", []string{"\n"}}, {"a\rb\vc\fd\x00e", []string{"a\rb\vc\fd\x00e"}},
		{"a\u00a0b\u2003c\u0085d", []string{"a\u00a0b\u2003c\u0085d"}}, {"\xff \xe2\t\x80", []string{"\xff", "\xe2", "\x80"}},
		{"\xe2\x80 \xc3\t", []string{"\xe2\x80", "\xc3"}}, {"é ü", []string{"é", "ü"}},
	}
	for _, c := range cases {
		if got := impl.Words(c.s); !slices.Equal(got, c.want) {
			t.Errorf("Words(%q) = %q, want %q", c.s, got, c.want)
		}
	}
	long := impl.Words(strings.Repeat(" ab\t", impl.MaxText))
	if len(long) != impl.MaxText || long[0] != "ab" || long[impl.MaxText-1] != "ab" {
		t.Errorf("Words of a long string: %d words", len(long))
	}
}

// textsOver returns all strings of the given length over an alphabet of bytes.
func textsOver(alphabet string, length int) []string {
	texts := []string{""}
	for range length {
		var longer []string
		for _, s := range texts {
			for i := range len(alphabet) {
				longer = append(longer, s+alphabet[i:i+1])
			}
		}
		texts = longer
	}
	return texts
}

func TestPartsOfAllShortTexts(t *testing.T) {
	for length := range 6 {
		for _, s := range textsOver("\n \ta\xe2\x80", length) {
			lines := strings.Split(s, "\n")
			if lines[len(lines)-1] == "" {
				lines = lines[:len(lines)-1]
			}
			if got := impl.Lines(s); !slices.Equal(got, lines) {
				t.Fatalf("Lines(%q) = %q, want %q", s, got, lines)
			}
			words := strings.FieldsFunc(s, func(c rune) bool { return c == ' ' || c == '\t' })
			if got := impl.Words(s); !slices.Equal(got, words) {
				t.Fatalf("Words(%q) = %q, want %q", s, got, words)
			}
		}
	}
}

// checkApart fails if writing to one result, or to its spare capacity, is seen in the next one.
func checkApart(t *testing.T, name string, split func(s string) []string) {
	const s = "a b\nc d\n"
	want := slices.Clone(split(s))
	first := split(s)
	first = first[:cap(first)]
	for i := range first {
		first[i] = "changed"
	}
	if second := split(s); !slices.Equal(second, want) {
		t.Errorf("%s: the second result is %q, want %q", name, second, want)
	}
}

func TestPartsShareNoMemory(t *testing.T) {
	checkApart(t, "Lines", impl.Lines)
	checkApart(t, "Words", impl.Words)
}

func TestTextLimit(t *testing.T) {
	if impl.MaxText != 8000 {
		t.Errorf("MaxText = %d, want 8000", impl.MaxText)
	}
}
