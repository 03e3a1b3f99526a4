package tests

import (
	"fmt"
	"math"
	"net/netip"
	"regexp"
	"slices"
	"strings"
	"testing"

	"loop.example/g00687/impl"
)

// The numbers on both sides of every limit of chapter 2.
var edgeAddresses = []int{
	1<<32 - 2, 1<<32 - 1, 1 << 32, 1<<32 + 1, 1<<40 - 1, 1 << 40, 1<<40 + 1, 1 << 41, 3 << 40, 1<<48 - 2, 1<<48 - 1, 1 << 48, 1<<48 + 1<<40,
	3758096383, 3758096384, 4026531839, 4026531840, -1 << 40, -3758096384, -3232235777, 1<<62 + 1, 3232235777, 0x0102030405ff, 0xfeffffffffff,
}

// checkAddresses calls check with all edges and with numbers of every size up to 2^50.
func checkAddresses(check func(n int)) {
	for _, n := range slices.Concat(edgeNumbers, edgeAddresses) {
		check(n)
	}
	for n := range 70000 {
		check(n)
	}
	for n := 70000; n < 1<<50; n = n*33/32 + 1 {
		check(n)
	}
}

func TestMacLimit(t *testing.T) {
	if impl.MaxMac != 281474976710655 {
		t.Errorf("MaxMac = %d", impl.MaxMac)
	}
}

func TestMacOk(t *testing.T) {
	checkAddresses(func(m int) {
		if got, want := impl.MacOk(m), m >= 0 && m <= 281474976710655; got != want {
			t.Errorf("MacOk(%d) = %v, want %v", m, got, want)
		}
	})
}

func TestMacText(t *testing.T) {
	fixed := map[int]string{
		0: "00:00:00:00:00:00", 1: "00:00:00:00:00:01", 255: "00:00:00:00:00:ff", 256: "00:00:00:00:01:00",
		0x0200000000ab: "02:00:00:00:00:ab", 0x123456789abc: "12:34:56:78:9a:bc", 0x0d0e0f0a0b0c: "0d:0e:0f:0a:0b:0c",
		impl.MaxMac: "ff:ff:ff:ff:ff:ff", impl.MaxMac - 1: "ff:ff:ff:ff:ff:fe", impl.MaxMac + 1: "", -1: "", math.MinInt: "", math.MaxInt: "",
	}
	for m, want := range fixed {
		if got := impl.MacText(m); got != want {
			t.Errorf("MacText(%d) = %q, want %q", m, got, want)
		}
	}
	checkAddresses(func(m int) {
		want := ""
		if m >= 0 && m < 1<<48 {
			want = fmt.Sprintf("%02x:%02x:%02x:%02x:%02x:%02x", m>>40, m>>32&255, m>>24&255, m>>16&255, m>>8&255, m&255)
		}
		if got := impl.MacText(m); got != want {
			t.Errorf("MacText(%d) = %q, want %q", m, got, want)
		}
	})
}

func TestReadMacOfMacText(t *testing.T) {
	checkAddresses(func(m int) {
		want := m
		if m < 0 || m >= 1<<48 {
			want = -1
		}
		if got := impl.ReadMac(impl.MacText(m)); got != want {
			t.Errorf("ReadMac(MacText(%d)) = %d, want %d", m, got, want)
		}
	})
}

func TestReadMacRefuses(t *testing.T) {
	texts := []string{
		"", ":", ":::::", "::::::", "0:0:0:0:0:0", "02:00:00:00:00:a", "2:00:00:00:00:ab", "02:00:00:00:00:", ":02:00:00:00:00", ":00:00:00:00:ab",
		"02:00:00:00:00", "02:00:00:00:00:ab:", ":02:00:00:00:00:ab", "02:00:00:00:00:ab:00", "02:00:00:00:00:abc", "002:00:00:00:00:ab", "02:000:00:00:00:0b",
		"02:00:00:00:00:AB", "02:00:00:00:00:aB", "FF:FF:FF:FF:FF:FF", "0g:00:00:00:00:00", "00:00:00:00:00:0g", "0x:00:00:00:00:00",
		"02-00-00-00-00-ab", "02.00.00.00.00.ab", "02 00 00 00 00 ab", "02:00:00:00:00-ab", "02:00:00:00-00:ab", "02;00:00:00:00:ab", "02:00::00:00:00:ab", "02::00:00:00:00ab",
		"0200000000ab", "0200.0000.00ab", "02000:0000:00:00ab", "02:00:00:00:00ab0", "0200000000ab00000", ":::::::::::::::::",
		" 02:00:00:00:00:ab", "02:00:00:00:00:ab ", "02:00:00:00:00:ab\n", "02:00:00:00:00:ab\x00", " 2:00:00:00:00:ab", "02:00:00:00:00:+1", "02:00:00:00:00:-1",
		"02:00:00:00:00:\xff\xff", "02:00:00:00:00:é", "02:00:00:00:é:ab", "é:00:00:00:00:ab", "0\xc3:00:00:00:00:ab", "02\xff00:00:00:00:ab", "１:00:00:00:00:ab",
		"00:00:00:00:00:00:00:00", "0.0.0.0", "192.168.1.1", "192.168.100.100", strings.Repeat("02:", 5000), strings.Repeat(":", 5000),
	}
	for _, s := range slices.Concat(texts, oddTexts) {
		if got := impl.ReadMac(s); got != -1 {
			t.Errorf("ReadMac(%q) = %d, want -1", s, got)
		}
	}
}

// nearTexts returns s, its texts with a byte more and with one less, and those with one byte changed.
func nearTexts(s string) []string {
	texts := []string{s}
	for i := range len(s) + 1 {
		for c := range 256 {
			b := string([]byte{byte(c)})
			texts = append(texts, s[:i]+b+s[i:])
			if i < len(s) {
				texts = append(texts, s[:i]+b+s[i+1:])
			}
		}
		if i < len(s) {
			texts = append(texts, s[:i]+s[i+1:], s[:i], s[i:], strings.ToUpper(s))
		}
	}
	return texts
}

func TestReadMacOfNearTexts(t *testing.T) {
	form := regexp.MustCompile(`\A[0-9a-f]{2}(:[0-9a-f]{2}){5}\z`)
	for _, m := range []int{0, 0x0200000000ab, 0x123456789abc, 0x090a0e0f10f0, impl.MaxMac} {
		for _, s := range nearTexts(impl.MacText(m)) {
			want := -1
			if form.MatchString(s) {
				fmt.Sscanf(strings.ReplaceAll(s, ":", ""), "%x", &want)
			}
			if got := impl.ReadMac(s); got != want {
				t.Errorf("ReadMac(%q) = %d, want %d", s, got, want)
			}
		}
	}
}

func TestIsGroup(t *testing.T) {
	fixed := map[int]bool{
		0: false, 1: false, 0x00ffffffffff: false, 0x010000000000: true, 0x01ffffffffff: true, 0x020000000000: false, 0x02ffffffffff: false, 0x030000000000: true,
		0x01005e000001: true, 0x0180c2000000: true, 0xfeffffffffff: false, 0xff0000000000: true, 0xfe0000000000: false, 0xfd0000000000: true, 0x80ffffffffff: false,
		impl.MaxMac: true, impl.MaxMac - 1: true, impl.MaxMac + 1: false, 1<<48 + 1<<40: false, 1<<62 + 1<<40: false, math.MaxInt: false, -1: false, -1 << 40: false, math.MinInt: false,
		math.MinInt + 1<<40: false,
	}
	for m, want := range fixed {
		if got := impl.IsGroup(m); got != want {
			t.Errorf("IsGroup(%#x) = %v, want %v", m, got, want)
		}
	}
	for first := range 256 {
		for _, rest := range []int{0, 1, 0x0100000000, 0xffffffffff} {
			if got, want := impl.IsGroup(first<<40+rest), first%2 == 1; got != want {
				t.Errorf("IsGroup(%#x) = %v, want %v", first<<40+rest, got, want)
			}
		}
	}
}

func TestIpText(t *testing.T) {
	fixed := map[int]string{
		0: "0.0.0.0", 1: "0.0.0.1", 255: "0.0.0.255", 256: "0.0.1.0", 3232235777: "192.168.1.1", 167772170: "10.0.0.10", 16909060: "1.2.3.4", 1 << 24: "1.0.0.0",
		4294967295: "255.255.255.255", 4294967294: "255.255.255.254", 3758096384: "224.0.0.0", 4026531839: "239.255.255.255", 2147483648: "128.0.0.0",
		4294967296: "", 1 << 48: "", -1: "", -3232235777: "", math.MinInt: "", math.MaxInt: "",
	}
	for ip, want := range fixed {
		if got := impl.IpText(ip); got != want {
			t.Errorf("IpText(%d) = %q, want %q", ip, got, want)
		}
	}
	checkAddresses(func(ip int) {
		want := ""
		if ip >= 0 && ip < 1<<32 {
			want = fmt.Sprintf("%d.%d.%d.%d", ip>>24, ip>>16&255, ip>>8&255, ip&255)
		}
		if got := impl.IpText(ip); got != want {
			t.Errorf("IpText(%d) = %q, want %q", ip, got, want)
		}
	})
}

func TestReadIpOfIpText(t *testing.T) {
	checkAddresses(func(ip int) {
		want := ip
		if ip < 0 || ip >= 1<<32 {
			want = -1
		}
		if got := impl.ReadIp(impl.IpText(ip)); got != want {
			t.Errorf("ReadIp(IpText(%d)) = %d, want %d", ip, got, want)
		}
	})
}

func TestReadIpRefuses(t *testing.T) {
	texts := []string{
		"", ".", "...", "....", "1", "1.", "1.2", "1.2.3", "1.2.3.", ".1.2.3", "1..2.3", "1.2..3", "1.2.3.4.", ".1.2.3.4", "1.2.3.4.5", "1.2.3..4", "1.2.3.4..", "1...4",
		"256.2.3.4", "1.256.3.4", "1.2.256.4", "1.2.3.256", "1.2.3.999", "1.2.3.1000", "1.2.3.257", "1.2.3.4294967296", "1.2.3.999999999", "999999999.2.3.4", "1.2.3.1000000000",
		"01.2.3.4", "1.02.3.4", "1.2.03.4", "1.2.3.04", "1.2.3.00", "00.0.0.0", "000.0.0.0", "1.2.3.001", "1.2.3.0255",
		"-1.2.3.4", "1.-2.3.4", "1.2.3.-4", "1.2.3.-0", "+1.2.3.4", "1.2.3.+4", " 1.2.3.4", "1.2.3.4 ", "1. 2.3.4", "1.2.3 .4", "1.2.3.4\n", "1.2.3.4\x00", "\t1.2.3.4",
		"1,2,3,4", "1:2:3:4", "1.2.3:4", "1.2.3,4", "1-2-3-4", "1 2 3 4", "1234", "16909060", "0", "4294967295", "a.2.3.4", "1.2.3.a", "1.2.3.f", "0x1.2.3.4", "1.2.3.1e1",
		"1.2.3.\xff", "\xff.2.3.4", "1.2.3.１", "1.2\xe2.3.4", "1。2。3。4", "::1", "::1.2.3.4", "02:00:00:00:00:ab", strings.Repeat("1.", 5000), strings.Repeat(".", 5000), strings.Repeat("1", 5000),
	}
	for _, s := range slices.Concat(texts, oddTexts) {
		if got := impl.ReadIp(s); got != -1 {
			t.Errorf("ReadIp(%q) = %d, want -1", s, got)
		}
	}
}

// readIp is the result that the document requires, computed by the standard library.
func readIp(s string) int {
	addr, err := netip.ParseAddr(s)
	if err != nil || !addr.Is4() {
		return -1
	}
	b := addr.As4()
	return int(b[0])<<24 + int(b[1])<<16 + int(b[2])<<8 + int(b[3])
}

func TestReadIpOfNearTexts(t *testing.T) {
	for _, ip := range []int{0, 16909060, 3232235777, 0x0a0b640c, 0xfefdfcfb, 4294967295} {
		for _, s := range nearTexts(impl.IpText(ip)) {
			if got, want := impl.ReadIp(s), readIp(s); got != want {
				t.Errorf("ReadIp(%q) = %d, want %d", s, got, want)
			}
		}
	}
	for length := range 10 {
		for _, s := range textsOver("0.1", length) {
			if got, want := impl.ReadIp(s), readIp(s); got != want {
				t.Errorf("ReadIp(%q) = %d, want %d", s, got, want)
			}
		}
	}
}

func TestReadIpOfEveryByteNumber(t *testing.T) {
	for b := -1; b < 1200; b++ {
		texts := []string{"%d.2.3.4", "1.%d.3.4", "1.2.%d.4", "1.2.3.%d"}
		for i, form := range texts {
			want := -1
			if b >= 0 && b <= 255 {
				shift := 24 - 8*i
				want = 16909060&^(255<<shift) | b<<shift
			}
			if got := impl.ReadIp(fmt.Sprintf(form, b)); got != want {
				t.Errorf("ReadIp(%q) = %d, want %d", fmt.Sprintf(form, b), got, want)
			}
		}
	}
}

func TestGroupOf(t *testing.T) {
	fixed := map[int]int{
		3758096384: 0x01005e000000, 3758096385: 0x01005e000001, 4026531839: 0x01005e7fffff, 4026531838: 0x01005e7ffffe,
		0xe1010203: 0x01005e010203, 0xe1810203: 0x01005e010203, 0xe07fffff: 0x01005e7fffff, 0xe0800000: 0x01005e000000, 0xe0ffffff: 0x01005e7fffff, 0xef800001: 0x01005e000001,
		3758096383: -1, 4026531840: -1, 0: -1, 1: -1, 0x7fffff: -1, 3232235777: -1, 4294967295: -1, 4294967296: -1, 4294967296 + 3758096384: -1, 0x01005e000001: -1,
		impl.MaxMac: -1, -1: -1, -3758096384: -1, 3758096384 - 4294967296: -1, math.MinInt: -1, math.MaxInt: -1,
	}
	for ip, want := range fixed {
		if got := impl.GroupOf(ip); got != want {
			t.Errorf("GroupOf(%#x) = %#x, want %#x", ip, got, want)
		}
	}
	checkAddresses(func(ip int) {
		want := -1
		if ip >= 3758096384 && ip <= 4026531839 {
			want = 0x01005e000000 + ip%(1<<23)
		}
		if got := impl.GroupOf(ip); got != want {
			t.Errorf("GroupOf(%#x) = %#x, want %#x", ip, got, want)
		}
	})
}

func TestGroupOfIsGroup(t *testing.T) {
	for ip := 3758096384; ip <= 4026531839; ip += 977 {
		m := impl.GroupOf(ip)
		if !impl.MacOk(m) || !impl.IsGroup(m) || m != 0x01005e000000+ip%(1<<23) {
			t.Fatalf("GroupOf(%#x) = %#x is not its group address", ip, m)
		}
	}
	for bit := range 28 {
		ip := 3758096384 + 1<<bit
		want := 0x01005e000000
		if bit < 23 {
			want += 1 << bit
		}
		if got := impl.GroupOf(ip); got != want {
			t.Errorf("GroupOf(%#x) = %#x, want %#x", ip, got, want)
		}
	}
}
