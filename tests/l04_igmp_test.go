package tests

import (
	"encoding/binary"
	"math"
	"math/rand"
	"slices"
	"strings"
	"testing"

	"loop.example/g00687/impl"
)

const (
	lowGroup   = 0xe0000000
	highGroup  = 0xefffffff
	someGroup  = 0xe1010203
	someSender = 0xc0a80101
)

var igmpKinds = []int{impl.IgQuery, impl.IgOld, impl.IgReport, impl.IgLeave}

// Each field's values at the ends of its range, beside them and far from them.
var (
	edgeKinds   = []int{0, 1, 16, 17, 18, 19, 20, 21, 22, 23, 24, 34, 255, 256 + 17, 256 + 22, -1, -17, -22, math.MinInt, math.MaxInt, 1<<32 + 22}
	edgeTimes   = []int{0, 1, 2, 100, 127, 128, 254, 255, 256, 257, 512, -1, -255, math.MinInt, math.MaxInt, 1 << 32}
	edgeGroups  = []int{0, 1, -1, 5, lowGroup - 1, lowGroup, lowGroup + 1, lowGroup + 2, someGroup, highGroup - 1, highGroup, highGroup + 1, 1<<32 - 1, 1 << 32, 1<<32 + lowGroup, -lowGroup, math.MinInt, math.MaxInt}
	edgeSenders = []int{0, 1, -1, someSender, lowGroup, 1<<31 - 1, 1 << 31, 1<<32 - 2, 1<<32 - 1, 1 << 32, 1<<32 + 1, 1<<48 - 1, -(1<<32 - 1), math.MinInt, math.MaxInt}
)

// checkPackets calls check with every combination of the fields' edges.
func checkPackets(check func(g impl.Igmp)) {
	for _, kind := range edgeKinds {
		for _, time := range edgeTimes {
			for _, group := range edgeGroups {
				for _, from := range edgeSenders {
					check(impl.Igmp{Kind: kind, Time: time, Group: group, From: from})
				}
			}
		}
	}
}

// validPacket is what the document says of IgmpOk.
func validPacket(g impl.Igmp) bool {
	grouped := within(g.Group, 3758096384, 4026531839)
	switch g.Kind {
	case 17:
		return within(g.Time, 0, 255) && (grouped || g.Group == 0) && within(g.From, 0, 4294967295)
	case 18, 22, 23:
		return g.Time == 0 && grouped && within(g.From, 0, 4294967295)
	}
	return false
}

// destinationOf is what the document says of IgmpTo.
func destinationOf(g impl.Igmp) int {
	switch {
	case !validPacket(g):
		return -1
	case g.Kind == 17 && g.Group == 0:
		return 3758096385
	case g.Kind == 23:
		return 3758096386
	}
	return g.Group
}

// sumOf uses that the folded sum is the sum modulo 65535, with 65535 in the place of 0 unless all numbers are 0.
func sumOf(s string) int {
	if len(s)%2 == 1 {
		s += "\x00"
	}
	sum := 0
	for b := []byte(s); len(b) > 0; b = b[2:] {
		sum += int(binary.BigEndian.Uint16(b))
	}
	if sum == 0 {
		return 65535
	}
	return 65534 - (sum-1)%65535
}

// packetBytes writes the fields, valid or not, between the fixed bytes, with the right checksums.
func packetBytes(g impl.Igmp, to int) string {
	b := []byte{70, 192, 0, 32, 0, 0, 0, 0, 1, 2, 0, 0}
	b = binary.BigEndian.AppendUint32(b, uint32(g.From))
	b = binary.BigEndian.AppendUint32(b, uint32(to))
	b = append(b, 148, 4, 0, 0, byte(g.Kind), byte(g.Time), 0, 0)
	return resummed(string(binary.BigEndian.AppendUint32(b, uint32(g.Group))))
}

// resummed returns the 32 bytes of s with both checksums made right.
func resummed(s string) string {
	b := []byte(s)
	for _, part := range [][]byte{b[:24], b[24:]} {
		at := 10
		if len(part) == 8 {
			at = 2
		}
		part[at], part[at+1] = 0, 0
		binary.BigEndian.PutUint16(part[at:], uint16(sumOf(string(part))))
	}
	return string(b)
}

// wantPacket is what the document says of GetIgmp.
func wantPacket(s string) (impl.Igmp, bool) {
	if len(s) != 32 {
		return impl.Igmp{}, false
	}
	four := func(i int) int { return int(binary.BigEndian.Uint32([]byte(s[i:]))) }
	g := impl.Igmp{Kind: int(s[24]), Time: int(s[25]), Group: four(28), From: four(12)}
	if !validPacket(g) || packetBytes(g, destinationOf(g)) != s {
		return impl.Igmp{}, false
	}
	return g, true
}

// checkGetIgmp compares GetIgmp(s) with wantPacket and, of an accepted packet, its bytes with s.
func checkGetIgmp(t *testing.T, s string) {
	t.Helper()
	g, ok := impl.GetIgmp(s)
	if want, wantOk := wantPacket(s); g != want || ok != wantOk {
		t.Fatalf("GetIgmp(%.40x of %d bytes) = %+v, %v, want %+v, %v", s, len(s), g, ok, want, wantOk)
	}
	if ok && (!impl.IgmpOk(g) || impl.PutIgmp(g) != s) {
		t.Fatalf("GetIgmp(%x) = %+v, whose PutIgmp is %x", s, g, impl.PutIgmp(g))
	}
}

func checkRefused(t *testing.T, s string) {
	t.Helper()
	if g, ok := impl.GetIgmp(s); ok || g != (impl.Igmp{}) {
		t.Errorf("GetIgmp(%.40x of %d bytes) = %+v, %v, want the zero Igmp and false", s, len(s), g, ok)
	}
}

func turned(s string, bit int) string {
	b := []byte(s)
	b[bit/8] ^= 1 << (bit % 8)
	return string(b)
}

// samplePackets holds valid packets of every kind, with the ends of every range among them.
func samplePackets() []impl.Igmp {
	packets := []impl.Igmp{
		{Kind: impl.IgQuery}, {Kind: impl.IgQuery, Time: 255, From: 1<<32 - 1}, {Kind: impl.IgQuery, Time: 100, Group: someGroup, From: someSender},
	}
	for _, kind := range igmpKinds {
		for _, group := range []int{lowGroup, lowGroup + 1, lowGroup + 2, someGroup, highGroup} {
			packets = append(packets, impl.Igmp{Kind: kind, Group: group}, impl.Igmp{Kind: kind, Group: group, From: someSender}, impl.Igmp{Kind: kind, Group: group, From: 1<<32 - 1})
		}
	}
	return packets
}

func TestIgmpConstants(t *testing.T) {
	if !slices.Equal(igmpKinds, []int{17, 18, 22, 23}) {
		t.Error("constants", igmpKinds)
	}
}

func TestIgmpOk(t *testing.T) {
	valid := []impl.Igmp{
		{Kind: 17}, {Kind: 17, Time: 1}, {Kind: 17, Time: 255}, {Kind: 17, Group: lowGroup}, {Kind: 17, Time: 255, Group: highGroup, From: 1<<32 - 1},
		{Kind: 18, Group: someGroup}, {Kind: 22, Group: someGroup}, {Kind: 23, Group: someGroup}, {Kind: 18, Group: lowGroup}, {Kind: 22, Group: lowGroup}, {Kind: 23, Group: lowGroup},
		{Kind: 18, Group: highGroup}, {Kind: 22, Group: highGroup}, {Kind: 23, Group: highGroup}, {Kind: 22, Group: someGroup, From: 1}, {Kind: 22, Group: someGroup, From: 1<<32 - 1},
	}
	for _, g := range valid {
		if !impl.IgmpOk(g) {
			t.Errorf("IgmpOk(%+v) = false", g)
		}
	}
	invalid := []impl.Igmp{
		{}, {Group: someGroup}, {Kind: 16}, {Kind: 16, Group: someGroup}, {Kind: 19, Group: someGroup}, {Kind: 21, Group: someGroup}, {Kind: 24, Group: someGroup}, {Kind: 34, Group: someGroup}, {Kind: -17}, {Kind: 256 + 17},
		{Kind: 17, Time: -1}, {Kind: 17, Time: 256}, {Kind: 18, Time: 1, Group: someGroup}, {Kind: 22, Time: 1, Group: someGroup}, {Kind: 23, Time: 1, Group: someGroup},
		{Kind: 18, Time: -1, Group: someGroup}, {Kind: 22, Time: 255, Group: someGroup}, {Kind: 23, Time: -1, Group: someGroup},
		{Kind: 18}, {Kind: 22}, {Kind: 23}, {Kind: 17, Group: 1}, {Kind: 17, Group: -1}, {Kind: 17, Group: lowGroup - 1}, {Kind: 17, Group: highGroup + 1}, {Kind: 22, Group: lowGroup - 1}, {Kind: 22, Group: highGroup + 1},
		{Kind: 17, From: -1}, {Kind: 17, From: 1 << 32}, {Kind: 22, Group: someGroup, From: -1}, {Kind: 22, Group: someGroup, From: 1 << 32},
	}
	for _, g := range invalid {
		if impl.IgmpOk(g) || impl.PutIgmp(g) != "" || impl.IgmpTo(g) != -1 {
			t.Errorf("IgmpOk(%+v) = %v, PutIgmp = %x, IgmpTo = %d", g, impl.IgmpOk(g), impl.PutIgmp(g), impl.IgmpTo(g))
		}
	}
}

func TestPacketsAtTheEdges(t *testing.T) {
	valid := 0
	checkPackets(func(g impl.Igmp) {
		ok := validPacket(g)
		if impl.IgmpOk(g) != ok || impl.IgmpTo(g) != destinationOf(g) {
			t.Fatalf("IgmpOk(%+v) = %v, want %v; IgmpTo = %d, want %d", g, impl.IgmpOk(g), ok, impl.IgmpTo(g), destinationOf(g))
		}
		s := impl.PutIgmp(g)
		if !ok {
			if s != "" {
				t.Fatalf("PutIgmp(%+v) = %x, want nothing", g, s)
			}
			return
		}
		valid++
		if want := packetBytes(g, destinationOf(g)); s != want {
			t.Fatalf("PutIgmp(%+v) = %x, want %x", g, s, want)
		}
		if back, ok := impl.GetIgmp(s); back != g || !ok {
			t.Fatalf("GetIgmp(PutIgmp(%+v)) = %+v, %v", g, back, ok)
		}
	})
	// 8 times, 6 groups or 0 and 8 senders of a query; 6 groups and 8 senders of each other kind.
	if want := 8*7*8 + 3*6*8; valid != want {
		t.Errorf("%d valid packets were checked, want %d", valid, want)
	}
}

func TestPacketOfEveryKindAndTime(t *testing.T) {
	for kind := -300; kind <= 600; kind++ {
		for time := -2; time <= 258; time++ {
			for _, group := range []int{0, someGroup} {
				g := impl.Igmp{Kind: kind, Time: time, Group: group, From: someSender}
				if impl.IgmpOk(g) != validPacket(g) || impl.IgmpTo(g) != destinationOf(g) {
					t.Fatalf("IgmpOk(%+v) = %v, IgmpTo = %d, want %d", g, impl.IgmpOk(g), impl.IgmpTo(g), destinationOf(g))
				}
			}
		}
	}
}

func TestSum16(t *testing.T) {
	fixed := map[string]int{
		"": 0xffff, "\x00": 0xffff, "\x01": 0xfeff, "\xff": 0x00ff, "\x00\x00": 0xffff, "\x00\x01": 0xfffe, "\xff\xff": 0, "\xff\xfe": 1,
		"\x01\x02\x03": 0xfbfd, "\x01\x02\x03\x04": 0xfbf9, "\x00\x00\x01": 0xfeff, "\xff\xff\xff": 0x00ff, "\x80\x00\x80": 0xfffe,
		"\x00\x01\xf2\x03\xf4\xf5\xf6\xf7":                                     0x220d,
		"E\x00\x00s\x00\x00@\x00@\x11\x00\x00\xc0\xa8\x00\x01\xc0\xa8\x00\xc7": 0xb861,
		// Their sums 1ffff and 2fffe have a part above 16 bits again once that part was added, the others only once.
		"\xff\xff\xff\xff\x00\x01": 0xfffe, "\xff\xff\xff\xff\xff\xff\x00\x01": 0xfffe, "\xff\xff\xff\xff": 0, "\xff\xff\x00\x01": 0xfffe, "\xff\xff\x00\x02": 0xfffd,
		strings.Repeat("\xff", 65536*2): 0, strings.Repeat("\xff\xff", 65537) + "\x01": 0xfeff, strings.Repeat("\x00", 99999): 0xffff,
	}
	for s, want := range fixed {
		if got := impl.Sum16(s); got != want || sumOf(s) != want {
			t.Errorf("Sum16(%.20x of %d bytes) = %#x, want %#x", s, len(s), got, want)
		}
	}
}

func TestSum16OfEveryLength(t *testing.T) {
	random := rand.New(rand.NewSource(4))
	for length := range 2100 {
		b := make([]byte, length)
		random.Read(b)
		for _, s := range []string{string(b), strings.Repeat("\xff", length), strings.Repeat("\x01", length), strings.Repeat("é", length), strings.Repeat("\xff\xfe\x00", length)} {
			if got, want := impl.Sum16(s), sumOf(s); got != want {
				t.Fatalf("Sum16(%.20x of %d bytes) = %#x, want %#x", s, len(s), got, want)
			}
		}
		if s := string(b); length%2 == 1 && impl.Sum16(s) != impl.Sum16(s+"\x00") {
			t.Fatalf("Sum16(%x) = %#x, with a 0 behind it %#x", s, impl.Sum16(s), impl.Sum16(s+"\x00"))
		}
	}
}

func TestSum16OfEveryTwoBytes(t *testing.T) {
	for n := range 65536 {
		s := string([]byte{byte(n >> 8), byte(n)})
		for _, all := range []string{s, s + "\xff", s + "\xff\xff", s + s, s + s + s, s[:1]} {
			if got, want := impl.Sum16(all), sumOf(all); got != want {
				t.Fatalf("Sum16(%x) = %#x, want %#x", all, got, want)
			}
		}
		if impl.Sum16(s) != 65535-n {
			t.Fatalf("Sum16(%x) = %#x", s, impl.Sum16(s))
		}
	}
}

func TestIgmpTo(t *testing.T) {
	cases := []struct {
		g    impl.Igmp
		want int
	}{
		{impl.Igmp{Kind: impl.IgQuery}, 0xe0000001}, {impl.Igmp{Kind: impl.IgQuery, Time: 255, From: someSender}, 0xe0000001},
		{impl.Igmp{Kind: impl.IgQuery, Group: someGroup}, someGroup}, {impl.Igmp{Kind: impl.IgQuery, Group: lowGroup}, lowGroup}, {impl.Igmp{Kind: impl.IgQuery, Group: lowGroup + 2}, lowGroup + 2},
		{impl.Igmp{Kind: impl.IgOld, Group: someGroup}, someGroup}, {impl.Igmp{Kind: impl.IgReport, Group: someGroup}, someGroup}, {impl.Igmp{Kind: impl.IgReport, Group: highGroup}, highGroup},
		{impl.Igmp{Kind: impl.IgLeave, Group: someGroup}, 0xe0000002}, {impl.Igmp{Kind: impl.IgLeave, Group: lowGroup + 1, From: someSender}, 0xe0000002},
		{impl.Igmp{}, -1}, {impl.Igmp{Kind: impl.IgLeave}, -1}, {impl.Igmp{Kind: impl.IgReport}, -1}, {impl.Igmp{Kind: impl.IgOld}, -1}, {impl.Igmp{Kind: 19, Group: someGroup}, -1},
		{impl.Igmp{Kind: impl.IgQuery, Time: 256}, -1}, {impl.Igmp{Kind: impl.IgReport, Time: 1, Group: someGroup}, -1}, {impl.Igmp{Kind: impl.IgReport, Group: someGroup, From: -1}, -1},
	}
	for _, c := range cases {
		if got := impl.IgmpTo(c.g); got != c.want {
			t.Errorf("IgmpTo(%+v) = %#x, want %#x", c.g, got, c.want)
		}
	}
}

func TestPutIgmp(t *testing.T) {
	fixed := []struct {
		g    impl.Igmp
		want string
	}{
		{impl.Igmp{Kind: impl.IgReport, Group: someGroup, From: someSender}, "\x46\xc0\x00\x20\x00\x00\x00\x00\x01\x02\x7f\x6a\xc0\xa8\x01\x01\xe1\x01\x02\x03\x94\x04\x00\x00\x16\x00\x06\xfb\xe1\x01\x02\x03"},
		{impl.Igmp{Kind: impl.IgQuery}, "\x46\xc0\x00\x20\x00\x00\x00\x00\x01\x02\x44\x17\x00\x00\x00\x00\xe0\x00\x00\x01\x94\x04\x00\x00\x11\x00\xee\xff\x00\x00\x00\x00"},
		{impl.Igmp{Kind: impl.IgQuery, Time: 255, Group: highGroup, From: 1<<32 - 1}, "\x46\xc0\x00\x20\x00\x00\x00\x00\x01\x02\x34\x19\xff\xff\xff\xff\xef\xff\xff\xff\x94\x04\x00\x00\x11\xff\xfe\x00\xef\xff\xff\xff"},
		{impl.Igmp{Kind: impl.IgOld, Group: lowGroup, From: 1}, "\x46\xc0\x00\x20\x00\x00\x00\x00\x01\x02\x44\x17\x00\x00\x00\x01\xe0\x00\x00\x00\x94\x04\x00\x00\x12\x00\x0d\xff\xe0\x00\x00\x00"},
		{impl.Igmp{Kind: impl.IgLeave, Group: someGroup, From: someSender}, "\x46\xc0\x00\x20\x00\x00\x00\x00\x01\x02\x82\x6c\xc0\xa8\x01\x01\xe0\x00\x00\x02\x94\x04\x00\x00\x17\x00\x05\xfb\xe1\x01\x02\x03"},
	}
	for _, c := range fixed {
		if got := impl.PutIgmp(c.g); got != c.want {
			t.Errorf("PutIgmp(%+v) = %x, want %x", c.g, got, c.want)
		}
		if back, ok := impl.GetIgmp(c.want); back != c.g || !ok {
			t.Errorf("GetIgmp(%x) = %+v, %v, want %+v", c.want, back, ok, c.g)
		}
	}
}

func TestBothChecksumsAreCorrect(t *testing.T) {
	for _, g := range samplePackets() {
		s := impl.PutIgmp(g)
		if len(s) != 32 {
			t.Fatalf("PutIgmp(%+v) has %d bytes", g, len(s))
		}
		// A sum over numbers with their checksum among them is all ones, so its complement is 0.
		if impl.Sum16(s[:24]) != 0 || impl.Sum16(s[24:]) != 0 {
			t.Errorf("PutIgmp(%+v) = %x, the sums of whose parts are %#x and %#x", g, s, impl.Sum16(s[:24]), impl.Sum16(s[24:]))
		}
		head, tail := impl.Sum16(s[:10]+"\x00\x00"+s[12:24]), impl.Sum16(s[24:26]+"\x00\x00"+s[28:])
		if impl.GetNum(s, 10, 2) != head || impl.GetNum(s, 26, 2) != tail {
			t.Errorf("PutIgmp(%+v) = %x, whose checksums should be %#x and %#x", g, s, head, tail)
		}
	}
}

func TestGetIgmpOfEveryTime(t *testing.T) {
	for time := range 256 {
		for _, group := range []int{0, someGroup} {
			g := impl.Igmp{Kind: impl.IgQuery, Time: time, Group: group, From: someSender}
			if back, ok := impl.GetIgmp(impl.PutIgmp(g)); back != g || !ok {
				t.Errorf("GetIgmp(PutIgmp(%+v)) = %+v, %v", g, back, ok)
			}
		}
	}
}

func TestGetIgmpOfOtherLengths(t *testing.T) {
	for _, g := range samplePackets() {
		s := impl.PutIgmp(g)
		for length := range 32 {
			checkRefused(t, s[:length])
			checkRefused(t, s[32-length:])
		}
		for _, more := range []string{"\x00", "\xff", "\x00\x00", s[:8], s} {
			checkRefused(t, s+more)
			checkRefused(t, more+s)
		}
		checkRefused(t, s[:24]+"\x00\x00\x00\x00"+s[24:])
	}
	for _, s := range []string{"", "\x00", strings.Repeat("\x00", 31), strings.Repeat("\x00", 32), strings.Repeat("\x00", 33), strings.Repeat("\xff", 32), strings.Repeat("\x11", 100000)} {
		checkRefused(t, s)
	}
}

func TestGetIgmpOfTurnedBits(t *testing.T) {
	for _, g := range samplePackets() {
		s := impl.PutIgmp(g)
		for bit := range 8 * len(s) {
			checkRefused(t, turned(s, bit))
			// With the checksums made right, only the other numbers can tell.
			checkGetIgmp(t, resummed(turned(s, bit)))
		}
	}
}

func TestGetIgmpOfChangedBytes(t *testing.T) {
	for _, g := range []impl.Igmp{{Kind: impl.IgQuery, Time: 9}, {Kind: impl.IgLeave, Group: someGroup, From: someSender}} {
		for _, near := range nearTexts(impl.PutIgmp(g)) {
			checkGetIgmp(t, near)
			if len(near) == 32 {
				checkGetIgmp(t, resummed(near))
			}
		}
	}
}

func TestGetIgmpOfRightChecksums(t *testing.T) {
	report := impl.Igmp{Kind: impl.IgReport, Group: someGroup, From: someSender}
	leave := impl.Igmp{Kind: impl.IgLeave, Group: someGroup, From: someSender}
	query := impl.Igmp{Kind: impl.IgQuery, From: someSender}
	refused := []struct {
		g  impl.Igmp
		to int
	}{
		{impl.Igmp{Group: someGroup}, someGroup}, {impl.Igmp{Kind: 16, Group: someGroup}, someGroup}, {impl.Igmp{Kind: 19, Group: someGroup}, someGroup}, {impl.Igmp{Kind: 34, Group: someGroup}, someGroup},
		{impl.Igmp{Kind: impl.IgReport, Time: 1, Group: someGroup}, someGroup}, {impl.Igmp{Kind: impl.IgOld, Time: 255, Group: someGroup}, someGroup}, {impl.Igmp{Kind: impl.IgLeave, Time: 1, Group: someGroup}, 0xe0000002},
		{impl.Igmp{Kind: impl.IgReport}, 0}, {impl.Igmp{Kind: impl.IgOld}, 0xe0000001}, {impl.Igmp{Kind: impl.IgLeave}, 0xe0000002},
		{impl.Igmp{Kind: impl.IgReport, Group: lowGroup - 1}, lowGroup - 1}, {impl.Igmp{Kind: impl.IgQuery, Group: highGroup + 1}, highGroup + 1}, {impl.Igmp{Kind: impl.IgQuery, Group: 1}, 1},
		{report, 0xe0000002}, {report, 0xe0000001}, {report, someGroup + 1}, {report, 0}, {leave, someGroup}, {leave, 0xe0000001}, {query, 0}, {query, 0xe0000002}, {query, someGroup},
		{impl.Igmp{Kind: impl.IgQuery, Group: someGroup}, 0xe0000001}, {impl.Igmp{Kind: impl.IgOld, Group: someGroup}, 0xe0000002},
	}
	for _, c := range refused {
		s := packetBytes(c.g, c.to)
		checkRefused(t, s)
		checkGetIgmp(t, s)
	}
	for _, g := range []impl.Igmp{report, leave, query} {
		s := packetBytes(g, destinationOf(g))
		if back, ok := impl.GetIgmp(s); back != g || !ok {
			t.Errorf("GetIgmp(%x) = %+v, %v, want %+v", s, back, ok, g)
		}
		for _, at := range []int{0, 1, 2, 3, 4, 5, 6, 7, 8, 9, 20, 21, 22, 23} {
			checkRefused(t, resummed(turned(s, 8*at)))
		}
	}
}

// 0 and 65535 weigh the same in a sum, so that a test of the sum alone would accept one for the other.
func TestGetIgmpOfOtherChecksums(t *testing.T) {
	for _, g := range samplePackets() {
		s := impl.PutIgmp(g)
		for _, at := range []int{10, 26} {
			n := impl.GetNum(s, at, 2)
			for _, other := range []int{n ^ 65535, n + 1, n - 1, n>>8 | n<<8, n + 256} {
				near := s[:at] + impl.PutNum(other, 2) + s[at+2:]
				checkGetIgmp(t, near)
				if near != s {
					checkRefused(t, near)
				}
			}
		}
	}
}

func TestGetIgmpOfEveryChecksum(t *testing.T) {
	s := impl.PutIgmp(impl.Igmp{Kind: impl.IgQuery, Time: 10, From: someSender})
	for n := range 65536 {
		checkGetIgmp(t, s[:10]+impl.PutNum(n, 2)+s[12:])
		checkGetIgmp(t, s[:26]+impl.PutNum(n, 2)+s[28:])
	}
}

func TestGetIgmpOfZeroChecksum(t *testing.T) {
	// The group's lower half completes the kind, the time and its upper half to 65535.
	g := impl.Igmp{Kind: impl.IgQuery, Time: 6, Group: lowGroup + 0xffff - 0x1106 - 0xe000}
	if !impl.IgmpOk(g) {
		t.Fatal("the packet is invalid")
	}
	s := impl.PutIgmp(g)
	if impl.GetNum(s, 26, 2) != 0 {
		t.Fatalf("the checksum of %x is not 0", s)
	}
	if back, ok := impl.GetIgmp(s); back != g || !ok {
		t.Errorf("GetIgmp(%x) = %+v, %v", s, back, ok)
	}
	checkRefused(t, s[:26]+"\xff\xff"+s[28:])
}

func TestGetIgmpOfRandomBytes(t *testing.T) {
	random := rand.New(rand.NewSource(44))
	for range 40000 {
		b := make([]byte, random.Intn(40))
		random.Read(b)
		checkGetIgmp(t, string(b))
		whole := make([]byte, 32)
		random.Read(whole)
		whole[24] = byte(igmpKinds[random.Intn(4)])
		checkGetIgmp(t, resummed(string(whole)))
		g := impl.Igmp{Kind: int(whole[24]), Group: lowGroup + random.Intn(1<<28), From: random.Intn(1 << 32)}
		checkGetIgmp(t, packetBytes(g, destinationOf(g)))
		if back, ok := impl.GetIgmp(impl.PutIgmp(g)); back != g || !ok {
			t.Fatalf("GetIgmp(PutIgmp(%+v)) = %+v, %v", g, back, ok)
		}
	}
}
