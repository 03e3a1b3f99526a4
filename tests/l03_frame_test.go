package tests

import (
	"encoding/binary"
	"fmt"
	"hash/crc32"
	"math"
	"math/rand"
	"slices"
	"strings"
	"testing"

	"loop.example/g00687/impl"
)

const addresses = "\x02\x00\x00\x00\x00\xab\x02\x00\x00\x00\x00\xcd"

var plainFrame = impl.Frame{Dst: 0x0200000000ab, Src: 0x0200000000cd, Type: 2048, Body: "hi"}
var taggedFrame = impl.Frame{Dst: 0x0200000000ab, Src: 0x0200000000cd, Tagged: true, Vid: 10, Pri: 5, Type: 2048, Body: "hi"}

// Each field's values at the ends of its range, beside them and far from them.
var (
	frameDsts   = []int{0, 1, 0x0200000000ab, 0x010000000000, 0x0180c2000000, 1<<48 - 2, 1<<48 - 1, 1 << 48, 1<<48 + 1, -1, math.MinInt, math.MaxInt}
	frameSrcs   = []int{0, 1, 0x0200000000cd, 0x00ffffffffff, 0x010000000000, 0x01ffffffffff, 0x020000000000, 0xfeffffffffff, 0xff0000000000, 1<<48 - 1, 1 << 48, 1 << 49, -1, math.MinInt, math.MaxInt}
	frameVids   = []int{0, 1, 2, 255, 256, 4093, 4094, 4095, 4096, 4097, 8192, -1, -4095, math.MinInt, math.MaxInt}
	framePris   = []int{0, 1, 6, 7, 8, -1, 65535, math.MinInt, math.MaxInt}
	frameTypes  = []int{0, 1, 1500, 1535, 1536, 1537, 2048, 33023, 33024, 33025, 65534, 65535, 65536, 65536 + 2048, -1, -2048, math.MinInt, math.MaxInt}
	frameBodies = []string{"", "\x00", "hi", "\x81\x00", strings.Repeat("a", 1499), strings.Repeat("b", 1500), strings.Repeat("c", 1501), strings.Repeat("\xff", 1505)}
)

// checkFrames calls check with every frame that differs from a plain or a tagged one in at most two fields' edges.
func checkFrames(check func(f impl.Frame)) {
	var changes [][]func(f *impl.Frame)
	changes = append(changes, changesOf(frameDsts, func(f *impl.Frame, n int) { f.Dst = n }))
	changes = append(changes, changesOf(frameSrcs, func(f *impl.Frame, n int) { f.Src = n }))
	changes = append(changes, changesOf(frameVids, func(f *impl.Frame, n int) { f.Vid = n }))
	changes = append(changes, changesOf(framePris, func(f *impl.Frame, n int) { f.Pri = n }))
	changes = append(changes, changesOf(frameTypes, func(f *impl.Frame, n int) { f.Type = n }))
	changes = append(changes, changesOf(frameBodies, func(f *impl.Frame, s string) { f.Body = s }))
	changes = append(changes, changesOf([]bool{false, true}, func(f *impl.Frame, b bool) { f.Tagged = b }))
	for _, base := range []impl.Frame{{}, plainFrame, taggedFrame} {
		check(base)
		for i, firsts := range changes {
			for _, seconds := range changes[i+1:] {
				checkChanged(base, firsts, seconds, check)
			}
		}
	}
}

func changesOf[T any](values []T, set func(f *impl.Frame, value T)) []func(f *impl.Frame) {
	var changes []func(f *impl.Frame)
	for _, value := range values {
		changes = append(changes, func(f *impl.Frame) { set(f, value) })
	}
	return changes
}

func checkChanged(base impl.Frame, firsts, seconds []func(f *impl.Frame), check func(f impl.Frame)) {
	for _, first := range firsts {
		for _, second := range seconds {
			f := base
			first(&f)
			second(&f)
			check(f)
		}
	}
}

func within(n, low, high int) bool {
	return low <= n && n <= high
}

// brief shows a frame without the whole of a long body.
func brief(f impl.Frame) string {
	cut := min(len(f.Body), 24)
	return fmt.Sprintf("{%#x %#x %v %d %d %d %q of %d bytes}", f.Dst, f.Src, f.Tagged, f.Vid, f.Pri, f.Type, f.Body[:cut], len(f.Body))
}

// validFrame is what the document says of FrameOk.
func validFrame(f impl.Frame) bool {
	addressed := within(f.Dst, 0, 1<<48-1) && within(f.Src, 0, 1<<48-1) && f.Src>>40%2 == 0
	marked := f.Tagged && within(f.Vid, 1, 4094) && within(f.Pri, 0, 7) || !f.Tagged && f.Vid == 0 && f.Pri == 0
	return addressed && marked && within(f.Type, 1536, 65535) && f.Type != 33024 && len(f.Body) <= 1500
}

// withSum appends the checksum that the standard library computes.
func withSum(s string) string {
	return string(binary.LittleEndian.AppendUint32([]byte(s), crc32.ChecksumIEEE([]byte(s))))
}

// wireOf is what the document says of PutFrame.
func wireOf(f impl.Frame) string {
	if !validFrame(f) {
		return ""
	}
	dst := binary.BigEndian.AppendUint64(nil, uint64(f.Dst))
	src := binary.BigEndian.AppendUint64(nil, uint64(f.Src))
	b := slices.Concat(dst[2:], src[2:])
	if f.Tagged {
		b = binary.BigEndian.AppendUint16(b, 33024)
		b = binary.BigEndian.AppendUint16(b, uint16(8192*f.Pri+f.Vid))
	}
	b = binary.BigEndian.AppendUint16(b, uint16(f.Type))
	return withSum(string(b) + f.Body)
}

// codeOf is the code that the document requires of GetFrame.
func codeOf(s string) int {
	n := len(s)
	if n < 18 {
		return impl.FrCut
	}
	if n > 1522 {
		return impl.FrLong
	}
	if withSum(s[:n-4]) != s {
		return impl.FrSum
	}
	two := func(i int) int { return int(s[i])*256 + int(s[i+1]) }
	kind, body := two(12), n-18
	if kind == 33024 {
		if n < 22 || two(14)%4096 == 0 || two(14)%4096 == 4095 || two(14)/4096%2 == 1 {
			return impl.FrTag
		}
		kind, body = two(16), n-22
	}
	switch {
	case kind < 1536 || kind == 33024:
		return impl.FrType
	case s[6]%2 == 1:
		return impl.FrFrom
	case body > 1500:
		return impl.FrLong
	}
	return impl.FrOk
}

// checkGetFrame compares GetFrame(s) with codeOf and, of an accepted frame, its bytes with s.
func checkGetFrame(t *testing.T, s string) {
	t.Helper()
	f, code := impl.GetFrame(s)
	if want := codeOf(s); code != want {
		t.Fatalf("GetFrame(%.40q of %d bytes) = code %d, want %d", s, len(s), code, want)
	}
	if code != impl.FrOk && f != (impl.Frame{}) {
		t.Fatalf("GetFrame(%.40q of %d bytes) = %s beside code %d", s, len(s), brief(f), code)
	}
	if code == impl.FrOk && (!impl.FrameOk(f) || impl.PutFrame(f) != s) {
		t.Fatalf("GetFrame(%.40q of %d bytes) = %s, whose PutFrame is %.40q", s, len(s), brief(f), impl.PutFrame(f))
	}
}

func TestFrameConstants(t *testing.T) {
	codes := []int{impl.FrOk, impl.FrCut, impl.FrLong, impl.FrSum, impl.FrTag, impl.FrType, impl.FrFrom}
	if impl.MaxBody != 1500 || !slices.Equal(codes, []int{0, 1, 2, 3, 4, 5, 6}) {
		t.Error("constants", impl.MaxBody, codes)
	}
}

func TestFrameOk(t *testing.T) {
	valid := []impl.Frame{
		{Type: 1536}, {Type: 65535}, {Type: 33023}, {Type: 33025}, plainFrame, taggedFrame,
		{Dst: 1<<48 - 1, Src: 0xfeffffffffff, Type: 2048}, {Dst: 0x010000000000, Type: 2048},
		{Tagged: true, Vid: 1, Type: 2048}, {Tagged: true, Vid: 4094, Pri: 7, Type: 2048}, {Type: 2048, Body: strings.Repeat("x", 1500)},
		{Tagged: true, Vid: 1, Type: 2048, Body: strings.Repeat("x", 1500)}, {Type: 2048, Body: "\x00\xff\n"},
	}
	for _, f := range valid {
		if !impl.FrameOk(f) {
			t.Errorf("FrameOk(%s) = false", brief(f))
		}
	}
	invalid := []impl.Frame{
		{}, {Type: 1535}, {Type: 65536}, {Type: 33024}, {Type: -1}, {Tagged: true, Vid: 1, Type: 33024},
		{Dst: -1, Type: 2048}, {Dst: 1 << 48, Type: 2048}, {Src: -1, Type: 2048}, {Src: 1 << 48, Type: 2048}, {Src: 0x010000000000, Type: 2048}, {Src: 1<<48 - 1, Type: 2048},
		{Vid: 1, Type: 2048}, {Pri: 1, Type: 2048}, {Vid: -1, Type: 2048}, {Pri: -1, Type: 2048}, {Tagged: true, Type: 2048}, {Tagged: true, Vid: 4095, Type: 2048},
		{Tagged: true, Vid: -1, Type: 2048}, {Tagged: true, Vid: 1, Pri: 8, Type: 2048}, {Tagged: true, Vid: 1, Pri: -1, Type: 2048}, {Type: 2048, Body: strings.Repeat("x", 1501)},
	}
	for _, f := range invalid {
		if impl.FrameOk(f) || impl.PutFrame(f) != "" {
			t.Errorf("FrameOk(%s) = %v, PutFrame of it has %d bytes", brief(f), impl.FrameOk(f), len(impl.PutFrame(f)))
		}
	}
}

func TestFramesAtTheEdges(t *testing.T) {
	valid := 0
	checkFrames(func(f impl.Frame) {
		s := impl.PutFrame(f)
		if impl.FrameOk(f) != validFrame(f) || s != wireOf(f) {
			t.Fatalf("FrameOk(%s) = %v, want %v; PutFrame = %.100q, want %.100q", brief(f), impl.FrameOk(f), validFrame(f), s, wireOf(f))
		}
		if !validFrame(f) {
			return
		}
		valid++
		if back, code := impl.GetFrame(s); back != f || code != impl.FrOk {
			t.Fatalf("GetFrame(PutFrame(%s)) = %s, %d", brief(f), brief(back), code)
		}
	})
	if valid < 500 {
		t.Errorf("only %d valid frames were checked", valid)
	}
}

func TestFrameOfEveryVidAndPri(t *testing.T) {
	for vid := -1; vid <= 4097; vid++ {
		for pri := -1; pri <= 8; pri++ {
			f := impl.Frame{Tagged: true, Vid: vid, Pri: pri, Type: 2048}
			s := impl.PutFrame(f)
			if ok := within(vid, 1, 4094) && within(pri, 0, 7); impl.FrameOk(f) != ok || s != wireOf(f) {
				t.Fatalf("FrameOk(%s) = %v, PutFrame = %q", brief(f), impl.FrameOk(f), s)
			}
			if back, code := impl.GetFrame(s); s != "" && (back != f || code != impl.FrOk) {
				t.Fatalf("GetFrame(PutFrame(%s)) = %s, %d", brief(f), brief(back), code)
			}
		}
	}
}

func TestCrc(t *testing.T) {
	fixed := map[string]int{
		"": 0, "a": 3904355907, "abc": 891568578, "123456789": 3421780262, "\x00": 3523407757, "\x00\x00\x00\x00": 558161692, "\xff\xff\xff\xff": 4294967295,
		"The quick brown fox jumps over the lazy dog": 1095738169,
	}
	for s, want := range fixed {
		if got := impl.Crc(s); got != want {
			t.Errorf("Crc(%q) = %d, want %d", s, got, want)
		}
	}
	random := rand.New(rand.NewSource(3))
	for length := range 1600 {
		b := make([]byte, length)
		random.Read(b)
		for _, s := range []string{string(b), strings.Repeat("\x00", length), strings.Repeat("\xff", length), strings.Repeat("é", length)} {
			if got, want := impl.Crc(s), int(crc32.ChecksumIEEE([]byte(s))); got != want {
				t.Fatalf("Crc(%.40q of %d bytes) = %d, want %d", s, len(s), got, want)
			}
		}
	}
}

func TestCrcOfEveryTwoBytes(t *testing.T) {
	for n := range 65536 {
		s := string([]byte{byte(n >> 8), byte(n)})
		if got, want := impl.Crc(s), int(crc32.ChecksumIEEE([]byte(s))); got != want {
			t.Fatalf("Crc(%q) = %d, want %d", s, got, want)
		}
	}
}

func TestPutFrame(t *testing.T) {
	fixed := []struct {
		f    impl.Frame
		want string
	}{
		{plainFrame, addresses + "\x08\x00hi"},
		{taggedFrame, addresses + "\x81\x00\xa0\x0a\x08\x00hi"},
		{impl.Frame{Type: 1536}, strings.Repeat("\x00", 12) + "\x06\x00"},
		{impl.Frame{Dst: 1<<48 - 1, Src: 0xfedcba987654, Tagged: true, Vid: 4094, Pri: 7, Type: 65535, Body: "\x00"}, "\xff\xff\xff\xff\xff\xff\xfe\xdc\xba\x98\x76\x54\x81\x00\xef\xfe\xff\xff\x00"},
		{impl.Frame{Tagged: true, Vid: 1, Type: 2048, Body: "\x81\x00"}, strings.Repeat("\x00", 12) + "\x81\x00\x00\x01\x08\x00\x81\x00"},
	}
	for _, c := range fixed {
		s := impl.PutFrame(c.f)
		if s != withSum(c.want) {
			t.Errorf("PutFrame(%s) = %q, want %q", brief(c.f), s, withSum(c.want))
		}
		n := impl.PutNum(impl.Crc(c.want), 4)
		if !strings.HasSuffix(s, string([]byte{n[3], n[2], n[1], n[0]})) {
			t.Errorf("PutFrame(%s) = %q does not end with its checksum", brief(c.f), s)
		}
	}
}

func TestGetFrameCodes(t *testing.T) {
	fromGroup := strings.Repeat("\x00", 6) + "\x01\x00\x00\x00\x00\x01"
	body := func(n int) string { return strings.Repeat("x", n) }
	cases := []struct {
		s    string
		want int
	}{
		{"", impl.FrCut}, {"x", impl.FrCut}, {body(17), impl.FrCut}, {addresses, impl.FrCut}, {withSum(addresses), impl.FrCut}, {withSum(addresses + "\x08"), impl.FrCut},
		{withSum(addresses + "\x81"), impl.FrCut}, {addresses + "\x81\x00\x00\x01\x08", impl.FrCut},
		{body(18), impl.FrSum}, {body(1522), impl.FrSum}, {body(1523), impl.FrLong}, {body(100000), impl.FrLong},
		{withSum(addresses + "\x08\x00"), impl.FrOk}, {withSum(addresses + "\x08\x00" + body(1500)), impl.FrOk}, {withSum(addresses + "\x06\x00"), impl.FrOk}, {withSum(addresses + "\xff\xff"), impl.FrOk},
		{withSum(addresses + "\x81\x00"), impl.FrTag}, {withSum(addresses + "\x81\x00\x00"), impl.FrTag}, {withSum(addresses + "\x81\x00\x00\x01"), impl.FrTag}, {withSum(addresses + "\x81\x00\x00\x01\x08"), impl.FrTag},
		{withSum(addresses + "\x81\x00\x00\x01\x08\x00"), impl.FrOk}, {withSum(addresses + "\x81\x00\x0f\xfe\x08\x00"), impl.FrOk}, {withSum(addresses + "\x81\x00\xef\xfe\x08\x00" + body(1500)), impl.FrOk},
		{withSum(addresses + "\x81\x00\x00\x00\x08\x00"), impl.FrTag}, {withSum(addresses + "\x81\x00\x0f\xff\x08\x00"), impl.FrTag}, {withSum(addresses + "\x81\x00\x10\x01\x08\x00"), impl.FrTag},
		{withSum(addresses + "\x81\x00\xe0\x00\x08\x00"), impl.FrTag}, {withSum(addresses + "\x81\x00\xff\xff\x08\x00"), impl.FrTag},
		{withSum(addresses + "\x05\xff"), impl.FrType}, {withSum(addresses + "\x00\x00"), impl.FrType}, {withSum(addresses + "\x81\x00\x00\x01\x81\x00"), impl.FrType},
		{withSum(addresses + "\x81\x00\x00\x01\x05\xff"), impl.FrType}, {withSum(addresses + "\x81\x00\x00\x01\x81\x00\x00\x01\x08\x00"), impl.FrType},
		{withSum(fromGroup + "\x08\x00"), impl.FrFrom}, {withSum(fromGroup + "\x81\x00\x00\x01\x08\x00"), impl.FrFrom}, {withSum(strings.Repeat("\xff", 12) + "\x08\x00"), impl.FrFrom},
		{withSum(addresses + "\x08\x00" + body(1501)), impl.FrLong}, {withSum(addresses + "\x08\x00" + body(1504)), impl.FrLong}, {withSum(addresses + "\x08\x00" + body(1505)), impl.FrLong},
		{withSum(addresses + "\x81\x00\x00\x01\x08\x00" + body(1501)), impl.FrLong},
	}
	for _, c := range cases {
		if f, code := impl.GetFrame(c.s); code != c.want || code != impl.FrOk && f != (impl.Frame{}) {
			t.Errorf("GetFrame(%.40q of %d bytes) = %s, %d, want %d", c.s, len(c.s), brief(f), code, c.want)
		}
		checkGetFrame(t, c.s)
	}
}

func TestGetFrameFirstReasonDecides(t *testing.T) {
	group := strings.Repeat("\xff", 12)
	long := strings.Repeat("x", 1501)
	cases := []struct {
		s    string
		want int
	}{
		{group + "\x81\x00\x00\x00\x00", impl.FrCut}, {group + "\x81\x00\x00\x00\x00\x00" + long + "sum?", impl.FrLong}, {withSum(group + "\x81\x00\x00\x00\x00\x00" + long), impl.FrLong},
		{group + "\x81\x00sum?", impl.FrSum}, {group + "\x81\x00\x00\x00\x00\x00sum?", impl.FrSum}, {group + "\x00\x00" + long + "sum?", impl.FrSum},
		{withSum(group + "\x81\x00"), impl.FrTag}, {withSum(group + "\x81\x00\x00\x00"), impl.FrTag}, {withSum(group + "\x81\x00\x00\x00\x00\x00"), impl.FrTag}, {withSum(group + "\x81\x00\x10\x01\x81\x00"), impl.FrTag},
		{withSum(group + "\x81\x00\x00\x01\x00\x00"), impl.FrType}, {withSum(group + "\x00\x00"), impl.FrType}, {withSum(group + "\x00\x00" + long), impl.FrType}, {withSum(addresses + "\x00\x00" + long), impl.FrType},
		{withSum(group + "\x08\x00" + long), impl.FrFrom}, {withSum(group + "\x81\x00\x00\x01\x08\x00"), impl.FrFrom},
	}
	for _, c := range cases {
		if f, code := impl.GetFrame(c.s); code != c.want || f != (impl.Frame{}) {
			t.Errorf("GetFrame(%.40q of %d bytes) = %s, %d, want %d", c.s, len(c.s), brief(f), code, c.want)
		}
		checkGetFrame(t, c.s)
	}
}

func TestGetFrameOfEveryLength(t *testing.T) {
	heads := []string{
		addresses + "\x08\x00", addresses + "\x81\x00\x00\x05\x08\x00", addresses + "\x81\x00\x00\x00\x08\x00", addresses + "\x81\x00\x00\x05\x81\x00",
		addresses + "\x05\xff", strings.Repeat("\xff", 12) + "\x08\x00", strings.Repeat("\x00", 18),
	}
	for _, head := range heads {
		whole := head + strings.Repeat("\x00body", 305)
		for length := range 1524 {
			checkGetFrame(t, whole[:length])
			checkGetFrame(t, withSum(whole[:length]))
		}
	}
}

func TestGetFrameOfEveryTagAndType(t *testing.T) {
	for n := range 65536 {
		two := string([]byte{byte(n >> 8), byte(n)})
		checkGetFrame(t, withSum(addresses+two))
		checkGetFrame(t, withSum(addresses+two+"\x08\x00\x08\x00"))
		checkGetFrame(t, withSum(addresses+"\x81\x00"+two+"\x08\x00"))
		checkGetFrame(t, withSum(addresses+"\x81\x00\x20\x01"+two+"hi"))
	}
}

func TestGetFrameOfEverySource(t *testing.T) {
	for first := range 256 {
		src := string([]byte{byte(first)}) + "\x01\x01\x01\x01\x01"
		checkGetFrame(t, withSum(src+src+"\x08\x00hi"))
		checkGetFrame(t, withSum(src+"\x00\x01\x01\x01\x01\x01\x08\x00hi"))
		checkGetFrame(t, withSum(src+src+"\x81\x00\x20\x01\x08\x00hi"))
	}
}

func TestGetFrameOfRandomBytes(t *testing.T) {
	random := rand.New(rand.NewSource(33))
	for range 60000 {
		b := make([]byte, random.Intn(40))
		random.Read(b)
		if len(b) > 16 && random.Intn(2) == 0 {
			copy(b[12:], []byte{0x81, 0, byte(random.Intn(256)) &^ byte(random.Intn(256))})
		}
		checkGetFrame(t, string(b))
		checkGetFrame(t, withSum(string(b)))
	}
}

func TestTurnedBitIsRejected(t *testing.T) {
	long := plainFrame
	long.Body = strings.Repeat("long", 375)
	frames := []impl.Frame{plainFrame, taggedFrame, long, {Type: 1536}, {Tagged: true, Vid: 4094, Pri: 7, Type: 65535, Body: "\x00"}}
	for _, f := range frames {
		s := impl.PutFrame(f)
		for bit := range 8 * len(s) {
			b := []byte(s)
			b[bit/8] ^= 1 << (bit % 8)
			if back, code := impl.GetFrame(string(b)); code != impl.FrSum || back != (impl.Frame{}) {
				t.Fatalf("GetFrame of PutFrame(%s) with bit %d turned = %s, %d", brief(f), bit, brief(back), code)
			}
		}
	}
}

func TestChangedBytesAreRejected(t *testing.T) {
	for _, f := range []impl.Frame{plainFrame, taggedFrame} {
		s := impl.PutFrame(f)
		for _, near := range nearTexts(s) {
			back, code := impl.GetFrame(near)
			if near == s && (back != f || code != impl.FrOk) || near != s && (back != impl.Frame{} || code == impl.FrOk) {
				t.Fatalf("GetFrame(%q) = %s, %d, beside the frame's %q", near, brief(back), code, s)
			}
		}
	}
}

func TestGetFrameOfOtherChecksums(t *testing.T) {
	covered := addresses + "\x08\x00hi"
	sum := crc32.ChecksumIEEE([]byte(covered))
	bigEndian := string(binary.BigEndian.AppendUint32([]byte(covered), sum))
	notComplemented := string(binary.LittleEndian.AppendUint32([]byte(covered), ^sum))
	for _, s := range []string{bigEndian, notComplemented, covered + "\x00\x00\x00\x00", covered + "\xff\xff\xff\xff", withSum("") + covered, withSum(covered) + "\x00"} {
		if f, code := impl.GetFrame(s); code != impl.FrSum || f != (impl.Frame{}) {
			t.Errorf("GetFrame(%q) = %s, %d, want FrSum", s, brief(f), code)
		}
	}
	if f, code := impl.GetFrame(withSum(covered)); code != impl.FrOk || f != plainFrame {
		t.Errorf("GetFrame(%q) = %s, %d", withSum(covered), brief(f), code)
	}
}
