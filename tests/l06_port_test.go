package tests

import (
	"math"
	"math/rand"
	"slices"
	"testing"

	"loop.example/g00687/impl"
)

// Each number's values at the ends of its range, beside them and far from them.
var (
	portVids    = []int{0, 1, 2, 9, 10, 11, 4093, 4094, 4095, 4096, 4097, -1, -10, math.MinInt, math.MaxInt}
	portAccepts = []int{impl.AcAll, impl.AcTagged, impl.AcPlain, 3, 4, -1, 256, math.MinInt, math.MaxInt}
	portPris    = []int{-1, 0, 1, 6, 7, 8, math.MinInt, math.MaxInt}
)

// Junk numbers are written where nothing of the program may look or write.
const junk = -77

type portCall = change[impl.Port]

func setCall(vid int, plain bool) portCall {
	return change2("SetMember", impl.SetMember, wantSetMember, vid, plain)
}

func dropCall(vid int) portCall {
	return change1("DropMember", impl.DropMember, wantDropMember, vid)
}

// memberCalls are all calls that change a port with regard to one of the numbers.
func memberCalls(vids ...int) []portCall {
	var calls []portCall
	for _, vid := range vids {
		calls = append(calls, setCall(vid, true), setCall(vid, false), dropCall(vid))
	}
	return calls
}

// validVlans and validPort are what the document says of PortOk.
func validVlans(list []int) bool {
	outside := func(n int) bool { return !within(n, 1, 4094) }
	ascending := slices.Compact(slices.Sorted(slices.Values(list)))
	return len(list) <= 20 && slices.Equal(list, ascending) && !slices.ContainsFunc(list, outside)
}

func validPort(p impl.Port) bool {
	notIn := func(n int) bool { return !slices.Contains(p.In, n) }
	listed := validVlans(p.In) && validVlans(p.Plain) && !slices.ContainsFunc(p.Plain, notIn)
	return within(p.Pvid, 1, 4094) && listed && within(p.Accept, 0, 2)
}

func wantIngress(p impl.Port, f impl.Frame) (int, bool) {
	vid := p.Pvid
	if f.Tagged {
		vid = f.Vid
	}
	refused := p.Accept == 1 && !f.Tagged || p.Accept == 2 && f.Tagged
	if !validPort(p) || !validFrame(f) || refused || !slices.Contains(p.In, vid) {
		return 0, false
	}
	return vid, true
}

func wantEgress(p impl.Port, vid int, f impl.Frame, pri int) (impl.Frame, bool) {
	g := impl.Frame{Dst: f.Dst, Src: f.Src, Type: f.Type, Body: f.Body}
	if !slices.Contains(p.Plain, vid) {
		g.Tagged, g.Vid, g.Pri = true, vid, pri
	}
	if !validPort(p) || !slices.Contains(p.In, vid) || !validFrame(g) {
		return impl.Frame{}, false
	}
	return g, true
}

func wantSetMember(p impl.Port, vid int, plain bool) impl.Port {
	q := impl.Port{Pvid: p.Pvid, In: append(except(p.In, vid), vid), Plain: except(p.Plain, vid), Accept: p.Accept}
	slices.Sort(q.In)
	if plain {
		q.Plain = append(q.Plain, vid)
		slices.Sort(q.Plain)
	}
	if !validPort(p) || !validPort(q) {
		return p
	}
	return q
}

func wantDropMember(p impl.Port, vid int) impl.Port {
	if !validPort(p) {
		return p
	}
	return impl.Port{Pvid: p.Pvid, In: except(p.In, vid), Plain: except(p.Plain, vid), Accept: p.Accept}
}

func except(list []int, gone int) []int {
	var rest []int
	for _, n := range list {
		if n != gone {
			rest = append(rest, n)
		}
	}
	return rest
}

func samePort(a, b impl.Port) bool {
	return a.Pvid == b.Pvid && a.Accept == b.Accept && slices.Equal(a.In, b.In) && slices.Equal(a.Plain, b.Plain)
}

// lend puts both lists of a port into one array, with junk around them, and returns the port with these lists,
// the array, and a function that reports whether all of the array is as it was. A nil list stays one.
func lend(p impl.Port) (impl.Port, []int, func() bool) {
	array := slices.Concat([]int{junk}, p.In, []int{junk, junk}, p.Plain, []int{junk, junk, junk})
	before := slices.Clone(array)
	if p.In != nil {
		p.In = array[1 : 1+len(p.In)]
	}
	if p.Plain != nil {
		p.Plain = array[len(array)-3-len(p.Plain) : len(array)-3]
	}
	return p, array, func() bool { return slices.Equal(array, before) }
}

// smear overwrites all that a list can reach.
func smear(list []int) {
	for i := range list[:cap(list)] {
		list[:cap(list)][i] = junk
	}
}

// checkPort compares what c returns with what the document says, and checks that p stays as it was,
// that the results share no memory with p or with each other, and that a valid port remains valid.
func checkPort(t *testing.T, p impl.Port, c portCall) impl.Port {
	t.Helper()
	given, array, intact := lend(p)
	want := c.want(p)
	first, second := c.call(given), c.call(given)
	if !samePort(first, want) || !intact() {
		t.Fatalf("%s of %+v\n= %+v, want\n  %+v; the argument is as it was: %v", c.name, p, first, want, intact())
	}
	if got := impl.PortOk(first); got != validPort(p) {
		t.Fatalf("%s of %+v = %+v, whose PortOk is %v", c.name, p, first, got)
	}
	smear(first.In)
	if !intact() || !slices.Equal(first.Plain, want.Plain) || !samePort(second, want) {
		t.Fatalf("%s of %+v: In of the result shares memory", c.name, p)
	}
	smear(first.Plain)
	if !intact() || !samePort(second, want) {
		t.Fatalf("%s of %+v: Plain of the result shares memory", c.name, p)
	}
	smear(second.Plain)
	if !slices.Equal(second.In, want.In) {
		t.Fatalf("%s of %+v: the lists of the result share memory", c.name, p)
	}
	third := c.call(given)
	smear(array)
	if !samePort(third, want) {
		t.Fatalf("%s of %+v: the result is part of the argument", c.name, p)
	}
	return third
}

// checkPortOk and the three behind it compare an answer with what the document says and check that p stays as it was.
func checkPortOk(t *testing.T, p impl.Port) {
	t.Helper()
	given, _, intact := lend(p)
	if got, want := impl.PortOk(given), validPort(p); got != want || !intact() {
		t.Fatalf("PortOk(%+v) = %v, want %v; the argument is as it was: %v", p, got, want, intact())
	}
}

func checkMember(t *testing.T, p impl.Port, vid int) {
	t.Helper()
	given, _, intact := lend(p)
	if got, want := impl.Member(given, vid), slices.Contains(p.In, vid); got != want || !intact() {
		t.Fatalf("Member(%+v, %d) = %v, want %v; the argument is as it was: %v", p, vid, got, want, intact())
	}
}

func checkIngress(t *testing.T, p impl.Port, f impl.Frame) {
	t.Helper()
	given, _, intact := lend(p)
	vid, ok := impl.Ingress(given, f)
	if wantVid, wantOk := wantIngress(p, f); vid != wantVid || ok != wantOk || !intact() {
		t.Fatalf("Ingress(%+v, %s) = %d, %v, want %d, %v; the argument is as it was: %v", p, brief(f), vid, ok, wantVid, wantOk, intact())
	}
}

func checkEgress(t *testing.T, p impl.Port, vid int, f impl.Frame, pri int) {
	t.Helper()
	given, _, intact := lend(p)
	g, ok := impl.Egress(given, vid, f, pri)
	if want, wantOk := wantEgress(p, vid, f, pri); g != want || ok != wantOk || !intact() {
		t.Fatalf("Egress(%+v, %d, %s, %d) = %s, %v, want %s, %v; the argument is as it was: %v", p, vid, brief(f), pri, brief(g), ok, brief(want), wantOk, intact())
	}
}

// run returns as many numbers as n, from first on, each greater than the one before by step.
func run(first, n, step int) []int {
	list := []int{}
	for i := range n {
		list = append(list, first+i*step)
	}
	return list
}

// validPorts and invalidPorts hold ports with every kind of lists; the latter one for every reason to be invalid.
func validPorts() []impl.Port {
	return []impl.Port{
		{Pvid: 1}, {Pvid: 1, In: []int{}, Plain: []int{}}, {Pvid: 4094, Accept: impl.AcPlain}, {Pvid: 1, In: []int{1}}, {Pvid: 1, In: []int{1}, Plain: []int{1}}, {Pvid: 2, In: []int{1}, Plain: []int{1}, Accept: impl.AcTagged},
		{Pvid: 10, In: []int{1, 10}, Plain: []int{1}}, {Pvid: 10, In: []int{1, 10}, Plain: []int{10}}, {Pvid: 10, In: []int{1, 10}, Plain: []int{1, 10}, Accept: impl.AcTagged}, {Pvid: 10, In: []int{1, 10}, Accept: impl.AcPlain},
		{Pvid: 1, In: []int{4094}}, {Pvid: 4094, In: []int{1, 4094}, Plain: []int{4094}}, {Pvid: 3, In: []int{1, 2, 9, 10, 11, 100, 4093, 4094}, Plain: []int{1, 9, 11, 4094}},
		{Pvid: 1, In: run(1, 20, 1)}, {Pvid: 20, In: run(1, 20, 1), Plain: run(1, 20, 1)}, {Pvid: 9, In: run(4075, 20, 1), Plain: run(4094, 1, 1)}, {Pvid: 9, In: run(9, 20, 215), Plain: run(9, 10, 430)}, {Pvid: 9, In: run(2, 19, 1), Plain: run(2, 19, 1)},
	}
}

func invalidPorts() []impl.Port {
	ports := []impl.Port{
		{}, {In: []int{1}, Plain: []int{1}}, {Pvid: -1}, {Pvid: 4095}, {Pvid: 4095, In: []int{1, 10}, Plain: []int{10}}, {Pvid: math.MinInt}, {Pvid: math.MaxInt}, {Pvid: 1, Accept: -1}, {Pvid: 1, Accept: 3}, {Pvid: 1, In: []int{1, 10}, Plain: []int{1}, Accept: 3}, {Pvid: 1, Accept: math.MaxInt},
		{Pvid: 1, In: run(1, 21, 1)}, {Pvid: 1, In: run(1, 21, 1), Plain: run(1, 20, 1)}, {Pvid: 1, In: run(1, 21, 1), Plain: run(1, 21, 1)}, {Pvid: 1, In: run(1, 20, 1), Plain: run(1, 21, 1)}, {Pvid: 1, In: run(1, 300, 1)},
		{Pvid: 1, Plain: []int{1}}, {Pvid: 1, In: []int{}, Plain: []int{1}}, {Pvid: 1, In: []int{1}, Plain: []int{2}}, {Pvid: 1, In: []int{2}, Plain: []int{1}}, {Pvid: 1, In: []int{1, 3}, Plain: []int{2}}, {Pvid: 1, In: []int{1, 3}, Plain: []int{1, 2, 3}}, {Pvid: 1, In: []int{1, 3}, Plain: []int{1, 4}}, {Pvid: 1, In: run(1, 20, 1), Plain: []int{21}},
	}
	for _, bad := range [][]int{{2, 1}, {10, 9}, {1, 3, 2}, {3, 1, 2}, {1, 1}, {1, 2, 2}, {1, 1, 2}, {1, 2, 1}, {0}, {0, 1}, {1, 0}, {4095}, {1, 4095}, {4095, 1}, {4094, 4095}, {-1}, {-1, 1}, {math.MinInt, 1}, {1, math.MaxInt}, {1, 4096}, {1, 65537}, {10, 1}, {1, 2, 10, 9}} {
		ports = append(ports, impl.Port{Pvid: 1, In: bad}, impl.Port{Pvid: 1, In: bad, Plain: bad}, impl.Port{Pvid: 1, In: bad, Plain: bad[:1]}, impl.Port{Pvid: 1, In: []int{1, 2, 3, 9, 10}, Plain: bad})
	}
	return ports
}

func TestPortConstants(t *testing.T) {
	if impl.AcAll != 0 || impl.AcTagged != 1 || impl.AcPlain != 2 {
		t.Error("constants", impl.AcAll, impl.AcTagged, impl.AcPlain)
	}
}

func TestPortOk(t *testing.T) {
	for i, p := range validPorts() {
		if !impl.PortOk(p) {
			t.Errorf("PortOk of valid port %d, %+v, = false", i, p)
		}
		checkPortOk(t, p)
	}
	for i, p := range invalidPorts() {
		if impl.PortOk(p) {
			t.Errorf("PortOk of invalid port %d, %+v, = true", i, p)
		}
		checkPortOk(t, p)
	}
}

func TestPortNumbersAtTheEdges(t *testing.T) {
	valid := 0
	for _, pvid := range portVids {
		for _, accept := range portAccepts {
			for _, vid := range portVids {
				for _, p := range []impl.Port{{}, {In: []int{vid}}, {In: []int{vid}, Plain: []int{vid}}, {In: []int{9, vid}}, {In: []int{vid, 10}, Plain: []int{10}}, {In: []int{10}, Plain: []int{vid}}} {
					p.Pvid, p.Accept = pvid, accept
					checkPortOk(t, p)
					valid += b2n(impl.PortOk(p))
				}
			}
		}
	}
	if want := 7 * 3 * (15 + 7 + 7 + 4 + 3 + 1); valid != want {
		t.Errorf("%d ports are valid, want %d", valid, want)
	}
}

func TestListsOfEveryLength(t *testing.T) {
	for members := range 23 {
		for plain := range members + 2 {
			for _, first := range []int{1, 100, 4094 - 2*members} {
				p := impl.Port{Pvid: 1, In: run(first, members, 2), Plain: run(first, plain, 2)}
				checkPortOk(t, p)
				if got, want := impl.PortOk(p), members <= 20 && plain <= members && first+2*members <= 4096; got != want {
					t.Fatalf("PortOk with %d elements in In and %d in Plain, from %d on, = %v", members, plain, first, got)
				}
				last := first + 2*members
				for _, c := range memberCalls(first-1, first, first+1, last-4, last-2, last-1, last) {
					checkPort(t, p, c)
				}
			}
		}
	}
}

// An invalid port comes back as it is, and nothing enters or leaves it; who is in In is in In all the same.
func TestInvalidPorts(t *testing.T) {
	for i, p := range invalidPorts() {
		for _, vid := range append(portVids, p.In...) {
			for _, c := range memberCalls(vid) {
				if q := checkPort(t, p, c); !samePort(q, p) {
					t.Errorf("%s of invalid port %d, %+v, = %+v", c.name, i, p, q)
				}
			}
			checkMember(t, p, vid)
			for _, f := range []impl.Frame{plainFrame, taggedFrame, {}, {Dst: 4, Src: 2, Tagged: true, Vid: vid, Type: 2048}} {
				if got, ok := impl.Ingress(p, f); got != 0 || ok {
					t.Errorf("Ingress of invalid port %d, %+v, = %d, %v", i, p, got, ok)
				}
				if g, ok := impl.Egress(p, vid, f, 3); g != (impl.Frame{}) || ok {
					t.Errorf("Egress of invalid port %d, %+v, in %d = %s, %v", i, p, vid, brief(g), ok)
				}
				checkIngress(t, p, f)
				checkEgress(t, p, vid, f, 3)
			}
		}
	}
}

func TestMember(t *testing.T) {
	p := impl.Port{Pvid: 5, In: []int{1, 10, 4094}, Plain: []int{10}}
	for _, vid := range portVids {
		if got, want := impl.Member(p, vid), vid == 1 || vid == 10 || vid == 4094; got != want {
			t.Errorf("Member(%+v, %d) = %v", p, vid, got)
		}
	}
	for _, p := range validPorts() {
		for vid := -2; vid <= 4097; vid++ {
			checkMember(t, p, vid)
		}
		for _, vid := range portVids {
			checkMember(t, p, vid)
		}
	}
	if !impl.Member(impl.Port{In: []int{3, 0, 4095, 0}}, 0) || !impl.Member(impl.Port{In: []int{3, 0, 4095, 1}}, 1) || impl.Member(impl.Port{Plain: []int{1}}, 1) || impl.Member(impl.Port{Pvid: 1}, 1) {
		t.Error("Member of an invalid port asks for more than In")
	}
}

func TestIngress(t *testing.T) {
	p := impl.Port{Pvid: 1, In: []int{1, 10}, Plain: []int{1}}
	other := impl.Port{Pvid: 20, In: []int{1, 10}, Plain: []int{1}}
	ranked := impl.Frame{Dst: 4, Src: 2, Tagged: true, Vid: 10, Pri: 7, Type: 2048}
	elsewhere := impl.Frame{Dst: 4, Src: 2, Tagged: true, Vid: 20, Type: 2048}
	rows := []struct {
		p      impl.Port
		accept int
		f      impl.Frame
		vid    int
	}{
		{p, impl.AcAll, plainFrame, 1}, {p, impl.AcTagged, plainFrame, 0}, {p, impl.AcPlain, plainFrame, 1}, {p, 3, plainFrame, 0}, {p, -1, plainFrame, 0},
		{p, impl.AcAll, taggedFrame, 10}, {p, impl.AcTagged, taggedFrame, 10}, {p, impl.AcPlain, taggedFrame, 0}, {p, 3, taggedFrame, 0}, {p, -1, taggedFrame, 0},
		{p, impl.AcAll, ranked, 10}, {p, impl.AcTagged, ranked, 10}, {p, impl.AcPlain, ranked, 0}, {p, impl.AcAll, elsewhere, 0}, {p, impl.AcTagged, elsewhere, 0}, {p, impl.AcPlain, elsewhere, 0},
		{other, impl.AcAll, plainFrame, 0}, {other, impl.AcTagged, plainFrame, 0}, {other, impl.AcPlain, plainFrame, 0}, {other, impl.AcAll, taggedFrame, 10}, {other, impl.AcTagged, taggedFrame, 10}, {other, impl.AcPlain, taggedFrame, 0}, {other, impl.AcAll, elsewhere, 0},
		{p, impl.AcAll, impl.Frame{}, 0}, {p, impl.AcAll, impl.Frame{Dst: 4, Src: 2, Vid: 10, Type: 2048}, 0}, {p, impl.AcAll, impl.Frame{Dst: 4, Src: 2, Pri: 1, Type: 2048}, 0}, {p, impl.AcAll, impl.Frame{Dst: 4, Src: groupMac, Type: 2048}, 0}, {p, impl.AcAll, impl.Frame{Dst: 4, Src: 2, Tagged: true, Vid: 10, Pri: 8, Type: 2048}, 0}, {p, impl.AcAll, impl.Frame{Dst: 4, Src: 2, Tagged: true, Type: 2048}, 0},
		{impl.Port{Pvid: 1}, impl.AcAll, plainFrame, 0}, {impl.Port{Pvid: 1}, impl.AcAll, taggedFrame, 0}, {impl.Port{Pvid: 4094, In: []int{4094}}, impl.AcPlain, plainFrame, 4094}, {impl.Port{Pvid: 1, In: []int{10}}, impl.AcAll, taggedFrame, 10},
	}
	for i, r := range rows {
		r.p.Accept = r.accept
		if vid, ok := impl.Ingress(r.p, r.f); vid != r.vid || ok != (r.vid != 0) {
			t.Errorf("row %d: Ingress(%+v, %s) = %d, %v, want %d", i, r.p, brief(r.f), vid, ok, r.vid)
		}
		checkIngress(t, r.p, r.f)
	}
}

// Every frame at the edges of its fields, at each Accept, where its VLAN is in In and where it is not.
func TestIngressOfFramesAtTheEdges(t *testing.T) {
	ports := []impl.Port{{Pvid: 1, In: []int{1, 2, 10, 255, 4093, 4094}, Plain: []int{2}}, {Pvid: 2, In: []int{1, 10}}, {Pvid: 9, In: []int{9}, Plain: []int{9}}, {Pvid: 1}, {In: []int{10}}}
	entered := 0
	checkFrames(func(f impl.Frame) {
		for _, p := range ports {
			for accept := -1; accept <= 3; accept++ {
				p.Accept = accept
				checkIngress(t, p, f)
				_, ok := impl.Ingress(p, f)
				entered += b2n(ok)
			}
		}
	})
	if entered < 1000 {
		t.Errorf("only %d frames entered", entered)
	}
}

func TestEgress(t *testing.T) {
	p := impl.Port{Pvid: 1, In: []int{1, 10, 4094}, Plain: []int{10}}
	plain := impl.Frame{Dst: 4, Src: 2, Type: 2048, Body: "hi"}
	tagged := impl.Frame{Dst: 4, Src: 2, Tagged: true, Vid: 1, Pri: 5, Type: 2048, Body: "hi"}
	asTagged := func(vid, pri int) impl.Frame {
		return impl.Frame{Dst: 4, Src: 2, Tagged: true, Vid: vid, Pri: pri, Type: 2048, Body: "hi"}
	}
	rows := []struct {
		vid  int
		f    impl.Frame
		pri  int
		want impl.Frame
	}{
		{10, plain, 0, plain}, {10, plain, 7, plain}, {10, plain, -1, plain}, {10, plain, 8, plain}, {10, tagged, 3, plain}, {10, tagged, 8, plain}, {10, asTagged(0, 0), 3, plain}, {10, asTagged(4095, 9), 3, plain},
		{1, plain, 0, asTagged(1, 0)}, {1, plain, 7, asTagged(1, 7)}, {1, plain, -1, impl.Frame{}}, {1, plain, 8, impl.Frame{}}, {1, tagged, 3, asTagged(1, 3)}, {1, tagged, 8, impl.Frame{}}, {1, asTagged(10, 8), 0, asTagged(1, 0)}, {4094, asTagged(-1, -1), 5, asTagged(4094, 5)},
		{2, plain, 0, impl.Frame{}}, {0, plain, 0, impl.Frame{}}, {4095, plain, 0, impl.Frame{}}, {-1, tagged, 0, impl.Frame{}}, {9, asTagged(9, 1), 1, impl.Frame{}},
		{10, impl.Frame{Dst: 4, Src: 2, Vid: 7, Pri: 9, Type: 2048, Body: "hi"}, 0, plain}, {1, impl.Frame{Dst: 4, Src: 2, Vid: 7, Pri: 9, Type: 2048, Body: "hi"}, 2, asTagged(1, 2)},
		{10, impl.Frame{}, 0, impl.Frame{}}, {1, impl.Frame{}, 0, impl.Frame{}}, {10, impl.Frame{Dst: 4, Src: groupMac, Type: 2048}, 0, impl.Frame{}}, {1, impl.Frame{Dst: 4, Src: 2, Type: 33024}, 0, impl.Frame{}}, {1, impl.Frame{Dst: -1, Src: 2, Type: 2048}, 0, impl.Frame{}},
	}
	for i, r := range rows {
		g, ok := impl.Egress(p, r.vid, r.f, r.pri)
		if g != r.want || ok != (r.want != impl.Frame{}) {
			t.Errorf("row %d: Egress(.., %d, %s, %d) = %s, %v, want %s", i, r.vid, brief(r.f), r.pri, brief(g), ok, brief(r.want))
		}
		checkEgress(t, p, r.vid, r.f, r.pri)
	}
}

// Every frame at the edges of its fields, leaving tagged, untagged and not at all.
func TestEgressOfFramesAtTheEdges(t *testing.T) {
	p := impl.Port{Pvid: 1, In: []int{1, 2, 4094}, Plain: []int{2}, Accept: impl.AcPlain}
	left := 0
	checkFrames(func(f impl.Frame) {
		for _, vid := range []int{0, 1, 2, 3, 4094, f.Vid} {
			for _, pri := range []int{-1, 0, 7, 8} {
				checkEgress(t, p, vid, f, pri)
			}
		}
		_, ok := impl.Egress(p, 2, f, 8)
		left += b2n(ok && !impl.FrameOk(f))
	})
	if left < 100 {
		t.Errorf("only %d invalid frames left as valid ones", left)
	}
	for _, p := range append(validPorts(), invalidPorts()...) {
		for _, vid := range append(portVids, p.In...) {
			for _, pri := range portPris {
				checkEgress(t, p, vid, plainFrame, pri)
				checkEgress(t, p, vid, taggedFrame, pri)
			}
		}
	}
}

func TestSetMember(t *testing.T) {
	p := impl.Port{Pvid: 3, Accept: impl.AcTagged}
	steps := []struct {
		vid   int
		plain bool
		in    []int
		out   []int
	}{
		{10, false, []int{10}, nil}, {9, true, []int{9, 10}, []int{9}}, {4094, true, []int{9, 10, 4094}, []int{9, 4094}}, {1, true, []int{1, 9, 10, 4094}, []int{1, 9, 4094}},
		{9, true, []int{1, 9, 10, 4094}, []int{1, 9, 4094}}, {9, false, []int{1, 9, 10, 4094}, []int{1, 4094}}, {9, false, []int{1, 9, 10, 4094}, []int{1, 4094}}, {10, true, []int{1, 9, 10, 4094}, []int{1, 10, 4094}},
		{0, true, []int{1, 9, 10, 4094}, []int{1, 10, 4094}}, {4095, false, []int{1, 9, 10, 4094}, []int{1, 10, 4094}}, {-1, false, []int{1, 9, 10, 4094}, []int{1, 10, 4094}}, {3, false, []int{1, 3, 9, 10, 4094}, []int{1, 10, 4094}},
	}
	for i, s := range steps {
		p = checkPort(t, p, setCall(s.vid, s.plain))
		if p.Pvid != 3 || p.Accept != impl.AcTagged || !slices.Equal(p.In, s.in) || !slices.Equal(p.Plain, s.out) {
			t.Fatalf("step %d: SetMember(.., %d, %v) = %+v", i, s.vid, s.plain, p)
		}
	}
}

func TestDropMember(t *testing.T) {
	p := impl.Port{Pvid: 10, In: []int{1, 9, 10, 11, 4094}, Plain: []int{1, 10, 4094}, Accept: impl.AcPlain}
	steps := []struct {
		vid int
		in  []int
		out []int
	}{
		{2, []int{1, 9, 10, 11, 4094}, []int{1, 10, 4094}}, {0, []int{1, 9, 10, 11, 4094}, []int{1, 10, 4094}}, {4095, []int{1, 9, 10, 11, 4094}, []int{1, 10, 4094}}, {9, []int{1, 10, 11, 4094}, []int{1, 10, 4094}},
		{10, []int{1, 11, 4094}, []int{1, 4094}}, {10, []int{1, 11, 4094}, []int{1, 4094}}, {4094, []int{1, 11}, []int{1}}, {1, []int{11}, nil}, {11, nil, nil}, {11, nil, nil},
	}
	for i, s := range steps {
		p = checkPort(t, p, dropCall(s.vid))
		if p.Pvid != 10 || p.Accept != impl.AcPlain || !slices.Equal(p.In, s.in) || !slices.Equal(p.Plain, s.out) {
			t.Fatalf("step %d: DropMember(.., %d) = %+v", i, s.vid, p)
		}
	}
}

// A port takes 20 VLANs: another one is refused, one that it has is not.
func TestFullPort(t *testing.T) {
	p := impl.Port{Pvid: 1}
	for i := range 20 {
		p = checkPort(t, p, setCall(4000-100*i, i%3 == 0))
		if len(p.In) != i+1 {
			t.Fatalf("the port has %d VLANs, want %d", len(p.In), i+1)
		}
	}
	for vid := -1; vid <= 4096; vid++ {
		known := vid >= 2100 && vid <= 4000 && vid%100 == 0
		for _, plain := range []bool{false, true} {
			q := checkPort(t, p, setCall(vid, plain))
			if impl.Member(q, vid) != known || slices.Contains(q.Plain, vid) != (known && plain) || !known && !samePort(q, p) {
				t.Fatalf("SetMember(.., %d, %v) of a full port = %+v", vid, plain, q)
			}
		}
		checkPort(t, p, dropCall(vid))
	}
	for _, vid := range []int{2100, 3000, 4000} {
		q := checkPort(t, checkPort(t, p, dropCall(vid)), setCall(7, true))
		if len(q.In) != 20 || !impl.Member(q, 7) || impl.Member(q, vid) {
			t.Errorf("after a DropMember of %d, SetMember gives %+v", vid, q)
		}
	}
}

func TestVlansAtTheEdges(t *testing.T) {
	for _, p := range append(validPorts(), impl.Port{Pvid: 1, In: run(2, 19, 1), Plain: run(2, 18, 1)}, impl.Port{Pvid: 1, In: run(2, 20, 200), Plain: run(2, 1, 1)}) {
		for _, c := range memberCalls(append(portVids, p.In...)...) {
			checkPort(t, p, c)
		}
	}
}

// smallLists returns all lists of up to most elements out of numbers, in every order and with repetitions.
func smallLists(numbers []int, most int) [][]int {
	lists := [][]int{nil}
	for from := 0; from < len(lists) && len(lists[from]) < most; from++ {
		for _, n := range numbers {
			lists = append(lists, append(slices.Clone(lists[from]), n))
		}
	}
	return lists
}

func TestAllSmallPorts(t *testing.T) {
	lists := smallLists([]int{0, 1, 2, 3}, 3)
	valid := 0
	for _, in := range lists {
		for _, plain := range lists {
			p := impl.Port{Pvid: 2, In: in, Plain: plain}
			checkPortOk(t, p)
			valid += b2n(impl.PortOk(p))
			for vid := range 5 {
				checkMember(t, p, vid)
				for _, c := range memberCalls(vid) {
					checkPort(t, p, c)
				}
			}
		}
	}
	if want := 27; valid != want {
		t.Errorf("%d small ports are valid, want %d", valid, want)
	}
}

// smallPorts calls check with every valid port that has no other VLANs than 1 to 3.
func smallPorts(check func(p impl.Port)) {
	for kinds := range 27 {
		var p impl.Port
		for vid, rest := 1, kinds; vid <= 3; vid, rest = vid+1, rest/3 {
			if rest%3 > 0 {
				p.In = append(p.In, vid)
			}
			if rest%3 > 1 {
				p.Plain = append(p.Plain, vid)
			}
		}
		for p.Pvid = 1; p.Pvid <= 4; p.Pvid++ {
			for p.Accept = impl.AcAll; p.Accept <= impl.AcPlain; p.Accept++ {
				check(p)
			}
		}
	}
}

func TestFramesAtSmallPorts(t *testing.T) {
	smallPorts(func(p impl.Port) {
		if !impl.PortOk(p) {
			t.Fatalf("PortOk(%+v) = false", p)
		}
		for vid := range 6 {
			for _, f := range []impl.Frame{plainFrame, {Dst: 4, Src: 2, Tagged: true, Vid: vid, Pri: 4, Type: 2048, Body: "x"}, {Dst: 4, Src: 2, Vid: vid, Type: 2048}, {Tagged: true, Vid: vid}} {
				checkIngress(t, p, f)
				for _, pri := range []int{-1, 0, 7, 8} {
					checkEgress(t, p, vid, f, pri)
				}
			}
		}
	})
}

// A frame that leaves a port enters it in the same VLAN, with all that it carries, if Accept lets it in
// and the port gives its untagged frames to the VLAN in which this one left it.
func TestLeavingFrameEntersInItsVlan(t *testing.T) {
	entered := 0
	check := func(p impl.Port, vid int, f impl.Frame, pri int) {
		g, ok := impl.Egress(p, vid, f, pri)
		if !ok {
			return
		}
		if g.Dst != f.Dst || g.Src != f.Src || g.Type != f.Type || g.Body != f.Body || !impl.FrameOk(g) {
			t.Fatalf("Egress(%+v, %d, %s, %d) = %s", p, vid, brief(f), pri, brief(g))
		}
		refused := g.Tagged && p.Accept == impl.AcPlain || !g.Tagged && p.Accept == impl.AcTagged
		if refused || !g.Tagged && p.Pvid != vid {
			return
		}
		entered++
		if back, ok := impl.Ingress(p, g); back != vid || !ok {
			t.Fatalf("%s left %+v in %d and entered it in %d, %v", brief(g), p, vid, back, ok)
		}
	}
	smallPorts(func(p impl.Port) {
		for vid := range 5 {
			for pri := -1; pri <= 8; pri++ {
				check(p, vid, plainFrame, pri)
				check(p, vid, taggedFrame, pri)
			}
		}
	})
	for vid := 1; vid <= 4094; vid++ {
		p := impl.SetMember(impl.SetMember(impl.Port{Pvid: vid}, vid%4094+1, vid%4 > 1), vid, vid%2 > 0)
		check(p, vid, taggedFrame, vid%8)
		check(p, vid%4094+1, plainFrame, vid%8)
	}
	if want := 4000; entered < want {
		t.Errorf("only %d frames were sent back", entered)
	}
}

// A port that was made a member is one, until it is dropped; the other VLANs stay as they are.
func TestRandomMembers(t *testing.T) {
	random := rand.New(rand.NewSource(6))
	for vids := 1; vids <= 40; vids++ {
		p := impl.Port{Pvid: 1 + random.Intn(4094), Accept: random.Intn(3)}
		kinds := map[int]bool{}
		for range 400 {
			vid, plain := 1+(random.Intn(vids)*4093)/max(vids-1, 1), random.Intn(2) > 0
			_, known := kinds[vid]
			if random.Intn(4) == 0 {
				p = checkPort(t, p, dropCall(vid))
				delete(kinds, vid)
			} else {
				p = checkPort(t, p, setCall(vid, plain))
				if known || len(kinds) < 20 {
					kinds[vid] = plain
				}
			}
			checkKinds(t, p, kinds)
		}
	}
}

// checkKinds checks that the VLANs of p are the keys of kinds, and those with true leave it untagged.
func checkKinds(t *testing.T, p impl.Port, kinds map[int]bool) {
	t.Helper()
	if len(p.In) != len(kinds) || !impl.PortOk(p) {
		t.Fatalf("%+v, want the VLANs %v", p, kinds)
	}
	for vid, plain := range kinds {
		f, ok := impl.Egress(p, vid, plainFrame, 0)
		if !impl.Member(p, vid) || !ok || f.Tagged == plain {
			t.Fatalf("%+v, want the VLANs %v: in %d leaves %s, %v", p, kinds, vid, brief(f), ok)
		}
	}
}

// Both lists of a port may be parts of one array.
func TestListsInOneArray(t *testing.T) {
	array := append(run(1, 12, 1), junk, junk, junk)
	before := slices.Clone(array)
	for members := range 13 {
		for plain := range members + 1 {
			p := impl.Port{Pvid: 1, In: array[:members], Plain: array[members-plain : members]}
			for _, c := range memberCalls(0, 1, members/2, members, members+1) {
				want := c.want(impl.Port{Pvid: 1, In: slices.Clone(p.In), Plain: slices.Clone(p.Plain)})
				q := c.call(p)
				if !samePort(q, want) || !slices.Equal(array, before) {
					t.Fatalf("%s of %+v = %+v, want %+v; the array is %v", c.name, p, q, want, array)
				}
				smear(q.In)
				if !slices.Equal(q.Plain, want.Plain) || !slices.Equal(array, before) {
					t.Fatalf("%s of %+v: the result shares memory", c.name, p)
				}
				smear(q.Plain)
				if !slices.Equal(array, before) {
					t.Fatalf("%s of %+v: Plain of the result shares memory", c.name, p)
				}
			}
		}
	}
}
