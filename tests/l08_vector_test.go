package tests

import (
	"fmt"
	"math"
	"math/rand"
	"slices"
	"testing"

	"loop.example/g00687/impl"
)

const (
	lastCost = 200000000
	// The greatest bridge identifier is not the greatest number of 52 bits, whose address is the broadcast address.
	lastId = 15<<48 + 0xfeffffffffff
)

// Each number's values at the ends of its range, beside them and far from them.
var (
	idRanks     = []int{-1, 0, 1, 2, 7, 8, 14, 15, 16, 17, 32, 256, -16, 1 << 16, 1 << 32, 1 << 48, -1 << 16, math.MinInt, math.MaxInt}
	bridgeIds   = []int{0, 1, 2, 8<<48 + singleMac, lastId - 1, lastId, lastId + 1, 15<<48 + impl.MaxMac, 16 << 48, 16<<48 + 1, groupMac - 1, groupMac, groupMac + 1, 3<<48 + groupMac, impl.MaxMac, 1 << 48, 1<<48 + 1, 32 << 48, 1 << 60, -1, -1 << 48, -1<<48 + 1, math.MinInt, math.MinInt + 1, math.MaxInt}
	vectorCosts = []int{-1, 0, 1, 2, 19, lastCost / 2, lastCost - 1, lastCost, lastCost + 1, 2 * lastCost, -lastCost, 1 << 32, math.MinInt, math.MaxInt}
	portNumbers = []int{-1, 0, 1, 2, 15, 16, 17, 32, 257, -16, 1 << 32, 1<<32 + 1, math.MinInt, math.MinInt + 1, math.MaxInt}
)

// A junkVector is written where nothing of the program may look or write; it would be the least one.
var junkVector = impl.Vector{Port: 1}

// validId, validVector and the want functions are what the document says.
func validId(id int) bool {
	return id>>52 == 0 && id>>40&1 == 0
}

func validVector(v impl.Vector) bool {
	return validId(v.Root) && within(v.Cost, 0, lastCost) && validId(v.Bridge) && within(v.Port, 1, 16)
}

func wantId(rank, mac int) int {
	if !within(rank, 0, 15) || mac>>48 != 0 || mac>>40&1 != 0 {
		return -1
	}
	return rank<<48 | mac
}

func wantIdText(id int) string {
	if !validId(id) {
		return ""
	}
	return fmt.Sprintf("%d.%02x:%02x:%02x:%02x:%02x:%02x", id>>48, id>>40&255, id>>32&255, id>>24&255, id>>16&255, id>>8&255, id&255)
}

func wantCompare(a, b impl.Vector) int {
	return slices.Compare([]int{a.Root, a.Cost, a.Bridge, a.Port}, []int{b.Root, b.Cost, b.Bridge, b.Port})
}

func wantThrough(v impl.Vector, cost, bridge, port int) impl.Vector {
	if !validVector(v) || !within(cost, 1, lastCost-v.Cost) || !validId(bridge) || !within(port, 1, 16) {
		return impl.Vector{}
	}
	return impl.Vector{Root: v.Root, Cost: v.Cost + cost, Bridge: bridge, Port: port}
}

// wantBest looks for a valid vector that no valid one is less than, the ones in front of it not even equal.
func wantBest(list []impl.Vector) int {
	return slices.IndexFunc(list, func(v impl.Vector) bool {
		return validVector(v) && !slices.ContainsFunc(list, func(w impl.Vector) bool {
			return validVector(w) && wantCompare(w, v) < 0
		})
	})
}

func checkId(t *testing.T, rank, mac int) int {
	t.Helper()
	id, want := impl.Id(rank, mac), wantId(rank, mac)
	if id != want {
		t.Fatalf("Id(%d, %#x) = %d, want %d", rank, mac, id, want)
	}
	if got := impl.IdText(id); id >= 0 && got != impl.DecText(rank)+"."+impl.MacText(mac) || id < 0 && got != "" {
		t.Fatalf("IdText(Id(%d, %#x)) = %q", rank, mac, got)
	}
	return id
}

func checkIdText(t *testing.T, id int) string {
	t.Helper()
	got, want := impl.IdText(id), wantIdText(id)
	if got != want {
		t.Fatalf("IdText(%d) = %q, want %q", id, got, want)
	}
	return got
}

func checkVectorOk(t *testing.T, v impl.Vector) {
	t.Helper()
	if got, want := impl.VectorOk(v), validVector(v); got != want {
		t.Fatalf("VectorOk(%+v) = %v, want %v", v, got, want)
	}
}

// checkCompare compares both ways round.
func checkCompare(t *testing.T, a, b impl.Vector, want int) {
	t.Helper()
	if got := impl.CompareVector(a, b); got != want {
		t.Fatalf("CompareVector(%+v, %+v) = %d, want %d", a, b, got, want)
	}
	if got := impl.CompareVector(b, a); got != -want {
		t.Fatalf("CompareVector(%+v, %+v) = %d, want %d", b, a, got, -want)
	}
}

// checkThrough also checks that the result, if there is one, is greater than the vector.
func checkThrough(t *testing.T, v impl.Vector, cost, bridge, port int) impl.Vector {
	t.Helper()
	got, want := impl.Through(v, cost, bridge, port), wantThrough(v, cost, bridge, port)
	if got != want {
		t.Fatalf("Through(%+v, %d, %d, %d) = %+v, want %+v", v, cost, bridge, port, got, want)
	}
	if got != (impl.Vector{}) {
		checkVectorOk(t, got)
		checkCompare(t, v, got, -1)
	}
	return got
}

// checkBest also checks that the list is as it was, also behind its end, and that no valid vector is less than the best.
func checkBest(t *testing.T, list []impl.Vector) int {
	t.Helper()
	array := append(slices.Clone(list), junkVector, junkVector)
	lent, before := array[:len(list)], slices.Clone(array)
	got, again, want := impl.Best(lent), impl.Best(lent), wantBest(list)
	if got != want || again != want || !slices.Equal(array, before) {
		t.Fatalf("Best(%+v) = %d, then %d, want %d; the array is as it was: %v", list, got, again, want, slices.Equal(array, before))
	}
	for i, v := range list {
		if impl.VectorOk(v) && (got < 0 || impl.CompareVector(list[got], v) > 0 || i < got && list[got] == v) {
			t.Fatalf("Best(%+v) = %d, but number %d is better", list, got, i)
		}
	}
	return got
}

// edgeVectors calls check with every vector out of the edges of its numbers.
func edgeVectors(check func(v impl.Vector)) {
	for _, root := range bridgeIds {
		for _, cost := range vectorCosts {
			for _, bridge := range bridgeIds {
				for _, port := range portNumbers {
					check(impl.Vector{Root: root, Cost: cost, Bridge: bridge, Port: port})
				}
			}
		}
	}
}

// ascendingVectors returns the vectors out of the given ascending numbers, from the least to the greatest.
func ascendingVectors(numbers []int) []impl.Vector {
	list := []impl.Vector{}
	for _, root := range numbers {
		for _, cost := range numbers {
			for _, bridge := range numbers {
				for _, port := range numbers {
					list = append(list, impl.Vector{Root: root, Cost: cost, Bridge: bridge, Port: port})
				}
			}
		}
	}
	return list
}

// invalidVectors holds vectors with every reason to be invalid, right in everything else; several would be the least.
func invalidVectors() []impl.Vector {
	list := []impl.Vector{{}, {Root: -1, Cost: -1, Bridge: -1, Port: -1}}
	right := impl.Vector{Root: 2, Cost: 4, Bridge: 6, Port: 1}
	for _, id := range []int{-1, groupMac, groupMac + 1, 8<<48 + groupMac, impl.MaxMac, lastId + 1, 15<<48 + impl.MaxMac, 16 << 48, math.MinInt, math.MaxInt} {
		root, bridge := right, right
		root.Root, bridge.Bridge = id, id
		list = append(list, root, bridge)
	}
	for _, cost := range []int{-1, -lastCost, lastCost + 1, 2 * lastCost, math.MinInt, math.MaxInt} {
		v := right
		v.Cost = cost
		list = append(list, v)
	}
	for _, port := range []int{0, -1, 17, 257, -16, math.MinInt, math.MaxInt} {
		v := right
		v.Port = port
		list = append(list, v)
	}
	return list
}

func TestVectorConstants(t *testing.T) {
	if impl.MaxCost != lastCost || impl.MaxPorts != 16 {
		t.Errorf("MaxCost = %d, MaxPorts = %d", impl.MaxCost, impl.MaxPorts)
	}
}

func TestId(t *testing.T) {
	rows := []struct{ rank, mac, want int }{
		{0, 0, 0}, {0, 1, 1}, {1, 0, 281474976710656}, {1, 1, 281474976710657}, {8, singleMac, 8*281474976710656 + singleMac}, {15, 0, 15 * 281474976710656}, {15, 2, 15*281474976710656 + 2},
		{-1, 0, -1}, {-1, 1, -1}, {-1, singleMac, -1}, {16, 0, -1}, {16, 1, -1}, {16, singleMac, -1}, {math.MinInt, 2, -1}, {math.MaxInt, 2, -1}, {1 << 16, 2, -1}, {-1 << 16, 2, -1},
		{0, -1, -1}, {8, -1, -1}, {15, -1, -1}, {0, 281474976710655, -1}, {15, 281474976710655, -1}, {0, 281474976710656, -1}, {8, 281474976710658, -1}, {15, 281474976710656, -1}, {0, math.MinInt, -1}, {8, math.MaxInt, -1}, {8, 1 << 60, -1},
		{0, 0x00ffffffffff, 0x00ffffffffff}, {0, groupMac, -1}, {8, groupMac + 1, -1}, {15, 0x01ffffffffff, -1}, {0, 0x020000000000, 0x020000000000}, {15, 0xfeffffffffff, lastId}, {0, 0xfeffffffffff, 0xfeffffffffff}, {15, 0xff0000000000, -1}, {0, 0x0180c2000000, -1},
		{-1, groupMac, -1}, {16, -1, -1}, {16, 281474976710655, -1},
	}
	for _, r := range rows {
		if got := checkId(t, r.rank, r.mac); got != r.want {
			t.Errorf("Id(%d, %#x) = %d, want %d", r.rank, r.mac, got, r.want)
		}
	}
}

// Every priority with every first byte of an address; both are recovered, and the priority decides about the order first.
func TestIdOfEveryRankAndFirstByte(t *testing.T) {
	last, count := -1, 0
	for rank := -2; rank <= 18; rank++ {
		for first := range 256 {
			for _, rest := range []int{0, 1, 0xab, 0xff00000000, 0xffffffffff} {
				mac := first<<40 + rest
				id := checkId(t, rank, mac)
				if id < 0 {
					continue
				}
				count++
				if id <= last || id/281474976710656 != rank || id%281474976710656 != mac {
					t.Fatalf("Id(%d, %#x) = %d, the one before is %d", rank, mac, id, last)
				}
				last = id
			}
		}
	}
	if want := 16 * 128 * 5; count != want {
		t.Errorf("%d of the numbers have an identifier, want %d", count, want)
	}
}

func TestIdAtTheEdges(t *testing.T) {
	for _, rank := range idRanks {
		for _, mac := range slices.Concat(rowMacs, edgeAddresses, edgeNumbers) {
			checkId(t, rank, mac)
		}
	}
	for _, rank := range []int{-1, 0, 8, 15, 16} {
		checkAddresses(func(mac int) { checkId(t, rank, mac) })
	}
}

func TestIdText(t *testing.T) {
	fixed := map[int]string{
		0: "0.00:00:00:00:00:00", 1: "0.00:00:00:00:00:01", 281474976710656: "1.00:00:00:00:00:00", 281474976710657: "1.00:00:00:00:00:01",
		8*281474976710656 + singleMac: "8.02:00:00:00:00:ab", 10*281474976710656 + 0x123456789abc: "10.12:34:56:78:9a:bc", 9*281474976710656 + 0x0d0e0f0a0b0c: "", 9*281474976710656 + 0x0c0e0f0a0b0c: "9.0c:0e:0f:0a:0b:0c",
		lastId: "15.fe:ff:ff:ff:ff:ff", lastId - 1: "15.fe:ff:ff:ff:ff:fe", lastId + 1: "", 15*281474976710656 + 281474976710655: "", 16 * 281474976710656: "", 16*281474976710656 + 1: "", 32 * 281474976710656: "",
		groupMac - 1: "0.00:ff:ff:ff:ff:ff", groupMac: "", groupMac + 1: "", 8*281474976710656 + groupMac: "", 0x01ffffffffff: "", 0x020000000000: "0.02:00:00:00:00:00", 281474976710655: "", 0xfeffffffffff: "0.fe:ff:ff:ff:ff:ff", 0xff0000000000: "",
		15 * 281474976710656: "15.00:00:00:00:00:00", 15*281474976710656 + groupMac: "", -1: "", -2: "", -281474976710656: "", -281474976710655: "", math.MinInt: "", math.MinInt + 1: "", math.MaxInt: "", math.MaxInt - 1: "", math.MaxInt - 0xffffffffffff: "",
	}
	for id, want := range fixed {
		if got := checkIdText(t, id); got != want {
			t.Errorf("IdText(%d) = %q, want %q", id, got, want)
		}
	}
}

func TestIdTextAtTheEdges(t *testing.T) {
	for _, rank := range slices.Concat(idRanks, run(0, 20, 1), []int{-2, -3, 1 << 14, 1<<14 + 1, 1<<15 - 1, -1 << 15}) {
		for _, mac := range slices.Concat(rowMacs, edgeAddresses, edgeNumbers) {
			// Beyond the range of an int the sum wraps around, which gives one more number to try.
			checkIdText(t, rank*281474976710656+mac)
		}
	}
	checkAddresses(func(n int) {
		checkIdText(t, n)
		checkIdText(t, lastId-n)
		checkIdText(t, lastId+n)
		checkIdText(t, -n)
	})
}

func TestVectorOk(t *testing.T) {
	valid := []impl.Vector{
		{Port: 1}, {Port: 2}, {Port: 15}, {Port: 16}, {Root: 2, Cost: 4, Bridge: 6, Port: 1}, {Root: 6, Cost: 4, Bridge: 2, Port: 1}, {Cost: 1, Port: 1}, {Cost: lastCost - 1, Port: 1}, {Cost: lastCost, Port: 1},
		{Root: lastId, Port: 1}, {Bridge: lastId, Port: 1}, {Root: lastId, Cost: lastCost, Bridge: lastId, Port: 16}, {Root: groupMac - 1, Bridge: 0x020000000000, Port: 1}, {Root: 1 << 48, Bridge: 15 << 48, Port: 9}, {Root: 8<<48 + singleMac, Bridge: 8<<48 + singleMac, Port: 3},
	}
	for _, v := range valid {
		if !impl.VectorOk(v) {
			t.Errorf("VectorOk(%+v) = false", v)
		}
	}
	for _, v := range invalidVectors() {
		if impl.VectorOk(v) {
			t.Errorf("VectorOk(%+v) = true", v)
		}
	}
	count := 0
	edgeVectors(func(v impl.Vector) {
		checkVectorOk(t, v)
		count += b2n(impl.VectorOk(v))
	})
	if want := 9 * 7 * 9 * 4; count != want {
		t.Errorf("%d of the vectors at the edges are valid, want %d", count, want)
	}
}

// A vector is valid exactly if its two identifiers have a text.
func TestVectorOkOfEveryIdentifier(t *testing.T) {
	checkAddresses(func(n int) {
		for _, id := range []int{n, 8<<48 + n, lastId - n, -n} {
			has := impl.IdText(id) != ""
			if impl.VectorOk(impl.Vector{Root: id, Port: 1}) != has || impl.VectorOk(impl.Vector{Bridge: id, Port: 1}) != has {
				t.Fatalf("with the identifier %d, whose text is %q, VectorOk is wrong", id, impl.IdText(id))
			}
		}
	})
}

func TestVectorOkOfEveryPort(t *testing.T) {
	for port := -300; port <= 300; port++ {
		v := impl.Vector{Root: 2, Cost: 4, Bridge: 6, Port: port}
		if got, want := impl.VectorOk(v), port >= 1 && port <= 16; got != want {
			t.Errorf("VectorOk(%+v) = %v, want %v", v, got, want)
		}
	}
}

func TestCompareVector(t *testing.T) {
	v := impl.Vector{Root: 20, Cost: 40, Bridge: 60, Port: 8}
	rows := []struct {
		w    impl.Vector
		want int
	}{
		{v, 0},
		{impl.Vector{Root: 21, Cost: 40, Bridge: 60, Port: 8}, -1}, {impl.Vector{Root: 19, Cost: 40, Bridge: 60, Port: 8}, 1}, {impl.Vector{Root: 20, Cost: 41, Bridge: 60, Port: 8}, -1}, {impl.Vector{Root: 20, Cost: 39, Bridge: 60, Port: 8}, 1},
		{impl.Vector{Root: 20, Cost: 40, Bridge: 61, Port: 8}, -1}, {impl.Vector{Root: 20, Cost: 40, Bridge: 59, Port: 8}, 1}, {impl.Vector{Root: 20, Cost: 40, Bridge: 60, Port: 9}, -1}, {impl.Vector{Root: 20, Cost: 40, Bridge: 60, Port: 7}, 1},
		{impl.Vector{Root: 20, Cost: 40, Bridge: 60, Port: 16}, -1}, {impl.Vector{Root: 20, Cost: 40, Bridge: 60, Port: 1}, 1}, {impl.Vector{Root: 20, Cost: 40, Bridge: 60}, 1}, {impl.Vector{Root: 20, Cost: 40, Bridge: 60, Port: 17}, -1}, {impl.Vector{Root: 20, Cost: 40, Bridge: 60, Port: math.MinInt}, 1}, {impl.Vector{Root: 20, Cost: 40, Bridge: 60, Port: math.MaxInt}, -1},
		{impl.Vector{Root: 21, Cost: 39, Bridge: 59, Port: 7}, -1}, {impl.Vector{Root: 19, Cost: 41, Bridge: 61, Port: 9}, 1}, {impl.Vector{Root: 20, Cost: 41, Bridge: 59, Port: 7}, -1}, {impl.Vector{Root: 20, Cost: 39, Bridge: 61, Port: 9}, 1}, {impl.Vector{Root: 20, Cost: 40, Bridge: 61, Port: 7}, -1}, {impl.Vector{Root: 20, Cost: 40, Bridge: 59, Port: 9}, 1},
		{impl.Vector{Root: 21}, -1}, {impl.Vector{Root: 20}, 1}, {impl.Vector{Root: 19, Cost: math.MaxInt, Bridge: math.MaxInt, Port: math.MaxInt}, 1}, {impl.Vector{Root: 21, Cost: math.MinInt, Bridge: math.MinInt, Port: math.MinInt}, -1},
		{impl.Vector{}, 1}, {impl.Vector{Root: -1, Cost: -1, Bridge: -1, Port: -1}, 1}, {impl.Vector{Root: math.MinInt, Cost: 40, Bridge: 60, Port: 8}, 1}, {impl.Vector{Root: math.MaxInt, Cost: 40, Bridge: 60, Port: 8}, -1}, {impl.Vector{Root: 20, Cost: math.MinInt, Bridge: 60, Port: 8}, 1}, {impl.Vector{Root: 20, Cost: math.MaxInt, Bridge: 60, Port: 8}, -1}, {impl.Vector{Root: 20, Cost: 40, Bridge: math.MinInt, Port: 8}, 1}, {impl.Vector{Root: 20, Cost: 40, Bridge: math.MaxInt, Port: 8}, -1},
	}
	for _, r := range rows {
		checkCompare(t, v, r.w, r.want)
	}
}

// Vectors that agree in everything but the port are in the order of their ports, whatever the rest of them is.
func TestVectorsThatDifferOnlyInThePort(t *testing.T) {
	ports := slices.Sorted(slices.Values(slices.Concat(portNumbers, run(3, 12, 1))))
	for _, v := range append(invalidVectors(), impl.Vector{}, junkVector, impl.Vector{Root: 2, Cost: 4, Bridge: 6}, impl.Vector{Root: lastId, Cost: lastCost, Bridge: lastId}) {
		for i, lower := range ports {
			for j, port := range ports {
				a, b := v, v
				a.Port, b.Port = lower, port
				checkCompare(t, a, b, b2n(i > j)-b2n(i < j))
				checkBest(t, []impl.Vector{a, b})
			}
		}
	}
}

// All vectors out of a few numbers stand in a row, and of two the one that stands in front is less: the order is total.
func TestOrderIsTotal(t *testing.T) {
	for _, numbers := range [][]int{{-1, 0, 1}, {0, 1, 2, 3}, {-2, -1}, {0, 1, 2, 15, 16, lastCost}, {groupMac, 1 << 48, lastId, lastId + 1}, {math.MinInt, -1, 0, 1, lastCost, lastId, math.MaxInt}} {
		list := ascendingVectors(numbers)
		for i, a := range list {
			for j, b := range list[i:] {
				checkCompare(t, a, b, -b2n(j > 0))
			}
		}
	}
}

func TestOrderOfRandomVectors(t *testing.T) {
	random := rand.New(rand.NewSource(8))
	for range 200 {
		list := make([]impl.Vector, 24)
		for i := range list {
			list[i] = randomVector(random, 1+random.Intn(4))
		}
		slices.SortFunc(list, impl.CompareVector)
		for i, a := range list {
			for _, b := range list[i:] {
				checkCompare(t, a, b, -b2n(a != b))
				if got := wantCompare(a, b); got != -b2n(a != b) {
					t.Fatalf("sorted by CompareVector, %+v stands in front of %+v", a, b)
				}
			}
		}
	}
}

// randomVector returns a vector that is valid more often than not; with a small kinds most of them have much in common.
func randomVector(random *rand.Rand, kinds int) impl.Vector {
	v := impl.Vector{Root: random.Intn(kinds), Cost: 4 * random.Intn(kinds), Bridge: 8<<48 + random.Intn(kinds), Port: 1 + random.Intn(16)}
	switch random.Intn(12) {
	case 0:
		v.Root = bridgeIds[random.Intn(len(bridgeIds))]
	case 1:
		v.Cost = vectorCosts[random.Intn(len(vectorCosts))]
	case 2:
		v.Bridge = bridgeIds[random.Intn(len(bridgeIds))]
	case 3:
		v.Port = portNumbers[random.Intn(len(portNumbers))]
	}
	return v
}

func TestThrough(t *testing.T) {
	v := impl.Vector{Root: 2, Cost: 4, Bridge: 6, Port: 1}
	far, farthest, none := v, v, impl.Vector{}
	far.Cost, farthest.Cost = lastCost-1, lastCost
	rows := []struct {
		v                  impl.Vector
		cost, bridge, port int
		want               impl.Vector
	}{
		{v, 19, 8, 3, impl.Vector{Root: 2, Cost: 23, Bridge: 8, Port: 3}}, {v, 1, 8, 3, impl.Vector{Root: 2, Cost: 5, Bridge: 8, Port: 3}}, {v, 1, 6, 1, impl.Vector{Root: 2, Cost: 5, Bridge: 6, Port: 1}}, {v, 1, 2, 1, impl.Vector{Root: 2, Cost: 5, Bridge: 2, Port: 1}}, {v, 1, 0, 16, impl.Vector{Root: 2, Cost: 5, Port: 16}}, {v, 1, lastId, 16, impl.Vector{Root: 2, Cost: 5, Bridge: lastId, Port: 16}},
		{v, 0, 8, 3, none}, {v, -1, 8, 3, none}, {v, -4, 8, 3, none}, {v, math.MinInt, 8, 3, none}, {v, math.MaxInt, 8, 3, none}, {v, math.MaxInt - 3, 8, 3, none}, {v, lastCost - 5, 8, 3, impl.Vector{Root: 2, Cost: lastCost - 1, Bridge: 8, Port: 3}}, {v, lastCost - 4, 8, 3, impl.Vector{Root: 2, Cost: lastCost, Bridge: 8, Port: 3}}, {v, lastCost - 3, 8, 3, none}, {v, lastCost, 8, 3, none}, {v, lastCost + 1, 8, 3, none},
		{impl.Vector{Port: 1}, lastCost, 8, 3, impl.Vector{Cost: lastCost, Bridge: 8, Port: 3}}, {impl.Vector{Port: 1}, lastCost - 1, 8, 3, impl.Vector{Cost: lastCost - 1, Bridge: 8, Port: 3}}, {impl.Vector{Port: 1}, lastCost + 1, 8, 3, none}, {impl.Vector{Port: 1}, 1, 0, 1, impl.Vector{Cost: 1, Port: 1}}, {impl.Vector{Port: 1}, 0, 0, 1, none},
		{far, 1, 8, 3, impl.Vector{Root: 2, Cost: lastCost, Bridge: 8, Port: 3}}, {far, 2, 8, 3, none}, {far, lastCost, 8, 3, none}, {far, 0, 8, 3, none}, {far, -1, 8, 3, none}, {farthest, 0, 8, 3, none}, {farthest, 1, 8, 3, none}, {farthest, -1, 8, 3, none}, {farthest, lastCost, 8, 3, none}, {farthest, lastCost + 1, 8, 3, none}, {farthest, -lastCost, 8, 3, none},
		{v, 1, 8, 0, none}, {v, 1, 8, 1, impl.Vector{Root: 2, Cost: 5, Bridge: 8, Port: 1}}, {v, 1, 8, 16, impl.Vector{Root: 2, Cost: 5, Bridge: 8, Port: 16}}, {v, 1, 8, 17, none}, {v, 1, 8, -1, none}, {v, 1, 8, math.MinInt, none}, {v, 1, 8, math.MaxInt, none},
		{v, 1, -1, 1, none}, {v, 1, groupMac, 1, none}, {v, 1, 8<<48 + groupMac, 1, none}, {v, 1, lastId + 1, 1, none}, {v, 1, 16 << 48, 1, none}, {v, 1, math.MinInt, 1, none}, {v, 1, math.MaxInt, 1, none},
		{none, 1, 8, 1, none}, {impl.Vector{Root: 2, Cost: -1, Bridge: 6, Port: 1}, 1, 8, 3, none}, {impl.Vector{Root: 2, Cost: -1, Bridge: 6, Port: 1}, 5, 8, 3, none}, {impl.Vector{Root: 2, Cost: lastCost + 1, Bridge: 6, Port: 1}, 1, 8, 3, none}, {impl.Vector{Root: 2, Cost: math.MaxInt, Bridge: 6, Port: 1}, 1, 8, 3, none}, {impl.Vector{Root: 2, Cost: 4, Bridge: -1, Port: 1}, 1, 8, 3, none}, {impl.Vector{Root: 2, Cost: 4, Bridge: groupMac, Port: 1}, 1, 8, 3, none}, {impl.Vector{Root: 2, Cost: 4, Bridge: 6, Port: 17}, 1, 8, 3, none}, {impl.Vector{Root: 2, Cost: 4, Bridge: 6}, 1, 8, 3, none}, {impl.Vector{Root: groupMac, Cost: 4, Bridge: 6, Port: 1}, 1, 8, 3, none},
	}
	for _, r := range rows {
		if got := checkThrough(t, r.v, r.cost, r.bridge, r.port); got != r.want {
			t.Errorf("Through(%+v, %d, %d, %d) = %+v, want %+v", r.v, r.cost, r.bridge, r.port, got, r.want)
		}
	}
}

func TestThroughOfVectorsAtTheEdges(t *testing.T) {
	through := 0
	edgeVectors(func(v impl.Vector) {
		for _, cost := range []int{0, 1, lastCost - v.Cost, lastCost - v.Cost + 1} {
			through += b2n(checkThrough(t, v, cost, 8, 3) != impl.Vector{})
		}
	})
	// Two of the four costs lead through wherever Cost is valid and less than lastCost.
	if want := 9 * 9 * 4 * 6 * 2; through != want {
		t.Errorf("%d of the vectors at the edges went through, want %d", through, want)
	}
}

func TestThroughAtTheEdges(t *testing.T) {
	for _, from := range vectorCosts {
		costs := append(slices.Clone(vectorCosts), lastCost-from-1, lastCost-from, lastCost-from+1, -from, -from-1, -from+1, math.MaxInt-from+1)
		for _, v := range []impl.Vector{{Cost: from, Port: 1}, {Root: lastId, Cost: from, Bridge: lastId, Port: 16}} {
			for _, cost := range costs {
				for _, bridge := range bridgeIds {
					for _, port := range portNumbers {
						checkThrough(t, v, cost, bridge, port)
					}
				}
			}
		}
	}
	for _, v := range invalidVectors() {
		for _, cost := range vectorCosts {
			for _, bridge := range bridgeIds {
				if got := checkThrough(t, v, cost, bridge, 1); got != (impl.Vector{}) {
					t.Errorf("Through(%+v, %d, %d, 1) = %+v", v, cost, bridge, got)
				}
			}
		}
	}
}

// On its way from bridge to bridge a vector keeps its root and grows at every one, however small the bridge's identifier
// and the port's number are, until the costs add up to more than MaxCost.
func TestThroughManyBridges(t *testing.T) {
	random := rand.New(rand.NewSource(88))
	for range 300 {
		first := impl.Vector{Root: random.Intn(100) << 1, Bridge: 15<<48 + random.Intn(1000), Port: 16}
		v, sum, greatest := first, 0, 1+random.Intn(lastCost/4)
		for {
			cost, bridge, port := 1+random.Intn(greatest), random.Intn(16)<<48+random.Intn(1000), 1+random.Intn(16)
			next := checkThrough(t, v, cost, bridge, port)
			if sum+cost > lastCost || sum < lastCost/2 && random.Intn(60) == 0 {
				break
			}
			sum += cost
			if want := (impl.Vector{Root: first.Root, Cost: sum, Bridge: bridge, Port: port}); next != want {
				t.Fatalf("Through(%+v, %d, %d, %d) = %+v, want %+v", v, cost, bridge, port, next, want)
			}
			checkCompare(t, first, next, -1)
			if got := checkBest(t, []impl.Vector{next, v, first}); got < 1 {
				t.Fatalf("%+v is better than %+v and %+v", next, v, first)
			}
			v = next
		}
	}
}

func TestBest(t *testing.T) {
	v, zero := impl.Vector{Root: 2, Cost: 4, Bridge: 6, Port: 1}, impl.Vector{}
	wrongRoot, wrongCost, wrongBridge, wrongPort := v, v, v, v
	wrongRoot.Root, wrongCost.Cost, wrongBridge.Bridge, wrongPort.Port = -1, -1, -1, 0
	port2, port16, bridge8, cost5, root4 := v, v, v, v, v
	port2.Port, port16.Port, bridge8.Bridge, cost5.Cost, root4.Root = 2, 16, 8, 5, 4
	rows := []struct {
		list []impl.Vector
		want int
	}{
		{nil, -1}, {[]impl.Vector{}, -1}, {[]impl.Vector{v}, 0}, {[]impl.Vector{v, v}, 0}, {[]impl.Vector{v, v, v}, 0}, {[]impl.Vector{junkVector}, 0},
		{[]impl.Vector{zero}, -1}, {[]impl.Vector{zero, zero}, -1}, {[]impl.Vector{wrongRoot}, -1}, {[]impl.Vector{wrongCost}, -1}, {[]impl.Vector{wrongBridge}, -1}, {[]impl.Vector{wrongPort}, -1}, {[]impl.Vector{wrongPort, wrongRoot, zero, wrongCost, wrongBridge}, -1}, {invalidVectors(), -1},
		{[]impl.Vector{wrongRoot, v}, 1}, {[]impl.Vector{v, wrongRoot}, 0}, {[]impl.Vector{wrongCost, v}, 1}, {[]impl.Vector{v, wrongCost}, 0}, {[]impl.Vector{wrongBridge, v}, 1}, {[]impl.Vector{v, wrongBridge}, 0}, {[]impl.Vector{wrongPort, v}, 1}, {[]impl.Vector{v, wrongPort}, 0}, {[]impl.Vector{zero, v}, 1}, {[]impl.Vector{v, zero}, 0},
		{[]impl.Vector{zero, root4, v, v, {Port: 17}}, 2}, {append(invalidVectors(), v, v), len(invalidVectors())}, {append([]impl.Vector{port2}, invalidVectors()...), 0}, {append(append([]impl.Vector{port2}, invalidVectors()...), v), 1 + len(invalidVectors())},
		{[]impl.Vector{port2, v}, 1}, {[]impl.Vector{v, port2}, 0}, {[]impl.Vector{port16, port2}, 1}, {[]impl.Vector{port2, port16}, 0}, {[]impl.Vector{port16, port2, v, port2, v}, 2}, {[]impl.Vector{port16, port2, port16, port2}, 1},
		{[]impl.Vector{bridge8, v}, 1}, {[]impl.Vector{cost5, v}, 1}, {[]impl.Vector{root4, v}, 1}, {[]impl.Vector{root4, cost5, bridge8, port2}, 3}, {[]impl.Vector{root4, cost5, bridge8}, 2}, {[]impl.Vector{root4, cost5}, 1}, {[]impl.Vector{root4}, 0},
		{[]impl.Vector{{Root: 4, Port: 1}, {Root: 2, Cost: lastCost, Bridge: lastId, Port: 16}}, 1}, {[]impl.Vector{{Root: 2, Cost: 5, Port: 1}, {Root: 2, Cost: 4, Bridge: lastId, Port: 16}}, 1}, {[]impl.Vector{{Root: 2, Cost: 4, Bridge: 7, Port: 1}, {Root: 2, Cost: 4, Bridge: 6, Port: 16}}, 1},
	}
	for _, r := range rows {
		if got := checkBest(t, r.list); got != r.want {
			t.Errorf("Best(%+v) = %d, want %d", r.list, got, r.want)
		}
	}
}

// All lists of up to five out of vectors that are equal, that differ in one number, and that are invalid.
func TestBestOfAllShortLists(t *testing.T) {
	kinds := []impl.Vector{{}, {Root: -1, Port: 1}, {Root: 2, Cost: 4, Bridge: 6, Port: 1}, {Root: 2, Cost: 4, Bridge: 6, Port: 2}, {Root: 2, Cost: 4, Bridge: 4, Port: 3}, {Root: 2, Cost: 5, Bridge: 6, Port: 1}, {Root: 4, Cost: 4, Bridge: 6, Port: 1}}
	for _, numbers := range smallLists(run(0, len(kinds), 1), 5) {
		list := []impl.Vector{}
		for _, n := range numbers {
			list = append(list, kinds[n])
		}
		checkBest(t, list)
	}
}

func TestBestOfRandomLists(t *testing.T) {
	random := rand.New(rand.NewSource(888))
	places := map[int]bool{}
	for range 3000 {
		list := []impl.Vector{}
		for kinds := 1 + random.Intn(5); len(list) < 30 && random.Intn(25) > 0; {
			list = append(list, randomVector(random, kinds))
		}
		places[checkBest(t, list)] = true
	}
	for place := -1; place < 20; place++ {
		if !places[place] {
			t.Errorf("no random list has its best vector at %d", place)
		}
	}
}

// A long list whose vectors grow or shrink, with equal and invalid ones in between.
func TestBestOfLongLists(t *testing.T) {
	const many = 100000
	up, down, same := make([]impl.Vector, many), make([]impl.Vector, many), make([]impl.Vector, many)
	for i := range many {
		up[i] = impl.Vector{Root: 2, Cost: i / 2, Bridge: 6, Port: 1 + i%2}
		down[i] = impl.Vector{Root: 2, Cost: many - i/2, Bridge: 6, Port: 2 - i%2}
		same[i] = impl.Vector{Root: 2, Cost: 4, Bridge: 6, Port: 17 * (i % 2)}
	}
	if got := impl.Best(up); got != 0 {
		t.Errorf("the best of a list that grows is number %d", got)
	}
	if got := impl.Best(down); got != many-1 {
		t.Errorf("the best of a list that shrinks is number %d", got)
	}
	if got := impl.Best(same); got != -1 {
		t.Errorf("the best of a list of invalid vectors is number %d", got)
	}
	same[many-1].Port = 16
	if got := impl.Best(same); got != many-1 {
		t.Errorf("the best of a list with one valid vector is number %d", got)
	}
}
