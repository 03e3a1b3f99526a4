package tests

import (
	"fmt"
	"math"
	"math/rand"
	"slices"
	"testing"

	"loop.example/g00687/impl"
)

const (
	lastTime  = 1000000000
	groupMac  = 0x010000000000
	singleMac = 0x0200000000ab
)

// Each number's values at the ends of its range, beside them and far from them.
var (
	rowVids  = []int{0, 1, 2, 4093, 4094, 4095, 4096, 4097, -1, math.MinInt, math.MaxInt}
	rowMacs  = []int{0, 1, 4, singleMac, 0x00ffffffffff, groupMac, groupMac + 1, 0x0180c2000000, 0x01ffffffffff, 0x020000000000, 0xfeffffffffff, 0xff0000000000, 1<<48 - 1, 1 << 48, 1<<48 + 4, 1 << 49, -1, math.MinInt, math.MaxInt}
	rowPorts = []int{0, 1, 14, 15, 16, 17, 256, -1, -16, math.MinInt, math.MaxInt}
	rowTimes = []int{0, 1, lastTime - 1, lastTime, lastTime + 1, -1, -lastTime, 1 << 32, math.MinInt, math.MaxInt}
)

// A junkRow is written where nothing of the program may look or write.
var junkRow = impl.Row{Vid: -77, Mac: -77, Port: -77, At: -77, Fixed: true}

// change is a call of a function that returns its changed argument, with what the document says of it.
type change[T any] struct {
	name string
	call func(x T) T
	want func(x T) T
}

type tableCall = change[impl.Table]

func learnCall(vid, mac, port, now int) tableCall {
	return tableCall{
		fmt.Sprintf("Learn(%d, %#x, %d, %d)", vid, mac, port, now),
		func(x impl.Table) impl.Table { return impl.Learn(x, vid, mac, port, now) },
		func(x impl.Table) impl.Table { return wantLearn(x, vid, mac, port, now) },
	}
}

func fixCall(vid, mac, port int) tableCall {
	return tableCall{
		fmt.Sprintf("Fix(%d, %#x, %d)", vid, mac, port),
		func(x impl.Table) impl.Table { return impl.Fix(x, vid, mac, port) },
		func(x impl.Table) impl.Table { return wantFix(x, vid, mac, port) },
	}
}

func ageCall(now, age int) tableCall {
	return change2("AgeOut", impl.AgeOut, wantAgeOut, now, age)
}

func flushCall(port int) tableCall {
	return change1("Flush", impl.Flush, wantFlush, port)
}

// change1 and change2 are the changes by functions with that many further arguments.
func change1[T, A any](name string, call, want func(T, A) T, a A) change[T] {
	return change[T]{
		fmt.Sprintf("%s(%v)", name, a),
		func(x T) T { return call(x, a) },
		func(x T) T { return want(x, a) },
	}
}

func change2[T, A, B any](name string, call, want func(T, A, B) T, a A, b B) change[T] {
	return change[T]{
		fmt.Sprintf("%s(%v, %v)", name, a, b),
		func(x T) T { return call(x, a, b) },
		func(x T) T { return want(x, a, b) },
	}
}

// validRow and validTable are what the document says of a Row and of TableOk.
func validRow(r impl.Row) bool {
	addressed := within(r.Mac, 0, 1<<48-1) && r.Mac>>40%2 == 0
	return within(r.Vid, 1, 4094) && addressed && within(r.Port, 0, 15) && within(r.At, 0, lastTime)
}

func validTable(x impl.Table) bool {
	for i, r := range x.Rows {
		if !validRow(r) || slices.ContainsFunc(x.Rows[:i], func(s impl.Row) bool { return !rowBefore(s, r) }) {
			return false
		}
	}
	return within(x.Most, 0, 64) && len(x.Rows) <= x.Most
}

func rowBefore(a, b impl.Row) bool {
	return a.Vid < b.Vid || a.Vid == b.Vid && a.Mac < b.Mac
}

func rowIndex(x impl.Table, vid, mac int) int {
	return slices.IndexFunc(x.Rows, func(r impl.Row) bool { return r.Vid == vid && r.Mac == mac })
}

func wantLook(x impl.Table, vid, mac int) int {
	i := rowIndex(x, vid, mac)
	if !validTable(x) || i < 0 {
		return -1
	}
	return x.Rows[i].Port
}

func wantLearn(x impl.Table, vid, mac, port, now int) impl.Table {
	heard := impl.Row{Vid: vid, Mac: mac, Port: port, At: now}
	i := rowIndex(x, vid, mac)
	switch {
	case !validTable(x):
		return impl.Table{}
	case !validRow(heard) || i >= 0 && x.Rows[i].Fixed || x.Most == 0:
		return x
	}
	y := withRow(x, heard)
	if len(y.Rows) <= y.Most {
		return y
	}
	oldest := -1
	for k, r := range y.Rows {
		if r != heard && !r.Fixed && (oldest < 0 || r.At < y.Rows[oldest].At) {
			oldest = k
		}
	}
	if oldest < 0 {
		return x
	}
	y.Rows = slices.Delete(y.Rows, oldest, oldest+1)
	return y
}

func wantFix(x impl.Table, vid, mac, port int) impl.Table {
	fixed := impl.Row{Vid: vid, Mac: mac, Port: port, Fixed: true}
	if !validTable(x) {
		return impl.Table{}
	}
	if !validRow(fixed) {
		return x
	}
	if y := withRow(x, fixed); len(y.Rows) <= y.Most {
		return y
	}
	return x
}

func wantAgeOut(x impl.Table, now, age int) impl.Table {
	if !validTable(x) {
		return impl.Table{}
	}
	if !within(now, 0, lastTime) || !within(age, 0, lastTime) {
		return x
	}
	return without(x, func(r impl.Row) bool { return r.At+age < now })
}

func wantFlush(x impl.Table, port int) impl.Table {
	if !validTable(x) {
		return impl.Table{}
	}
	return without(x, func(r impl.Row) bool { return r.Port == port })
}

// withRow puts the row in the place of the one with its Vid and Mac, or in between.
func withRow(x impl.Table, row impl.Row) impl.Table {
	y := impl.Table{Most: x.Most}
	for _, r := range x.Rows {
		if rowBefore(r, row) {
			y.Rows = append(y.Rows, r)
		}
	}
	y.Rows = append(y.Rows, row)
	for _, r := range x.Rows {
		if rowBefore(row, r) {
			y.Rows = append(y.Rows, r)
		}
	}
	return y
}

// without takes out the rows that gone names and that are not Fixed.
func without(x impl.Table, gone func(r impl.Row) bool) impl.Table {
	y := impl.Table{Most: x.Most}
	for _, r := range x.Rows {
		if r.Fixed || !gone(r) {
			y.Rows = append(y.Rows, r)
		}
	}
	return y
}

func sameTable(a, b impl.Table) bool {
	return a.Most == b.Most && slices.Equal(a.Rows, b.Rows)
}

// scribble overwrites all that a table's rows can reach.
func scribble(x impl.Table) {
	for i := range x.Rows[:cap(x.Rows)] {
		x.Rows[:cap(x.Rows)][i] = junkRow
	}
}

// checkTable compares what c returns with what the document says, and checks that x stays as it was,
// that the results share no memory with x or with each other, and that a valid table remains valid.
func checkTable(t *testing.T, x impl.Table, c tableCall) impl.Table {
	t.Helper()
	backing := slices.Concat(x.Rows, []impl.Row{junkRow, junkRow, junkRow})
	before := slices.Clone(backing)
	given := impl.Table{Rows: backing[:len(x.Rows)], Most: x.Most}
	want := c.want(x)
	first, second := c.call(given), c.call(given)
	if !sameTable(first, want) {
		t.Fatalf("%s of %+v\n= %+v, want\n  %+v", c.name, x, first, want)
	}
	if !slices.Equal(backing, before) {
		t.Fatalf("%s of %+v made its rows %+v", c.name, x, backing)
	}
	if impl.TableOk(first) != validTable(first) || !validTable(first) {
		t.Fatalf("%s of %+v = %+v, whose TableOk is %v", c.name, x, first, impl.TableOk(first))
	}
	result := slices.Clone(first.Rows)
	scribble(first)
	if !slices.Equal(backing, before) || !slices.Equal(second.Rows, result) {
		t.Fatalf("%s of %+v: the result shares memory", c.name, x)
	}
	scribble(given)
	if !slices.Equal(second.Rows, result) {
		t.Fatalf("%s of %+v: the result is part of the argument", c.name, x)
	}
	return second
}

// checkLook compares Look with what the document says and checks that x stays as it was.
func checkLook(t *testing.T, x impl.Table, vid, mac int) {
	t.Helper()
	before := slices.Clone(x.Rows[:cap(x.Rows)])
	if got, want := impl.Look(x, vid, mac), wantLook(x, vid, mac); got != want {
		t.Fatalf("Look(%+v, %d, %#x) = %d, want %d", x, vid, mac, got, want)
	}
	if !slices.Equal(x.Rows[:cap(x.Rows)], before) {
		t.Fatalf("Look(.., %d, %#x) changed the table", vid, mac)
	}
}

// checkTableOk compares TableOk with what the document says and checks that x stays as it was.
func checkTableOk(t *testing.T, x impl.Table) {
	t.Helper()
	before := slices.Clone(x.Rows[:cap(x.Rows)])
	if got, want := impl.TableOk(x), validTable(x); got != want {
		t.Fatalf("TableOk(%+v) = %v, want %v", x, got, want)
	}
	if !slices.Equal(x.Rows[:cap(x.Rows)], before) {
		t.Fatalf("TableOk(%+v) changed the table", x)
	}
}

// filled returns a table with as many rows of ascending Mac, made different by the change.
func filled(rows, most int, change func(i int, r *impl.Row)) impl.Table {
	x := impl.Table{Most: most}
	for i := range rows {
		r := impl.Row{Vid: 1 + i/8, Mac: 4*(i%8) + 4, Port: i % 16, At: 1000 + i}
		change(i, &r)
		x.Rows = append(x.Rows, r)
	}
	return x
}

func asFilled(int, *impl.Row) {}

func allFixed(_ int, r *impl.Row) { r.Fixed = true }

// invalidTables holds a table for every reason to be invalid, most of them with rows that are right in themselves.
func invalidTables() []impl.Table {
	a, b, c := impl.Row{Vid: 1, Mac: 4, Port: 1, At: 5}, impl.Row{Vid: 1, Mac: 6, Port: 2, At: 6}, impl.Row{Vid: 2, Mac: 4, Port: 3, At: 7}
	tables := []impl.Table{
		{Most: -1}, {Most: 65}, {Most: math.MinInt}, {Most: math.MaxInt}, {Rows: []impl.Row{a}, Most: -1}, {Rows: []impl.Row{a, b, c}, Most: 65},
		{Rows: []impl.Row{a}}, {Rows: []impl.Row{a, b}, Most: 1}, {Rows: []impl.Row{a, b, c}, Most: 2}, filled(65, 64, asFilled), filled(65, 65, asFilled), filled(64, 63, asFilled), filled(65, 64, allFixed),
		{Rows: []impl.Row{b, a}, Most: 8}, {Rows: []impl.Row{c, a}, Most: 8}, {Rows: []impl.Row{c, b}, Most: 8}, {Rows: []impl.Row{a, c, b}, Most: 8}, {Rows: []impl.Row{b, a, c}, Most: 8},
		{Rows: []impl.Row{a, a}, Most: 8}, {Rows: []impl.Row{a, {Vid: 1, Mac: 4, Port: 9, At: 9}}, Most: 8}, {Rows: []impl.Row{a, {Vid: 1, Mac: 4, Port: 1, Fixed: true}, c}, Most: 8}, {Rows: []impl.Row{a, b, a}, Most: 8},
	}
	for _, bad := range []impl.Row{{}, {Vid: 0, Mac: 5}, {Vid: 4095, Mac: 5}, {Vid: 1, Mac: -1}, {Vid: 1, Mac: 1 << 48}, {Vid: 1, Mac: groupMac}, {Vid: 1, Mac: 1<<48 - 1}, {Vid: 1, Mac: 5, Port: -1}, {Vid: 1, Mac: 5, Port: 16}, {Vid: 1, Mac: 5, At: -1}, {Vid: 1, Mac: 5, At: lastTime + 1}} {
		fixed := bad
		fixed.Fixed = true
		tables = append(tables, impl.Table{Rows: []impl.Row{bad}, Most: 8}, impl.Table{Rows: []impl.Row{fixed}, Most: 8}, impl.Table{Rows: []impl.Row{a, bad, b}, Most: 8}, impl.Table{Rows: []impl.Row{a, b, bad}, Most: 8})
	}
	return tables
}

func TestTableConstants(t *testing.T) {
	if impl.MaxRows != 64 || impl.MaxPorts != 16 || impl.MaxTime != lastTime {
		t.Error("constants", impl.MaxRows, impl.MaxPorts, impl.MaxTime)
	}
}

func TestTableOk(t *testing.T) {
	valid := []impl.Table{
		{}, {Rows: []impl.Row{}}, {Most: 1}, {Most: 64}, filled(64, 64, asFilled), filled(64, 64, allFixed), filled(63, 64, asFilled), filled(1, 1, asFilled), filled(5, 5, asFilled),
		{Rows: []impl.Row{{Vid: 1, Mac: 0}}, Most: 1}, {Rows: []impl.Row{{Vid: 4094, Mac: 0xfeffffffffff, Port: 15, At: lastTime, Fixed: true}}, Most: 1},
		{Rows: []impl.Row{{Vid: 1, Mac: 4}, {Vid: 1, Mac: 5}}, Most: 2}, {Rows: []impl.Row{{Vid: 1, Mac: 9}, {Vid: 2, Mac: 4}}, Most: 2}, {Rows: []impl.Row{{Vid: 1, Mac: 4}, {Vid: 2, Mac: 4}}, Most: 2}, {Rows: []impl.Row{{Vid: 2, Mac: 4}, {Vid: 10, Mac: 4}}, Most: 2},
	}
	for _, x := range valid {
		if !impl.TableOk(x) {
			t.Errorf("TableOk(%+v) = false", x)
		}
		checkTableOk(t, x)
	}
	for i, x := range invalidTables() {
		if impl.TableOk(x) {
			t.Errorf("TableOk of invalid table %d, %+v, = true", i, x)
		}
		checkTableOk(t, x)
	}
}

func TestMostOfATable(t *testing.T) {
	for rows := range 67 {
		for most := -2; most <= 67; most++ {
			checkTableOk(t, filled(rows, most, asFilled))
			if got, want := impl.TableOk(filled(rows, most, asFilled)), 0 <= most && most <= 64 && rows <= most; got != want {
				t.Fatalf("TableOk with Most %d and %d rows = %v", most, rows, got)
			}
		}
	}
}

func TestInvalidTables(t *testing.T) {
	for i, x := range invalidTables() {
		calls := []tableCall{
			learnCall(1, 8, 1, 9), learnCall(1, 4, 1, 9), learnCall(0, -1, 16, -1), fixCall(1, 8, 1), fixCall(1, 4, 1), fixCall(0, -1, 16),
			ageCall(9, 1), ageCall(lastTime, 0), ageCall(-1, -1), flushCall(1), flushCall(-1), flushCall(16),
		}
		for _, c := range calls {
			if y := checkTable(t, x, c); len(y.Rows) != 0 || y.Most != 0 {
				t.Errorf("%s of invalid table %d, %+v, = %+v", c.name, i, x, y)
			}
		}
		for _, r := range append(x.Rows, impl.Row{Vid: 1, Mac: 4}, impl.Row{Vid: 1, Mac: 5}) {
			if got := impl.Look(x, r.Vid, r.Mac); got != -1 {
				t.Errorf("Look of invalid table %d, %+v, = %d", i, x, got)
			}
		}
	}
}

// A row's numbers at all edges: in a table, as what is sought, and as what is to be learned and fixed.
func TestRowsAtTheEdges(t *testing.T) {
	empty := impl.Table{Most: 2}
	some := impl.Table{Rows: []impl.Row{{Vid: 1, Mac: 4, Port: 1, At: 5}}, Most: 2}
	full := impl.Table{Rows: []impl.Row{{Vid: 1, Mac: 4, Port: 1, At: 5}}, Most: 1}
	valid := 0
	for _, vid := range rowVids {
		for _, mac := range rowMacs {
			for _, port := range rowPorts {
				for _, x := range []impl.Table{empty, some, full} {
					checkLook(t, checkTable(t, x, fixCall(vid, mac, port)), vid, mac)
				}
				for _, at := range rowTimes {
					r := impl.Row{Vid: vid, Mac: mac, Port: port, At: at}
					if validRow(r) {
						valid++
					}
					checkTableOk(t, impl.Table{Rows: []impl.Row{r}, Most: 1})
					for _, x := range []impl.Table{empty, some, full} {
						checkLook(t, checkTable(t, x, learnCall(vid, mac, port, at)), vid, mac)
					}
				}
			}
		}
	}
	if want := 4 * 7 * 4 * 4; valid != want {
		t.Errorf("%d valid rows were checked, want %d", valid, want)
	}
}

func TestLook(t *testing.T) {
	x := filled(64, 64, func(i int, r *impl.Row) { r.Fixed = i%3 == 0 })
	for _, r := range x.Rows {
		if got := impl.Look(x, r.Vid, r.Mac); got != r.Port {
			t.Errorf("Look(.., %d, %d) = %d, want %d", r.Vid, r.Mac, got, r.Port)
		}
		for _, near := range []impl.Row{{Vid: r.Vid, Mac: r.Mac + 1}, {Vid: r.Vid, Mac: r.Mac - 1}, {Vid: r.Vid + 8, Mac: r.Mac}, {Vid: r.Vid - 8, Mac: r.Mac}, {Vid: r.Mac, Mac: 1 << 20}} {
			if got := impl.Look(x, near.Vid, near.Mac); got != -1 {
				t.Errorf("Look(.., %d, %d) = %d, want -1", near.Vid, near.Mac, got)
			}
		}
	}
	for _, vid := range rowVids {
		for _, mac := range rowMacs {
			checkLook(t, x, vid, mac)
			checkLook(t, impl.Table{}, vid, mac)
			checkLook(t, impl.Table{Rows: append(make([]impl.Row, 0, 9), x.Rows[:3]...), Most: 3}, vid, mac)
		}
	}
}

func TestLearn(t *testing.T) {
	x := impl.Table{Most: 3}
	steps := []struct {
		r    impl.Row
		want []impl.Row
	}{
		{impl.Row{Vid: 10, Mac: 4, Port: 1, At: 5}, []impl.Row{{Vid: 10, Mac: 4, Port: 1, At: 5}}},
		{impl.Row{Vid: 9, Mac: 6, Port: 15, At: 5}, []impl.Row{{Vid: 9, Mac: 6, Port: 15, At: 5}, {Vid: 10, Mac: 4, Port: 1, At: 5}}},
		{impl.Row{Vid: 10, Mac: 6, Port: 0, At: 7}, []impl.Row{{Vid: 9, Mac: 6, Port: 15, At: 5}, {Vid: 10, Mac: 4, Port: 1, At: 5}, {Vid: 10, Mac: 6, Port: 0, At: 7}}},
		// A known address moves, in a full table too, and also back in time.
		{impl.Row{Vid: 10, Mac: 6, Port: 3, At: 2}, []impl.Row{{Vid: 9, Mac: 6, Port: 15, At: 5}, {Vid: 10, Mac: 4, Port: 1, At: 5}, {Vid: 10, Mac: 6, Port: 3, At: 2}}},
		{impl.Row{Vid: 10, Mac: 6, Port: 3, At: 9}, []impl.Row{{Vid: 9, Mac: 6, Port: 15, At: 5}, {Vid: 10, Mac: 4, Port: 1, At: 5}, {Vid: 10, Mac: 6, Port: 3, At: 9}}},
		// A new one takes the place of the oldest, the first one on ties, though it is older itself.
		{impl.Row{Vid: 9, Mac: 5, Port: 2, At: 0}, []impl.Row{{Vid: 9, Mac: 5, Port: 2, At: 0}, {Vid: 10, Mac: 4, Port: 1, At: 5}, {Vid: 10, Mac: 6, Port: 3, At: 9}}},
		{impl.Row{Vid: 4094, Mac: 0, Port: 2, At: lastTime}, []impl.Row{{Vid: 10, Mac: 4, Port: 1, At: 5}, {Vid: 10, Mac: 6, Port: 3, At: 9}, {Vid: 4094, Mac: 0, Port: 2, At: lastTime}}},
	}
	for _, s := range steps {
		x = checkTable(t, x, learnCall(s.r.Vid, s.r.Mac, s.r.Port, s.r.At))
		if !sameTable(x, impl.Table{Rows: s.want, Most: 3}) {
			t.Fatalf("after %+v: %+v, want %+v", s.r, x.Rows, s.want)
		}
	}
}

func TestLearnOfAFixedAddress(t *testing.T) {
	for _, most := range []int{1, 2, 3, 64} {
		x := impl.Table{Rows: []impl.Row{{Vid: 1, Mac: 4, Port: 1, Fixed: true}}, Most: most}
		for _, c := range []tableCall{learnCall(1, 4, 2, 9), learnCall(1, 4, 1, 0), learnCall(1, 4, 1, lastTime)} {
			if y := checkTable(t, x, c); !sameTable(y, x) {
				t.Errorf("%s = %+v, want %+v", c.name, y, x)
			}
		}
	}
}

func TestLearnWithoutRoomForAnything(t *testing.T) {
	for _, x := range []impl.Table{{}, {Rows: []impl.Row{}}, {Rows: make([]impl.Row, 0, 4)}} {
		for _, c := range []tableCall{learnCall(1, 4, 1, 9), learnCall(4094, 0, 15, 0), fixCall(1, 4, 1)} {
			if y := checkTable(t, x, c); len(y.Rows) != 0 || y.Most != 0 {
				t.Errorf("%s = %+v", c.name, y)
			}
		}
	}
}

// In a full table with one row that is not Fixed, that row makes room; with none, nothing is learned.
func TestLearnInAFullTableOfFixedRows(t *testing.T) {
	for most := 1; most <= 64; most++ {
		full := filled(most, most, allFixed)
		for _, c := range []tableCall{learnCall(1, 5, 1, 0), learnCall(4094, 4, 1, lastTime), learnCall(1, 0, 1, 5)} {
			if y := checkTable(t, full, c); !sameTable(y, full) {
				t.Fatalf("%s in a full table of %d = %+v", c.name, most, y)
			}
		}
		for i := range most {
			x := filled(most, most, func(k int, r *impl.Row) { r.Fixed = k != i })
			loose := x.Rows[i]
			for _, now := range []int{0, loose.At, lastTime} {
				y := checkTable(t, x, learnCall(3, 5, 9, now))
				if impl.Look(y, 3, 5) != 9 || impl.Look(y, loose.Vid, loose.Mac) != -1 || len(y.Rows) != most {
					t.Fatalf("a full table of %d in which row %d makes room: %+v", most, i, y)
				}
				// The heard address is the only loose one now: it makes room in its turn, and may still move.
				if z := checkTable(t, y, learnCall(3, 6, 8, now)); impl.Look(z, 3, 5) != -1 || impl.Look(z, 3, 6) != 8 {
					t.Fatalf("a full table of %d with one loose row: %+v", most, z)
				}
				if z := checkTable(t, y, learnCall(3, 5, 7, now)); impl.Look(z, 3, 5) != 7 || len(z.Rows) != most {
					t.Fatalf("a full table of %d whose loose row moves: %+v", most, z)
				}
			}
		}
	}
}

// The oldest of 64 rows, in every place, makes room; of several the first one; of those that are Fixed none.
func TestLearnForgetsTheOldest(t *testing.T) {
	for i := range 64 {
		ages := []func(k int, r *impl.Row){
			func(k int, r *impl.Row) { r.At = 9 - b2n(k == i) },
			func(k int, r *impl.Row) { r.At = 9 - b2n(k >= i) },
			func(k int, r *impl.Row) { r.At, r.Fixed = 9-k/8, k > i },
			func(k int, r *impl.Row) { r.At, r.Fixed = 9, k < i },
			func(k int, r *impl.Row) { r.At, r.Fixed = 8+b2n(k >= i), k < i },
			func(k int, r *impl.Row) { r.At, r.Fixed = (k*37+i)%11, k%5 == 0 },
			func(k int, r *impl.Row) { r.At = lastTime - (k+i)%64 },
		}
		for kind, age := range ages {
			x := filled(64, 64, age)
			for _, now := range []int{0, 7, 8, 9, 10, lastTime} {
				y := checkTable(t, x, learnCall(4, 5, 3, now))
				if impl.Look(y, 4, 5) != 3 || len(y.Rows) != 64 {
					t.Fatalf("kind %d, row %d, at %d: %+v", kind, i, now, y)
				}
				gone := slices.DeleteFunc(slices.Clone(x.Rows), func(r impl.Row) bool { return slices.Contains(y.Rows, r) })
				if len(gone) != 1 || gone[0].Fixed || kind < 2 && gone[0] != x.Rows[i] {
					t.Fatalf("kind %d, row %d, at %d: gone are %+v", kind, i, now, gone)
				}
			}
		}
	}
}

func b2n(b bool) int {
	if b {
		return 1
	}
	return 0
}

func TestFix(t *testing.T) {
	x := filled(3, 3, asFilled)
	full := checkTable(t, x, fixCall(1, 8, 15))
	if want := (impl.Row{Vid: 1, Mac: 8, Port: 15, Fixed: true}); len(full.Rows) != 3 || full.Rows[1] != want {
		t.Errorf("Fix of a known address in a full table: %+v", full)
	}
	if y := checkTable(t, full, fixCall(1, 8, 0)); len(y.Rows) != 3 || y.Rows[1] != (impl.Row{Vid: 1, Mac: 8, Fixed: true}) {
		t.Errorf("Fix of a fixed address: %+v", y)
	}
	if y := checkTable(t, full, fixCall(1, 9, 0)); !sameTable(y, full) {
		t.Errorf("Fix of a new address in a full table: %+v", y)
	}
	full.Most = 4
	if y := checkTable(t, full, fixCall(1, 9, 0)); len(y.Rows) != 4 || y.Rows[2] != (impl.Row{Vid: 1, Mac: 9, Fixed: true}) {
		t.Errorf("Fix of the last row there is room for: %+v", y)
	}
	for most := range 65 {
		x := filled(most, most, func(i int, r *impl.Row) { r.Fixed = i%2 == 0 })
		if y := checkTable(t, x, fixCall(4000, 4, 1)); !sameTable(y, x) {
			t.Errorf("Fix of a new address in a full table of %d: %+v", most, y)
		}
		for i, r := range x.Rows {
			y := checkTable(t, x, fixCall(r.Vid, r.Mac, 7))
			if len(y.Rows) != most || y.Rows[i] != (impl.Row{Vid: r.Vid, Mac: r.Mac, Port: 7, Fixed: true}) {
				t.Errorf("Fix of address %d in a full table of %d: %+v", i, most, y)
			}
		}
	}
}

func TestAgeOut(t *testing.T) {
	x := impl.Table{Rows: []impl.Row{{Vid: 1, Mac: 4, At: 5}, {Vid: 1, Mac: 5, Port: 1, Fixed: true}, {Vid: 1, Mac: 6, At: 6}, {Vid: 2, Mac: 4, At: 4}, {Vid: 2, Mac: 5, At: 5}}, Most: 64}
	lefts := map[[2]int][]int{
		{0, 0}: {0, 1, 2, 3, 4}, {9, 5}: {0, 1, 2, 3, 4}, {10, 5}: {0, 1, 2, 4}, {11, 5}: {1, 2}, {12, 5}: {1}, {4, 0}: {0, 1, 2, 3, 4}, {5, 0}: {0, 1, 2, 4}, {6, 0}: {1, 2}, {7, 0}: {1},
		{lastTime, 0}: {1}, {lastTime, lastTime}: {0, 1, 2, 3, 4}, {lastTime, lastTime - 4}: {0, 1, 2, 3, 4}, {lastTime, lastTime - 5}: {0, 1, 2, 4}, {0, lastTime}: {0, 1, 2, 3, 4},
		{-1, 0}: {0, 1, 2, 3, 4}, {9, -1}: {0, 1, 2, 3, 4}, {lastTime + 1, 0}: {0, 1, 2, 3, 4}, {lastTime, -lastTime}: {0, 1, 2, 3, 4}, {lastTime + 1, lastTime + 1}: {0, 1, 2, 3, 4}, {math.MaxInt, 1}: {0, 1, 2, 3, 4}, {9, math.MinInt}: {0, 1, 2, 3, 4}, {-9, math.MinInt}: {0, 1, 2, 3, 4},
	}
	for k, lefts := range lefts {
		want := impl.Table{Most: 64}
		for _, i := range lefts {
			want.Rows = append(want.Rows, x.Rows[i])
		}
		if y := checkTable(t, x, ageCall(k[0], k[1])); !sameTable(y, want) {
			t.Errorf("AgeOut(.., %d, %d) = %+v, want %+v", k[0], k[1], y.Rows, want.Rows)
		}
	}
}

func TestAgeOutAtTheEdges(t *testing.T) {
	ats := []int{0, 1, 5, lastTime - 1, lastTime}
	times := slices.Concat(rowTimes, []int{2, 3, 4, 5, 6, 7, 9, 10, 11, lastTime - 6, lastTime - 5, lastTime - 4, lastTime/2 - 1, lastTime / 2})
	for _, at := range ats {
		x := impl.Table{Rows: []impl.Row{{Vid: 1, Mac: 4, At: at}, {Vid: 1, Mac: 5, At: at, Fixed: true}, {Vid: 1, Mac: 6, At: lastTime / 2}}, Most: 3}
		for _, age := range times {
			for _, now := range append(times, at+age-1, at+age, at+age+1) {
				checkTable(t, x, ageCall(now, age))
			}
		}
	}
	full := filled(64, 64, func(i int, r *impl.Row) { r.At, r.Fixed = 100+(i*29)%64, i%7 == 0 })
	for now := 90; now < 190; now++ {
		for _, age := range []int{0, 1, 10} {
			checkTable(t, full, ageCall(now, age))
		}
	}
}

func TestFlush(t *testing.T) {
	x := impl.Table{Rows: []impl.Row{{Vid: 1, Mac: 4, Port: 3, At: 5}, {Vid: 1, Mac: 5, Port: 3, Fixed: true}, {Vid: 1, Mac: 6, Port: 0, At: 6}, {Vid: 2, Mac: 4, Port: 15, At: 4}, {Vid: 2, Mac: 5, Port: 3, At: 5}}, Most: 64}
	lefts := map[int][]int{
		3: {1, 2, 3}, 0: {0, 1, 3, 4}, 15: {0, 1, 2, 4}, 1: {0, 1, 2, 3, 4}, 14: {0, 1, 2, 3, 4},
		-1: {0, 1, 2, 3, 4}, 16: {0, 1, 2, 3, 4}, 19: {0, 1, 2, 3, 4}, math.MinInt: {0, 1, 2, 3, 4}, math.MaxInt: {0, 1, 2, 3, 4},
	}
	for port, lefts := range lefts {
		want := impl.Table{Most: 64}
		for _, i := range lefts {
			want.Rows = append(want.Rows, x.Rows[i])
		}
		if y := checkTable(t, x, flushCall(port)); !sameTable(y, want) {
			t.Errorf("Flush(.., %d) = %+v, want %+v", port, y.Rows, want.Rows)
		}
	}
	full := filled(64, 64, func(i int, r *impl.Row) { r.Port, r.Fixed = i*i%15, i%7 == 0 })
	for _, port := range append(rowPorts, 2, 3, 4, 5, 6, 7, 8, 9, 10, 11, 12, 13) {
		checkTable(t, full, flushCall(port))
		checkTable(t, impl.Table{}, flushCall(port))
	}
}

// smallTables calls check with every table of up to three places in which a row is absent or of any of eight kinds.
func smallTables(check func(x impl.Table)) {
	places := []impl.Row{{Vid: 1, Mac: 2}, {Vid: 1, Mac: 4}, {Vid: 2, Mac: 2}}
	for n := range 9 * 9 * 9 {
		var rows []impl.Row
		for i, rest := 0, n; i < 3; i, rest = i+1, rest/9 {
			if kind := rest%9 - 1; kind >= 0 {
				r := places[i]
				r.Port, r.At, r.Fixed = kind%2, 3+kind/2%2, kind/4 == 1
				rows = append(rows, r)
			}
		}
		for most := len(rows); most <= 4; most++ {
			check(impl.Table{Rows: rows, Most: most})
		}
	}
}

func TestAllSmallTables(t *testing.T) {
	var calls []tableCall
	for _, place := range []impl.Row{{Vid: 1, Mac: 2}, {Vid: 1, Mac: 3}, {Vid: 1, Mac: 4}, {Vid: 2, Mac: 2}} {
		for now := 2; now <= 5; now++ {
			calls = append(calls, learnCall(place.Vid, place.Mac, 1, now))
		}
		calls = append(calls, learnCall(place.Vid, place.Mac, 16, 4), fixCall(place.Vid, place.Mac, 0), fixCall(place.Vid, place.Mac, -1))
	}
	for now := 3; now <= 7; now++ {
		calls = append(calls, ageCall(now, 0), ageCall(now, 1))
	}
	calls = append(calls, flushCall(0), flushCall(1), flushCall(2), ageCall(-1, 0))
	smallTables(func(x impl.Table) {
		checkTableOk(t, x)
		for _, c := range calls {
			checkTable(t, x, c)
		}
		for vid := range 4 {
			for mac := range 6 {
				checkLook(t, x, vid, mac)
			}
		}
	})
}

// randomCall is a call whose numbers are mostly right, among few addresses and times.
func randomCall(random *rand.Rand, vids, macs, now int) tableCall {
	vid, mac, port := random.Intn(vids+1), 2*random.Intn(macs), random.Intn(17)
	switch random.Intn(20) {
	case 0:
		return flushCall(port)
	case 1:
		return ageCall(now, random.Intn(120)-1)
	case 2, 3:
		return fixCall(vid, mac, port)
	}
	return learnCall(vid, mac, port, now-random.Intn(3))
}

// A valid table stays valid through long runs of calls, and each call does what the document says.
func TestRandomRuns(t *testing.T) {
	random := rand.New(rand.NewSource(5))
	for most := range 65 {
		x := impl.Table{Most: most}
		for now := range 500 {
			x = checkTable(t, x, randomCall(random, 1+most/8, 24, now))
			checkLook(t, x, random.Intn(10), 2*random.Intn(24))
		}
	}
}

// Where a call may not forget an address, it is found at its port afterwards.
func TestAddressIsFoundUntilForgotten(t *testing.T) {
	random := rand.New(rand.NewSource(55))
	for most := 2; most <= 64; most++ {
		x := impl.Fix(impl.Table{Most: most}, 2, 7, 11)
		for now := 1; now <= 300; now++ {
			mac, port := 2*random.Intn(40), random.Intn(16)
			x = impl.Learn(x, 1, mac, port, now)
			if impl.Look(x, 1, mac) != port {
				t.Fatalf("Look(.., 1, %d) = %d just after Learn at %d", mac, impl.Look(x, 1, mac), port)
			}
			for _, y := range []impl.Table{impl.Flush(x, (port+1)%16), impl.AgeOut(x, now+9, 9), impl.Learn(x, 3, 7, 12, -1)} {
				if impl.Look(y, 1, mac) != port {
					t.Fatalf("Look(.., 1, %d) = %d, want %d", mac, impl.Look(y, 1, mac), port)
				}
			}
			for _, y := range []impl.Table{impl.Flush(x, port), impl.AgeOut(x, now+10, 9)} {
				if impl.Look(y, 1, mac) != -1 {
					t.Fatalf("Look(.., 1, %d) = %d after it was forgotten", mac, impl.Look(y, 1, mac))
				}
			}
			for _, y := range []impl.Table{x, impl.Flush(x, 11), impl.AgeOut(x, lastTime, 0), impl.Learn(x, 2, 7, 3, now)} {
				if impl.Look(y, 2, 7) != 11 {
					t.Fatalf("the fixed address is at %d", impl.Look(y, 2, 7))
				}
			}
		}
	}
}
