package tests

import (
	"math"
	"math/rand"
	"slices"
	"testing"

	"loop.example/g00687/impl"
)

// lastToken is the greatest Rate and the greatest Burst.
const lastToken = 1000000

// Each number's values at the ends of its range, beside them and far from them.
var (
	bucketRates  = []int{-1, 0, 1, 2, 7, lastToken - 1, lastToken, lastToken + 1, math.MinInt, math.MaxInt}
	bucketBursts = []int{-1, 0, 1, 2, 100, lastToken - 1, lastToken, lastToken + 1, math.MinInt, math.MaxInt}
	bucketLevels = []int{-1, 0, 1, 2, 50, lastToken - 1, lastToken, lastToken + 1, math.MinInt, math.MaxInt}
	bucketAts    = []int{-1, 0, 1, 5, lastTime - 1, lastTime, lastTime + 1, math.MinInt, math.MaxInt}
	spentNumbers = []int{-lastToken - 1, -lastToken, -2, -1, 0, 1, 2, lastToken, lastToken + 1, lastTime, 1 << 32, 1<<32 + 1, 1 << 62, -1 << 62, math.MaxInt - 1, math.MaxInt, math.MinInt, math.MinInt + 1, math.MinInt + lastToken}
)

// validBucket is what the document says of BucketOk.
func validBucket(b impl.Bucket) bool {
	return within(b.Rate, 0, lastToken) && within(b.Burst, 0, lastToken) && within(b.Level, 0, b.Burst) && within(b.At, 0, lastTime)
}

func bucketReaches(b impl.Bucket, now int) bool {
	return validBucket(b) && within(now, b.At, lastTime)
}

// wantFill counts the units of time until the bucket is full, so that it multiplies nothing that is lost.
func wantFill(b impl.Bucket, now int) impl.Bucket {
	if !bucketReaches(b, now) {
		return b
	}
	units, room := now-b.At, b.Burst-b.Level
	filled := impl.Bucket{Rate: b.Rate, Burst: b.Burst, Level: b.Burst, At: now}
	if b.Rate == 0 || units <= room/b.Rate {
		filled.Level = b.Level + units*b.Rate
	}
	return filled
}

func wantSpend(b impl.Bucket, now, n int) (impl.Bucket, bool) {
	filled := wantFill(b, now)
	if !bucketReaches(b, now) || !within(n, 0, filled.Level) {
		return filled, false
	}
	filled.Level -= n
	return filled, true
}

// checkFill and checkSpend compare a result with what the document says, and check that a second call has the same one
// and that a valid bucket remains valid.
func checkFill(t *testing.T, b impl.Bucket, now int) impl.Bucket {
	t.Helper()
	got, again, want := impl.Fill(b, now), impl.Fill(b, now), wantFill(b, now)
	if got != want || again != want {
		t.Fatalf("Fill(%+v, %d) = %+v, then %+v, want %+v", b, now, got, again, want)
	}
	checkBucketOk(t, got)
	if validBucket(b) != impl.BucketOk(got) {
		t.Fatalf("Fill(%+v, %d) = %+v, whose BucketOk is %v", b, now, got, impl.BucketOk(got))
	}
	return got
}

func checkSpend(t *testing.T, b impl.Bucket, now, n int) (impl.Bucket, bool) {
	t.Helper()
	got, ok := impl.Spend(b, now, n)
	again, okAgain := impl.Spend(b, now, n)
	want, wantOk := wantSpend(b, now, n)
	if got != want || ok != wantOk || again != want || okAgain != wantOk {
		t.Fatalf("Spend(%+v, %d, %d) = %+v, %v, then %+v, %v, want %+v, %v", b, now, n, got, ok, again, okAgain, want, wantOk)
	}
	if !ok && got != impl.Fill(b, now) {
		t.Fatalf("Spend(%+v, %d, %d) = %+v, false, but Fill = %+v", b, now, n, got, impl.Fill(b, now))
	}
	if validBucket(b) != impl.BucketOk(got) {
		t.Fatalf("Spend(%+v, %d, %d) = %+v, whose BucketOk is %v", b, now, n, got, impl.BucketOk(got))
	}
	return got, ok
}

func checkBucketOk(t *testing.T, b impl.Bucket) {
	t.Helper()
	if got, want := impl.BucketOk(b), validBucket(b); got != want {
		t.Fatalf("BucketOk(%+v) = %v, want %v", b, got, want)
	}
}

// edgeBuckets calls check with every bucket out of the edges of its numbers and with Level at and beside Burst.
func edgeBuckets(check func(b impl.Bucket)) {
	for _, rate := range bucketRates {
		for _, burst := range bucketBursts {
			levels := slices.Concat(bucketLevels, []int{burst - 1, burst, burst + 1, burst / 2})
			slices.Sort(levels)
			for _, level := range slices.Compact(levels) {
				for _, at := range bucketAts {
					check(impl.Bucket{Rate: rate, Burst: burst, Level: level, At: at})
				}
			}
		}
	}
}

// timesFor returns the edges of times, those beside At and, for a bucket that fills, those beside the time at which it is full.
func timesFor(b impl.Bucket) []int {
	times := append(slices.Clone(rowTimes), b.At-1, b.At, b.At+1, b.At+2, 2)
	if validBucket(b) && b.Rate > 0 {
		full := b.At + (b.Burst-b.Level)/b.Rate
		times = append(times, full-1, full, full+1, full+2)
	}
	return times
}

// invalidBuckets holds buckets with every reason to be invalid, most of them right in everything else.
func invalidBuckets() []impl.Bucket {
	return []impl.Bucket{
		{Rate: -1, Burst: 9, Level: 5, At: 5}, {Rate: lastToken + 1, Burst: 9, Level: 5, At: 5}, {Rate: math.MinInt, Burst: 9, Level: 5, At: 5}, {Rate: math.MaxInt, Burst: 9, Level: 5, At: 5},
		{Rate: 1, Burst: -1, At: 5}, {Rate: 1, Burst: -1, Level: -1, At: 5}, {Rate: 1, Burst: lastToken + 1, Level: 5, At: 5}, {Rate: 1, Burst: lastToken + 1, Level: lastToken + 1, At: 5}, {Rate: 1, Burst: math.MinInt, Level: math.MinInt, At: 5}, {Rate: 1, Burst: math.MaxInt, Level: 5, At: 5},
		{Rate: 1, Burst: 9, Level: -1, At: 5}, {Rate: 1, Burst: 9, Level: 10, At: 5}, {Rate: 1, Level: 1, At: 5}, {Rate: 1, Burst: lastToken, Level: lastToken + 1, At: 5}, {Rate: 1, Burst: 9, Level: math.MinInt, At: 5}, {Rate: 1, Burst: 9, Level: math.MaxInt, At: 5}, {Level: 5}, {Level: -1},
		{Rate: 1, Burst: 9, Level: 5, At: -1}, {Rate: 1, Burst: 9, Level: 5, At: lastTime + 1}, {Rate: 1, Burst: 9, Level: 5, At: math.MinInt}, {Rate: 1, Burst: 9, Level: 5, At: math.MaxInt}, {At: -1}, {At: lastTime + 1},
	}
}

func TestBucketOk(t *testing.T) {
	valid := []impl.Bucket{
		{}, {Rate: 1}, {Rate: lastToken}, {Burst: 1}, {Burst: 1, Level: 1}, {Burst: lastToken}, {Burst: lastToken, Level: lastToken}, {Burst: lastToken, Level: lastToken - 1}, {At: 1}, {At: lastTime},
		{Rate: lastToken, Burst: lastToken, Level: lastToken, At: lastTime}, {Rate: 9, Burst: 5, Level: 5, At: 1}, {Rate: 5, Burst: 9, Level: 8, At: lastTime - 1}, {Rate: lastToken - 1, Burst: lastToken - 1, Level: lastToken - 1, At: 7},
	}
	for _, b := range valid {
		if !impl.BucketOk(b) {
			t.Errorf("BucketOk(%+v) = false", b)
		}
	}
	for _, b := range invalidBuckets() {
		if impl.BucketOk(b) {
			t.Errorf("BucketOk(%+v) = true", b)
		}
	}
	count := 0
	edgeBuckets(func(b impl.Bucket) {
		checkBucketOk(t, b)
		count += b2n(impl.BucketOk(b))
	})
	// The Levels of the valid Bursts 0, 1, 2, 100, lastToken-1 and lastToken.
	if want := 6 * (1 + 2 + 3 + 6 + 7 + 7) * 5; count != want {
		t.Errorf("%d of the buckets at the edges are valid, want %d", count, want)
	}
}

func TestNewBucket(t *testing.T) {
	rows := []struct {
		rate, burst, now int
		want             impl.Bucket
	}{
		{10, 100, 5, impl.Bucket{Rate: 10, Burst: 100, Level: 100, At: 5}}, {100, 10, 5, impl.Bucket{Rate: 100, Burst: 10, Level: 10, At: 5}}, {0, 0, 0, impl.Bucket{}}, {0, 0, 1, impl.Bucket{At: 1}}, {0, 1, 0, impl.Bucket{Burst: 1, Level: 1}}, {1, 0, 0, impl.Bucket{Rate: 1}},
		{lastToken, 1, 1, impl.Bucket{Rate: lastToken, Burst: 1, Level: 1, At: 1}}, {1, lastToken, 1, impl.Bucket{Rate: 1, Burst: lastToken, Level: lastToken, At: 1}}, {1, 1, lastTime, impl.Bucket{Rate: 1, Burst: 1, Level: 1, At: lastTime}}, {lastToken, lastToken, lastTime, impl.Bucket{Rate: lastToken, Burst: lastToken, Level: lastToken, At: lastTime}},
		{-1, 5, 5, impl.Bucket{}}, {lastToken + 1, 5, 5, impl.Bucket{}}, {5, -1, 5, impl.Bucket{}}, {5, lastToken + 1, 5, impl.Bucket{}}, {5, 5, -1, impl.Bucket{}}, {5, 5, lastTime + 1, impl.Bucket{}}, {math.MinInt, math.MinInt, math.MinInt, impl.Bucket{}}, {math.MaxInt, math.MaxInt, math.MaxInt, impl.Bucket{}},
	}
	for _, r := range rows {
		if got := impl.NewBucket(r.rate, r.burst, r.now); got != r.want {
			t.Errorf("NewBucket(%d, %d, %d) = %+v, want %+v", r.rate, r.burst, r.now, got, r.want)
		}
	}
	for _, rate := range bucketRates {
		for _, burst := range bucketBursts {
			for _, now := range bucketAts {
				want := impl.Bucket{Rate: rate, Burst: burst, Level: burst, At: now}
				if !validBucket(want) {
					want = impl.Bucket{}
				}
				if got := impl.NewBucket(rate, burst, now); got != want || !impl.BucketOk(got) {
					t.Errorf("NewBucket(%d, %d, %d) = %+v, want %+v", rate, burst, now, got, want)
				}
			}
		}
	}
}

func TestFill(t *testing.T) {
	b := impl.Bucket{Rate: 10, Burst: 100, Level: 40, At: 5}
	still, none, most := b, impl.Bucket{Rate: 10, At: 5}, impl.Bucket{Rate: lastToken, Burst: lastToken}
	still.Rate = 0
	rows := []struct {
		b         impl.Bucket
		now       int
		level, at int
	}{
		{b, 5, 40, 5}, {b, 4, 40, 5}, {b, 6, 50, 6}, {b, 7, 60, 7}, {b, 10, 90, 10}, {b, 11, 100, 11}, {b, 12, 100, 12}, {b, lastTime - 1, 100, lastTime - 1}, {b, lastTime, 100, lastTime},
		{b, lastTime + 1, 40, 5}, {b, 0, 40, 5}, {b, -1, 40, 5}, {b, math.MinInt, 40, 5}, {b, math.MaxInt, 40, 5},
		{still, 5, 40, 5}, {still, 6, 40, 6}, {still, lastTime, 40, lastTime}, {still, 4, 40, 5}, {still, lastTime + 1, 40, 5},
		{none, 5, 0, 5}, {none, 6, 0, 6}, {none, lastTime, 0, lastTime}, {none, 4, 0, 5},
		{impl.Bucket{Rate: 9, Burst: 100, Level: 40, At: 5}, 11, 94, 11}, {impl.Bucket{Rate: 9, Burst: 100, Level: 40, At: 5}, 12, 100, 12}, {impl.Bucket{Rate: 1, Burst: 100, Level: 40, At: 5}, 64, 99, 64}, {impl.Bucket{Rate: 1, Burst: 100, Level: 40, At: 5}, 65, 100, 65}, {impl.Bucket{Rate: 1, Burst: 100, Level: 40, At: 5}, 66, 100, 66},
		{most, 0, 0, 0}, {most, 1, lastToken, 1}, {most, lastTime, lastToken, lastTime}, {impl.Bucket{Rate: lastToken, Burst: 1}, lastTime, 1, lastTime}, {impl.Bucket{Rate: lastToken}, lastTime, 0, lastTime}, {impl.Bucket{Rate: 1, Burst: lastToken}, lastToken - 1, lastToken - 1, lastToken - 1}, {impl.Bucket{Rate: 1, Burst: lastToken}, lastTime, lastToken, lastTime},
		{impl.Bucket{Rate: 1, Burst: 9, Level: 5, At: lastTime}, lastTime, 5, lastTime}, {impl.Bucket{Rate: 1, Burst: 9, Level: 5, At: lastTime}, lastTime + 1, 5, lastTime}, {impl.Bucket{Rate: 1, Burst: 9, Level: 5, At: lastTime}, lastTime - 1, 5, lastTime}, {impl.Bucket{Rate: 1, Burst: 9, Level: 5}, -1, 5, 0}, {impl.Bucket{}, 9, 0, 9},
	}
	for _, r := range rows {
		want := impl.Bucket{Rate: r.b.Rate, Burst: r.b.Burst, Level: r.level, At: r.at}
		if got := checkFill(t, r.b, r.now); got != want {
			t.Errorf("Fill(%+v, %d) = %+v, want %+v", r.b, r.now, got, want)
		}
	}
}

func TestFillAtTheEdges(t *testing.T) {
	filled := 0
	edgeBuckets(func(b impl.Bucket) {
		for _, now := range timesFor(b) {
			filled += b2n(checkFill(t, b, now).Level > b.Level)
		}
	})
	if filled < 1000 {
		t.Errorf("only %d of the buckets at the edges were filled", filled)
	}
}

// A valid bucket gains Rate with every single unit of time, until it is full.
func TestFillUnitByUnit(t *testing.T) {
	for rate := range 5 {
		for burst := range 12 {
			for level := range burst + 1 {
				b := impl.Bucket{Rate: rate, Burst: burst, Level: level, At: 3}
				at := b
				for now := 3; now < 20; now++ {
					if got := impl.Fill(b, now); got != at {
						t.Fatalf("Fill(%+v, %d) = %+v, want %+v", b, now, got, at)
					}
					at.At++
					for added := 0; added < rate && at.Level < burst; added++ {
						at.Level++
					}
				}
			}
		}
	}
}

// It does not matter how often a bucket is filled on the way, nor that one tries to fill it at a wrong time.
func TestFillInTwoSteps(t *testing.T) {
	edgeBuckets(func(b impl.Bucket) {
		if !validBucket(b) {
			return
		}
		times := timesFor(b)
		for _, now := range times {
			if !within(now, b.At, lastTime) {
				continue
			}
			want := impl.Fill(b, now)
			for _, middle := range times {
				if within(middle, b.At, now) || !within(middle, b.At, lastTime) {
					if got := impl.Fill(impl.Fill(b, middle), now); got != want {
						t.Fatalf("Fill(%+v, %d) = %+v, but by way of %d it is %+v", b, now, want, middle, got)
					}
				}
			}
		}
	})
}

func TestSpend(t *testing.T) {
	b := impl.Bucket{Rate: 10, Burst: 100, Level: 40, At: 5}
	rows := []struct {
		b         impl.Bucket
		now, n    int
		level, at int
		ok        bool
	}{
		{b, 5, 0, 40, 5, true}, {b, 5, 1, 39, 5, true}, {b, 5, 39, 1, 5, true}, {b, 5, 40, 0, 5, true}, {b, 5, 41, 40, 5, false}, {b, 5, -1, 40, 5, false}, {b, 5, math.MaxInt, 40, 5, false}, {b, 5, math.MinInt, 40, 5, false}, {b, 5, math.MinInt + 41, 40, 5, false},
		{b, 6, 0, 50, 6, true}, {b, 6, 50, 0, 6, true}, {b, 6, 51, 50, 6, false}, {b, 6, -1, 50, 6, false}, {b, 6, math.MaxInt, 50, 6, false}, {b, 6, math.MinInt, 50, 6, false},
		{b, 11, 100, 0, 11, true}, {b, 11, 101, 100, 11, false}, {b, 12, 100, 0, 12, true}, {b, 12, 101, 100, 12, false}, {b, 12, 110, 100, 12, false}, {b, lastTime, 100, 0, lastTime, true}, {b, lastTime, 101, 100, lastTime, false}, {b, lastTime, -1, 100, lastTime, false},
		{b, 4, 0, 40, 5, false}, {b, 4, 1, 40, 5, false}, {b, 4, 41, 40, 5, false}, {b, 4, -1, 40, 5, false}, {b, 0, 0, 40, 5, false}, {b, -1, 0, 40, 5, false}, {b, lastTime + 1, 0, 40, 5, false}, {b, lastTime + 1, 40, 40, 5, false}, {b, math.MinInt, 0, 40, 5, false}, {b, math.MaxInt, 1, 40, 5, false},
		{impl.Bucket{}, 0, 0, 0, 0, true}, {impl.Bucket{}, 9, 0, 0, 9, true}, {impl.Bucket{}, 9, 1, 0, 9, false}, {impl.Bucket{Rate: lastToken}, 9, 1, 0, 9, false}, {impl.Bucket{Burst: 9, Level: 5}, lastTime, 6, 5, lastTime, false}, {impl.Bucket{Burst: 9, Level: 5}, lastTime, 5, 0, lastTime, true},
		{impl.Bucket{Rate: lastToken, Burst: lastToken}, lastTime, lastToken, 0, lastTime, true}, {impl.Bucket{Rate: lastToken, Burst: lastToken}, lastTime, lastToken + 1, lastToken, lastTime, false}, {impl.Bucket{Rate: 1, Burst: 9, Level: 5, At: lastTime}, lastTime, 5, 0, lastTime, true}, {impl.Bucket{Rate: 1, Burst: 9, Level: 5, At: lastTime}, lastTime - 1, 5, 5, lastTime, false},
	}
	for _, r := range rows {
		want := impl.Bucket{Rate: r.b.Rate, Burst: r.b.Burst, Level: r.level, At: r.at}
		if got, ok := checkSpend(t, r.b, r.now, r.n); got != want || ok != r.ok {
			t.Errorf("Spend(%+v, %d, %d) = %+v, %v, want %+v, %v", r.b, r.now, r.n, got, ok, want, r.ok)
		}
	}
}

func TestSpendAtTheEdges(t *testing.T) {
	spent, refused := 0, 0
	edgeBuckets(func(b impl.Bucket) {
		for _, now := range timesFor(b) {
			level := wantFill(b, now).Level
			for _, n := range append(spentNumbers, level-1, level, level+1, b.Level, b.Level+1, b.Burst, b.Burst+1) {
				_, ok := checkSpend(t, b, now, n)
				spent += b2n(ok && n > 0)
				refused += b2n(!ok && bucketReaches(b, now))
			}
		}
	})
	if spent < 10000 || refused < 10000 {
		t.Errorf("the buckets at the edges were spent from %d times and refused %d times", spent, refused)
	}
}

// A bucket does not go back in time, and stays as it is where one tries.
func TestSpendBeforeTheLastTime(t *testing.T) {
	for _, at := range []int{0, 1, 2, 5, lastTime - 1, lastTime} {
		for _, level := range []int{0, 1, 50, 99, 100} {
			b := impl.Bucket{Rate: 10, Burst: 100, Level: level, At: at}
			for _, now := range []int{at - 1, at - 2, at / 2, 0, -1, -at, at - lastTime, math.MinInt, lastTime + 1, math.MaxInt} {
				if within(now, at, lastTime) {
					continue
				}
				if got := checkFill(t, b, now); got != b {
					t.Errorf("Fill(%+v, %d) = %+v", b, now, got)
				}
				for _, n := range append(spentNumbers, level-1, level, level+1) {
					if got, ok := checkSpend(t, b, now, n); got != b || ok {
						t.Errorf("Spend(%+v, %d, %d) = %+v, %v", b, now, n, got, ok)
					}
				}
			}
		}
	}
}

func TestInvalidBuckets(t *testing.T) {
	for _, b := range invalidBuckets() {
		for _, now := range append(timesFor(b), 5, 6, 100) {
			if got := checkFill(t, b, now); got != b {
				t.Errorf("Fill(%+v, %d) = %+v", b, now, got)
			}
			for _, n := range append(spentNumbers, b.Level, b.Burst, 5) {
				if got, ok := checkSpend(t, b, now, n); got != b || ok {
					t.Errorf("Spend(%+v, %d, %d) = %+v, %v", b, now, n, got, ok)
				}
			}
		}
	}
}

func TestAllSmallBuckets(t *testing.T) {
	valid := 0
	for kind := range 5 * 6 * 7 * 4 {
		b := impl.Bucket{Rate: kind%5 - 1, Burst: kind/5%6 - 1, Level: kind/30%7 - 1, At: kind/210 - 1}
		checkBucketOk(t, b)
		valid += b2n(impl.BucketOk(b))
		for now := -2; now <= 8; now++ {
			checkFill(t, b, now)
			for n := -2; n <= 7; n++ {
				checkSpend(t, b, now, n)
			}
		}
	}
	if want := 4 * (1 + 2 + 3 + 4 + 5) * 3; valid != want {
		t.Errorf("%d small buckets are valid, want %d", valid, want)
	}
}

// A payment is the state of a bucket after a Spend: its time, its Level, and what has been spent up to then.
type payment struct{ at, level, spent int }

// paymentsOf spends at random times, also wrong ones, from a new bucket.
func paymentsOf(t *testing.T, random *rand.Rand, rate, burst int) []payment {
	t.Helper()
	b := impl.NewBucket(rate, burst, random.Intn(lastTime/2))
	paid := []payment{{b.At, b.Level, 0}}
	for range 200 {
		now := b.At + random.Intn(8) - 1
		n := random.Intn(3*burst/2+2) - 1
		if random.Intn(3) == 0 {
			n = b.Level + random.Intn(2*rate+2)
		}
		before, spent := b, paid[len(paid)-1].spent
		var ok bool
		b, ok = checkSpend(t, before, now, n)
		if ok {
			spent += n
		}
		if b.At < before.At || b.Rate != rate || b.Burst != burst {
			t.Fatalf("Spend(%+v, %d, %d) = %+v", before, now, n, b)
		}
		paid = append(paid, payment{b.At, b.Level, spent})
	}
	return paid
}

// Between any two times no more is spent than was available at the first and has been added up to the second,
// and never more than Burst at once.
func TestNoMoreIsSpentThanIsThere(t *testing.T) {
	random := rand.New(rand.NewSource(7))
	for _, rate := range []int{0, 1, 3, 10, 100, 1522, lastToken} {
		for _, burst := range []int{0, 1, 7, 64, 1500, 9999, lastToken} {
			paid := paymentsOf(t, random, rate, burst)
			for i, from := range paid {
				for _, to := range paid[i:] {
					spent, added := to.spent-from.spent, rate*(to.at-from.at)
					if spent < 0 || spent+to.level > from.level+added || to.at == from.at && spent > burst {
						t.Fatalf("with Rate %d and Burst %d, %+v became %+v", rate, burst, from, to)
					}
				}
			}
			if last := paid[len(paid)-1]; burst > 0 && last.spent == 0 {
				t.Fatalf("with Rate %d and Burst %d nothing was spent", rate, burst)
			}
		}
	}
}

// What is available can be spent at once or piece by piece: the bucket is the same, and empty in the end.
func TestSpendPieceByPiece(t *testing.T) {
	for burst := 1; burst <= 60; burst++ {
		for piece := 1; piece <= burst+1; piece++ {
			b := impl.NewBucket(3, burst, 9)
			for left := burst; left >= piece; left -= piece {
				var ok bool
				if b, ok = checkSpend(t, b, 9, piece); !ok || b.Level != left-piece {
					t.Fatalf("the bucket is %+v, %v with %d left of %d", b, ok, left-piece, burst)
				}
			}
			if refused, ok := checkSpend(t, b, 9, piece); ok || refused != b {
				t.Fatalf("Spend(%+v, 9, %d) = %+v, %v", b, piece, refused, ok)
			}
			once, ok := checkSpend(t, impl.NewBucket(3, burst, 9), 9, burst/piece*piece)
			if !ok || once != b {
				t.Fatalf("%d pieces of %d leave %+v, at once %+v", burst/piece, piece, b, once)
			}
		}
	}
}
