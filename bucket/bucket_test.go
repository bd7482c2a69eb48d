package bucket

import (
	"math"
	"slices"
	"testing"

	"tokenfold/api"
	"tokenfold/plain"
)

// noCounts: what may neither come nor be taken at a time, on both sides.
var noCounts = []int{-1, -2, -100, -101, math.MinInt, math.MinInt + 1, 101, 102, 1 << 32, math.MaxInt - 1, math.MaxInt}

// noTimes: what is no time, on both sides.
var noTimes = []int{-1, -2, -api.MaxTime, math.MinInt, math.MinInt + 1, api.MaxTime + 1, api.MaxTime + 2, 1 << 32, math.MaxInt - 1, math.MaxInt}

// of is a bucket with that Size, Rate, Has and Time.
func of(size, rate, has, time int) api.Bucket {
	return api.Bucket{Size: size, Rate: rate, Has: has, Time: time}
}

func checkIs(t *testing.T, b api.Bucket, want api.Errno) {
	t.Helper()
	if err := Check(b); plain.Told(err) != want || (err == nil) != (want == api.OK) {
		t.Errorf("Check(%v): got %v, want %v", b, err, want)
	}
}

func atIs(t *testing.T, b api.Bucket, time int, want api.Bucket) {
	t.Helper()
	if got, err := At(b, time); got != want || err != nil {
		t.Errorf("At(%v, %d): got %v, %v, want %v", b, time, got, err, want)
	}
}

// atRefused: At tells that error, and nothing beside it.
func atRefused(t *testing.T, b api.Bucket, time int, want api.Errno) {
	t.Helper()
	if got, err := At(b, time); got != (api.Bucket{}) || plain.Told(err) != want {
		t.Errorf("At(%v, %d): got %v, %v, want none, %v", b, time, got, err, want)
	}
}

func takeIs(t *testing.T, b api.Bucket, time, n int, want api.Bucket) {
	t.Helper()
	if got, err := Take(b, time, n); got != want || err != nil {
		t.Errorf("Take(%v, %d, %d): got %v, %v, want %v", b, time, n, got, err, want)
	}
}

// takeRefused: Take tells that error, and nothing beside it.
func takeRefused(t *testing.T, b api.Bucket, time, n int, want api.Errno) {
	t.Helper()
	if got, err := Take(b, time, n); got != (api.Bucket{}) || plain.Told(err) != want {
		t.Errorf("Take(%v, %d, %d): got %v, %v, want none, %v", b, time, n, got, err, want)
	}
}

// bothRefused: At, and Take of whatever number, tell that error.
func bothRefused(t *testing.T, b api.Bucket, time int, want api.Errno) {
	t.Helper()
	atRefused(t, b, time, want)
	for _, n := range slices.Concat([]int{0, 1, b.Has, b.Size, api.MaxBurst}, noCounts) {
		takeRefused(t, b, time, n, want)
	}
}

// wrongBucket: each call tells what is wrong with the bucket ahead of all else, be the time right, late, or none.
func wrongBucket(t *testing.T, b api.Bucket) {
	t.Helper()
	checkIs(t, b, api.ErrRange)
	for _, time := range slices.Concat([]int{0, 1, 50, b.Time - 1, b.Time, b.Time + 1, api.MaxTime}, noTimes) {
		bothRefused(t, b, time, api.ErrRange)
	}
}

// filled is a bucket at a later time, filled up time by time, and one by one.
func filled(b api.Bucket, time int) api.Bucket {
	for b.Time < time {
		for range b.Rate {
			if b.Has < b.Size {
				b.Has++
			}
		}
		b.Time++
	}
	return b
}

// asWorkedOut: At and Take do what filling up one by one, and taking one by one, says.
func asWorkedOut(t *testing.T, b api.Bucket, time int) {
	t.Helper()
	later := filled(b, time)
	atIs(t, b, time, later)
	checkIs(t, later, api.OK)
	for n := range later.Has + 1 {
		left := later
		for range n {
			left.Has--
		}
		takeIs(t, b, time, n, left)
		checkIs(t, left, api.OK)
	}
	for n := later.Has + 1; n <= min(later.Has+3, api.MaxBurst); n++ {
		takeRefused(t, b, time, n, api.ErrFull)
	}
}

// TestCheckRight: buckets at their edges.
func TestCheckRight(t *testing.T) {
	for _, size := range []int{1, 2, 50, 99, 100} {
		for _, rate := range []int{0, 1, 50, 99, 100} {
			for _, has := range []int{0, 1, size - 1, size} {
				for _, time := range []int{0, 1, 4711, 99_999, 100_000} {
					checkIs(t, of(size, rate, has, time), api.OK)
				}
			}
		}
	}
}

// TestCheckSize: beyond its edges on both sides; 0 is none, though it has 0.
func TestCheckSize(t *testing.T) {
	for _, size := range slices.Concat([]int{0}, noCounts) {
		for _, has := range []int{0, 1, 100, size - 1, size} {
			wrongBucket(t, of(size, 5, has, 40))
		}
	}
	wrongBucket(t, of(0, 0, 0, 0))
}

// TestCheckRate: beyond its edges on both sides; above Size it is right.
func TestCheckRate(t *testing.T) {
	for _, rate := range noCounts {
		wrongBucket(t, of(1, rate, 0, 40))
		wrongBucket(t, of(100, rate, 100, 40))
	}
	checkIs(t, of(1, 2, 0, 40), api.OK)
	checkIs(t, of(1, 100, 1, 40), api.OK)
}

// TestCheckHas: beyond its edges on both sides, of which the upper is Size.
func TestCheckHas(t *testing.T) {
	for _, size := range []int{1, 2, 7, 99, 100} {
		for _, has := range slices.Concat([]int{size + 1, size + 2}, noCounts) {
			wrongBucket(t, of(size, 5, has, 40))
		}
	}
	wrongBucket(t, of(50, 5, 100, 40))
}

// TestCheckTime: beyond its edges on both sides.
func TestCheckTime(t *testing.T) {
	for _, time := range noTimes {
		wrongBucket(t, of(1, 0, 0, time))
		wrongBucket(t, of(100, 100, 100, time))
	}
}

// TestCheckOne: with any choice of its numbers wrong, a bucket is.
func TestCheckOne(t *testing.T) {
	for choice := 1; choice < 16; choice++ {
		b := of(50, 5, 20, 40)
		for i, wrong := range []func(){
			func() { b.Size = 101 },
			func() { b.Rate = 101 },
			func() { b.Has = -1 },
			func() { b.Time = -1 },
		} {
			if choice>>i&1 == 1 {
				wrong()
			}
		}
		wrongBucket(t, b)
	}
}

// TestCheckSmall: every small bucket, a bit past its edges on the lower side, and past Size.
func TestCheckSmall(t *testing.T) {
	for size := -2; size < 6; size++ {
		for rate := -2; rate < 3; rate++ {
			for has := -2; has < 8; has++ {
				for time := -2; time < 3; time++ {
					want := api.OK
					if min(size-1, rate, has, size-has, time) < 0 {
						want = api.ErrRange
					}
					checkIs(t, of(size, rate, has, time), want)
				}
			}
		}
	}
}

// TestAtFills: just to Size, to less, and no further where it would be more.
func TestAtFills(t *testing.T) {
	b := of(30, 5, 10, 40)
	atIs(t, b, 40, of(30, 5, 10, 40))
	atIs(t, b, 41, of(30, 5, 15, 41))
	atIs(t, b, 43, of(30, 5, 25, 43))
	atIs(t, b, 44, of(30, 5, 30, 44))
	atIs(t, b, 45, of(30, 5, 30, 45))
	atIs(t, of(30, 5, 11, 40), 43, of(30, 5, 26, 43))
	atIs(t, of(30, 5, 11, 40), 44, of(30, 5, 30, 44))
	atIs(t, of(30, 5, 9, 40), 44, of(30, 5, 29, 44))
	atIs(t, b, api.MaxTime, of(30, 5, 30, api.MaxTime))
	atIs(t, of(30, 5, 30, 40), 41, of(30, 5, 30, 41))
	atIs(t, of(1, 100, 0, 40), 41, of(1, 100, 1, 41))
	atIs(t, of(100, 100, 0, 40), 41, of(100, 100, 100, 41))
	atIs(t, of(100, 99, 0, 40), 41, of(100, 99, 99, 41))
	atIs(t, of(100, 99, 0, 40), 42, of(100, 99, 100, 42))
}

// TestAtEdges: of the first time and the last, and from one to the other.
func TestAtEdges(t *testing.T) {
	atIs(t, of(1, 0, 0, 0), 0, of(1, 0, 0, 0))
	atIs(t, of(100, 100, 0, 0), 0, of(100, 100, 0, 0))
	atIs(t, of(100, 100, 0, 0), api.MaxTime, of(100, 100, 100, api.MaxTime))
	atIs(t, of(100, 1, 0, 0), api.MaxTime, of(100, 1, 100, api.MaxTime))
	atIs(t, of(100, 100, 7, api.MaxTime), api.MaxTime, of(100, 100, 7, api.MaxTime))
	atIs(t, of(100, 1, 7, api.MaxTime-1), api.MaxTime, of(100, 1, 8, api.MaxTime))
}

// TestAtNothingComes: at Rate 0 it has what it had, however late it is.
func TestAtNothingComes(t *testing.T) {
	for _, has := range []int{0, 1, 29, 30} {
		for _, time := range []int{40, 41, 4711, api.MaxTime} {
			atIs(t, of(30, 0, has, 40), time, of(30, 0, has, time))
		}
	}
}

// TestTimeRange: a time that is none, with n right or wrong.
func TestTimeRange(t *testing.T) {
	for _, b := range []api.Bucket{of(1, 0, 0, 0), of(30, 5, 10, 40), of(100, 100, 100, api.MaxTime)} {
		for _, none := range noTimes {
			bothRefused(t, b, none, api.ErrRange)
		}
	}
}

// TestTimeLate: a time that is below the bucket's, by one or by much, with n right or wrong.
func TestTimeLate(t *testing.T) {
	for _, from := range []int{1, 2, 40, 4711, api.MaxTime - 1, api.MaxTime} {
		for _, time := range []int{0, from / 2, from - 1} {
			bothRefused(t, of(30, 5, 10, from), time, api.ErrLate)
			bothRefused(t, of(30, 0, 30, from), time, api.ErrLate)
		}
	}
}

// TestTakeCount: just as many as there are, one fewer, one more, now and later.
func TestTakeCount(t *testing.T) {
	b := of(30, 5, 10, 40)
	takeIs(t, b, 40, 0, of(30, 5, 10, 40))
	takeIs(t, b, 40, 1, of(30, 5, 9, 40))
	takeIs(t, b, 40, 9, of(30, 5, 1, 40))
	takeIs(t, b, 40, 10, of(30, 5, 0, 40))
	takeRefused(t, b, 40, 11, api.ErrFull)
	takeIs(t, b, 43, 24, of(30, 5, 1, 43))
	takeIs(t, b, 43, 25, of(30, 5, 0, 43))
	takeRefused(t, b, 43, 26, api.ErrFull)
	takeIs(t, b, 4711, 29, of(30, 5, 1, 4711))
	takeIs(t, b, 4711, 30, of(30, 5, 0, 4711))
	takeRefused(t, b, 4711, 31, api.ErrFull)
	takeRefused(t, b, 4711, api.MaxBurst, api.ErrFull)
}

// TestTakeEdges: 0 and MaxBurst, of buckets that have nothing, all, or one too few.
func TestTakeEdges(t *testing.T) {
	takeIs(t, of(1, 0, 0, 0), 0, 0, of(1, 0, 0, 0))
	takeRefused(t, of(1, 0, 0, 0), 0, 1, api.ErrFull)
	takeRefused(t, of(1, 0, 0, 0), api.MaxTime, 1, api.ErrFull)
	takeIs(t, of(100, 0, 100, 40), 40, 100, of(100, 0, 0, 40))
	takeIs(t, of(100, 100, 0, 40), 41, 100, of(100, 100, 0, 41))
	takeRefused(t, of(100, 0, 99, 40), 40, 100, api.ErrFull)
	takeRefused(t, of(99, 100, 99, 40), 41, 100, api.ErrFull)
	takeIs(t, of(100, 100, 100, api.MaxTime), api.MaxTime, 100, of(100, 100, 0, api.MaxTime))
}

// TestTakeRange: a number that may not be taken, of buckets that have nothing, some, or all: it is told ahead of there being too few.
func TestTakeRange(t *testing.T) {
	for _, b := range []api.Bucket{of(1, 0, 0, 0), of(30, 5, 10, 40), of(30, 0, 30, 40), of(100, 100, 100, 40), of(100, 0, 0, 40)} {
		for _, time := range []int{b.Time, b.Time + 1, api.MaxTime} {
			for _, none := range noCounts {
				takeRefused(t, b, time, none, api.ErrRange)
			}
		}
	}
}

// TestOrder: of every choice of faults the first that the chapter names is told.
func TestOrder(t *testing.T) {
	for choice := range 16 {
		b, time, n := of(50, 0, 20, 40), 50, 10
		want := api.OK
		for i, fault := range []func() api.Errno{
			func() api.Errno { n = 21; return api.ErrFull },
			func() api.Errno { n = 101; return api.ErrRange },
			func() api.Errno { time = 39; return api.ErrLate },
			func() api.Errno { b.Rate = -1; return api.ErrRange },
		} {
			if choice>>i&1 == 1 {
				want = fault()
			}
		}
		if want == api.OK {
			takeIs(t, b, time, n, of(50, 0, 10, 50))
			continue
		}
		takeRefused(t, b, time, n, want)
		if choice>>2 == 0 {
			atIs(t, b, time, of(50, 0, 20, 50))
		} else {
			atRefused(t, b, time, want)
		}
	}
}

// TestSmall: every small bucket that is right, at every time that is near.
func TestSmall(t *testing.T) {
	for size := 1; size < 8; size++ {
		for rate := range 10 {
			for has := range size + 1 {
				for late := range 12 {
					asWorkedOut(t, of(size, rate, has, 3), 3+late)
				}
			}
		}
	}
}

// TestGreat: buckets at the upper edges, at times that are near, and far.
func TestGreat(t *testing.T) {
	for _, size := range []int{1, 50, 99, 100} {
		for _, rate := range []int{0, 1, 49, 50, 99, 100} {
			for _, has := range []int{0, 1, size / 2, size} {
				for _, late := range []int{0, 1, 2, 99, 100, 101} {
					asWorkedOut(t, of(size, rate, has, 0), late)
					asWorkedOut(t, of(size, rate, has, api.MaxTime-late), api.MaxTime)
				}
			}
		}
	}
}

// TestByParts: at a later time it is the same, whether it was looked at between or not.
func TestByParts(t *testing.T) {
	for _, b := range []api.Bucket{of(30, 5, 10, 40), of(7, 3, 0, 40), of(100, 1, 0, 40), of(9, 0, 4, 40)} {
		for first := 40; first < 60; first++ {
			between, err := At(b, first)
			if err != nil {
				t.Fatalf("At(%v, %d): %v", b, first, err)
			}
			for second := first; second < 70; second++ {
				atIs(t, between, second, filled(b, second))
			}
		}
	}
}

// next is a number that looks like any, the same at every run.
func next(last int) int { return (last*1103515245 + 12345) % (1 << 31) }

// TestNeverMore: in long runs never more is taken than it had, and what came; what is refused changes nothing.
func TestNeverMore(t *testing.T) {
	for _, from := range []api.Bucket{of(10, 1, 10, 0), of(100, 7, 0, 0), of(5, 100, 2, 0), of(20, 0, 20, 0)} {
		b, taken, time, drawn := from, 0, 0, 7
		for range 3_000 {
			drawn = next(drawn)
			time += drawn / 64 % 4
			n := drawn / 1024 % 12
			later := filled(b, time)
			if n > later.Has {
				takeRefused(t, b, time, n, api.ErrFull)
				continue
			}
			later.Has -= n
			takeIs(t, b, time, n, later)
			b, taken = later, taken+n
			if most := from.Has + from.Rate*time; taken > most {
				t.Fatalf("of %v %d were taken till %d, and there were %d", from, taken, time, most)
			}
		}
	}
}
