package log

import (
	"math"
	"math/rand"
	"slices"
	"testing"

	"tokenfold/api"
	"tokenfold/plain"
)

// The numbers are written out, so that no const of the program is trusted.
const (
	last    = 999982 // the greatest number that can be spent
	maxTime = 100000
	most    = 16 // that can be known at a time
	done    = 30 // records that can be there
	each    = 9  // bytes of a record
	half    = 4  // of it
)

// numbers that may be spent: at the edges, at those of bytes, and between them.
var numbers = []int{0, 1, 2, 77, 255, 256, 4711, 65535, 65536, maxTime, maxTime + 1, last - 1, last}

// noNumbers: what is no number; some would come to one, were they cut to fewer bits.
var noNumbers = []int{
	-1, -2, -last, -last - 1, math.MinInt, math.MinInt + 1, -1 << 32, last + 1, last + 2, 2 * last,
	1 << 24, 1<<24 + 7, 1 << 32, 1<<32 + 77, 1 << 62, math.MaxInt - 1, math.MaxInt,
}

// times that may be an until, or a now.
var times = []int{0, 1, 2, 50, 255, 256, 4711, 65535, 65536, maxTime - 1, maxTime}

// noTimes: what is no time.
var noTimes = []int{
	-1, -2, -maxTime, math.MinInt, math.MinInt + 1, -1 << 32, maxTime + 1, maxTime + 2, last, last + 1,
	1 << 24, 1<<24 + 50, 1 << 32, 1<<32 + 50, 1 << 62, math.MaxInt - 1, math.MaxInt,
}

func TestConsts(t *testing.T) {
	if api.Modulo != last+1 || api.MaxTime != maxTime || api.MaxSpent != most || api.MaxDone != done {
		t.Errorf("Modulo %d, MaxTime %d, MaxSpent %d, MaxDone %d: want %d, %d, %d, %d", api.Modulo, api.MaxTime, api.MaxSpent, api.MaxDone, last+1, maxTime, most, done)
	}
	if each < 2 || half != each/2 {
		t.Errorf("a record of %d bytes, and half of it %d", each, half)
	}
}

func one(n, until int) api.Spent { return api.Spent{Number: n, Until: until} }

// isSo: how many bytes there are, how many of them are safe, and what All tells, however often they are asked.
func isSo(t *testing.T, g *Log, bytes, safe int, want ...api.Spent) {
	t.Helper()
	for range 2 {
		if g.Bytes() != bytes || g.Safe() != safe {
			t.Fatalf("Bytes %d, Safe %d: want %d, %d", g.Bytes(), g.Safe(), bytes, safe)
		}
		if got := g.All(); !slices.Equal(got, want) {
			t.Fatalf("All: got %v, want %v", got, want)
		}
	}
}

// told: a call's error is that one, and nil where it is OK.
func told(t *testing.T, err error, want api.Errno) {
	t.Helper()
	if plain.Told(err) != want {
		t.Fatalf("got %v, want %v", err, want)
	}
}

func spends(t *testing.T, g *Log, n, until, now int) {
	t.Helper()
	bytes, safe := g.Bytes(), g.Safe()
	if err := g.Spend(n, until, now); err != nil {
		t.Fatalf("Spend(%d, %d, %d): got %v, want nil", n, until, now, err)
	}
	if g.Bytes() != bytes+each || g.Safe() != safe {
		t.Fatalf("Spend(%d, %d, %d): Bytes %d, Safe %d, and behind it %d, %d", n, until, now, bytes, safe, g.Bytes(), g.Safe())
	}
}

// refused: Spend tells that error, and tells it again, as it changed nothing.
func refused(t *testing.T, g *Log, n, until, now int, want api.Errno) {
	t.Helper()
	bytes, safe, was := g.Bytes(), g.Safe(), g.All()
	for range 2 {
		if err := g.Spend(n, until, now); plain.Told(err) != want || err == nil {
			t.Fatalf("Spend(%d, %d, %d): got %v, want %v", n, until, now, err, want)
		}
		isSo(t, g, bytes, safe, was...)
	}
}

func syncs(t *testing.T, g *Log) {
	t.Helper()
	bytes, was := g.Bytes(), g.All()
	if err := g.Sync(); err != nil {
		t.Fatalf("Sync: got %v, want nil", err)
	}
	isSo(t, g, bytes, bytes, was...)
}

// crashes: behind it there are so many bytes, all of them safe, and these are known.
func crashes(t *testing.T, g *Log, keep, bytes int, want ...api.Spent) {
	t.Helper()
	g.Crash(keep)
	isSo(t, g, bytes, bytes, want...)
}

// stopsAtSpend: a Spend is the step at which it stops.
func stopsAtSpend(t *testing.T, g *Log, n, until, now int) {
	t.Helper()
	bytes, safe, was := g.Bytes(), g.Safe(), g.All()
	told(t, g.Spend(n, until, now), api.ErrState)
	isSo(t, g, bytes+half, safe, was...)
	stopped(t, g)
}

// stopsAtSync: a Sync is the step at which it stops.
func stopsAtSync(t *testing.T, g *Log) {
	t.Helper()
	bytes, safe, was := g.Bytes(), g.Safe(), g.All()
	told(t, g.Sync(), api.ErrState)
	isSo(t, g, bytes, safe, was...)
	stopped(t, g)
}

// stopped: each call when it has, which changes nothing, whatever is wrong with it besides; neither does what Fail says.
func stopped(t *testing.T, g *Log) {
	t.Helper()
	bytes, safe, was := g.Bytes(), g.Safe(), g.All()
	for _, n := range []int{-1, 0, 1, math.MinInt, math.MaxInt} {
		refused(t, g, 500, 60, 50, api.ErrState)
		refused(t, g, 500, maxTime, maxTime, api.ErrState)
		refused(t, g, -1, 60, 50, api.ErrState)
		refused(t, g, 500, 49, 50, api.ErrState)
		for _, s := range was {
			refused(t, g, s.Number, s.Until, 0, api.ErrState)
		}
		told(t, g.Sync(), api.ErrState)
		g.Fail(n)
		isSo(t, g, bytes, safe, was...)
	}
}

// some are that many, numbered from 100 on, each till 50.
func some(many int) []api.Spent {
	var l []api.Spent
	for i := range many {
		l = append(l, one(100+i, 50))
	}
	return l
}

// with has that many of some spent, of which the first ones are safe.
func with(t *testing.T, many, safe int) *Log {
	t.Helper()
	g := New()
	for i, s := range some(many) {
		if i == safe {
			syncs(t, g)
		}
		spends(t, g, s.Number, s.Until, 0)
	}
	if many == safe {
		syncs(t, g)
	}
	isSo(t, g, many*each, safe*each, some(many)...)
	return g
}

// moving has that many records, one a time: the number i till i+1, at i. Two of them are known at a time.
func moving(t *testing.T, many int) *Log {
	t.Helper()
	g := New()
	for i := range many {
		spends(t, g, i, i+1, i)
		isSo(t, g, (i+1)*each, 0, movedTo(i+1)...)
	}
	return g
}

// movedTo is what moving knows.
func movedTo(many int) []api.Spent {
	var l []api.Spent
	for i := max(0, many-2); i < many; i++ {
		l = append(l, one(i, i+1))
	}
	return l
}

// TestNew: nothing is there, of each call of a new one.
func TestNew(t *testing.T) {
	isSo(t, New(), 0, 0)
	g := New()
	syncs(t, g)
	isSo(t, g, 0, 0)
	for _, keep := range []int{math.MinInt, -1, 0, 1, half, each, 1000, math.MaxInt} {
		g = New()
		crashes(t, g, keep, 0)
		spends(t, g, 7, 50, 0)
		isSo(t, g, each, 0, one(7, 50))
	}
	g = New()
	spends(t, g, 7, 50, 0)
	isSo(t, g, each, 0, one(7, 50))
}

// TestSpend: each number is there behind its Spend, and behind a Crash that keeps its bytes, or for which they are safe.
func TestSpend(t *testing.T) {
	for _, n := range numbers {
		for _, until := range times {
			for _, now := range times {
				if until < now {
					continue
				}
				g := New()
				spends(t, g, n, until, now)
				isSo(t, g, each, 0, one(n, until))
				crashes(t, g, each, each, one(n, until))
				refused(t, g, n, until, until, api.ErrClash)
				crashes(t, g, 0, each, one(n, until))
				g = New()
				spends(t, g, n, until, now)
				syncs(t, g)
				crashes(t, g, 0, each, one(n, until))
			}
		}
	}
}

// TestSync: ahead of everything, behind a Spend, two in a row, and behind a refusal: all that is there is safe.
func TestSync(t *testing.T) {
	g := New()
	syncs(t, g)
	spends(t, g, 7, 50, 0)
	isSo(t, g, each, 0, one(7, 50))
	syncs(t, g)
	syncs(t, g)
	isSo(t, g, each, each, one(7, 50))
	refused(t, g, 8, 50, 51, api.ErrLate)
	syncs(t, g)
	spends(t, g, 8, 50, 0)
	spends(t, g, 9, 50, 0)
	isSo(t, g, 3*each, each, one(7, 50), one(8, 50), one(9, 50))
	syncs(t, g)
	isSo(t, g, 3*each, 3*each, one(7, 50), one(8, 50), one(9, 50))
	crashes(t, g, 0, 3*each, one(7, 50), one(8, 50), one(9, 50))
}

// TestOrder: what was spent is told in its order, whatever its numbers and times are.
func TestOrder(t *testing.T) {
	l := []api.Spent{one(9, 50), one(last, 60), one(3, 90), one(0, 55), one(4, 51)}
	g := New()
	for i, s := range l {
		spends(t, g, s.Number, s.Until, i)
		isSo(t, g, (i+1)*each, 0, l[:i+1]...)
	}
	crashes(t, g, 1000, len(l)*each, l...)
	spends(t, g, 9, 99, 52)
	isSo(t, g, (len(l)+1)*each, len(l)*each, one(last, 60), one(3, 90), one(0, 55), one(9, 99))
	crashes(t, g, 1000, (len(l)+1)*each, one(last, 60), one(3, 90), one(0, 55), one(9, 99))
}

// TestMaxDone: the last record, and one more: there is no place for it though few are known, nor behind a Crash that leaves all.
func TestMaxDone(t *testing.T) {
	g := moving(t, done)
	for range 2 {
		refused(t, g, 500, 90, done-1, api.ErrFull)
		refused(t, g, 500, 90, 0, api.ErrFull)
		refused(t, g, 500, maxTime, maxTime, api.ErrFull)
		refused(t, g, 0, 90, 40, api.ErrFull)
		syncs(t, g)
		refused(t, g, 500, 90, 50, api.ErrFull)
		crashes(t, g, 0, done*each, movedTo(done)...)
	}
}

// TestMaxDoneFaults: chapter 5's errors are told ahead of the want of a place.
func TestMaxDoneFaults(t *testing.T) {
	g := moving(t, done)
	for _, n := range noNumbers {
		refused(t, g, n, 90, 50, api.ErrRange)
		refused(t, g, n, 49, 50, api.ErrRange)
	}
	for _, no := range noTimes {
		refused(t, g, 500, no, 0, api.ErrRange)
		refused(t, g, done-1, 50, no, api.ErrRange)
	}
	refused(t, g, 500, 49, 50, api.ErrLate)
	refused(t, g, done-1, 49, 50, api.ErrLate)
	refused(t, g, done-1, 90, done, api.ErrClash)
	refused(t, g, done-2, 90, done-1, api.ErrClash)
	refused(t, g, done-2, 90, done, api.ErrFull)
}

// TestMaxDoneCrash: there is place for as many as a Crash lost, and no more.
func TestMaxDoneCrash(t *testing.T) {
	for lost := range done + 1 {
		g := moving(t, done)
		left := done - lost
		crashes(t, g, left*each, left*each, movedTo(left)...)
		for i := left; i < done; i++ {
			spends(t, g, 500+i, 100+i, 100+i)
		}
		refused(t, g, 7, 900, 900, api.ErrFull)
	}
}

// faults of a Spend where as many as may be are known, in the order of the chapter: each has the ones ahead of it not.
var faults = []struct {
	n, until, now int
	want          api.Errno
}{
	{-1, 50, 0, api.ErrRange},
	{last + 1, 50, 0, api.ErrRange},
	{7, -1, 0, api.ErrRange},
	{7, maxTime + 1, 0, api.ErrRange},
	{7, 50, -1, api.ErrRange},
	{7, 50, maxTime + 1, api.ErrRange},
	{-1, 10, 20, api.ErrRange},
	{last + 1, -1, maxTime + 1, api.ErrRange},
	{100, -1, 0, api.ErrRange},
	{100, maxTime + 1, 0, api.ErrRange},
	{100, 50, -1, api.ErrRange},
	{100, 50, maxTime + 1, api.ErrRange},
	{7, -2, -1, api.ErrRange},
	{7, 49, 50, api.ErrLate},
	{100, 49, 50, api.ErrLate},
	{100, 50, 51, api.ErrLate},
	{7, 0, 1, api.ErrLate},
	{7, maxTime - 1, maxTime, api.ErrLate},
	{100, 50, 50, api.ErrClash},
	{115, 60, 0, api.ErrClash},
	{107, maxTime, 50, api.ErrClash},
	{7, 50, 50, api.ErrFull},
	{0, 0, 0, api.ErrFull},
	{last, maxTime, 0, api.ErrFull},
	{99, 60, 50, api.ErrFull},
	{116, 60, 50, api.ErrFull},
}

// TestFaults: each of chapter 5's errors, and which comes first; none is a step, and none leaves a byte.
func TestFaults(t *testing.T) {
	for _, f := range faults {
		g := with(t, most, 3)
		refused(t, g, f.n, f.until, f.now, f.want)
		g.Fail(0)
		refused(t, g, f.n, f.until, f.now, f.want)
		isSo(t, g, most*each, 3*each, some(most)...)
		stopsAtSpend(t, g, 7, 60, 51)
		refused(t, g, f.n, f.until, f.now, api.ErrState)
	}
}

// TestWrongNumbers: every n, until and now that is none, where there is room.
func TestWrongNumbers(t *testing.T) {
	g := with(t, 1, 0)
	g.Fail(1)
	for _, n := range noNumbers {
		refused(t, g, n, 50, 0, api.ErrRange)
		refused(t, g, n, 0, 50, api.ErrRange)
	}
	for _, no := range noTimes {
		for _, n := range []int{7, 100} {
			refused(t, g, n, no, 0, api.ErrRange)
			refused(t, g, n, 50, no, api.ErrRange)
			refused(t, g, n, no, no, api.ErrRange)
		}
	}
	syncs(t, g)
	stopsAtSync(t, g)
}

// TestSpentAgain: a number clashes while it counts, and is spent anew when it is over, behind a Crash too.
func TestSpentAgain(t *testing.T) {
	for _, crash := range []bool{false, true} {
		g := New()
		for i := range 10 {
			spends(t, g, 7, 10*i+9, 10*i)
			if crash {
				crashes(t, g, each, (i+1)*each, one(7, 10*i+9))
			}
			refused(t, g, 7, 10*i+9, 10*i+9, api.ErrClash)
			refused(t, g, 7, maxTime, 10*i, api.ErrClash)
			if crash {
				crashes(t, g, 0, (i+1)*each, one(7, 10*i+9))
				refused(t, g, 7, 10*i+9, 10*i+9, api.ErrClash)
			}
		}
		syncs(t, g)
		crashes(t, g, 0, 10*each, one(7, 99))
		refused(t, g, 7, 100, 99, api.ErrClash)
		spends(t, g, 7, 100, 100)
		isSo(t, g, 11*each, 10*each, one(7, 100))
	}
}

// TestOver: what went by the now of a later Spend is away behind a Crash that leaves that one, and is back behind one that loses it.
func TestOver(t *testing.T) {
	made := func() *Log {
		g := New()
		spends(t, g, 7, 20, 10)
		spends(t, g, 8, 30, 10)
		spends(t, g, 9, 40, 20)
		isSo(t, g, 3*each, 0, one(7, 20), one(8, 30), one(9, 40))
		spends(t, g, 10, 50, 21)
		isSo(t, g, 4*each, 0, one(8, 30), one(9, 40), one(10, 50))
		return g
	}
	g := made()
	crashes(t, g, 4*each, 4*each, one(8, 30), one(9, 40), one(10, 50))
	spends(t, g, 7, 20, 5)
	isSo(t, g, 5*each, 4*each, one(8, 30), one(9, 40), one(10, 50), one(7, 20))
	g = made()
	crashes(t, g, 4*each-1, 3*each, one(7, 20), one(8, 30), one(9, 40))
	refused(t, g, 7, 60, 20, api.ErrClash)
	spends(t, g, 7, 60, 31)
	isSo(t, g, 4*each, 3*each, one(9, 40), one(7, 60))
	crashes(t, g, 0, 3*each, one(7, 20), one(8, 30), one(9, 40))
}

// TestKnownFull: as many as may be known, and one more, behind a Crash too; that is no step.
func TestKnownFull(t *testing.T) {
	g := with(t, most, most)
	g.Fail(0)
	refused(t, g, 7, 50, 50, api.ErrFull)
	crashes(t, g, 0, most*each, some(most)...)
	refused(t, g, 7, 50, 50, api.ErrFull)
	spends(t, g, 7, 60, 51)
	isSo(t, g, (most+1)*each, most*each, one(7, 60))
	crashes(t, g, 0, most*each, some(most)...)
}

// TestFailNever: of below 0 it never stops, be it said first or in another's place.
func TestFailNever(t *testing.T) {
	for _, n := range []int{-1, -2, -1 << 32, math.MinInt, math.MinInt + 1} {
		for _, ahead := range []int{-1, 0, 1, 5} {
			g := New()
			g.Fail(ahead)
			g.Fail(n)
			for i := range done {
				spends(t, g, i, i+1, i)
				syncs(t, g)
				syncs(t, g)
			}
			isSo(t, g, done*each, done*each, movedTo(done)...)
		}
	}
}

// TestWithoutFail: a Log to which nothing was said of it never stops, nor one that crashed.
func TestWithoutFail(t *testing.T) {
	g := New()
	for range 3 {
		spends(t, g, 7, 50, 0)
		for range 5000 {
			syncs(t, g)
			refused(t, g, 7, 50, 0, api.ErrClash)
		}
		g = New()
		g.Fail(5)
		crashes(t, g, 0, 0)
	}
}

// TestFail: of 0, of 1 and of more, by every choice of Spends and Syncs ahead of the step and at it, with refused Spends between.
func TestFail(t *testing.T) {
	for n := range 7 {
		for choice := range 1 << (n + 1) {
			g := New()
			g.Fail(n)
			var known []api.Spent
			safe := 0
			for i := range n {
				refused(t, g, -1, 50, 0, api.ErrRange)
				refused(t, g, 7, 49, 50, api.ErrLate)
				if choice>>i&1 == 1 {
					syncs(t, g)
					safe = len(known)
					continue
				}
				spends(t, g, 100+i, 50, 0)
				known = append(known, one(100+i, 50))
				refused(t, g, 100+i, 50, 0, api.ErrClash)
				isSo(t, g, len(known)*each, safe*each, known...)
			}
			if choice>>n&1 == 1 {
				stopsAtSync(t, g)
			} else {
				stopsAtSpend(t, g, 7, 50, 0)
			}
			crashes(t, g, 1000, len(known)*each, known...)
		}
	}
}

// TestFailFar: of more than there are steps, it does not stop; of just as many as there are Spends, the last one is the last.
func TestFailFar(t *testing.T) {
	for _, n := range []int{1000, 1 << 32, math.MaxInt - 1, math.MaxInt} {
		g := New()
		g.Fail(n)
		for i := range done {
			spends(t, g, i, i+1, i)
			syncs(t, g)
		}
	}
	g := New()
	g.Fail(done)
	for i := range done {
		spends(t, g, i, i+1, i)
	}
	refused(t, g, 500, 90, 50, api.ErrFull) // no step, so it has yet to stop
	stopsAtSync(t, g)
	refused(t, g, 500, 90, 50, api.ErrState)
}

// TestFailAnew: told anew before it came, with steps and none between: it counts from there on.
func TestFailAnew(t *testing.T) {
	for first := range 5 {
		for between := range first + 1 {
			for second := range 5 {
				g := New()
				g.Fail(first)
				for i := range between {
					spends(t, g, i, 50, 0)
				}
				refused(t, g, -1, 50, 0, api.ErrRange)
				g.Fail(second)
				for i := range second {
					refused(t, g, 7, 49, 50, api.ErrLate)
					spends(t, g, 100+i, 50, 0)
				}
				stopsAtSpend(t, g, 200, 50, 0)
			}
		}
	}
}

// TestFailForgotten: what Fail said is forgotten behind a Crash, be it yet to come, or said when it had stopped.
func TestFailForgotten(t *testing.T) {
	for n := range 4 {
		g := New()
		g.Fail(n)
		crashes(t, g, 0, 0)
		for i := range done {
			spends(t, g, i, i+1, i)
			syncs(t, g)
		}
		g = New()
		g.Fail(0)
		stopsAtSync(t, g)
		g.Fail(n)
		crashes(t, g, 0, 0)
		for i := range done {
			spends(t, g, i, i+1, i)
			syncs(t, g)
		}
		g = with(t, 2, 1)
		g.Fail(3)
		syncs(t, g)
		crashes(t, g, 0, 2*each, some(2)...)
		g.Fail(n) // and may be said anew
		for range n {
			syncs(t, g)
		}
		stopsAtSync(t, g)
	}
}

// TestStopsAtSpend: at every number of records that are there and that are safe, half a record is left, and what was spent is as it was.
func TestStopsAtSpend(t *testing.T) {
	for many := range most {
		for safe := range many + 1 {
			g := with(t, many, safe)
			g.Fail(0)
			stopsAtSpend(t, g, 7, 60, 0)
			isSo(t, g, many*each+half, safe*each, some(many)...)
			crashes(t, g, 0, safe*each, some(safe)...)
		}
	}
}

// TestStopsDropsNothing: though the Spend at which it stops is of a time at which all are over, they are there still.
func TestStopsDropsNothing(t *testing.T) {
	g := with(t, 5, 2)
	g.Fail(0)
	stopsAtSpend(t, g, 7, 90, 51)
	isSo(t, g, 5*each+half, 2*each, some(5)...)
	crashes(t, g, 1000, 5*each, some(5)...)
	spends(t, g, 7, 90, 51)
	isSo(t, g, 6*each, 5*each, one(7, 90))
}

// TestStopsAtSync: nothing is made safe by the Sync at which it stops.
func TestStopsAtSync(t *testing.T) {
	for many := range most {
		for safe := range many + 1 {
			g := with(t, many, safe)
			g.Fail(0)
			stopsAtSync(t, g)
			isSo(t, g, many*each, safe*each, some(many)...)
			crashes(t, g, 0, safe*each, some(safe)...)
		}
	}
}

// TestLastRecordHalf: it stops at the last record of all, and has place for it still behind a Crash.
func TestLastRecordHalf(t *testing.T) {
	g := moving(t, done-1)
	g.Fail(0)
	stopsAtSpend(t, g, 500, 90, 50)
	crashes(t, g, 1000, (done-1)*each, movedTo(done-1)...)
	spends(t, g, 500, 90, 50)
	refused(t, g, 501, 90, 50, api.ErrFull)
}

// TestCrashKeeps: at every number of records and of safe ones, every keep: of bytes that are there, below, and beyond.
func TestCrashKeeps(t *testing.T) {
	for many := range 7 {
		for safe := range many + 1 {
			for _, keep := range []int{-1, -each, -1000, math.MinInt, math.MinInt + 1} {
				g := with(t, many, safe)
				crashes(t, g, keep, safe*each, some(safe)...)
			}
			loose := (many - safe) * each
			for keep := range loose + 1 {
				g := with(t, many, safe)
				left := safe + keep/each
				crashes(t, g, keep, left*each, some(left)...)
				goesOn(t, g, left)
			}
			for _, keep := range []int{loose + 1, loose + each, 1000, 1 << 32, math.MaxInt - 1, math.MaxInt} {
				g := with(t, many, safe)
				crashes(t, g, keep, many*each, some(many)...)
			}
		}
	}
}

// goesOn: behind a Crash that left so many of some, they clash, the others may be spent, and another Crash has what was left.
func goesOn(t *testing.T, g *Log, left int) {
	t.Helper()
	for i := range most {
		if i < left {
			refused(t, g, 100+i, 50, 0, api.ErrClash)
			continue
		}
		spends(t, g, 100+i, 50, 0)
	}
	isSo(t, g, most*each, left*each, some(most)...)
	crashes(t, g, 0, left*each, some(left)...)
}

// TestCrashHalf: behind a step that stopped as a Spend, its half record is gone, however many bytes are kept.
func TestCrashHalf(t *testing.T) {
	for many := range 4 {
		for safe := range many + 1 {
			loose := (many-safe)*each + half
			for keep := -2; keep <= loose+2*each; keep++ {
				g := with(t, many, safe)
				g.Fail(0)
				stopsAtSpend(t, g, 7, 60, 0)
				left := min(many, safe+max(keep, 0)/each)
				crashes(t, g, keep, left*each, some(left)...)
				goesOn(t, g, left)
			}
			for _, keep := range []int{math.MinInt, math.MaxInt - 1, math.MaxInt} {
				g := with(t, many, safe)
				g.Fail(0)
				stopsAtSpend(t, g, 7, 60, 0)
				left := many
				if keep < 0 {
					left = safe
				}
				crashes(t, g, keep, left*each, some(left)...)
			}
		}
	}
}

// TestHalfIsNotMended: what is written behind a Crash does not go on where the half record was.
func TestHalfIsNotMended(t *testing.T) {
	for _, keep := range []int{half - 1, half, each - 1, each, each + half, each + half + 1, 1000} {
		g := with(t, 2, 1)
		g.Fail(1)
		spends(t, g, 70, 60, 0)
		stopsAtSpend(t, g, 77777, 60000, 50)
		g.Crash(keep)
		left := g.Bytes()
		known := g.All()
		spends(t, g, 888888, 70000, 10)
		known = append(known, one(888888, 70000))
		isSo(t, g, left+each, left, known...)
		crashes(t, g, each, left+each, known...)
	}
}

// TestCrash: ahead of any Sync, behind one, and two in a row; the second keeps nothing more, as all is safe by then.
func TestCrash(t *testing.T) {
	g := with(t, 3, 0)
	crashes(t, g, 0, 0)
	crashes(t, g, 1000, 0)
	spends(t, g, 100, 50, 0) // it was lost, so it may be spent again
	syncs(t, g)
	spends(t, g, 101, 50, 0)
	crashes(t, g, 0, each, some(1)...)
	crashes(t, g, 1000, each, some(1)...)
	spends(t, g, 101, 50, 0)
	spends(t, g, 102, 50, 0)
	crashes(t, g, each, 2*each, some(2)...) // what it kept is safe, without a Sync
	crashes(t, g, 0, 2*each, some(2)...)
	crashes(t, g, -1, 2*each, some(2)...)
	syncs(t, g)
	crashes(t, g, 0, 2*each, some(2)...)
}

// TestAllIsTheCallers: what is written into a list that All told, or behind its end, is not seen in the Log, nor in another list.
func TestAllIsTheCallers(t *testing.T) {
	for many := range most + 1 {
		g := with(t, many, many/2)
		first, second := g.All(), g.All()
		scribble(first)
		isSo(t, g, many*each, many/2*each, some(many)...)
		if !slices.Equal(second, some(many)) {
			t.Fatalf("two lists of All share memory: got %v", second)
		}
		scribble(second)
		refused(t, g, -1, 0, 0, api.ErrRange)
		crashes(t, g, 1000, many*each, some(many)...)
		third := g.All()
		scribble(third)
		isSo(t, g, many*each, many*each, some(many)...)
		for i := many; i < most; i++ {
			ahead := g.All()
			spends(t, g, 100+i, 50, 0)
			if !slices.Equal(ahead, some(i)) {
				t.Fatalf("a Spend changed a list that was told: got %v", ahead)
			}
			scribble(ahead)
			isSo(t, g, (i+1)*each, many*each, some(i+1)...)
		}
	}
}

// scribble writes over all of a list's memory, what lies behind its length, too.
func scribble(l []api.Spent) {
	l = l[:cap(l)]
	for i := range l {
		l[i] = one(-99, -99)
	}
}

// TestTheirOwn: no two Logs have anything of each other.
func TestTheirOwn(t *testing.T) {
	a, b := New(), New()
	spends(t, a, 7, 50, 0)
	isSo(t, b, 0, 0)
	syncs(t, a)
	isSo(t, b, 0, 0)
	a.Fail(0)
	spends(t, b, 8, 50, 0)
	stopsAtSync(t, a)
	syncs(t, b)
	crashes(t, b, 0, each, one(8, 50))
	stopped(t, a)
	isSo(t, a, each, each, one(7, 50))
	isSo(t, New(), 0, 0)
}

// deed is a Spend that went well.
type deed struct{ n, until, now int }

// model is another way to have the same: the Spends that went well are kept, and what is known is worked out of all of them, each time.
type model struct {
	deeds   []deed
	safe    int // deeds
	torn    bool
	stopped bool
	fails   bool
	steps   int
}

// known: a number is, if no deed behind its own was later than its until.
func (m *model) known() []api.Spent {
	var l []api.Spent
	for i, d := range m.deeds {
		over := false
		for _, behind := range m.deeds[i+1:] {
			over = over || behind.now > d.until
		}
		if !over {
			l = append(l, one(d.n, d.until))
		}
	}
	return l
}

// told is what Spend is to tell, but for a step at which it stops.
func (m *model) told(d deed) api.Errno {
	if m.stopped {
		return api.ErrState
	}
	if d.n < 0 || d.n > last || d.until < 0 || d.until > maxTime || d.now < 0 || d.now > maxTime {
		return api.ErrRange
	}
	if d.until < d.now {
		return api.ErrLate
	}
	count := 0
	for _, s := range m.known() {
		if s.Until < d.now {
			continue
		}
		if s.Number == d.n {
			return api.ErrClash
		}
		count++
	}
	if count >= most || len(m.deeds) >= done {
		return api.ErrFull
	}
	return api.OK
}

// step tells whether it stops.
func (m *model) step() bool {
	if m.fails && m.steps == 0 {
		m.stopped = true
	}
	m.steps--
	return m.stopped
}

func (m *model) spend(d deed) api.Errno {
	if e := m.told(d); e != api.OK {
		return e
	}
	if m.step() {
		m.torn = true
		return api.ErrState
	}
	m.deeds = append(m.deeds, d)
	return api.OK
}

func (m *model) sync() api.Errno {
	if m.stopped || m.step() {
		return api.ErrState
	}
	m.safe = len(m.deeds)
	return api.OK
}

func (m *model) crash(keep int) {
	left := m.safe
	for keep >= each && left < len(m.deeds) {
		left++
		keep -= each
	}
	*m = model{deeds: m.deeds[:left], safe: left}
}

func (m *model) bytes() int {
	n := len(m.deeds) * each
	if m.torn {
		n += half
	}
	return n
}

// TestPlayedOn: a long play, of many Logs, against the model.
func TestPlayedOn(t *testing.T) {
	r := rand.New(rand.NewSource(19))
	seen := map[api.Errno]int{}
	full, cut := 0, 0
	for range 600 {
		g, m := New(), model{}
		wide, clock := 4+r.Intn(40), 0
		for range 150 {
			switch r.Intn(24) {
			case 0, 1, 2:
				told(t, g.Sync(), m.sync())
			case 3:
				n := r.Intn(30) - 5
				g.Fail(n)
				m.fails, m.steps = n >= 0, n
			case 4, 5:
				if !m.stopped && r.Intn(4) > 0 {
					continue
				}
				keep := r.Intn(20*each) - 10
				g.Crash(keep)
				m.crash(keep)
				cut++
				if g.Safe() != g.Bytes() {
					t.Fatalf("behind a Crash %d bytes are there, and %d are safe", g.Bytes(), g.Safe())
				}
			default:
				clock = max(0, clock+r.Intn(7)-2)
				d := deed{r.Intn(wide+1) - r.Intn(2), clock + r.Intn(40) - r.Intn(6), clock}
				want := m.spend(d)
				seen[want]++
				if want == api.ErrFull && len(m.deeds) == done {
					full++
				}
				told(t, g.Spend(d.n, d.until, d.now), want)
			}
			isSo(t, g, m.bytes(), m.safe*each, m.known()...)
		}
	}
	for _, e := range []api.Errno{api.OK, api.ErrState, api.ErrRange, api.ErrLate, api.ErrClash, api.ErrFull} {
		if seen[e] < 100 {
			t.Errorf("%v came %d times only: the play is too narrow", e, seen[e])
		}
	}
	if full < 100 || cut < 100 {
		t.Errorf("%d times there was no place for a record, and %d Crashes: the play is too narrow", full, cut)
	}
}
