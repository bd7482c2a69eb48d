package vault

import (
	"math"
	"math/rand"
	"testing"

	"tokenfold/api"
	"tokenfold/plain"
)

// The numbers are written out, so that no const of the program is trusted.
const (
	last    = 999982 // the greatest number that can be spent
	maxTime = 100000
	most    = 16
)

// numbers that may be spent: at the edges, and between them.
var numbers = []int{0, 1, 2, 77, 4711, maxTime, maxTime + 1, last - 1, last}

// noNumbers: what is no number; some would come to one, were they cut to fewer bits.
var noNumbers = []int{
	-1, -2, -last, -last - 1, math.MinInt, math.MinInt + 1, -1 << 32, last + 1, last + 2, 2 * last,
	1 << 32, 1<<32 + 77, 1 << 62, math.MaxInt - 1, math.MaxInt,
}

// times that may be an until, or a now.
var times = []int{0, 1, 2, 50, 4711, maxTime - 1, maxTime}

// noTimes: what is no time.
var noTimes = []int{
	-1, -2, -maxTime, math.MinInt, math.MinInt + 1, -1 << 32, maxTime + 1, maxTime + 2, last, last + 1,
	1 << 32, 1<<32 + 50, 1 << 62, math.MaxInt - 1, math.MaxInt,
}

func TestConsts(t *testing.T) {
	if api.Modulo != last+1 || api.MaxTime != maxTime || api.MaxSpent != most {
		t.Errorf("Modulo %d, MaxTime %d, MaxSpent %d: want %d, %d, %d", api.Modulo, api.MaxTime, api.MaxSpent, last+1, maxTime, most)
	}
}

// hasIs: Has tells that of a number, however often it is asked.
func hasIs(t *testing.T, v *Vault, n int, want bool) {
	t.Helper()
	for range 2 {
		if got, err := v.Has(n); got != want || err != nil {
			t.Fatalf("Has(%d): got %v, %v, want %v", n, got, err, want)
		}
	}
}

// sureIs: Sure tells that of a number, however often it is asked.
func sureIs(t *testing.T, v *Vault, n int, want bool) {
	t.Helper()
	for range 2 {
		if got, err := v.Sure(n); got != want || err != nil {
			t.Fatalf("Sure(%d): got %v, %v, want %v", n, got, err, want)
		}
	}
}

// isSo: what Has and what Sure tell of a number.
func isSo(t *testing.T, v *Vault, n int, has, sure bool) {
	t.Helper()
	hasIs(t, v, n, has)
	sureIs(t, v, n, sure)
}

func spends(t *testing.T, v *Vault, n, until, now int) {
	t.Helper()
	if err := v.Spend(n, until, now); err != nil {
		t.Fatalf("Spend(%d, %d, %d): got %v, want nil", n, until, now, err)
	}
}

// refused: Spend tells that error, and tells it again, as nothing was changed.
func refused(t *testing.T, v *Vault, n, until, now int, want api.Errno) {
	t.Helper()
	for range 2 {
		if err := v.Spend(n, until, now); plain.Told(err) != want || err == nil {
			t.Fatalf("Spend(%d, %d, %d): got %v, want %v", n, until, now, err, want)
		}
	}
}

// notAsked: Has and Sure tell ErrRange of a number, and false beside it.
func notAsked(t *testing.T, v *Vault, n int) {
	t.Helper()
	if got, err := v.Has(n); got || plain.Told(err) != api.ErrRange {
		t.Fatalf("Has(%d): got %v, %v, want false, ErrRange", n, got, err)
	}
	if got, err := v.Sure(n); got || plain.Told(err) != api.ErrRange {
		t.Fatalf("Sure(%d): got %v, %v, want false, ErrRange", n, got, err)
	}
}

// full has as many as may be there, numbered from 100 on, each till 50, and all of them kept.
func full(t *testing.T) *Vault {
	t.Helper()
	v := New()
	for i := range most {
		spends(t, v, 100+i, 50, 0)
	}
	v.Sync()
	return v
}

// TestNew: nothing is spent, and nothing is kept.
func TestNew(t *testing.T) {
	v := New()
	for _, n := range numbers {
		isSo(t, v, n, false, false)
	}
	for _, n := range noNumbers {
		notAsked(t, v, n)
	}
}

// TestSpend: each number is there behind its Spend, and is sure behind a Sync alone.
func TestSpend(t *testing.T) {
	for _, n := range numbers {
		for _, until := range times {
			for _, now := range times {
				if until < now {
					continue
				}
				v := New()
				spends(t, v, n, until, now)
				isSo(t, v, n, true, false)
				v.Sync()
				isSo(t, v, n, true, true)
				v.Crash()
				isSo(t, v, n, true, true)
				for _, other := range numbers {
					isSo(t, v, other, other == n, other == n)
				}
			}
		}
	}
}

// TestAsked: the edges of what Has and Sure may be asked, be it there, or kept, or not.
func TestAsked(t *testing.T) {
	v := New()
	for range 2 {
		notAsked(t, v, -1)
		isSo(t, v, 0, false, false)
		isSo(t, v, last, false, false)
		notAsked(t, v, last+1)
	}
	spends(t, v, 0, 50, 0)
	notAsked(t, v, -1)
	isSo(t, v, 0, true, false)
	isSo(t, v, last, false, false)
	notAsked(t, v, last+1)
	v.Sync()
	spends(t, v, last, 50, 0)
	for _, n := range noNumbers {
		notAsked(t, v, n)
	}
	isSo(t, v, 0, true, true)
	isSo(t, v, last, true, false)
	v.Crash()
	for _, n := range noNumbers {
		notAsked(t, v, n)
	}
	isSo(t, v, 0, true, true)
	isSo(t, v, last, false, false)
}

// TestSync: ahead of everything, behind a Spend, two in a row, and behind a refusal.
func TestSync(t *testing.T) {
	v := New()
	v.Sync()
	isSo(t, v, 7, false, false)
	v.Sync()
	spends(t, v, 7, 50, 0)
	isSo(t, v, 7, true, false)
	v.Sync()
	isSo(t, v, 7, true, true)
	v.Sync()
	isSo(t, v, 7, true, true)
	refused(t, v, 8, 50, 51, api.ErrLate)
	v.Sync()
	isSo(t, v, 7, true, true)
	isSo(t, v, 8, false, false)
	spends(t, v, 8, 50, 0)
	spends(t, v, 9, 50, 0)
	isSo(t, v, 7, true, true)
	isSo(t, v, 8, true, false)
	isSo(t, v, 9, true, false)
	v.Sync()
	for n := 7; n <= 9; n++ {
		isSo(t, v, n, true, true)
	}
}

// TestCrash: ahead of everything, behind a Spend that was not kept, behind one that was, and two in a row.
func TestCrash(t *testing.T) {
	v := New()
	v.Crash()
	isSo(t, v, 7, false, false)
	spends(t, v, 7, 50, 0)
	isSo(t, v, 7, true, false)
	v.Crash()
	isSo(t, v, 7, false, false)
	v.Crash()
	isSo(t, v, 7, false, false)
	spends(t, v, 7, 50, 0) // it was forgotten, so it may be spent again
	v.Sync()
	v.Crash()
	isSo(t, v, 7, true, true)
	v.Crash()
	isSo(t, v, 7, true, true)
	refused(t, v, 7, 60, 0, api.ErrClash)
	spends(t, v, 8, 50, 0)
	v.Crash()
	isSo(t, v, 7, true, true)
	isSo(t, v, 8, false, false)
	v.Sync()
	isSo(t, v, 7, true, true)
	isSo(t, v, 8, false, false)
}

// TestCrashThenSync: what a crash lost is not kept by a Sync behind it.
func TestCrashThenSync(t *testing.T) {
	v := New()
	spends(t, v, 7, 50, 0)
	v.Crash()
	v.Sync()
	isSo(t, v, 7, false, false)
	v.Crash()
	isSo(t, v, 7, false, false)
}

// TestSpentBehindSync: a number that is spent behind a Sync is lost by a Crash, and may be spent anew; the ones that were kept stay.
func TestSpentBehindSync(t *testing.T) {
	for many := range most {
		v := New()
		for i := range many {
			spends(t, v, 100+i, 50, 0)
		}
		v.Sync()
		for i := many; i < most; i++ {
			spends(t, v, 100+i, 50, 0)
		}
		for i := range most {
			isSo(t, v, 100+i, true, i < many)
		}
		v.Crash()
		for i := range most {
			isSo(t, v, 100+i, i < many, i < many)
		}
		for i := range most {
			if i < many {
				refused(t, v, 100+i, 50, 0, api.ErrClash)
				continue
			}
			spends(t, v, 100+i, 50, 0)
		}
		refused(t, v, 7, 50, 0, api.ErrFull)
	}
}

// TestOver: what is kept and over goes by the next Spend that goes well, and by nothing else; it is kept still till a Sync.
func TestOver(t *testing.T) {
	v := New()
	spends(t, v, 7, 20, 10)
	spends(t, v, 8, 30, 10)
	v.Sync()
	isSo(t, v, 7, true, true)
	spends(t, v, 9, 40, 20) // at its Until it is not over
	isSo(t, v, 7, true, true)
	refused(t, v, 7, 40, 20, api.ErrClash)
	spends(t, v, 10, 40, 21)
	isSo(t, v, 7, false, true)
	isSo(t, v, 8, true, true)
	isSo(t, v, 9, true, false)
	v.Crash() // what is over is there again, as it is kept
	isSo(t, v, 7, true, true)
	isSo(t, v, 9, false, false)
	isSo(t, v, 10, false, false)
	spends(t, v, 7, 60, 31) // all are over, also its own number
	isSo(t, v, 7, true, true)
	isSo(t, v, 8, false, true)
	v.Sync()
	isSo(t, v, 7, true, true)
	isSo(t, v, 8, false, false)
	v.Crash()
	isSo(t, v, 8, false, false)
	refused(t, v, 7, 60, 60, api.ErrClash) // it has its new Until
	spends(t, v, 7, 61, 61)
}

// TestUntilIsKept: a Crash has the Until that was kept, not that of a Spend behind it.
func TestUntilIsKept(t *testing.T) {
	v := New()
	spends(t, v, 7, 20, 10)
	v.Sync()
	spends(t, v, 7, 90, 21)
	refused(t, v, 7, 90, 21, api.ErrClash)
	v.Crash()
	refused(t, v, 7, 90, 20, api.ErrClash)
	spends(t, v, 7, 90, 21)
	v.Sync()
	v.Crash()
	refused(t, v, 7, 90, 90, api.ErrClash)
	spends(t, v, 7, 91, 91)
}

// TestTimeGoesBack: a now that is below an earlier one is none the worse, and what went by the earlier one stays away.
func TestTimeGoesBack(t *testing.T) {
	v := New()
	spends(t, v, 7, 20, 10)
	spends(t, v, 8, 90, 50)
	isSo(t, v, 7, false, false)
	spends(t, v, 7, 20, 10)
	isSo(t, v, 7, true, false)
	isSo(t, v, 8, true, false)
}

// TestFull: as many as may be there, and one more; a place is free again when one is over, or was not kept.
func TestFull(t *testing.T) {
	v := New()
	for i := range most {
		isSo(t, v, 100+i, false, false)
		spends(t, v, 100+i, 50, 0)
	}
	refused(t, v, 7, 50, 0, api.ErrFull)
	refused(t, v, 7, 60, 50, api.ErrFull)
	refused(t, v, 100, 60, 50, api.ErrClash)
	isSo(t, v, 7, false, false)
	for i := range most {
		isSo(t, v, 100+i, true, false)
	}
	v.Sync()
	refused(t, v, 7, 50, 0, api.ErrFull)
	v.Crash()
	refused(t, v, 7, 50, 0, api.ErrFull)
	for i := range most {
		isSo(t, v, 100+i, true, true)
	}
	spends(t, v, 7, 60, 51)
	isSo(t, v, 7, true, false)
	for i := range most {
		isSo(t, v, 100+i, false, true)
	}
	for i := range most - 1 {
		spends(t, v, 200+i, 60, 51)
	}
	refused(t, v, 8, 60, 51, api.ErrFull)
	v.Crash()
	isSo(t, v, 7, false, false)
	refused(t, v, 7, 50, 50, api.ErrFull)
}

// TestFullByTheUnkept: those that a Crash loses take no place any more.
func TestFullByTheUnkept(t *testing.T) {
	v := New()
	spends(t, v, 7, 50, 0)
	v.Sync()
	for range 3 {
		for i := range most - 1 {
			spends(t, v, 100+i, 50, 0)
		}
		refused(t, v, 8, 50, 0, api.ErrFull)
		v.Crash()
		isSo(t, v, 7, true, true)
	}
}

// faults of a Spend into what full gives, in the order of the chapter: each has the ones ahead of it not.
var faults = []struct {
	n, until, now int
	want          api.Errno
}{
	{-1, 50, 0, api.ErrRange},
	{last + 1, 50, 0, api.ErrRange},
	{7, -1, 0, api.ErrRange},
	{7, maxTime + 1, 0, api.ErrRange},
	{7, 50, -1, api.ErrRange},
	{7, 50, maxTime + 1, api.ErrRange},
	{-1, 10, 20, api.ErrRange},
	{last + 1, -1, maxTime + 1, api.ErrRange},
	{100, -1, 0, api.ErrRange},
	{100, maxTime + 1, 0, api.ErrRange},
	{100, 50, -1, api.ErrRange},
	{100, 50, maxTime + 1, api.ErrRange},
	{7, -2, -1, api.ErrRange},
	{7, maxTime + 1, maxTime + 2, api.ErrRange},
	{7, 49, 50, api.ErrLate},
	{100, 49, 50, api.ErrLate},
	{100, 50, 51, api.ErrLate},
	{7, 50, 51, api.ErrLate},
	{7, 0, 1, api.ErrLate},
	{7, maxTime - 1, maxTime, api.ErrLate},
	{100, 0, maxTime, api.ErrLate},
	{100, 50, 50, api.ErrClash},
	{115, 60, 0, api.ErrClash},
	{107, maxTime, 50, api.ErrClash},
	{7, 50, 50, api.ErrFull},
	{0, 0, 0, api.ErrFull},
	{last, maxTime, 0, api.ErrFull},
	{99, 60, 50, api.ErrFull},
	{116, 60, 50, api.ErrFull},
}

// TestFaults: each of chapter 5's errors, which comes first, and that what is there and what is kept are as they were.
func TestFaults(t *testing.T) {
	for _, f := range faults {
		v := full(t)
		refused(t, v, f.n, f.until, f.now, f.want)
		for i := range most {
			isSo(t, v, 100+i, true, true)
		}
		isSo(t, v, 7, false, false)
		v.Sync()
		for i := range most {
			isSo(t, v, 100+i, true, true)
		}
	}
}

// TestWrongNumbers: every n, until and now that is none, into a Vault with room.
func TestWrongNumbers(t *testing.T) {
	v := New()
	spends(t, v, 100, 50, 0)
	for _, n := range noNumbers {
		refused(t, v, n, 50, 0, api.ErrRange)
		refused(t, v, n, 0, 50, api.ErrRange)
	}
	for _, no := range noTimes {
		for _, n := range []int{7, 100} {
			refused(t, v, n, no, 0, api.ErrRange)
			refused(t, v, n, 50, no, api.ErrRange)
			refused(t, v, n, no, no, api.ErrRange)
		}
	}
	isSo(t, v, 100, true, false)
	isSo(t, v, 7, false, false)
	v.Crash()
	isSo(t, v, 100, false, false)
}

// TestRefusedDropsNothing: though a refused Spend is of a time at which some are over, they are there still.
func TestRefusedDropsNothing(t *testing.T) {
	v := New()
	spends(t, v, 1, 10, 0)
	spends(t, v, 2, 20, 0)
	v.Sync()
	spends(t, v, 3, 10, 0)
	refused(t, v, 2, 90, 15, api.ErrClash)
	refused(t, v, 4, 14, 15, api.ErrLate)
	refused(t, v, -1, 90, 15, api.ErrRange)
	isSo(t, v, 1, true, true)
	isSo(t, v, 2, true, true)
	isSo(t, v, 3, true, false)
	v.Sync()
	isSo(t, v, 1, true, true)
	isSo(t, v, 3, true, true)
	spends(t, v, 1, 90, 15)
	isSo(t, v, 3, false, true)
}

// TestApart: what is done to what is there leaves what is kept as it is, however often, and the other way round.
func TestApart(t *testing.T) {
	v := full(t)
	for round := range 5 {
		for i := range most {
			spends(t, v, 1000*(round+1)+i, 60+round, 51+round)
			for k := range most {
				hasIs(t, v, 1000*(round+1)+k, k <= i)
				sureIs(t, v, 1000*(round+1)+k, false)
				sureIs(t, v, 100+k, true)
			}
		}
		v.Crash()
		for k := range most {
			isSo(t, v, 100+k, true, true)
			isSo(t, v, 1000*(round+1)+k, false, false)
		}
	}
}

// TestBranches: two ways on from what is kept, with a Crash between them: neither is seen in the other, nor in what is kept.
func TestBranches(t *testing.T) {
	for many := range most {
		v := New()
		for i := range many {
			spends(t, v, 100+i, 50, 0)
		}
		v.Sync()
		spends(t, v, 7, 50, 0)
		v.Crash()
		spends(t, v, 8, 50, 0)
		isSo(t, v, 7, false, false)
		isSo(t, v, 8, true, false)
		v.Crash()
		isSo(t, v, 8, false, false)
		for i := range many {
			isSo(t, v, 100+i, true, true)
		}
	}
}

// TestTheirOwn: no two Vaults have anything of each other.
func TestTheirOwn(t *testing.T) {
	a, b := New(), New()
	spends(t, a, 7, 50, 0)
	isSo(t, b, 7, false, false)
	a.Sync()
	isSo(t, b, 7, false, false)
	spends(t, b, 8, 50, 0)
	b.Crash()
	isSo(t, a, 7, true, true)
	isSo(t, a, 8, false, false)
	spends(t, b, 7, 60, 0)
	isSo(t, b, 7, true, false)
	isSo(t, New(), 7, false, false)
}

// model is another way to have the same: numbers and their untils in maps.
type model struct{ now, kept map[int]int }

func copied(m map[int]int) map[int]int {
	c := map[int]int{}
	for n, until := range m {
		c[n] = until
	}
	return c
}

func (m *model) spend(n, until, now int) api.Errno {
	if n < 0 || n > last || until < 0 || until > maxTime || now < 0 || now > maxTime {
		return api.ErrRange
	}
	if until < now {
		return api.ErrLate
	}
	left := map[int]int{}
	for k, u := range m.now {
		if u >= now {
			left[k] = u
		}
	}
	if _, ok := left[n]; ok {
		return api.ErrClash
	}
	if len(left) >= most {
		return api.ErrFull
	}
	left[n] = until
	m.now = left
	return api.OK
}

// TestPlayedOn: a long play, of many Vaults, against the model.
func TestPlayedOn(t *testing.T) {
	r := rand.New(rand.NewSource(16))
	seen := map[api.Errno]int{}
	for range 200 {
		v, m := New(), model{}
		wide := 4 + r.Intn(40)
		for range 150 {
			switch r.Intn(12) {
			case 0:
				v.Sync()
				m.kept = copied(m.now)
			case 1:
				v.Crash()
				m.now = copied(m.kept)
			default:
				n, until, now := r.Intn(wide+1)-r.Intn(2), r.Intn(60)-r.Intn(2), r.Intn(20)-r.Intn(2)
				want := m.spend(n, until, now)
				seen[want]++
				if err := v.Spend(n, until, now); plain.Told(err) != want || (err == nil) != (want == api.OK) {
					t.Fatalf("Spend(%d, %d, %d): got %v, want %v", n, until, now, err, want)
				}
			}
			for n := range wide + 2 {
				_, has := m.now[n]
				_, sure := m.kept[n]
				isSo(t, v, n, has, sure)
			}
		}
	}
	for _, e := range []api.Errno{api.OK, api.ErrRange, api.ErrLate, api.ErrClash, api.ErrFull} {
		if seen[e] < 100 {
			t.Errorf("%v came %d times only: the play is too narrow", e, seen[e])
		}
	}
}
