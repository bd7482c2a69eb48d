package spent

import (
	"math"
	"slices"
	"testing"

	"tokenfold/api"
	"tokenfold/plain"
)

const last = api.Modulo - 1

// noNumbers: what is no Number.
var noNumbers = []int{-1, -2, -api.Modulo, math.MinInt, math.MinInt + 1, api.Modulo, api.Modulo + 1, 2 * api.Modulo, math.MaxInt - 1, math.MaxInt}

// noTimes: what is no time.
var noTimes = []int{-1, -2, -api.MaxTime, math.MinInt, math.MinInt + 1, api.MaxTime + 1, api.MaxTime + 2, last, math.MaxInt - 1, math.MaxInt}

// one has that Number and that Until.
func one(number, until int) api.Spent { return api.Spent{Number: number, Until: until} }

// some are that many, numbered 100, 101 and so on, each till 50.
func some(many int) []api.Spent {
	var l []api.Spent
	for i := range many {
		l = append(l, one(100+i, 50))
	}
	return l
}

// with is a copy of l whose one at i is s.
func with(l []api.Spent, i int, s api.Spent) []api.Spent {
	l = slices.Clone(l)
	l[i] = s
	return l
}

// plus is a copy of l with some more behind.
func plus(l []api.Spent, more ...api.Spent) []api.Spent { return slices.Concat(l, more) }

func checkIs(t *testing.T, l []api.Spent, want api.Errno) {
	t.Helper()
	if err := Check(l); plain.Told(err) != want || (err == nil) != (want == api.OK) {
		t.Errorf("Check(%v): got %v, want %v", l, err, want)
	}
}

// hasIs: with an error the answer must be false.
func hasIs(t *testing.T, l []api.Spent, n int, want bool, wrong api.Errno) {
	t.Helper()
	if got, err := Has(l, n); got != want || plain.Told(err) != wrong || (err == nil) != (wrong == api.OK) {
		t.Errorf("Has(%v, %d): got %v, %v, want %v, %v", l, n, got, err, want, wrong)
	}
}

func dropIs(t *testing.T, l []api.Spent, now int, want ...api.Spent) {
	t.Helper()
	if got, err := Drop(l, now); !slices.Equal(got, want) || err != nil {
		t.Errorf("Drop(%v, %d): got %v, %v, want %v", l, now, got, err, want)
	}
}

// dropRefused: Drop tells that error, and nothing beside it.
func dropRefused(t *testing.T, l []api.Spent, now int, want api.Errno) {
	t.Helper()
	if got, err := Drop(l, now); len(got) != 0 || plain.Told(err) != want {
		t.Errorf("Drop(%v, %d): got %v, %v, want none, %v", l, now, got, err, want)
	}
}

func spendIs(t *testing.T, l []api.Spent, n, until, now int, want ...api.Spent) {
	t.Helper()
	if got, err := Spend(l, n, until, now); !slices.Equal(got, want) || err != nil {
		t.Errorf("Spend(%v, %d, %d, %d): got %v, %v, want %v", l, n, until, now, got, err, want)
	}
}

// spendRefused: Spend tells that error, and nothing beside it.
func spendRefused(t *testing.T, l []api.Spent, n, until, now int, want api.Errno) {
	t.Helper()
	if got, err := Spend(l, n, until, now); len(got) != 0 || plain.Told(err) != want {
		t.Errorf("Spend(%v, %d, %d, %d): got %v, %v, want none, %v", l, n, until, now, got, err, want)
	}
}

// wrongList: each call tells what is wrong with the list ahead of all else, be the other arguments right or none.
func wrongList(t *testing.T, l []api.Spent, want api.Errno) {
	t.Helper()
	checkIs(t, l, want)
	for _, n := range []int{7, 100, -1, api.Modulo} {
		hasIs(t, l, n, false, want)
		for _, now := range []int{5, 51, -1, api.MaxTime + 1} {
			dropRefused(t, l, now, want)
			for _, until := range []int{5, 60, -1, api.MaxTime + 1} {
				spendRefused(t, l, n, until, now, want)
			}
		}
	}
}

// TestCheckMany: lists of none up to MaxSpent are right; one more, or many more, is too many.
func TestCheckMany(t *testing.T) {
	checkIs(t, nil, api.OK)
	checkIs(t, []api.Spent{}, api.OK)
	for many := range api.MaxSpent + 1 {
		checkIs(t, some(many), api.OK)
	}
	for _, many := range []int{api.MaxSpent + 1, api.MaxSpent + 2, 2 * api.MaxSpent, 100_000} {
		wrongList(t, some(many), api.ErrFull)
		wrongList(t, make([]api.Spent, many), api.ErrFull)
		wrongList(t, with(some(many), 0, one(-1, -1)), api.ErrFull)
		wrongList(t, with(some(many), 1, some(1)[0]), api.ErrFull)
	}
}

// TestCheckEdges: Number and Until at 0, at the greatest and beside them, at every place.
func TestCheckEdges(t *testing.T) {
	for _, many := range []int{1, 2, 9, api.MaxSpent} {
		for i := range many {
			for _, number := range []int{0, 1, 4711, last - 1, last} {
				for _, until := range []int{0, 1, 4711, api.MaxTime - 1, api.MaxTime} {
					checkIs(t, with(some(many), i, one(number, until)), api.OK)
				}
			}
		}
	}
}

// TestCheckRange: one Number, one Until, or both of one, are none, at every place.
func TestCheckRange(t *testing.T) {
	for _, many := range []int{1, 2, 9, api.MaxSpent} {
		for i := range many {
			for _, none := range noNumbers {
				wrongList(t, with(some(many), i, one(none, 50)), api.ErrRange)
				wrongList(t, with(some(many), i, one(none, none)), api.ErrRange)
			}
			for _, none := range noTimes {
				wrongList(t, with(some(many), i, one(7, none)), api.ErrRange)
			}
		}
	}
}

// TestCheckClash: a Number that was there ahead, at every two places, with the same Until or another one; an Until may be there as often as it likes.
func TestCheckClash(t *testing.T) {
	for _, number := range []int{0, 100, last} {
		for j := range api.MaxSpent {
			for i := range j {
				l := with(some(api.MaxSpent), i, one(number, 50))
				if i > 0 {
					l[0].Number = 1
				}
				checkIs(t, l, api.OK)
				for _, until := range []int{0, 49, 50, 51, api.MaxTime} {
					wrongList(t, with(l, j, one(number, until)), api.ErrClash)
				}
			}
		}
	}
	wrongList(t, []api.Spent{{}, {}}, api.ErrClash)
}

// faultsOfOne: what one behind the first may be, and what is wrong with it then.
var faultsOfOne = []struct {
	one  api.Spent
	want api.Errno
}{
	{one(100, 50), api.ErrClash},
	{one(100, 0), api.ErrClash},
	{one(100, -1), api.ErrRange},
	{one(100, api.MaxTime+1), api.ErrRange},
	{one(-1, 50), api.ErrRange},
	{one(api.Modulo, 50), api.ErrRange},
	{one(100+api.Modulo, 50), api.ErrRange},
	{one(-1, -1), api.ErrRange},
}

// TestCheckFirst: of a list with two faults the one that comes first is told, whatever the other is.
func TestCheckFirst(t *testing.T) {
	for _, a := range faultsOfOne {
		for _, b := range faultsOfOne {
			for j := 2; j < api.MaxSpent; j++ {
				for i := 1; i < j; i++ {
					checkIs(t, with(with(some(api.MaxSpent), i, a.one), j, b.one), a.want)
				}
			}
			wrongList(t, with(with(some(3), 1, a.one), 2, b.one), a.want)
		}
	}
}

// TestHas: every one of lists of any length, those beside them, and numbers at the edges; an Until counts for nothing.
func TestHas(t *testing.T) {
	for many := range api.MaxSpent + 1 {
		l := some(many)
		for n := 90; n < 130; n++ {
			hasIs(t, l, n, n >= 100 && n < 100+many, api.OK)
		}
		for _, n := range []int{0, 1, 50, last - 1, last} {
			hasIs(t, l, n, false, api.OK)
		}
		for i := range many {
			for _, n := range []int{0, last} {
				for _, until := range []int{0, 50, api.MaxTime} {
					edge := with(l, i, one(n, until))
					hasIs(t, edge, n, true, api.OK)
					hasIs(t, edge, last-n, false, api.OK)
					hasIs(t, edge, 100+i, false, api.OK)
				}
			}
		}
	}
	hasIs(t, []api.Spent{}, 0, false, api.OK)
}

// TestHasRange: what is no Number is not asked for.
func TestHasRange(t *testing.T) {
	for _, many := range []int{0, 1, api.MaxSpent} {
		for _, none := range noNumbers {
			hasIs(t, some(many), none, false, api.ErrRange)
		}
	}
}

// TestDrop: an Until below now, at it and above, at the ends of a list and within; those that are left keep their order.
func TestDrop(t *testing.T) {
	l := []api.Spent{one(9, 5), one(3, 6), one(0, 4), one(last, 7), one(4, 0), one(8, 6), one(1, api.MaxTime), one(2, 5)}
	dropIs(t, l, 0, l...)
	dropIs(t, l, 1, one(9, 5), one(3, 6), one(0, 4), one(last, 7), one(8, 6), one(1, api.MaxTime), one(2, 5))
	dropIs(t, l, 4, one(9, 5), one(3, 6), one(0, 4), one(last, 7), one(8, 6), one(1, api.MaxTime), one(2, 5))
	dropIs(t, l, 5, one(9, 5), one(3, 6), one(last, 7), one(8, 6), one(1, api.MaxTime), one(2, 5))
	dropIs(t, l, 6, one(3, 6), one(last, 7), one(8, 6), one(1, api.MaxTime))
	dropIs(t, l, 7, one(last, 7), one(1, api.MaxTime))
	dropIs(t, l, 8, one(1, api.MaxTime))
	dropIs(t, l, api.MaxTime, one(1, api.MaxTime))
	dropIs(t, nil, 0)
	dropIs(t, []api.Spent{}, api.MaxTime)
}

// TestDropMany: lists of any length, of which none, or all, are over.
func TestDropMany(t *testing.T) {
	for many := range api.MaxSpent + 1 {
		for _, now := range []int{0, 1, 49, 50} {
			dropIs(t, some(many), now, some(many)...)
		}
		for _, now := range []int{51, 52, api.MaxTime - 1, api.MaxTime} {
			dropIs(t, some(many), now)
		}
		for i := range many {
			late := with(some(many), i, one(7, 51))
			dropIs(t, late, 50, late...)
			dropIs(t, late, 51, one(7, 51))
			dropIs(t, late, 52)
			early := with(some(many), i, one(7, 49))
			dropIs(t, early, 50, slices.Delete(some(many), i, i+1)...)
		}
	}
}

// TestDropEvery: every now, against times at their edges and between them.
func TestDropEvery(t *testing.T) {
	for _, until := range []int{0, 1, 500, api.MaxTime - 1, api.MaxTime} {
		one := one(last, until)
		for now := range api.MaxTime + 1 {
			if now > until {
				dropIs(t, []api.Spent{one}, now)
			} else {
				dropIs(t, []api.Spent{one}, now, one)
			}
		}
	}
}

// TestDropRange: a now that is no time.
func TestDropRange(t *testing.T) {
	for _, many := range []int{0, 1, api.MaxSpent} {
		for _, none := range noTimes {
			dropRefused(t, some(many), none, api.ErrRange)
		}
	}
}

// TestSpend: a number is behind all that are left, whatever its size or its Until is.
func TestSpend(t *testing.T) {
	for many := range api.MaxSpent {
		for _, n := range []int{0, 1, 99, 100 + many, last - 1, last} {
			for _, now := range []int{0, 1, 49, 50} {
				for _, until := range []int{now, now + 1, 50, 51, api.MaxTime} {
					spendIs(t, some(many), n, until, now, plus(some(many), one(n, until))...)
				}
			}
			for _, now := range []int{51, 52, api.MaxTime - 1, api.MaxTime} {
				for _, until := range []int{now, api.MaxTime} {
					spendIs(t, some(many), n, until, now, one(n, until))
				}
			}
		}
	}
	spendIs(t, nil, 0, 0, 0, api.Spent{})
	spendIs(t, []api.Spent{}, last, api.MaxTime, api.MaxTime, one(last, api.MaxTime))
	l := []api.Spent{one(9, 5), one(3, 6), one(0, 4), one(last, 7), one(4, 0), one(8, 6)}
	spendIs(t, l, 5, 6, 6, one(3, 6), one(last, 7), one(8, 6), one(5, 6))
}

// TestSpendRange: n, until or now is none, one of them or all.
func TestSpendRange(t *testing.T) {
	for _, many := range []int{0, 1, api.MaxSpent - 1, api.MaxSpent} {
		for _, none := range noNumbers {
			spendRefused(t, some(many), none, 5, 5, api.ErrRange)
			spendRefused(t, some(many), none, 4, 5, api.ErrRange)
			spendRefused(t, some(many), none, none, none, api.ErrRange)
		}
		for _, n := range []int{0, 100, last} {
			for _, none := range noTimes {
				spendRefused(t, some(many), n, none, 5, api.ErrRange)
				spendRefused(t, some(many), n, 5, none, api.ErrRange)
				spendRefused(t, some(many), n, none, none, api.ErrRange)
			}
		}
	}
}

// TestSpendLate: an until below now is too late, be the number there, or the list full, or not.
func TestSpendLate(t *testing.T) {
	for _, many := range []int{0, 1, api.MaxSpent - 1, api.MaxSpent} {
		for _, n := range []int{0, 100, last} {
			for _, now := range []int{1, 2, 50, 51, api.MaxTime} {
				spendRefused(t, some(many), n, now-1, now, api.ErrLate)
				spendRefused(t, some(many), n, 0, now, api.ErrLate)
			}
		}
	}
}

// TestSpendLateEvery: every now, against times at their edges and between them.
func TestSpendLateEvery(t *testing.T) {
	for _, until := range []int{0, 1, 500, api.MaxTime - 1, api.MaxTime} {
		for now := range api.MaxTime + 1 {
			if until < now {
				spendRefused(t, nil, 7, until, now, api.ErrLate)
			} else {
				spendIs(t, nil, 7, until, now, one(7, until))
			}
		}
	}
}

// TestSpendTwice: at every place, a number that is there is not spent again till it is over, a full list or not; then it is, and is behind all.
func TestSpendTwice(t *testing.T) {
	for many := 1; many <= api.MaxSpent; many++ {
		for i := range many {
			for _, n := range []int{0, 7, last} {
				l := some(many)
				for j := range l {
					l[j].Until = 90
				}
				l = with(l, i, one(n, 50))
				for _, now := range []int{0, 49, 50} {
					for _, until := range []int{50, 51, api.MaxTime} {
						spendRefused(t, l, n, until, now, api.ErrClash)
					}
				}
				rest := slices.Delete(slices.Clone(l), i, i+1)
				for _, now := range []int{51, 52, 90} {
					spendIs(t, l, n, 95, now, plus(rest, one(n, 95))...)
				}
				spendIs(t, l, n, 95, 91, one(n, 95))
			}
		}
	}
}

// TestSpendFull: a list that is full takes no other number till one is over, whichever that is.
func TestSpendFull(t *testing.T) {
	full := some(api.MaxSpent)
	for _, n := range []int{0, 99, 100 + api.MaxSpent, last} {
		for _, now := range []int{0, 1, 49, 50} {
			spendRefused(t, full, n, 60, now, api.ErrFull)
		}
		spendIs(t, full, n, 60, 51, one(n, 60))
		for i := range full {
			l := with(full, i, one(7, 20))
			spendRefused(t, l, n, 60, 20, api.ErrFull)
			spendIs(t, l, n, 60, 21, plus(slices.Delete(slices.Clone(l), i, i+1), one(n, 60))...)
		}
	}
}

// TestSpendOneByOne: from none on, each till a time of its own: full at MaxSpent, and then room for one at a time.
func TestSpendOneByOne(t *testing.T) {
	var l []api.Spent
	for i := range 200 {
		now := max(0, i-api.MaxSpent+1)
		if i >= api.MaxSpent {
			spendRefused(t, l, i, i, now-1, api.ErrFull)
			spendRefused(t, l, now, i, now, api.ErrClash)
		}
		next, err := Spend(l, i, i, now)
		if err != nil {
			t.Fatalf("Spend(%v, %d, %d, %d): %v", l, i, i, now, err)
		}
		l = next
		if len(l) != min(i+1, api.MaxSpent) || l[0] != one(now, now) || l[len(l)-1] != one(i, i) {
			t.Fatalf("behind %d: got %v", i, l)
		}
		checkIs(t, l, api.OK)
		hasIs(t, l, i, true, api.OK)
	}
}

// asked is what a call of Spend is given.
type asked struct {
	l             []api.Spent
	n, until, now int
}

// faults of what Spend is given, in the order in which it tells them. What one puts, those behind it leave or put over.
var faults = []struct {
	want api.Errno
	put  func(*asked)
}{
	{api.ErrFull, func(a *asked) { a.l = plus(a.l, some(api.MaxSpent+1)...) }},
	{api.ErrRange, func(a *asked) { a.l = with(a.l, 1, one(101, -1)) }},
	{api.ErrClash, func(a *asked) { a.l = with(a.l, 2, one(100, 50)) }},
	{api.ErrRange, func(a *asked) { a.l = with(a.l, 3, one(api.Modulo, 50)) }},
	{api.ErrRange, func(a *asked) { a.n = api.Modulo }},
	{api.ErrRange, func(a *asked) { a.until = api.MaxTime + 1 }},
	{api.ErrRange, func(a *asked) { a.now = -1 }},
	{api.ErrLate, func(a *asked) { a.until = a.now - 1 }},
	{api.ErrClash, func(a *asked) { a.n = 100 }},
	{api.ErrFull, func(a *asked) { a.l = some(api.MaxSpent) }},
}

// TestFirstError: which error is told where several apply: every choice of faults, put from the last to the first, so that the first of them stands.
func TestFirstError(t *testing.T) {
	for choice := range 1 << len(faults) {
		a := asked{l: some(4), n: 7, until: 60, now: 20}
		want := api.OK
		for i := len(faults) - 1; i >= 0; i-- {
			if choice>>i&1 == 1 {
				faults[i].put(&a)
				want = faults[i].want
			}
		}
		if want == api.OK {
			spendIs(t, a.l, a.n, a.until, a.now, plus(some(4), one(7, 60))...)
			continue
		}
		spendRefused(t, a.l, a.n, a.until, a.now, want)
	}
}

// toldOf is what the chapter says of a list, asked in another way: each against all others.
func toldOf(l []api.Spent) api.Errno {
	for i, s := range l {
		if s.Number < 0 || s.Number > 999_982 || s.Until < 0 || s.Until > 100_000 {
			return api.ErrRange
		}
		for _, o := range l[:i] {
			if o.Number == s.Number {
				return api.ErrClash
			}
		}
	}
	return api.OK
}

// spentBy is what is to come of Spend, of a list that is right.
func spentBy(l []api.Spent, n, until, now int) ([]api.Spent, api.Errno) {
	if n < 0 || n > 999_982 || until < 0 || until > 100_000 || now < 0 || now > 100_000 {
		return nil, api.ErrRange
	}
	if until < now {
		return nil, api.ErrLate
	}
	l = slices.DeleteFunc(slices.Clone(l), func(s api.Spent) bool { return s.Until < now })
	for _, s := range l {
		if s.Number == n {
			return nil, api.ErrClash
		}
	}
	return append(l, one(n, until)), api.OK
}

// TestShortLists: every list of up to three, of few numbers and times, with every n, until and now of few.
func TestShortLists(t *testing.T) {
	var ones []api.Spent
	for _, number := range []int{-1, 0, 1, last, last + 1} {
		for _, until := range []int{-1, 0, 2, api.MaxTime, api.MaxTime + 1} {
			ones = append(ones, one(number, until))
		}
	}
	lists := [][]api.Spent{nil}
	for from := 0; from < len(lists) && len(lists[from]) < 3; from++ {
		for _, s := range ones {
			lists = append(lists, plus(lists[from], s))
		}
	}
	for _, l := range lists {
		if want := toldOf(l); want != api.OK {
			checkIs(t, l, want)
			hasIs(t, l, 0, false, want)
			dropRefused(t, l, 1, want)
			spendRefused(t, l, 5, 5, 1, want)
			continue
		}
		checkIs(t, l, api.OK)
		for _, n := range []int{-1, 0, 1, 5, last, last + 1} {
			for _, until := range []int{-1, 0, 1, 2, 3, api.MaxTime, api.MaxTime + 1} {
				for _, now := range []int{-1, 0, 1, 2, 3, api.MaxTime, api.MaxTime + 1} {
					if want, wrong := spentBy(l, n, until, now); wrong != api.OK {
						spendRefused(t, l, n, until, now, wrong)
					} else {
						spendIs(t, l, n, until, now, want...)
					}
				}
			}
		}
	}
}

// calls that are given a list: what comes out of each.
var calls = []struct {
	name string
	call func(l []api.Spent) []api.Spent
}{
	{"Check", func(l []api.Spent) []api.Spent { Check(l); return nil }},
	{"Has", func(l []api.Spent) []api.Spent { Has(l, 100); return nil }},
	{"Has none", func(l []api.Spent) []api.Spent { Has(l, -1); return nil }},
	{"Drop nothing", func(l []api.Spent) []api.Spent { out, _ := Drop(l, 0); return out }},
	{"Drop some", func(l []api.Spent) []api.Spent { out, _ := Drop(l, 50); return out }},
	{"Drop all", func(l []api.Spent) []api.Spent { out, _ := Drop(l, api.MaxTime); return out }},
	{"Drop none", func(l []api.Spent) []api.Spent { out, _ := Drop(l, -1); return out }},
	{"Spend", func(l []api.Spent) []api.Spent { out, _ := Spend(l, 7, 60, 0); return out }},
	{"Spend, some over", func(l []api.Spent) []api.Spent { out, _ := Spend(l, 7, 60, 50); return out }},
	{"Spend, all over", func(l []api.Spent) []api.Spent { out, _ := Spend(l, 7, api.MaxTime, api.MaxTime); return out }},
	{"Spend none", func(l []api.Spent) []api.Spent { out, _ := Spend(l, -1, 60, 50); return out }},
	{"Spend late", func(l []api.Spent) []api.Spent { out, _ := Spend(l, 7, 1, 50); return out }},
	{"Spend again", func(l []api.Spent) []api.Spent { out, _ := Spend(l, 100, 60, 0); return out }},
}

// mixed are that many of which every third is over at 50.
func mixed(many int) []api.Spent {
	l := some(many)
	for i := range l {
		if i%3 == 1 {
			l[i].Until = 40
		}
	}
	return l
}

// TestNothingShared: no call writes into its list or behind it, and what comes out shares no memory with it, nor with what came out ahead.
func TestNothingShared(t *testing.T) {
	for _, c := range calls {
		for _, spare := range []int{0, 1, 40} {
			for many := range api.MaxSpent + 3 {
				memory := plus(mixed(many), slices.Repeat([]api.Spent{one(-7, -8)}, spare)...)
				was := slices.Clone(memory)
				l := memory[:many]
				first := c.call(l)
				second := c.call(l)
				if !slices.Equal(memory, was) {
					t.Fatalf("%s of %d, %d spare: it wrote into %v: got %v", c.name, many, spare, was, memory)
				}
				told := slices.Clone(first)
				if !slices.Equal(second, told) {
					t.Fatalf("%s of %d, %d spare: got %v, and then %v", c.name, many, spare, told, second)
				}
				scribble(memory)
				scribble(second)
				if !slices.Equal(first, told) {
					t.Fatalf("%s of %d, %d spare: what came out is shared: got %v, want %v", c.name, many, spare, first, told)
				}
				copy(memory, was)
				scribble(first)
				if !slices.Equal(memory, was) {
					t.Fatalf("%s of %d, %d spare: what came out is its list's memory: got %v, want %v", c.name, many, spare, memory, was)
				}
				if again := c.call(l); !slices.Equal(again, told) {
					t.Fatalf("%s of %d, %d spare: something was kept: got %v, want %v", c.name, many, spare, again, told)
				}
			}
		}
	}
}

// scribble writes over all of a list's memory, what lies behind its length, too.
func scribble(l []api.Spent) {
	l = l[:cap(l)]
	for i := range l {
		l[i] = one(-99, -99)
	}
}

// TestBehindIsNotRead: what lies behind a list's length counts for nothing, be it wrong, or too much, or the number that is asked for.
func TestBehindIsNotRead(t *testing.T) {
	for many := range api.MaxSpent {
		for _, behind := range []api.Spent{one(-1, -1), one(100, 50), one(7, 50)} {
			l := plus(some(many), slices.Repeat([]api.Spent{behind}, 20)...)[:many]
			checkIs(t, l, api.OK)
			hasIs(t, l, 7, false, api.OK)
			dropIs(t, l, 50, some(many)...)
			spendIs(t, l, 7, 60, 50, plus(some(many), one(7, 60))...)
		}
	}
}

// TestExtremes: every number at the ends of int, all at a time: a call ends, and tells ErrRange.
func TestExtremes(t *testing.T) {
	for _, n := range []int{math.MinInt, math.MaxInt} {
		wrongList(t, []api.Spent{one(n, n)}, api.ErrRange)
		for _, l := range [][]api.Spent{nil, {one(n, n)}, some(api.MaxSpent)} {
			hasIs(t, l, n, false, api.ErrRange)
			dropRefused(t, l, n, api.ErrRange)
			spendRefused(t, l, n, n, n, api.ErrRange)
		}
	}
}
