package ticket

import (
	"math"
	"testing"

	"tokenfold/api"
	"tokenfold/plain"
	"tokenfold/ring"
	"tokenfold/token"
)

const last = api.Modulo - 1

// noTags: numbers that are no key, no number of a ticket and no tag.
var noTags = []int{-1, -2, -api.Modulo, math.MinInt, math.MinInt + 1, api.Modulo, api.Modulo + 1, 2 * api.Modulo, math.MaxInt - 1, math.MaxInt}

// noTimes: numbers that are no time.
var noTimes = []int{-1, -2, -api.MaxTime, math.MinInt, math.MinInt + 1, api.MaxTime + 1, api.MaxTime + 2, last, math.MaxInt - 1, math.MaxInt}

// noEpochs: numbers that are no epoch.
var noEpochs = []int{-1, -2, -api.MaxEpoch, math.MinInt, math.MinInt + 1, api.MaxEpoch + 1, api.MaxEpoch + 2, math.MaxInt - 1, math.MaxInt}

// wrongRings and what is wrong with them.
var wrongRings = []struct {
	r    api.Ring
	want api.Errno
}{
	{api.Ring{Epoch: -1, Key: 5}, api.ErrRange},
	{api.Ring{Epoch: api.MaxEpoch + 1, Key: 5, Old: 6}, api.ErrRange},
	{api.Ring{Epoch: math.MinInt, Key: 5, Old: 6}, api.ErrRange},
	{api.Ring{Epoch: math.MaxInt, Key: 5, Old: 6}, api.ErrRange},
	{api.Ring{Epoch: 3, Key: -1, Old: 6}, api.ErrRange},
	{api.Ring{Epoch: 3, Key: api.Modulo, Old: 6}, api.ErrRange},
	{api.Ring{Epoch: 3, Key: 5, Old: -1}, api.ErrRange},
	{api.Ring{Epoch: 3, Key: 5, Old: api.Modulo}, api.ErrRange},
	{api.Ring{Epoch: 0, Key: 5, Old: api.Modulo}, api.ErrRange},
	{api.Ring{Epoch: 0, Key: 5, Old: 1}, api.ErrShape},
	{api.Ring{Epoch: 0, Key: 5, Old: last}, api.ErrShape},
}

// tagOf is chapter 1's tag of 2 and two more numbers, by powers of 4099.
func tagOf(key, number, until int) int {
	const (
		second = 4099 * 4099 % 999983
		third  = 4099 * 4099 * 4099 % 999983
		fourth = 4099 * 4099 * 4099 * 4099 % 999983
	)
	return (key*fourth + 3*third + (number+1)*second + (until+1)*4099 + key) % 999983
}

// sealed is a ticket with the tag that is right by that key.
func sealed(key, epoch, number, until int) api.Ticket {
	return api.Ticket{Epoch: epoch, Number: number, Until: until, Tag: tagOf(key, number, until)}
}

// makeIs: the ticket, where there must be one.
func makeIs(t *testing.T, r api.Ring, number, until int, want api.Ticket) {
	t.Helper()
	if got, err := Make(r, number, until); got != want || err != nil {
		t.Errorf("Make(%v, %d, %d): got %v, %v, want %v", r, number, until, got, err, want)
	}
}

// makeRefused: Make tells that error, and nothing beside it.
func makeRefused(t *testing.T, r api.Ring, number, until int, want api.Errno) {
	t.Helper()
	if got, err := Make(r, number, until); got != (api.Ticket{}) || plain.Told(err) != want {
		t.Errorf("Make(%v, %d, %d): got %v, %v, want none, %v", r, number, until, got, err, want)
	}
}

// checkIs: what Check tells; nil, where want is OK.
func checkIs(t *testing.T, r api.Ring, tk api.Ticket, now int, want api.Errno) {
	t.Helper()
	err := Check(r, tk, now)
	if plain.Told(err) != want || (want == api.OK) != (err == nil) {
		t.Errorf("Check(%v, %v, %d): got %v, want %v", r, tk, now, err, want)
	}
}

// TestMakeWritten: tags that were worked out apart from the program, at the edges and between them.
func TestMakeWritten(t *testing.T) {
	for _, c := range []struct{ key, number, until, tag int }{
		{0, 0, 0, 65541}, // 3, 12298, 50409503 less 50 times 999983 is 410353, times 4099
		{1, 0, 0, 99515},
		{last, 0, 0, 31567},
		{0, last, 0, 263451},
		{0, 0, 100000, 972494},
		{last, last, 0, 229477},
		{last, 0, 100000, 938520},
		{0, last, 100000, 170421},
		{last, last, 100000, 136447},
		{3, 1, 8, 2345},
		{28225, 1, 8, 832859},
		{7, 645495, 12345, 819130},
		{5, 24790, 9, 0},
		{5, 917519, 9, last},
		{718061, 4, 100000, 0},
		{867614, 4, 100000, last},
	} {
		for _, epoch := range []int{0, 1, 50, api.MaxEpoch} {
			r := api.Ring{Epoch: epoch, Key: c.key}
			want := api.Ticket{Epoch: epoch, Number: c.number, Until: c.until, Tag: c.tag}
			makeIs(t, r, c.number, c.until, want)
			checkIs(t, r, want, c.until, api.OK)
		}
	}
}

// TestMake: every epoch, whatever the key of the one ahead is; and what is made is right.
func TestMake(t *testing.T) {
	for epoch := 0; epoch <= api.MaxEpoch; epoch++ {
		for _, old := range []int{0, 1, last} {
			if epoch == 0 && old != 0 {
				continue
			}
			for _, key := range []int{0, 1, 4711, last} {
				r := api.Ring{Epoch: epoch, Key: key, Old: old}
				for _, number := range []int{0, 1, 645495, last - 1, last} {
					for _, until := range []int{0, 1, 4711, api.MaxTime - 1, api.MaxTime} {
						want := sealed(key, epoch, number, until)
						makeIs(t, r, number, until, want)
						checkIs(t, r, want, 0, api.OK)
						checkIs(t, r, want, until, api.OK)
					}
				}
			}
		}
	}
}

// TestMakeRange: numbers and times that are none, one of them or both.
func TestMakeRange(t *testing.T) {
	for _, r := range []api.Ring{{}, {Epoch: 3, Key: 5, Old: 6}, {Epoch: api.MaxEpoch, Key: last, Old: last}} {
		for _, number := range noTags {
			makeRefused(t, r, number, 0, api.ErrRange)
			makeRefused(t, r, number, api.MaxTime, api.ErrRange)
			makeRefused(t, r, number, number, api.ErrRange)
		}
		for _, until := range noTimes {
			makeRefused(t, r, 0, until, api.ErrRange)
			makeRefused(t, r, last, until, api.ErrRange)
		}
	}
}

// TestWrongRing: what is wrong with the ring is told ahead of all else.
func TestWrongRing(t *testing.T) {
	for _, c := range wrongRings {
		makeRefused(t, c.r, 1, 2, c.want)
		makeRefused(t, c.r, -1, 2, c.want)
		makeRefused(t, c.r, 1, api.MaxTime+1, c.want)
		good := sealed(5, 0, 1, 2)
		checkIs(t, c.r, good, 2, c.want)
		checkIs(t, c.r, good, 3, c.want)
		checkIs(t, c.r, good, -1, c.want)
		checkIs(t, c.r, api.Ticket{Epoch: -1, Number: -1, Until: -1, Tag: -1}, -1, c.want)
		checkIs(t, c.r, api.Ticket{}, 2, c.want)
	}
}

// TestCheckRange: one number is none, be it now or the ticket's, and all else is right.
func TestCheckRange(t *testing.T) {
	r := api.Ring{Epoch: 3, Key: 5, Old: 6}
	good := sealed(5, 3, 1, 2)
	checkIs(t, r, good, 2, api.OK)
	for _, none := range noTags {
		checkIs(t, r, api.Ticket{Epoch: 3, Number: none, Until: 2, Tag: good.Tag}, 2, api.ErrRange)
		checkIs(t, r, api.Ticket{Epoch: 3, Number: 1, Until: 2, Tag: none}, 2, api.ErrRange)
	}
	for _, none := range noTimes {
		checkIs(t, r, good, none, api.ErrRange)
		checkIs(t, r, sealed(5, 3, 1, api.MaxTime), none, api.ErrRange)
		checkIs(t, r, api.Ticket{Epoch: 3, Number: 1, Until: none, Tag: good.Tag}, 2, api.ErrRange)
		checkIs(t, r, api.Ticket{Epoch: 3, Number: 1, Until: none, Tag: good.Tag}, none, api.ErrRange)
	}
	for _, none := range noEpochs {
		for _, at := range []api.Ring{{Key: 5}, r, {Epoch: api.MaxEpoch, Key: 5, Old: 6}} {
			checkIs(t, at, api.Ticket{Epoch: none, Number: 1, Until: 2, Tag: good.Tag}, 2, api.ErrRange)
		}
	}
	// What is right but for a whole turn is none, either; nor is a time above the greatest, with the tag that it would have.
	checkIs(t, r, api.Ticket{Epoch: 3, Number: 1, Until: 2, Tag: good.Tag + api.Modulo}, 2, api.ErrRange)
	checkIs(t, r, api.Ticket{Epoch: 3, Number: 1, Until: 2, Tag: good.Tag - api.Modulo}, 2, api.ErrRange)
	checkIs(t, r, api.Ticket{Epoch: 3, Number: 1 + api.Modulo, Until: 2, Tag: good.Tag}, 2, api.ErrRange)
	checkIs(t, r, sealed(5, 3, 1, api.MaxTime+1), 2, api.ErrRange)
}

// TestEpochs: a ticket of every epoch, asked of a ring of every epoch: its key is that of its own epoch.
func TestEpochs(t *testing.T) {
	for at := 0; at <= api.MaxEpoch; at++ {
		r := api.Ring{Epoch: at, Key: 5, Old: 6}
		if at == 0 {
			r.Old = 0
		}
		for epoch := 0; epoch <= api.MaxEpoch; epoch++ {
			byKey, byOld := api.ErrSeal, api.ErrSeal
			switch {
			case epoch > at:
				byKey, byOld = api.ErrNone, api.ErrNone
			case epoch == at:
				byKey = api.OK
			case epoch == at-1:
				byOld = api.OK
			default:
				byKey, byOld = api.ErrLate, api.ErrLate
			}
			checkIs(t, r, sealed(5, epoch, 1, 2), 2, byKey)
			checkIs(t, r, sealed(6, epoch, 1, 2), 2, byOld)
		}
	}
}

// TestOldEdges: a key of the one ahead that is 0, or the greatest, is a key as any other.
func TestOldEdges(t *testing.T) {
	for _, at := range []int{1, 50, api.MaxEpoch} {
		for _, old := range []int{0, last} {
			r := api.Ring{Epoch: at, Key: 5, Old: old}
			checkIs(t, r, sealed(old, at-1, last, api.MaxTime), api.MaxTime, api.OK)
			checkIs(t, r, sealed(old, at, last, api.MaxTime), api.MaxTime, api.ErrSeal)
		}
	}
}

// TestTurns: a ticket outlives one turn of its ring, and not two, though its Until is far; the ring that it is of knows none of the next.
func TestTurns(t *testing.T) {
	r, err := ring.New(7)
	if err != nil {
		t.Fatal(err)
	}
	makeIs(t, r, 77, 100, api.Ticket{Epoch: 0, Number: 77, Until: 100, Tag: 375204})
	for r.Epoch <= api.MaxEpoch-2 {
		tk, err := Make(r, 77, 100)
		if err != nil {
			t.Fatal(err)
		}
		next, _ := ring.Turn(r)
		later, _ := ring.Turn(next)
		checkIs(t, r, tk, 0, api.OK)
		checkIs(t, next, tk, 0, api.OK)
		checkIs(t, next, tk, 101, api.ErrLate)
		checkIs(t, later, tk, 0, api.ErrLate)
		tk, err = Make(next, 77, 100)
		if err != nil {
			t.Fatal(err)
		}
		checkIs(t, r, tk, 0, api.ErrNone)
		r = next
	}
}

// TestSeal: tags beside the right one, at the edges, and of other numbers.
func TestSeal(t *testing.T) {
	r := api.Ring{Epoch: 3, Key: 5, Old: 6}
	for _, c := range []struct{ epoch, key int }{{2, 6}, {3, 5}} {
		right := tagOf(c.key, 1, 2)
		for _, tag := range []int{0, 1, right - 1, right + 1, last, tagOf(c.key, 0, 2), tagOf(c.key, 1, 3), tagOf(c.key, 2, 1), tagOf(c.key+10, 1, 2)} {
			checkIs(t, r, api.Ticket{Epoch: c.epoch, Number: 1, Until: 2, Tag: tag}, 2, api.ErrSeal)
		}
	}
	checkIs(t, api.Ring{}, api.Ticket{}, 0, api.ErrSeal)
}

// TestNoToken: a token and a ticket with the same numbers are not to be taken for each other.
func TestNoToken(t *testing.T) {
	r := api.Ring{Key: 7}
	checkIs(t, r, api.Ticket{Number: 645495, Until: 12345, Tag: 819130}, 12345, api.OK)
	checkIs(t, r, api.Ticket{Number: 645495, Until: 12345, Tag: 66024}, 12345, api.ErrSeal)
	for _, n := range []int{0, 1, 4711, api.MaxTime} {
		tok, err := token.Make(r, n, n)
		if err != nil {
			t.Fatal(err)
		}
		checkIs(t, r, api.Ticket{Number: n, Until: n, Tag: tok.Tag}, n, api.ErrSeal)
		tk, err := Make(r, n, n)
		if err != nil {
			t.Fatal(err)
		}
		if err := token.Check(r, api.Token{Address: n, Time: n, Tag: tk.Tag}, n, n, 0); plain.Told(err) != api.ErrSeal {
			t.Errorf("a ticket of %d as a token: got %v, want %v", n, err, api.ErrSeal)
		}
	}
}

// TestForged: a ticket that is given another number, time or epoch is never right.
func TestForged(t *testing.T) {
	r := api.Ring{Epoch: 3, Key: 5, Old: 6}
	good := sealed(5, 3, 1, 2)
	for number := range api.Modulo {
		if number != good.Number {
			forged := good
			forged.Number = number
			checkIs(t, r, forged, 2, api.ErrSeal)
		}
	}
	for until := range api.MaxTime + 1 {
		if until != good.Until {
			forged := good
			forged.Until = until
			checkIs(t, r, forged, 0, api.ErrSeal)
			checkIs(t, r, forged, until, api.ErrSeal)
		}
	}
	good.Epoch = 2
	checkIs(t, r, good, 2, api.ErrSeal)
}

// TestLate: every now, against times at their edges and between them, for both keys.
func TestLate(t *testing.T) {
	r := api.Ring{Epoch: 3, Key: 5, Old: 6}
	for _, until := range []int{0, 1, 500, api.MaxTime - 1, api.MaxTime} {
		for now := range api.MaxTime + 1 {
			want := api.OK
			if now > until {
				want = api.ErrLate
			}
			checkIs(t, r, sealed(5, 3, 1, until), now, want)
			checkIs(t, r, sealed(6, 2, 1, until), now, want)
		}
	}
}

// TestLateWritten: now far below its Until, one below, at it, one above, and far above.
func TestLateWritten(t *testing.T) {
	r := api.Ring{Epoch: 3, Key: 3, Old: 28225}
	for _, tk := range []api.Ticket{{Epoch: 3, Number: 1, Until: 8, Tag: 2345}, {Epoch: 2, Number: 1, Until: 8, Tag: 832859}} {
		checkIs(t, r, tk, 0, api.OK)
		checkIs(t, r, tk, 7, api.OK)
		checkIs(t, r, tk, 8, api.OK)
		checkIs(t, r, tk, 9, api.ErrLate)
		checkIs(t, r, tk, api.MaxTime, api.ErrLate)
	}
}

// asked is what a call of Check is given.
type asked struct {
	r   api.Ring
	tk  api.Ticket
	now int
}

// faults of what Check is given, in the order in which it tells them.
var faults = []struct {
	want api.Errno
	put  func(*asked)
}{
	{api.ErrRange, func(a *asked) { a.r.Key = api.Modulo }},
	{api.ErrShape, func(a *asked) { a.r = api.Ring{Key: 5, Old: 6} }},
	{api.ErrRange, func(a *asked) { a.now = api.MaxTime + 1 }},
	{api.ErrRange, func(a *asked) { a.now = -1 }},
	{api.ErrRange, func(a *asked) { a.tk.Epoch = api.MaxEpoch + 1 }},
	{api.ErrRange, func(a *asked) { a.tk.Number = api.Modulo }},
	{api.ErrRange, func(a *asked) { a.tk.Until = -1 }},
	{api.ErrRange, func(a *asked) { a.tk.Tag = api.Modulo }},
	{api.ErrLate, func(a *asked) { a.tk.Epoch = 1 }},
	{api.ErrNone, func(a *asked) { a.tk.Epoch = 4 }},
	{api.ErrSeal, func(a *asked) { a.tk.Tag++ }},
	{api.ErrSeal, func(a *asked) { a.tk.Number += 7 }},
	{api.ErrLate, func(a *asked) { a.now = a.tk.Until + 1 }},
}

// TestFirstError: which error is told where several apply: every choice of faults, put from the last to the first, so that the first of them stands.
func TestFirstError(t *testing.T) {
	for choice := range 1 << len(faults) {
		a := asked{r: api.Ring{Epoch: 3, Key: 5, Old: 6}, tk: sealed(5, 3, 1, 2), now: 2}
		want := api.OK
		for i := len(faults) - 1; i >= 0; i-- {
			if choice>>i&1 == 1 {
				faults[i].put(&a)
				want = faults[i].want
			}
		}
		checkIs(t, a.r, a.tk, a.now, want)
	}
}

// TestExtremes: every number at the ends of int, all at a time: a call ends, and tells ErrRange.
func TestExtremes(t *testing.T) {
	for _, n := range []int{math.MinInt, math.MaxInt} {
		makeRefused(t, api.Ring{Epoch: n, Key: n, Old: n}, n, n, api.ErrRange)
		makeRefused(t, api.Ring{}, n, n, api.ErrRange)
		tk := api.Ticket{Epoch: n, Number: n, Until: n, Tag: n}
		checkIs(t, api.Ring{Epoch: n, Key: n, Old: n}, tk, n, api.ErrRange)
		checkIs(t, api.Ring{}, tk, n, api.ErrRange)
		checkIs(t, api.Ring{}, sealed(0, 0, 0, 0), n, api.ErrRange)
	}
}
