package token

import (
	"math"
	"testing"

	"tokenfold/api"
	"tokenfold/plain"
	"tokenfold/ring"
)

const last = api.Modulo - 1

// noTags: numbers that are no key, no address and no tag.
var noTags = []int{-1, -2, -api.Modulo, math.MinInt, math.MinInt + 1, api.Modulo, api.Modulo + 1, 2 * api.Modulo, math.MaxInt - 1, math.MaxInt}

// noTimes: numbers that are no time and no life.
var noTimes = []int{-1, -2, -api.MaxTime, math.MinInt, math.MinInt + 1, api.MaxTime + 1, api.MaxTime + 2, last, math.MaxInt - 1, math.MaxInt}

// noEpochs: numbers that are no epoch.
var noEpochs = []int{-1, -2, -api.MaxEpoch, math.MinInt, math.MinInt + 1, api.MaxEpoch + 1, api.MaxEpoch + 2, math.MaxInt - 1, math.MaxInt}

// wrongRings and what is wrong with them.
var wrongRings = []struct {
	r    api.Ring
	want api.Errno
}{
	{api.Ring{Epoch: -1, Key: 5}, api.ErrRange},
	{api.Ring{Epoch: api.MaxEpoch + 1, Key: 5, Old: 6}, api.ErrRange},
	{api.Ring{Epoch: math.MinInt, Key: 5, Old: 6}, api.ErrRange},
	{api.Ring{Epoch: math.MaxInt, Key: 5, Old: 6}, api.ErrRange},
	{api.Ring{Epoch: 3, Key: -1, Old: 6}, api.ErrRange},
	{api.Ring{Epoch: 3, Key: api.Modulo, Old: 6}, api.ErrRange},
	{api.Ring{Epoch: 3, Key: 5, Old: -1}, api.ErrRange},
	{api.Ring{Epoch: 3, Key: 5, Old: api.Modulo}, api.ErrRange},
	{api.Ring{Epoch: 0, Key: 5, Old: api.Modulo}, api.ErrRange},
	{api.Ring{Epoch: 0, Key: 5, Old: 1}, api.ErrShape},
	{api.Ring{Epoch: 0, Key: 5, Old: last}, api.ErrShape},
}

// tagOf is chapter 1's tag of 1 and two more numbers, by powers of 4099.
func tagOf(key, address, time int) int {
	const (
		second = 4099 * 4099 % 999983
		third  = 4099 * 4099 * 4099 % 999983
		fourth = 4099 * 4099 * 4099 * 4099 % 999983
	)
	return (key*fourth + 2*third + (address+1)*second + (time+1)*4099 + key) % 999983
}

// sealed is a token with the tag that is right by that key.
func sealed(key, epoch, address, time int) api.Token {
	return api.Token{Epoch: epoch, Address: address, Time: time, Tag: tagOf(key, address, time)}
}

// makeIs: the token, where there must be one.
func makeIs(t *testing.T, r api.Ring, address, time int, want api.Token) {
	t.Helper()
	if got, err := Make(r, address, time); got != want || err != nil {
		t.Errorf("Make(%v, %d, %d): got %v, %v, want %v", r, address, time, got, err, want)
	}
}

// makeRefused: Make tells that error, and nothing beside it.
func makeRefused(t *testing.T, r api.Ring, address, time int, want api.Errno) {
	t.Helper()
	if got, err := Make(r, address, time); got != (api.Token{}) || plain.Told(err) != want {
		t.Errorf("Make(%v, %d, %d): got %v, %v, want none, %v", r, address, time, got, err, want)
	}
}

// checkIs: what Check tells; nil, where want is OK.
func checkIs(t *testing.T, r api.Ring, tk api.Token, address, now, life int, want api.Errno) {
	t.Helper()
	err := Check(r, tk, address, now, life)
	if plain.Told(err) != want || (want == api.OK) != (err == nil) {
		t.Errorf("Check(%v, %v, %d, %d, %d): got %v, want %v", r, tk, address, now, life, err, want)
	}
}

// TestMakeWritten: tags that were worked out apart from the program, at the edges and between them.
func TestMakeWritten(t *testing.T) {
	for _, c := range []struct{ key, address, time, tag int }{
		{0, 0, 0, 312418}, // 2, 8199, 33607702 less 33 times 999983 is 608263, times 4099
		{1, 0, 0, 346392},
		{last, 0, 0, 278444},
		{0, last, 0, 510328},
		{0, 0, 100000, 219388},
		{last, last, 0, 476354},
		{last, 0, 100000, 185414},
		{0, last, 100000, 417298},
		{last, last, 100000, 383324},
		{3, 1, 8, 249222},
		{7, 645495, 12345, 66024},
		{5, 28889, 9, 0},
		{5, 921618, 9, last},
		{541716, 4, 100000, 0},
		{691269, 4, 100000, last},
	} {
		for _, epoch := range []int{0, 1, 50, api.MaxEpoch} {
			r := api.Ring{Epoch: epoch, Key: c.key}
			want := api.Token{Epoch: epoch, Address: c.address, Time: c.time, Tag: c.tag}
			makeIs(t, r, c.address, c.time, want)
			checkIs(t, r, want, c.address, c.time, 0, api.OK)
		}
	}
}

// TestMake: every epoch, whatever the key of the one ahead is; and what is made is right.
func TestMake(t *testing.T) {
	for epoch := 0; epoch <= api.MaxEpoch; epoch++ {
		for _, old := range []int{0, 1, last} {
			if epoch == 0 && old != 0 {
				continue
			}
			for _, key := range []int{0, 1, 4711, last} {
				r := api.Ring{Epoch: epoch, Key: key, Old: old}
				for _, address := range []int{0, 1, 645495, last - 1, last} {
					for _, time := range []int{0, 1, 4711, api.MaxTime - 1, api.MaxTime} {
						want := sealed(key, epoch, address, time)
						makeIs(t, r, address, time, want)
						checkIs(t, r, want, address, time, 0, api.OK)
					}
				}
			}
		}
	}
}

// TestMakeRange: addresses and times that are none, one of them or both.
func TestMakeRange(t *testing.T) {
	for _, r := range []api.Ring{{}, {Epoch: 3, Key: 5, Old: 6}, {Epoch: api.MaxEpoch, Key: last, Old: last}} {
		for _, address := range noTags {
			makeRefused(t, r, address, 0, api.ErrRange)
			makeRefused(t, r, address, api.MaxTime, api.ErrRange)
			makeRefused(t, r, address, address, api.ErrRange)
		}
		for _, time := range noTimes {
			makeRefused(t, r, 0, time, api.ErrRange)
			makeRefused(t, r, last, time, api.ErrRange)
		}
	}
}

// TestWrongRing: what is wrong with the ring is told ahead of all else.
func TestWrongRing(t *testing.T) {
	for _, c := range wrongRings {
		makeRefused(t, c.r, 1, 2, c.want)
		makeRefused(t, c.r, -1, 2, c.want)
		makeRefused(t, c.r, 1, api.MaxTime+1, c.want)
		good := sealed(5, 0, 1, 2)
		checkIs(t, c.r, good, 1, 2, 3, c.want)
		checkIs(t, c.r, good, -1, 2, 3, c.want)
		checkIs(t, c.r, good, 1, -1, 3, c.want)
		checkIs(t, c.r, good, 1, 2, -1, c.want)
		checkIs(t, c.r, api.Token{Epoch: -1, Address: -1, Time: -1, Tag: -1}, -1, -1, -1, c.want)
		checkIs(t, c.r, api.Token{}, 1, 2, 3, c.want)
	}
}

// TestCheckRange: one number is none, be it asked for or the token's, and all else is right.
func TestCheckRange(t *testing.T) {
	r := api.Ring{Epoch: 3, Key: 5, Old: 6}
	good := sealed(5, 3, 1, 2)
	checkIs(t, r, good, 1, 2, 3, api.OK)
	for _, none := range noTags {
		checkIs(t, r, good, none, 2, 3, api.ErrRange)
		checkIs(t, r, api.Token{Epoch: 3, Address: none, Time: 2, Tag: good.Tag}, 1, 2, 3, api.ErrRange)
		checkIs(t, r, api.Token{Epoch: 3, Address: none, Time: 2, Tag: good.Tag}, none, 2, 3, api.ErrRange)
		checkIs(t, r, api.Token{Epoch: 3, Address: 1, Time: 2, Tag: none}, 1, 2, 3, api.ErrRange)
	}
	for _, none := range noTimes {
		checkIs(t, r, good, 1, none, 3, api.ErrRange)
		checkIs(t, r, good, 1, 2, none, api.ErrRange)
		checkIs(t, r, api.Token{Epoch: 3, Address: 1, Time: none, Tag: good.Tag}, 1, 2, 3, api.ErrRange)
		checkIs(t, r, api.Token{Epoch: 3, Address: 1, Time: none, Tag: good.Tag}, 1, none, 3, api.ErrRange)
	}
	for _, none := range noEpochs {
		for _, at := range []api.Ring{{Key: 5}, r, {Epoch: api.MaxEpoch, Key: 5, Old: 6}} {
			checkIs(t, at, api.Token{Epoch: none, Address: 1, Time: 2, Tag: good.Tag}, 1, 2, 3, api.ErrRange)
		}
	}
	// What is right but for a whole turn is none, either.
	checkIs(t, r, api.Token{Epoch: 3, Address: 1, Time: 2, Tag: good.Tag + api.Modulo}, 1, 2, 3, api.ErrRange)
	checkIs(t, r, api.Token{Epoch: 3, Address: 1, Time: 2, Tag: good.Tag - api.Modulo}, 1, 2, 3, api.ErrRange)
	checkIs(t, r, api.Token{Epoch: 3, Address: 1 + api.Modulo, Time: 2, Tag: good.Tag}, 1, 2, 3, api.ErrRange)
}

// TestEpochs: a token of every epoch, asked of a ring of every epoch: its key is that of its own epoch.
func TestEpochs(t *testing.T) {
	for at := 0; at <= api.MaxEpoch; at++ {
		r := api.Ring{Epoch: at, Key: 5, Old: 6}
		if at == 0 {
			r.Old = 0
		}
		for epoch := 0; epoch <= api.MaxEpoch; epoch++ {
			byKey, byOld := api.ErrSeal, api.ErrSeal
			switch {
			case epoch > at:
				byKey, byOld = api.ErrNone, api.ErrNone
			case epoch == at:
				byKey = api.OK
			case epoch == at-1:
				byOld = api.OK
			default:
				byKey, byOld = api.ErrLate, api.ErrLate
			}
			checkIs(t, r, sealed(5, epoch, 1, 2), 1, 2, 3, byKey)
			checkIs(t, r, sealed(6, epoch, 1, 2), 1, 2, 3, byOld)
		}
	}
}

// TestOldEdges: a key of the one ahead that is 0, or the greatest, is a key as any other.
func TestOldEdges(t *testing.T) {
	for _, at := range []int{1, 50, api.MaxEpoch} {
		for _, old := range []int{0, last} {
			r := api.Ring{Epoch: at, Key: 5, Old: old}
			checkIs(t, r, sealed(old, at-1, last, api.MaxTime), last, api.MaxTime, 0, api.OK)
			checkIs(t, r, sealed(old, at, last, api.MaxTime), last, api.MaxTime, 0, api.ErrSeal)
		}
	}
}

// TestTurns: a token outlives one turn of its ring, and not two; the ring that it is of knows none of the next.
func TestTurns(t *testing.T) {
	r, err := ring.New(7)
	if err != nil {
		t.Fatal(err)
	}
	makeIs(t, r, 77, 100, api.Token{Epoch: 0, Address: 77, Time: 100, Tag: 622081})
	for r.Epoch <= api.MaxEpoch-2 {
		tk, err := Make(r, 77, 100)
		if err != nil {
			t.Fatal(err)
		}
		next, _ := ring.Turn(r)
		later, _ := ring.Turn(next)
		checkIs(t, r, tk, 77, 100, 0, api.OK)
		checkIs(t, next, tk, 77, 100, 0, api.OK)
		checkIs(t, later, tk, 77, 100, 0, api.ErrLate)
		tk, err = Make(next, 77, 100)
		if err != nil {
			t.Fatal(err)
		}
		checkIs(t, r, tk, 77, 100, 0, api.ErrNone)
		r = next
	}
}

// TestSeal: tags beside the right one, at the edges, and of other things.
func TestSeal(t *testing.T) {
	r := api.Ring{Epoch: 3, Key: 5, Old: 6}
	for _, epoch := range []int{2, 3} {
		key := map[int]int{2: 6, 3: 5}[epoch]
		right := tagOf(key, 1, 2)
		for _, tag := range []int{0, 1, right - 1, right + 1, last, tagOf(key, 0, 2), tagOf(key, 1, 3), tagOf(key, 2, 1), tagOf(key+10, 1, 2)} {
			checkIs(t, r, api.Token{Epoch: epoch, Address: 1, Time: 2, Tag: tag}, 1, 2, 3, api.ErrSeal)
		}
	}
	checkIs(t, api.Ring{}, api.Token{}, 0, 0, 0, api.ErrSeal)
	// The tag of a ticket with the same numbers: of 2 in the place of 1.
	checkIs(t, api.Ring{Key: 7}, api.Token{Address: 645495, Time: 12345, Tag: 66024}, 645495, 12345, 0, api.OK)
	checkIs(t, api.Ring{Key: 7}, api.Token{Address: 645495, Time: 12345, Tag: 819130}, 645495, 12345, 0, api.ErrSeal)
}

// TestForged: a token that is moved to another address, time or epoch is right nowhere.
func TestForged(t *testing.T) {
	r := api.Ring{Epoch: 3, Key: 5, Old: 6}
	good := sealed(5, 3, 1, 2)
	for address := range api.Modulo {
		if address != good.Address {
			moved := good
			moved.Address = address
			checkIs(t, r, moved, address, 2, 3, api.ErrSeal)
		}
	}
	for time := range api.MaxTime + 1 {
		if time != good.Time {
			moved := good
			moved.Time = time
			checkIs(t, r, moved, 1, time, 3, api.ErrSeal)
		}
	}
	good.Epoch = 2
	checkIs(t, r, good, 1, 2, 3, api.ErrSeal)
}

// TestClash: a right token, shown by another address.
func TestClash(t *testing.T) {
	r := api.Ring{Epoch: 3, Key: 5, Old: 6}
	for _, own := range []int{0, 1, 4711, last - 1, last} {
		for _, address := range []int{0, 1, 2, 4710, 4711, 4712, last - 1, last} {
			want := api.ErrClash
			if address == own {
				want = api.OK
			}
			checkIs(t, r, sealed(5, 3, own, 2), address, 2, 3, want)
			checkIs(t, r, sealed(6, 2, own, 2), address, 2, 3, want)
		}
	}
}

// TestLate: every now, against times and lives at their edges and between them.
func TestLate(t *testing.T) {
	r := api.Ring{Epoch: 3, Key: 5, Old: 6}
	for _, time := range []int{0, 1, 500, api.MaxTime - 1, api.MaxTime} {
		tk := sealed(5, 3, 1, time)
		for _, life := range []int{0, 1, 50, api.MaxTime - 1, api.MaxTime} {
			for now := range api.MaxTime + 1 {
				want := api.ErrLate
				if time <= now && now <= time+life {
					want = api.OK
				}
				checkIs(t, r, tk, 1, now, life, want)
			}
		}
	}
}

// TestLateWritten: now below its Time, at it, life above it, and one more.
func TestLateWritten(t *testing.T) {
	r := api.Ring{Epoch: 3, Key: 3, Old: 28225}
	for _, tk := range []api.Token{{Epoch: 3, Address: 1, Time: 8, Tag: 249222}, {Epoch: 2, Address: 1, Time: 8, Tag: 79753}} {
		checkIs(t, r, tk, 1, 7, 5, api.ErrLate)
		checkIs(t, r, tk, 1, 8, 5, api.OK)
		checkIs(t, r, tk, 1, 13, 5, api.OK)
		checkIs(t, r, tk, 1, 14, 5, api.ErrLate)
		checkIs(t, r, tk, 1, 8, 0, api.OK)
		checkIs(t, r, tk, 1, 9, 0, api.ErrLate)
		checkIs(t, r, tk, 1, 0, api.MaxTime, api.ErrLate)
		checkIs(t, r, tk, 1, api.MaxTime, api.MaxTime, api.OK)
		checkIs(t, r, tk, 1, api.MaxTime, api.MaxTime-8, api.OK)
		checkIs(t, r, tk, 1, api.MaxTime, api.MaxTime-9, api.ErrLate)
	}
}

// asked is what a call of Check is given.
type asked struct {
	r                  api.Ring
	tk                 api.Token
	address, now, life int
}

// faults of what Check is given, in the order in which it tells them.
var faults = []struct {
	want api.Errno
	put  func(*asked)
}{
	{api.ErrRange, func(a *asked) { a.r.Key = api.Modulo }},
	{api.ErrShape, func(a *asked) { a.r = api.Ring{Key: 5, Old: 6} }},
	{api.ErrRange, func(a *asked) { a.address = -1 }},
	{api.ErrRange, func(a *asked) { a.now = api.MaxTime + 1 }},
	{api.ErrRange, func(a *asked) { a.life = -1 }},
	{api.ErrRange, func(a *asked) { a.tk.Epoch = api.MaxEpoch + 1 }},
	{api.ErrRange, func(a *asked) { a.tk.Address = api.Modulo }},
	{api.ErrRange, func(a *asked) { a.tk.Time = -1 }},
	{api.ErrRange, func(a *asked) { a.tk.Tag = api.Modulo }},
	{api.ErrLate, func(a *asked) { a.tk.Epoch = 1 }},
	{api.ErrNone, func(a *asked) { a.tk.Epoch = 4 }},
	{api.ErrSeal, func(a *asked) { a.tk.Tag++ }},
	{api.ErrClash, func(a *asked) { a.address++ }},
	{api.ErrLate, func(a *asked) { a.now = a.tk.Time + a.life + 1 }},
}

// TestFirstError: which error is told where several apply: every choice of faults, put from the last to the first, so that the first of them stands.
func TestFirstError(t *testing.T) {
	for choice := range 1 << len(faults) {
		a := asked{r: api.Ring{Epoch: 3, Key: 5, Old: 6}, tk: sealed(5, 3, 1, 2), address: 1, now: 2, life: 3}
		want := api.OK
		for i := len(faults) - 1; i >= 0; i-- {
			if choice>>i&1 == 1 {
				faults[i].put(&a)
				want = faults[i].want
			}
		}
		checkIs(t, a.r, a.tk, a.address, a.now, a.life, want)
	}
}

// TestExtremes: every number at the ends of int, all at a time: a call ends, and tells ErrRange.
func TestExtremes(t *testing.T) {
	for _, n := range []int{math.MinInt, math.MaxInt} {
		makeRefused(t, api.Ring{Epoch: n, Key: n, Old: n}, n, n, api.ErrRange)
		makeRefused(t, api.Ring{}, n, n, api.ErrRange)
		tk := api.Token{Epoch: n, Address: n, Time: n, Tag: n}
		checkIs(t, api.Ring{Epoch: n, Key: n, Old: n}, tk, n, n, n, api.ErrRange)
		checkIs(t, api.Ring{}, tk, n, n, n, api.ErrRange)
		checkIs(t, api.Ring{}, sealed(0, 0, 0, 0), 0, n, n, api.ErrRange)
	}
}
