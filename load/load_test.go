package load

import (
	"math"
	"testing"

	"tokenfold/api"
	"tokenfold/plain"
)

// asked: so many wait, and what comes of it. The numbers are written out, so that no const of the program is trusted.
type asked struct {
	waiting, level   int
	none, token, old int // what is answered to who shows nothing, a token alone, a ticket alone,
	both             int // and both
}

// right: every number that may wait.
var right = []asked{
	{0, 0, 1, 1, 1, 1},
	{1, 0, 1, 1, 1, 1},
	{2, 0, 1, 1, 1, 1},
	{3, 0, 1, 1, 1, 1}, // just below half
	{4, 1, 0, 1, 1, 1}, // just half
	{5, 1, 0, 1, 1, 1},
	{6, 1, 0, 1, 1, 1},
	{7, 1, 0, 1, 1, 1}, // one less than may wait
	{8, 2, 2, 2, 2, 2},
}

// wrong: numbers that cannot wait; some would come to one that can, were they cut to fewer bits, or doubled.
var wrong = []int{
	-1, -2, -3, -4, -5, -7, -8, -9, -16, 9, 10, 12, 15, 16, 17, 100, 255, 256, 257, 4096,
	1 << 16, 1 << 31, 1 << 32, 1<<32 + 1, 1<<32 + 4, 1<<32 + 8, -1 << 31, -1 << 32, -1<<32 + 4, 1 << 62, 1<<62 + 1, -1 << 62,
	math.MaxInt, math.MaxInt - 1, math.MaxInt - 7, math.MinInt, math.MinInt + 1, math.MinInt + 4, math.MinInt + 8,
}

// levelIs: Level answers that, however often it is asked.
func levelIs(t *testing.T, waiting, want int) {
	t.Helper()
	for range 2 {
		if got, err := Level(waiting); got != want || err != nil {
			t.Errorf("Level %d: got %d, %v, want %d", waiting, got, err, want)
		}
	}
}

// needsIs: Needs answers that, however often it is asked.
func needsIs(t *testing.T, waiting int, token, old bool, want int) {
	t.Helper()
	for range 2 {
		if got, err := Needs(waiting, token, old); got != want || err != nil {
			t.Errorf("Needs %d, %v, %v: got %d, %v, want %d", waiting, token, old, got, err, want)
		}
	}
}

// levelRefused: Level tells ErrRange, and 0 beside it.
func levelRefused(t *testing.T, waiting int) {
	t.Helper()
	if got, err := Level(waiting); got != 0 || plain.Told(err) != api.ErrRange {
		t.Errorf("Level %d: got %d, %v, want 0, ErrRange", waiting, got, err)
	}
}

// needsRefused: Needs tells ErrRange, and 0 beside it, to whoever comes.
func needsRefused(t *testing.T, waiting int) {
	t.Helper()
	for _, token := range []bool{false, true} {
		for _, old := range []bool{false, true} {
			if got, err := Needs(waiting, token, old); got != 0 || plain.Told(err) != api.ErrRange {
				t.Errorf("Needs %d, %v, %v: got %d, %v, want 0, ErrRange", waiting, token, old, got, err)
			}
		}
	}
}

// TestLevel: every number that may wait has its level.
func TestLevel(t *testing.T) {
	for _, a := range right {
		levelIs(t, a.waiting, a.level)
	}
}

// TestNeeds: every number that may wait, with and without a token, for who is old and who is not.
func TestNeeds(t *testing.T) {
	for _, a := range right {
		needsIs(t, a.waiting, false, false, a.none)
		needsIs(t, a.waiting, true, false, a.token)
		needsIs(t, a.waiting, false, true, a.old)
		needsIs(t, a.waiting, true, true, a.both)
	}
}

// TestWrong: what cannot wait has no level, and nothing is answered.
func TestWrong(t *testing.T) {
	for _, waiting := range wrong {
		levelRefused(t, waiting)
		needsRefused(t, waiting)
	}
}

// TestAround: of all numbers near those that may wait, these alone have a level.
func TestAround(t *testing.T) {
	for waiting := -2000; waiting <= 2000; waiting++ {
		if waiting >= 0 && waiting <= 8 {
			continue
		}
		levelRefused(t, waiting)
		needsRefused(t, waiting)
	}
}

// TestMoreWait: the level never falls when more wait, and comes to each of the three.
func TestMoreWait(t *testing.T) {
	var of [3]int
	last := 0
	for waiting := range 9 {
		level, err := Level(waiting)
		if err != nil || level < last || level > 2 {
			t.Fatalf("Level %d: got %d, %v behind %d", waiting, level, err, last)
		}
		of[level]++
		last = level
	}
	if of != [3]int{4, 4, 1} {
		t.Errorf("of the levels there are %v", of)
	}
}

// TestMoreShown: who shows more is not treated worse: welcome with less, welcome with more; and nobody is told Busy for what was shown.
func TestMoreShown(t *testing.T) {
	shown := [][2]bool{{false, false}, {true, false}, {false, true}, {true, true}}
	for waiting := range 9 {
		for _, less := range shown {
			for _, more := range shown {
				if less[0] && !more[0] || less[1] && !more[1] {
					continue
				}
				a, _ := Needs(waiting, less[0], less[1])
				b, _ := Needs(waiting, more[0], more[1])
				if a != b && (a != 0 || b != 1) {
					t.Errorf("%d wait: %v is answered %d, %v is answered %d", waiting, less, a, more, b)
				}
			}
		}
	}
}

// TestNothingIsKept: a call answers the same whatever was asked ahead of it, and refused.
func TestNothingIsKept(t *testing.T) {
	seed := 1
	for range 5000 {
		seed = seed*1103515245%(1<<31) + 12345
		a := right[(seed>>8)%len(right)]
		token, old := (seed>>5)&1 == 1, (seed>>6)&1 == 1
		want := a.none
		switch {
		case token && old:
			want = a.both
		case token:
			want = a.token
		case old:
			want = a.old
		}
		levelRefused(t, wrong[(seed>>10)%len(wrong)])
		needsIs(t, a.waiting, token, old, want)
		needsRefused(t, wrong[(seed>>12)%len(wrong)])
		levelIs(t, a.waiting, a.level)
	}
}

// TestNames: the answers are the kinds that package api has.
func TestNames(t *testing.T) {
	needsIs(t, 0, false, false, api.Welcome)
	needsIs(t, api.MaxQueue/2-1, false, false, api.Welcome)
	needsIs(t, api.MaxQueue/2, false, false, api.Retry)
	needsIs(t, api.MaxQueue/2, true, false, api.Welcome)
	needsIs(t, api.MaxQueue-1, false, true, api.Welcome)
	needsIs(t, api.MaxQueue, true, true, api.Busy)
	needsRefused(t, api.MaxQueue+1)
}
