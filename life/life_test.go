package life

import (
	"testing"

	"tokenfold/api"
	"tokenfold/plain"
)

const (
	lives   = 100
	numbers = 30
)

func nowIs(t *testing.T, l *Life, want int) {
	t.Helper()
	if got := l.Now(); got != want {
		t.Errorf("Now: got %d, want %d", got, want)
	}
}

// startIs: Start tells that life, and it is that one from then on.
func startIs(t *testing.T, l *Life, want int) {
	t.Helper()
	if got, err := l.Start(); got != want || err != nil {
		t.Errorf("Start: got %d, %v, want %d", got, err, want)
	}
	nowIs(t, l, want)
}

// startRefused: Start tells ErrFull, and nothing beside it; the life is the one that it was.
func startRefused(t *testing.T, l *Life) {
	t.Helper()
	before := l.Now()
	if got, err := l.Start(); got != 0 || plain.Told(err) != api.ErrFull {
		t.Errorf("Start: got %d, %v, want 0, %v", got, err, api.ErrFull)
	}
	nowIs(t, l, before)
}

// nextIs: Next tells that life and that number, and the life stays.
func nextIs(t *testing.T, l *Life, life, number int) {
	t.Helper()
	if a, b, err := l.Next(); a != life || b != number || err != nil {
		t.Errorf("Next: got %d, %d, %v, want %d, %d", a, b, err, life, number)
	}
	nowIs(t, l, life)
}

// nextRefused: Next tells that error, and nothing beside it; the life is the one that it was.
func nextRefused(t *testing.T, l *Life, want api.Errno) {
	t.Helper()
	before := l.Now()
	if a, b, err := l.Next(); a != 0 || b != 0 || plain.Told(err) != want {
		t.Errorf("Next: got %d, %d, %v, want 0, 0, %v", a, b, err, want)
	}
	nowIs(t, l, before)
}

// started is a life that was started so many times.
func started(t *testing.T, times int) *Life {
	t.Helper()
	l := New()
	for n := range times {
		startIs(t, l, n+1)
	}
	return l
}

// tellAll: all numbers of a life are told, from that one on.
func tellAll(t *testing.T, l *Life, life, from int) {
	t.Helper()
	for n := from; n < numbers; n++ {
		nextIs(t, l, life, n)
	}
}

// TestBounds: the bounds that these tests count up to are those of the document.
func TestBounds(t *testing.T) {
	if api.MaxEpoch != lives || api.MaxDone != numbers {
		t.Errorf("got %d, %d, want %d, %d", api.MaxEpoch, api.MaxDone, lives, numbers)
	}
}

// TestNowAtFirst: it is 0, and asking changes nothing.
func TestNowAtFirst(t *testing.T) {
	l := New()
	for range 3 {
		nowIs(t, l, 0)
	}
	startIs(t, l, 1)
	for range 3 {
		nowIs(t, l, 1)
	}
	nextIs(t, l, 1, 0)
	for range 3 {
		nowIs(t, l, 1)
	}
	nextIs(t, l, 1, 1)
	startIs(t, l, 2)
}

// TestStartUp: one more each time, up to MaxEpoch; then none, however often it is asked.
func TestStartUp(t *testing.T) {
	l := started(t, lives)
	for range 3 {
		startRefused(t, l)
	}
	nowIs(t, l, lives)
}

// TestNextAhead: ahead of any Start there is none, however often it is asked; the first life still begins at 0.
func TestNextAhead(t *testing.T) {
	l := New()
	for range numbers + 5 {
		nextRefused(t, l, api.ErrState)
	}
	startIs(t, l, 1)
	tellAll(t, l, 1, 0)
	nextRefused(t, l, api.ErrFull)
}

// TestEveryLife: in each life all numbers from 0 on, then none, and from 0 on in the next one; no two are alike.
func TestEveryLife(t *testing.T) {
	l := New()
	told := map[[2]int]int{}
	for life := 1; life <= lives; life++ {
		startIs(t, l, life)
		for n := range numbers {
			a, b, err := l.Next()
			if a != life || b != n || err != nil {
				t.Fatalf("Next: got %d, %d, %v, want %d, %d", a, b, err, life, n)
			}
			told[[2]int{a, b}]++
		}
		for range 3 {
			nextRefused(t, l, api.ErrFull)
		}
	}
	startRefused(t, l)
	nextRefused(t, l, api.ErrFull)
	if len(told) != lives*numbers {
		t.Errorf("got %d that differ, want %d", len(told), lives*numbers)
	}
}

// TestStartAtEachNumber: wherever a life was left, the next one begins at 0 and has all of its numbers.
func TestStartAtEachNumber(t *testing.T) {
	for left := range numbers + 1 {
		l := started(t, 1)
		for n := range left {
			nextIs(t, l, 1, n)
		}
		startIs(t, l, 2)
		tellAll(t, l, 2, 0)
		nextRefused(t, l, api.ErrFull)
		startIs(t, l, 3)
		nextIs(t, l, 3, 0)
	}
}

// TestLivesPassedOver: a life of which no number was told leaves none over to the next one.
func TestLivesPassedOver(t *testing.T) {
	for times := 1; times <= lives; times++ {
		l := started(t, times)
		tellAll(t, l, times, 0)
		nextRefused(t, l, api.ErrFull)
	}
}

// TestRefusedStart: at each number of the last life: it goes on where it was.
func TestRefusedStart(t *testing.T) {
	l := started(t, lives)
	for n := range numbers {
		startRefused(t, l)
		nextIs(t, l, lives, n)
		startRefused(t, l)
	}
	nextRefused(t, l, api.ErrFull)
	startRefused(t, l)
	nextRefused(t, l, api.ErrFull)
}

// TestRefusedNext: the numbers that were refused are not counted, neither in this life nor in the next one.
func TestRefusedNext(t *testing.T) {
	l := started(t, 1)
	tellAll(t, l, 1, 0)
	for range 2 * numbers {
		nextRefused(t, l, api.ErrFull)
	}
	startIs(t, l, 2)
	tellAll(t, l, 2, 0)
	nextRefused(t, l, api.ErrFull)
}

// TestTheirOwn: what is done to one life is not to be seen in another one, be that new, started, or full.
func TestTheirOwn(t *testing.T) {
	one, other := New(), New()
	startIs(t, one, 1)
	nowIs(t, other, 0)
	nextRefused(t, other, api.ErrState)
	nextIs(t, one, 1, 0)
	startIs(t, other, 1)
	startIs(t, other, 2)
	nowIs(t, one, 1)
	nextIs(t, other, 2, 0)
	nextIs(t, one, 1, 1)
	tellAll(t, one, 1, 2)
	nextRefused(t, one, api.ErrFull)
	nextIs(t, other, 2, 1)
	for life := 2; life <= lives; life++ {
		startIs(t, one, life)
	}
	startRefused(t, one)
	startIs(t, other, 3)
	nextIs(t, other, 3, 0)
	late := New()
	nowIs(t, late, 0)
	nextRefused(t, late, api.ErrState)
	startIs(t, late, 1)
	nextIs(t, late, 1, 0)
}

// played is what is to come of some deeds: the lives by counting the starts, the numbers by counting back to the last one.
type played struct{ deeds []bool }

// start is one more deed, and what it is to tell.
func (p *played) start() (int, api.Errno) {
	p.deeds = append(p.deeds, true)
	if n := p.starts(); n <= lives {
		return n, api.OK
	}
	p.deeds = p.deeds[:len(p.deeds)-1]
	return 0, api.ErrFull
}

// next is one more deed, and what it is to tell.
func (p *played) next() (int, int, api.Errno) {
	life, n := p.starts(), 0
	for i := len(p.deeds) - 1; i >= 0 && !p.deeds[i]; i-- {
		n++
	}
	switch {
	case life == 0:
		return 0, 0, api.ErrState
	case n >= numbers:
		return 0, 0, api.ErrFull
	}
	p.deeds = append(p.deeds, false)
	return life, n, api.OK
}

func (p *played) starts() int {
	n := 0
	for _, start := range p.deeds {
		if start {
			n++
		}
	}
	return n
}

// TestPlayedOn: long runs of deeds, with few starts and with many, past both bounds.
func TestPlayedOn(t *testing.T) {
	for _, every := range []int{2, 3, 10, 30, 50} {
		l, p, drawn := New(), &played{}, 7
		for range 3_000 {
			drawn = (drawn*1103515245 + 12345) % (1 << 31)
			if drawn/1024%every == 0 {
				want, wrong := p.start()
				if got, err := l.Start(); got != want || plain.Told(err) != wrong {
					t.Fatalf("every %d: Start: got %d, %v, want %d, %v", every, got, err, want, wrong)
				}
			} else {
				life, number, wrong := p.next()
				if a, b, err := l.Next(); a != life || b != number || plain.Told(err) != wrong {
					t.Fatalf("every %d: Next: got %d, %d, %v, want %d, %d, %v", every, a, b, err, life, number, wrong)
				}
			}
			nowIs(t, l, p.starts())
		}
	}
}
