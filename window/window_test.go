package window

import (
	"math"
	"slices"
	"testing"

	"tokenfold/api"
	"tokenfold/plain"
)

// noTimes: what is no number that may come.
var noTimes = []int{-1, -2, -31, -32, -33, -api.MaxTime, math.MinInt, math.MinInt + 1, api.MaxTime + 1, api.MaxTime + 2, 1 << 32, math.MaxInt - 1, math.MaxInt}

// noTops: what is no Top: -1 is one.
var noTops = []int{-2, -3, -32, -33, -api.MaxTime, math.MinInt, math.MinInt + 1, api.MaxTime + 1, api.MaxTime + 2, 1 << 32, math.MaxInt - 1, math.MaxInt}

// noBits: what is no Bits, odd and even; some of them have nothing but zeros in their lowest 32 bits.
var noBits = []int{-1, -2, -3, -1 << 32, -1<<32 + 1, math.MinInt, math.MinInt + 1, 1 << 32, 1<<32 + 1, 1<<32 + 2, 1<<33 - 1, 1 << 62, math.MaxInt - 1, math.MaxInt}

// of is a window with that Top and those Bits.
func of(top, bits int) api.Window { return api.Window{Top: top, Bits: bits} }

func checkIs(t *testing.T, w api.Window, want api.Errno) {
	t.Helper()
	if err := Check(w); plain.Told(err) != want || (err == nil) != (want == api.OK) {
		t.Errorf("Check(%v): got %v, want %v", w, err, want)
	}
}

func takeIs(t *testing.T, w api.Window, n int, want api.Window) {
	t.Helper()
	if got, err := Take(w, n); got != want || err != nil {
		t.Errorf("Take(%v, %d): got %v, %v, want %v", w, n, got, err, want)
	}
}

// takeRefused: Take tells that error, and nothing beside it.
func takeRefused(t *testing.T, w api.Window, n int, want api.Errno) {
	t.Helper()
	if got, err := Take(w, n); got != (api.Window{}) || plain.Told(err) != want {
		t.Errorf("Take(%v, %d): got %v, %v, want none, %v", w, n, got, err, want)
	}
}

// wrongWindow: each call tells what is wrong with the window ahead of all else, be the number right, late, there, or none.
func wrongWindow(t *testing.T, w api.Window, want api.Errno) {
	t.Helper()
	checkIs(t, w, want)
	for _, n := range []int{0, 1, 31, 32, 33, 50, w.Top - 40, w.Top - 1, w.Top, w.Top + 1, api.MaxTime} {
		takeRefused(t, w, n, want)
	}
	for _, n := range noTimes {
		takeRefused(t, w, n, want)
	}
}

// came are the numbers that came to a window, greatest first: worked out one by one.
func came(w api.Window) []int {
	var l []int
	for n, bits := w.Top, uint64(w.Bits); bits != 0; n, bits = n-1, bits/2 {
		if bits%2 == 1 {
			l = append(l, n)
		}
	}
	return l
}

// windowOf is the window to which those numbers came, in any order; those that are 32 or more below the greatest are forgotten.
func windowOf(numbers ...int) api.Window {
	if len(numbers) == 0 {
		return of(-1, 0)
	}
	top := slices.Max(numbers)
	bits := 0
	for back := range 32 {
		if slices.Contains(numbers, top-back) {
			bits += int(math.Pow(2, float64(back)))
		}
	}
	return of(top, bits)
}

// takeOf is what is to come of Take, of a window that is right.
func takeOf(w api.Window, n int) (api.Window, api.Errno) {
	switch l := came(w); {
	case n < 0 || n > 100_000:
		return api.Window{}, api.ErrRange
	case n <= w.Top-32:
		return api.Window{}, api.ErrLate
	case slices.Contains(l, n):
		return api.Window{}, api.ErrClash
	default:
		return windowOf(append(l, n)...), api.OK
	}
}

// takeAsWorkedOut: Take does what takeOf says.
func takeAsWorkedOut(t *testing.T, w api.Window, n int) {
	t.Helper()
	if want, wrong := takeOf(w, n); wrong != api.OK {
		takeRefused(t, w, n, wrong)
	} else {
		takeIs(t, w, n, want)
		checkIs(t, want, api.OK)
	}
}

// full is the Bits of a window to which all came that may.
func full(top int) int { return 1<<min(top+1, 32) - 1 }

// TestNew: nothing came to it, and it is right.
func TestNew(t *testing.T) {
	if got := New(); got != of(-1, 0) {
		t.Errorf("New(): got %v, want {-1 0}", got)
	}
	checkIs(t, New(), api.OK)
	first := New()
	first.Top = 7
	if got := New(); got != of(-1, 0) {
		t.Errorf("New() once more: got %v, want {-1 0}", got)
	}
}

// TestCheckRight: windows at their edges.
func TestCheckRight(t *testing.T) {
	checkIs(t, of(-1, 0), api.OK)
	checkIs(t, of(0, 1), api.OK)
	checkIs(t, of(1, 1), api.OK)
	checkIs(t, of(1, 3), api.OK)
	for _, top := range []int{31, 32, 33, 4711, api.MaxTime - 1, api.MaxTime} {
		for _, bits := range []int{1, 3, 5, 1<<31 + 1, 1<<32 - 3, 1<<32 - 1} {
			checkIs(t, of(top, bits), api.OK)
		}
	}
	for top := range 40 {
		checkIs(t, of(top, 1), api.OK)
		checkIs(t, of(top, full(top)), api.OK)
	}
}

// TestCheckRange: a Top, or Bits, beyond the edges on both sides, with whatever the other one is, be it wrong itself.
func TestCheckRange(t *testing.T) {
	for _, top := range noTops {
		for _, bits := range slices.Concat([]int{0, 1, 2, 3, 1<<32 - 2, 1<<32 - 1}, noBits) {
			wrongWindow(t, of(top, bits), api.ErrRange)
		}
	}
	for _, bits := range noBits {
		for _, top := range []int{-1, 0, 1, 30, 31, 32, 33, 62, 63, 64, 4711, api.MaxTime - 1, api.MaxTime} {
			wrongWindow(t, of(top, bits), api.ErrRange)
		}
	}
}

// TestCheckNothingCame: where Top is -1, every Bits but 0 is wrong, odd or even.
func TestCheckNothingCame(t *testing.T) {
	for _, bits := range []int{1, 2, 3, 4, 5, 1 << 31, 1<<31 + 1, 1<<32 - 2, 1<<32 - 1} {
		wrongWindow(t, of(-1, bits), api.ErrShape)
	}
	for back := range 32 {
		wrongWindow(t, of(-1, 1<<back), api.ErrShape)
	}
}

// TestCheckEven: where Top is not -1, it came itself, whatever else did.
func TestCheckEven(t *testing.T) {
	for _, top := range []int{0, 1, 2, 30, 31, 32, 33, 4711, api.MaxTime - 1, api.MaxTime} {
		wrongWindow(t, of(top, 0), api.ErrShape)
		wrongWindow(t, of(top, full(top)-1), api.ErrShape)
		for back := 1; back < 32; back++ {
			wrongWindow(t, of(top, 1<<back), api.ErrShape)
		}
	}
}

// TestCheckBelow: a bit of 0 is right, and one of -1, or of less, is not, at every Top that is so near to 0.
func TestCheckBelow(t *testing.T) {
	for top := range 40 {
		for back := 1; back < 32; back++ {
			for _, bits := range []int{1 | 1<<back, full(top) | 1<<back} {
				if back > top {
					wrongWindow(t, of(top, bits), api.ErrShape)
				} else {
					checkIs(t, of(top, bits), api.OK)
				}
			}
		}
	}
	wrongWindow(t, of(0, 1<<32-1), api.ErrShape)
	wrongWindow(t, of(30, 1<<32-1), api.ErrShape)
	checkIs(t, of(31, 1<<32-1), api.OK)
}

// TestCheckSmall: every window with a small Top and small Bits, a bit past their edges.
func TestCheckSmall(t *testing.T) {
	for top := -3; top < 12; top++ {
		for bits := -3; bits < 1<<12; bits++ {
			want := api.OK
			l := came(of(top, max(bits, 0)))
			switch {
			case top < -1 || bits < 0:
				want = api.ErrRange
			case len(l) > 0 && slices.Min(l) < 0, top >= 0 && !slices.Contains(l, top):
				want = api.ErrShape
			}
			checkIs(t, of(top, bits), want)
		}
	}
}

// TestTakeFirst: whatever comes first is the Top, and alone, however far it is.
func TestTakeFirst(t *testing.T) {
	for n := range api.MaxTime + 1 {
		takeIs(t, New(), n, of(n, 1))
	}
}

// TestTakeRange: a number that is none, of a window to which nothing came, or much.
func TestTakeRange(t *testing.T) {
	for _, w := range []api.Window{New(), of(0, 1), of(5, 1), of(5, 63), of(31, 1<<32-1), of(api.MaxTime, 1), of(api.MaxTime, 1<<32-1)} {
		for _, none := range noTimes {
			takeRefused(t, w, none, api.ErrRange)
		}
	}
}

// TestTakeEdges: 0 and MaxTime, of windows whose Top is there, beside it, or far off.
func TestTakeEdges(t *testing.T) {
	takeIs(t, of(1, 1), 0, of(1, 3))
	takeIs(t, of(31, 1), 0, of(31, 1<<31+1))
	takeIs(t, of(31, 1<<31-1), 0, of(31, 1<<32-1))
	takeRefused(t, of(0, 1), 0, api.ErrClash)
	takeRefused(t, of(31, 1<<31+1), 0, api.ErrClash)
	takeRefused(t, of(32, 1), 0, api.ErrLate)
	takeRefused(t, of(api.MaxTime, 1), 0, api.ErrLate)
	takeIs(t, of(0, 1), api.MaxTime, of(api.MaxTime, 1))
	takeIs(t, of(api.MaxTime-1, 5), api.MaxTime, of(api.MaxTime, 11))
	takeIs(t, of(api.MaxTime-31, 1), api.MaxTime, of(api.MaxTime, 1<<31+1))
	takeIs(t, of(api.MaxTime-32, 1), api.MaxTime, of(api.MaxTime, 1))
	takeRefused(t, of(api.MaxTime, 1), api.MaxTime, api.ErrClash)
	takeRefused(t, of(api.MaxTime, 1), api.MaxTime-32, api.ErrLate)
	takeIs(t, of(api.MaxTime, 1), api.MaxTime-31, of(api.MaxTime, 1<<31+1))
}

// TestTakeBehind: at every place behind Top: what came is refused, what did not is taken, and from 32 on it is late, whatever came.
func TestTakeBehind(t *testing.T) {
	for _, top := range []int{100, 4711, api.MaxTime} {
		for back := range 70 {
			n := top - back
			if back >= 32 {
				takeRefused(t, of(top, 1), n, api.ErrLate)
				takeRefused(t, of(top, 1<<32-1), n, api.ErrLate)
				continue
			}
			takeRefused(t, of(top, 1<<32-1), n, api.ErrClash)
			takeRefused(t, of(top, 1|1<<back), n, api.ErrClash)
			if back > 0 {
				takeIs(t, of(top, 1), n, of(top, 1|1<<back))
				takeIs(t, of(top, 1<<32-1-1<<back), n, of(top, 1<<32-1))
			}
		}
		takeRefused(t, of(top, 1<<32-1), 0, api.ErrLate)
	}
}

// TestTakeAbove: the window moves on by less than Wide, by Wide and by more: those of it that came and are near still came, and nothing else did.
func TestTakeAbove(t *testing.T) {
	for _, w := range []api.Window{of(0, 1), of(7, 0x81), of(31, 1<<32-1), of(50, 1), of(50, 3), of(50, 1<<31+1), of(50, 0xa5a5a5a5), of(99_900, 1<<32-1)} {
		for by := 1; by <= 100; by++ {
			takeIs(t, w, w.Top+by, windowOf(append(came(w), w.Top+by)...))
		}
	}
	takeIs(t, of(50, 1<<32-1), 51, of(51, 1<<32-1))
	takeIs(t, of(50, 1<<32-1), 52, of(52, 1<<32-3))
	takeIs(t, of(50, 1<<32-1), 81, of(81, 1<<31+1))
	takeIs(t, of(50, 1<<32-1), 82, of(82, 1))
	takeIs(t, of(50, 1<<32-1), 83, of(83, 1))
	takeIs(t, of(50, 1<<32-1), 50+64, of(114, 1))
	takeIs(t, of(50, 1<<32-1), api.MaxTime, of(api.MaxTime, 1))
}

// TestTakeOnlyOne: of what lies behind, all but n stands as it stood.
func TestTakeOnlyOne(t *testing.T) {
	for _, bits := range []int{1, 3, 0x55555555, 0xaaaaaaab, 0xf0f0f0f1, 0x80000001, 0x7fffffff} {
		for back := range 40 {
			takeAsWorkedOut(t, of(200, bits), 200-back)
			takeAsWorkedOut(t, of(200, bits), 200+back)
		}
	}
}

// TestTakeSmall: every window that is right with a small Top, and every number near it.
func TestTakeSmall(t *testing.T) {
	takeAll := func(w api.Window) {
		for n := -2; n < 50; n++ {
			takeAsWorkedOut(t, w, n)
		}
	}
	takeAll(New())
	for top := range 10 {
		for bits := 1; bits < 1<<(top+1); bits += 2 {
			takeAll(of(top, bits))
		}
	}
}

// next is a number that looks like any, the same at every run.
func next(last int) int { return (last*1103515245 + 12345) % (1 << 31) }

// TestTakeOn: long runs of numbers, to and fro: each is taken once, if it is near, and none that is near is lost.
func TestTakeOn(t *testing.T) {
	for _, reach := range []int{3, 20, 40, 80, 300} {
		w, at, drawn := New(), 0, 7
		seen := map[int]int{}
		for range 3_000 {
			drawn = next(drawn)
			n := at + drawn/64%reach - reach/2
			at += drawn / 1024 % 2
			got, err := Take(w, n)
			want := api.OK
			switch {
			case n < 0:
				want = api.ErrRange
			case n <= w.Top-32:
				want = api.ErrLate
			case seen[n] > 0:
				want = api.ErrClash
			}
			if plain.Told(err) != want {
				t.Fatalf("reach %d: Take(%v, %d): got %v, want %v", reach, w, n, err, want)
			}
			if err == nil {
				w = got
				seen[n]++
				checkIs(t, w, api.OK)
			}
			for back := range 32 {
				if came := w.Bits>>back&1 == 1; came != (seen[w.Top-back] == 1) {
					t.Fatalf("reach %d: after %d %v says %v of %d", reach, n, w, came, w.Top-back)
				}
			}
		}
	}
}

// TestAnyOrder: numbers of which none is late are the same window, in whatever order they come; each is refused once it came.
func TestAnyOrder(t *testing.T) {
	var play func(w api.Window, left []int)
	play = func(w api.Window, left []int) {
		if len(left) == 0 {
			if w != of(31, 1|1<<1|1<<14|1<<30|1<<31) {
				t.Errorf("got %v", w)
			}
			return
		}
		for i, n := range left {
			one, err := Take(w, n)
			if err != nil {
				t.Fatalf("Take(%v, %d): got %v", w, n, err)
			}
			takeRefused(t, one, n, api.ErrClash)
			play(one, slices.Delete(slices.Clone(left), i, i+1))
		}
	}
	play(New(), []int{0, 1, 17, 30, 31})
}

// TestErrorsInOrder: every choice of faults: the one that is named first is told.
func TestErrorsInOrder(t *testing.T) {
	faults := []struct {
		put  func(w *api.Window, n *int)
		want api.Errno
	}{
		{func(w *api.Window, n *int) { w.Top = -2 }, api.ErrRange},
		{func(w *api.Window, n *int) { w.Top = api.MaxTime + 1 }, api.ErrRange},
		{func(w *api.Window, n *int) { w.Bits -= 1 << 40 }, api.ErrRange},
		{func(w *api.Window, n *int) { w.Bits |= 1 << 32 }, api.ErrRange},
		{func(w *api.Window, n *int) { w.Bits &^= 1 }, api.ErrShape},
		{func(w *api.Window, n *int) { w.Top = 20; w.Bits |= 1 << 21 }, api.ErrShape},
		{func(w *api.Window, n *int) { w.Top = -1; w.Bits |= 2 }, api.ErrShape},
		{func(w *api.Window, n *int) { *n = -1 }, api.ErrRange},
		{func(w *api.Window, n *int) { *n = api.MaxTime + 1 }, api.ErrRange},
		{func(w *api.Window, n *int) { *n = 50 - 32 }, api.ErrLate},
		{func(w *api.Window, n *int) { *n = 50 - 3 }, api.ErrClash},
	}
	for choice := range 1 << len(faults) {
		w, n, want := of(50, 9), 49, api.OK
		// They are put last to first, so that an earlier one is not undone by a later one.
		for i := len(faults) - 1; i >= 0; i-- {
			if choice>>i&1 == 1 {
				faults[i].put(&w, &n)
				want = faults[i].want
			}
		}
		if want == api.OK {
			takeIs(t, w, n, of(50, 11))
			continue
		}
		takeRefused(t, w, n, want)
	}
}

// TestSameAgain: what a call answers hangs on its arguments alone.
func TestSameAgain(t *testing.T) {
	w := of(50, 9)
	for range 3 {
		takeIs(t, w, 49, of(50, 11))
		takeIs(t, w, 60, of(60, 9<<10|1))
		takeRefused(t, w, 50, api.ErrClash)
		checkIs(t, w, api.OK)
		if New() != of(-1, 0) {
			t.Error("New is another one")
		}
	}
}

// TestExtremes: every number at the ends of int, all at a time: a call ends, and tells ErrRange.
func TestExtremes(t *testing.T) {
	ends := []int{math.MinInt, math.MinInt + 1, math.MaxInt - 1, math.MaxInt}
	for _, top := range ends {
		for _, bits := range ends {
			for _, n := range ends {
				checkIs(t, of(top, bits), api.ErrRange)
				takeRefused(t, of(top, bits), n, api.ErrRange)
			}
		}
	}
}
