package block

import (
	"testing"

	"tokenfold/api"
	"tokenfold/plain"
)

const (
	size = 8
	last = 999 // the last number that can be told
	most = 1000
)

func boundIs(t *testing.T, b *Blocks, want int) {
	t.Helper()
	if got := b.Bound(); got != want {
		t.Fatalf("Bound: got %d, want %d", got, want)
	}
}

// nextIs: Next tells that number, and Bound is that one behind it.
func nextIs(t *testing.T, b *Blocks, want, bound int) {
	t.Helper()
	if got, err := b.Next(); got != want || err != nil {
		t.Fatalf("Next: got %d, %v, want %d", got, err, want)
	}
	boundIs(t, b, bound)
}

// nextRefused: Next tells ErrFull, and nothing beside it; Bound is what it was.
func nextRefused(t *testing.T, b *Blocks) {
	t.Helper()
	before := b.Bound()
	if got, err := b.Next(); got != 0 || plain.Told(err) != api.ErrFull {
		t.Fatalf("Next: got %d, %v, want 0, %v", got, err, api.ErrFull)
	}
	boundIs(t, b, before)
}

// crash: Bound is what it was.
func crash(t *testing.T, b *Blocks) {
	t.Helper()
	before := b.Bound()
	b.Crash()
	boundIs(t, b, before)
}

// boundBehind is what Bound is when that number was told: the end of the block that it stands in.
func boundBehind(n int) int { return (n/size + 1) * size }

// tell the numbers of from to to, without to.
func tell(t *testing.T, b *Blocks, from, to int) {
	t.Helper()
	for n := from; n < to; n++ {
		nextIs(t, b, n, boundBehind(n))
	}
}

// told are blocks of which the first so many numbers were told.
func told(t *testing.T, count int) *Blocks {
	t.Helper()
	b := New()
	tell(t, b, 0, count)
	return b
}

// TestBlock: what these tests count by is what the document says.
func TestBlock(t *testing.T) {
	if api.Block != size {
		t.Errorf("got %d, want %d", api.Block, size)
	}
}

// TestBoundAtFirst: it is 0, and asking changes nothing, neither then nor behind a Next.
func TestBoundAtFirst(t *testing.T) {
	b := New()
	for range 3 {
		boundIs(t, b, 0)
	}
	nextIs(t, b, 0, 8)
	for range 3 {
		boundIs(t, b, 8)
	}
	nextIs(t, b, 1, 8)
}

// TestFirstBlocks: Bound is raised by the Next that is it, and by no other one.
func TestFirstBlocks(t *testing.T) {
	b := New()
	for _, c := range [][2]int{
		{0, 8}, {1, 8}, {2, 8}, {3, 8}, {4, 8}, {5, 8}, {6, 8}, {7, 8},
		{8, 16}, {9, 16}, {10, 16}, {11, 16}, {12, 16}, {13, 16}, {14, 16}, {15, 16},
		{16, 24},
	} {
		nextIs(t, b, c[0], c[1])
	}
}

// TestUpToTheLast: all numbers from 0 on, then none, however often it is asked.
func TestUpToTheLast(t *testing.T) {
	b := told(t, last)
	nextIs(t, b, last, most)
	for range 2 * size {
		nextRefused(t, b)
	}
}

// TestCrashAhead: ahead of any Next there is nothing to forget, however often it crashes.
func TestCrashAhead(t *testing.T) {
	for times := 1; times <= 3; times++ {
		b := New()
		for range times {
			crash(t, b)
		}
		boundIs(t, b, 0)
		nextIs(t, b, 0, 8)
		nextIs(t, b, 1, 8)
	}
}

// TestCrashAtEachNumber: wherever it crashed, and however often in a row, the next number is Bound, and the ones behind it follow up to the last.
func TestCrashAtEachNumber(t *testing.T) {
	for times := 1; times <= 3; times++ {
		for count := 1; count <= most; count++ {
			b := told(t, count)
			for range times {
				crash(t, b)
			}
			from := boundBehind(count - 1)
			boundIs(t, b, from)
			tell(t, b, from, most)
			nextRefused(t, b)
		}
	}
}

// TestCrashAtBound: when all numbers of a block were told none is skipped, and no block is reserved without a Next.
func TestCrashAtBound(t *testing.T) {
	b := told(t, size)
	crash(t, b)
	boundIs(t, b, 8)
	crash(t, b)
	boundIs(t, b, 8)
	nextIs(t, b, 8, 16)
	nextIs(t, b, 9, 16)
}

// TestCrashBehindEachNext: one number of each block is told, up to the last block.
func TestCrashBehindEachNext(t *testing.T) {
	b := New()
	for n := 0; n < most; n += size {
		nextIs(t, b, n, n+size)
		crash(t, b)
	}
	nextRefused(t, b)
	crash(t, b)
	nextRefused(t, b)
}

// TestCrashInTheLastBlock: the numbers that it forgot are gone, though fewer than 1000 were told.
func TestCrashInTheLastBlock(t *testing.T) {
	b := told(t, most-size)
	crash(t, b)
	nextIs(t, b, most-size, most)
	crash(t, b)
	for range 3 {
		nextRefused(t, b)
	}
}

// TestCrashWhenAllWereTold: none comes back by it, be it ahead of a refused Next or behind one.
func TestCrashWhenAllWereTold(t *testing.T) {
	b := told(t, most)
	for range 3 {
		crash(t, b)
		crash(t, b)
		boundIs(t, b, most)
		nextRefused(t, b)
		nextRefused(t, b)
	}
}

// TestTheirOwn: what is done to some blocks is not to be seen in others, be these new, begun, or full.
func TestTheirOwn(t *testing.T) {
	one, other := New(), New()
	nextIs(t, one, 0, 8)
	boundIs(t, other, 0)
	nextIs(t, other, 0, 8)
	nextIs(t, other, 1, 8)
	nextIs(t, one, 1, 8)
	crash(t, one)
	nextIs(t, other, 2, 8)
	nextIs(t, one, 8, 16)
	boundIs(t, other, 8)
	tell(t, one, 9, most)
	nextRefused(t, one)
	nextIs(t, other, 3, 8)
	late := New()
	boundIs(t, late, 0)
	nextIs(t, late, 0, 8)
	crash(t, other)
	nextIs(t, late, 1, 8)
	nextIs(t, other, 8, 16)
	nextRefused(t, one)
}

// deeds that were done, each a number that was told, or -1 for a crash.
type deeds []int

// bound by the greatest number that was ever told.
func (d deeds) bound() int {
	top := -1
	for _, n := range d {
		top = max(top, n)
	}
	if top < 0 {
		return 0
	}
	return boundBehind(top)
}

// next is one above the last deed's number; behind a crash, and at first, it is the bound.
func (d deeds) next() (int, api.Errno) {
	n := d.bound()
	if len(d) > 0 && d[len(d)-1] >= 0 {
		n = d[len(d)-1] + 1
	}
	if n > last {
		return 0, api.ErrFull
	}
	return n, api.OK
}

// TestPlayedOn: long runs of deeds, with many crashes and with few, past the last number; none is told twice.
func TestPlayedOn(t *testing.T) {
	for _, every := range []int{2, 3, 8, 20, 100} {
		b, drawn, seen := New(), 7, map[int]int{}
		var done deeds
		for range 2_000 {
			drawn = (drawn*1103515245 + 12345) % (1 << 31)
			if drawn/1024%every == 0 {
				b.Crash()
				done = append(done, -1)
			} else {
				want, wrong := done.next()
				got, err := b.Next()
				if got != want || plain.Told(err) != wrong {
					t.Fatalf("every %d: Next: got %d, %v, want %d, %v", every, got, err, want, wrong)
				}
				if err == nil {
					done = append(done, got)
					seen[got]++
				}
			}
			boundIs(t, b, done.bound())
		}
		for n, times := range seen {
			if times != 1 || n < 0 || n > last {
				t.Errorf("every %d: %d was told %d times", every, n, times)
			}
		}
		nextRefused(t, b)
	}
}
