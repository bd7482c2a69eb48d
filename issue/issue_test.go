package issue

import (
	"math"
	"testing"

	"tokenfold/api"
	"tokenfold/plain"
	"tokenfold/ring"
	"tokenfold/ticket"
)

// The numbers are written out, so that no const of the program is trusted.
const (
	size    = 8
	last    = 999 // the last number that can be told
	most    = 1000
	lastTag = 999982
	maxTime = 100000
)

// usual is a ring with which nothing is wrong.
var usual = api.Ring{Epoch: 3, Key: 5, Old: 6}

// rings with which nothing is wrong: at the edges of their numbers, and between them.
var rings = []api.Ring{
	{}, {Key: 1}, {Key: lastTag}, {Epoch: 1}, {Epoch: 1, Key: 7, Old: lastTag}, {Epoch: 3, Key: 5, Old: 6},
	{Epoch: 50, Key: 4711}, {Epoch: 99, Key: lastTag, Old: 1}, {Epoch: 100}, {Epoch: 100, Key: lastTag, Old: lastTag},
}

// wrongRings and what is wrong with them.
var wrongRings = []struct {
	r    api.Ring
	want api.Errno
}{
	{api.Ring{Epoch: -1, Key: 5}, api.ErrRange},
	{api.Ring{Epoch: 101, Key: 5, Old: 6}, api.ErrRange},
	{api.Ring{Epoch: math.MinInt, Key: 5, Old: 6}, api.ErrRange},
	{api.Ring{Epoch: math.MaxInt, Key: 5, Old: 6}, api.ErrRange},
	{api.Ring{Epoch: 3, Key: -1, Old: 6}, api.ErrRange},
	{api.Ring{Epoch: 3, Key: lastTag + 1, Old: 6}, api.ErrRange},
	{api.Ring{Epoch: 3, Key: 5, Old: -1}, api.ErrRange},
	{api.Ring{Epoch: 3, Key: 5, Old: lastTag + 1}, api.ErrRange},
	{api.Ring{Epoch: 0, Key: 5, Old: lastTag + 1}, api.ErrRange},
	{api.Ring{Epoch: 0, Key: -1, Old: 1}, api.ErrRange},
	{api.Ring{Epoch: 0, Key: 5, Old: 1}, api.ErrShape},
	{api.Ring{Epoch: 0, Key: 5, Old: lastTag}, api.ErrShape},
}

// times: an until may be these.
var times = []int{0, 1, 2, 50, 4711, maxTime - 1, maxTime}

// noTimes: an until is none of these; some would come to one, were they cut to fewer bits.
var noTimes = []int{
	-1, -2, -maxTime, math.MinInt, math.MinInt + 1, -1 << 32, maxTime + 1, maxTime + 2, lastTag, lastTag + 1,
	1 << 32, 1<<32 + 50, 1 << 62, math.MaxInt - 1, math.MaxInt,
}

// tagOf is chapter 1's tag of 2 and two more numbers, by powers of 4099.
func tagOf(key, number, until int) int {
	const (
		second = 4099 * 4099 % 999983
		third  = 4099 * 4099 * 4099 % 999983
		fourth = 4099 * 4099 * 4099 * 4099 % 999983
	)
	return (key*fourth + 3*third + (number+1)*second + (until+1)*4099 + key) % 999983
}

// manyIs: Many tells that, however often it is asked.
func manyIs(t *testing.T, i *Issuer, want int) {
	t.Helper()
	for range 2 {
		if got := i.Many(); got != want {
			t.Fatalf("Many: got %d, want %d", got, want)
		}
	}
}

// issued: Issue gives the ticket of that number, and Many is one more.
func issued(t *testing.T, i *Issuer, r api.Ring, until, number int) {
	t.Helper()
	before := i.Many()
	want := api.Ticket{Epoch: r.Epoch, Number: number, Until: until, Tag: tagOf(r.Key, number, until)}
	if got, err := i.Issue(r, until); got != want || err != nil {
		t.Fatalf("Issue %v, %d: got %v, %v, want %v", r, until, got, err, want)
	}
	manyIs(t, i, before+1)
}

// refused: Issue tells that error, and the ticket of zeros beside it; Many is what it was.
func refused(t *testing.T, i *Issuer, r api.Ring, until int, want api.Errno) {
	t.Helper()
	before := i.Many()
	if got, err := i.Issue(r, until); got != (api.Ticket{}) || plain.Told(err) != want {
		t.Fatalf("Issue %v, %d: got %v, %v, want none, %v", r, until, got, err, want)
	}
	manyIs(t, i, before)
}

// crash: Many is what it was.
func crash(t *testing.T, i *Issuer) {
	t.Helper()
	before := i.Many()
	i.Crash()
	manyIs(t, i, before)
}

// tell the numbers of from to to, without to.
func tell(t *testing.T, i *Issuer, from, to int) {
	t.Helper()
	for n := from; n < to; n++ {
		issued(t, i, usual, n, n)
	}
}

// told is an issuer of whose numbers the first so many were told.
func told(t *testing.T, count int) *Issuer {
	t.Helper()
	i := New()
	tell(t, i, 0, count)
	manyIs(t, i, count)
	return i
}

// boundBehind is where it goes on when it crashed behind that number: the end of the block that it stands in.
func boundBehind(n int) int { return (n/size + 1) * size }

// refuseAll: everything that is wrong with a call is told, and none of it changes how many were issued.
func refuseAll(t *testing.T, i *Issuer) {
	t.Helper()
	for _, until := range noTimes {
		refused(t, i, usual, until, api.ErrRange)
	}
	for _, c := range wrongRings {
		refused(t, i, c.r, 50, c.want)
		refused(t, i, c.r, -1, c.want)
	}
}

// TestNumbers: what these tests count by is what the document says.
func TestNumbers(t *testing.T) {
	if api.Block != size || api.Modulo != lastTag+1 || api.MaxTime != maxTime || api.MaxEpoch != 100 {
		t.Errorf("got %d, %d, %d, %d", api.Block, api.Modulo, api.MaxTime, api.MaxEpoch)
	}
}

// TestWritten: tickets that were worked out apart from the program.
func TestWritten(t *testing.T) {
	for _, c := range []struct{ key, until, tag int }{
		{0, 0, 65541}, {1, 0, 99515}, {lastTag, 0, 31567}, {0, maxTime, 972494}, {lastTag, maxTime, 938520},
	} {
		got, err := New().Issue(api.Ring{Epoch: 9, Key: c.key, Old: 4}, c.until)
		if want := (api.Ticket{Epoch: 9, Until: c.until, Tag: c.tag}); got != want || err != nil {
			t.Errorf("got %v, %v, want %v", got, err, want)
		}
	}
	i := New()
	tell(t, i, 0, 1)
	got, err := i.Issue(api.Ring{Epoch: 2, Key: 28225, Old: 3}, 8)
	if want := (api.Ticket{Epoch: 2, Number: 1, Until: 8, Tag: 832859}); got != want || err != nil {
		t.Errorf("got %v, %v, want %v", got, err, want)
	}
}

// TestFirst: every ring and every until at the edges gives the ticket of number 0.
func TestFirst(t *testing.T) {
	for _, r := range rings {
		for _, until := range times {
			issued(t, New(), r, until, 0)
		}
	}
}

// TestOneByOne: numbers go on, whatever the ring and the until of each are, and though these go back.
func TestOneByOne(t *testing.T) {
	i, n := New(), 0
	for _, r := range rings {
		for _, until := range times {
			issued(t, i, r, until, n)
			n++
		}
	}
	for at := len(rings) - 1; at >= 0; at-- {
		issued(t, i, rings[at], maxTime-at, n)
		n++
	}
}

// TestIsRight: what is issued is right by chapter 4, till its time, also when the ring was turned.
func TestIsRight(t *testing.T) {
	r, err := ring.New(7)
	if err != nil {
		t.Fatal(err)
	}
	next, err := ring.Turn(r)
	if err != nil {
		t.Fatal(err)
	}
	i := New()
	for n := range 3 * size {
		tk, err := i.Issue(r, n)
		if err != nil || tk.Number != n {
			t.Fatalf("got %v, %v, want number %d", tk, err, n)
		}
		for _, now := range []api.Ring{r, next} {
			if err := ticket.Check(now, tk, n); err != nil {
				t.Errorf("Check %v: got %v", tk, err)
			}
			if err := ticket.Check(now, tk, n+1); plain.Told(err) != api.ErrLate {
				t.Errorf("Check %v: got %v", tk, err)
			}
		}
	}
}

// TestAlike: the same call twice is two numbers, hence two tickets; the ninth stands in another block.
func TestAlike(t *testing.T) {
	i, seen := New(), map[api.Ticket]int{}
	for n := range size + 2 {
		tk, err := i.Issue(usual, 50)
		if err != nil || tk.Number != n {
			t.Fatalf("got %v, %v, want number %d", tk, err, n)
		}
		seen[tk]++
	}
	if len(seen) != size+2 {
		t.Errorf("got %v", seen)
	}
}

// TestUntil: just below 0 and just above MaxTime it is refused, at both it is let; by each ring.
func TestUntil(t *testing.T) {
	for _, r := range rings {
		i := New()
		for _, until := range noTimes {
			refused(t, i, r, until, api.ErrRange)
		}
		issued(t, i, r, 0, 0)
		refused(t, i, r, -1, api.ErrRange)
		issued(t, i, r, maxTime, 1)
		refused(t, i, r, maxTime+1, api.ErrRange)
		issued(t, i, r, 1, 2)
	}
}

// TestWrongRing: its error is told, with an until that is right, and ahead of one that is not.
func TestWrongRing(t *testing.T) {
	for _, c := range wrongRings {
		i := New()
		for _, until := range times {
			refused(t, i, c.r, until, c.want)
		}
		for _, until := range noTimes {
			refused(t, i, c.r, until, c.want)
		}
		issued(t, i, usual, 50, 0)
	}
}

// TestRefusedTellsNoNumber: between any two numbers of three blocks, refused calls leave no gap, and don't bring the next block.
func TestRefusedTellsNoNumber(t *testing.T) {
	i := New()
	for n := range 3 * size {
		refuseAll(t, i)
		issued(t, i, usual, 50, n)
	}
	for count := 0; count <= 3*size; count++ {
		i := told(t, count)
		refuseAll(t, i)
		crash(t, i)
		refuseAll(t, i)
		from := 0
		if count > 0 {
			from = boundBehind(count - 1)
		}
		tell(t, i, from, from+size+1)
	}
}

// TestLast: the last number is told, and none behind it, however often it is asked.
func TestLast(t *testing.T) {
	i := told(t, last)
	issued(t, i, usual, 50, last)
	for range 2 * size {
		refused(t, i, usual, 50, api.ErrFull)
	}
	for _, r := range rings {
		for _, until := range times {
			refused(t, i, r, until, api.ErrFull)
		}
	}
	manyIs(t, i, most)
}

// TestFullIsToldLast: when there are no more numbers, what is wrong with the ring, and then with until, is still told first.
func TestFullIsToldLast(t *testing.T) {
	i := told(t, most)
	refuseAll(t, i)
	refused(t, i, usual, 50, api.ErrFull)
	refuseAll(t, i)
	crash(t, i)
	refuseAll(t, i)
	refused(t, i, usual, 50, api.ErrFull)
	manyIs(t, i, most)
}

// TestCrashAhead: ahead of the first number there is nothing to forget, however often it crashes.
func TestCrashAhead(t *testing.T) {
	for times := range 4 {
		i := New()
		for range times {
			crash(t, i)
		}
		manyIs(t, i, 0)
		tell(t, i, 0, size+1)
	}
}

// TestCrash: behind any number of three blocks, once or more in a row, it goes on at the end of the block, and counts on.
func TestCrash(t *testing.T) {
	for count := 1; count <= 3*size; count++ {
		for times := 1; times <= 3; times++ {
			i := told(t, count)
			for range times {
				crash(t, i)
			}
			from := boundBehind(count - 1)
			tell(t, i, from, from+size+1)
			manyIs(t, i, count+size+1)
		}
	}
}

// TestCrashBehindEach: one of each block is issued, then none is, though they were but 125.
func TestCrashBehindEach(t *testing.T) {
	i := New()
	for n := 0; n < most; n += size {
		issued(t, i, usual, 50, n)
		crash(t, i)
	}
	refused(t, i, usual, 50, api.ErrFull)
	crash(t, i)
	refused(t, i, usual, 50, api.ErrFull)
	manyIs(t, i, 125)
}

// TestCrashInTheLastBlock: what it forgot there is gone.
func TestCrashInTheLastBlock(t *testing.T) {
	i := told(t, most-size+1)
	crash(t, i)
	for range 3 {
		refused(t, i, usual, 50, api.ErrFull)
	}
	manyIs(t, i, most-size+1)
}

// TestMany: 0 ahead of all; a refusal and a crash leave it, and asking changes nothing.
func TestMany(t *testing.T) {
	i := New()
	manyIs(t, i, 0)
	refused(t, i, usual, -1, api.ErrRange)
	manyIs(t, i, 0)
	crash(t, i)
	manyIs(t, i, 0)
	issued(t, i, usual, 50, 0)
	manyIs(t, i, 1)
	refused(t, i, api.Ring{Old: 1}, 50, api.ErrShape)
	manyIs(t, i, 1)
	crash(t, i)
	crash(t, i)
	manyIs(t, i, 1)
	issued(t, i, usual, 50, 8)
	manyIs(t, i, 2)
}

// TestTheirOwn: what is done to one is not to be seen in another, be this new, begun, or full.
func TestTheirOwn(t *testing.T) {
	one, other := New(), New()
	issued(t, one, usual, 50, 0)
	manyIs(t, other, 0)
	issued(t, other, usual, 50, 0)
	issued(t, other, usual, 50, 1)
	crash(t, one)
	issued(t, other, usual, 50, 2)
	issued(t, one, usual, 50, 8)
	manyIs(t, one, 2)
	manyIs(t, other, 3)
	tell(t, one, 9, most)
	refused(t, one, usual, 50, api.ErrFull)
	issued(t, other, usual, 50, 3)
	issued(t, New(), usual, 50, 0)
	refused(t, one, usual, 50, api.ErrFull)
}

// deeds that were done, each a number that was told, or -1 for a crash.
type deeds []int

// next is one above the last deed's number; behind a crash, and at first, it is the end of the greatest one's block.
func (d deeds) next() int {
	top := -1
	for _, n := range d {
		top = max(top, n)
	}
	switch {
	case top < 0:
		return 0
	case d[len(d)-1] >= 0:
		return d[len(d)-1] + 1
	}
	return boundBehind(top)
}

// wrongOf a call's ring and until; OK, where nothing is.
func wrongOf(r api.Ring, until int) api.Errno {
	for _, c := range wrongRings {
		if c.r == r {
			return c.want
		}
	}
	if until < 0 || until > maxTime {
		return api.ErrRange
	}
	return api.OK
}

// TestPlayedOn: long runs of calls, right ones and wrong ones, with many crashes and with few, past the last number; no number is told twice.
func TestPlayedOn(t *testing.T) {
	drawn := 7
	draw := func(below int) int {
		drawn = (drawn*1103515245 + 12345) % (1 << 31)
		return drawn / 1024 % below
	}
	for _, every := range []int{2, 3, 8, 20, 100} {
		i, seen, many := New(), map[int]int{}, 0
		var done deeds
		for range 2_000 {
			if draw(every) == 0 {
				crash(t, i)
				done = append(done, -1)
				continue
			}
			r, until := rings[draw(len(rings))], draw(maxTime+1)
			if draw(10) == 0 {
				r = wrongRings[draw(len(wrongRings))].r
			}
			if draw(10) == 0 {
				until = noTimes[draw(len(noTimes))]
			}
			wrong, number := wrongOf(r, until), done.next()
			switch {
			case wrong != api.OK:
				refused(t, i, r, until, wrong)
			case number > last:
				refused(t, i, r, until, api.ErrFull)
			default:
				issued(t, i, r, until, number)
				done = append(done, number)
				seen[number]++
				many++
			}
			manyIs(t, i, many)
		}
		if len(seen) != many {
			t.Errorf("every %d: %d were issued, of %d numbers", every, many, len(seen))
		}
		refused(t, i, usual, 50, api.ErrFull)
	}
}
