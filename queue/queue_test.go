package queue

import (
	"math"
	"slices"
	"testing"

	"tokenfold/api"
	"tokenfold/plain"
)

const most = 8

// wrong: conns that are none, by their Shard, their Number, or both; some would come to the number of one that is.
var wrong = []api.Conn{
	of(-1, 0), of(-2, 5), of(16, 0), of(17, 5), of(math.MinInt, 0), of(math.MaxInt, 0), of(1<<32, 1), of(1<<52, 0),
	of(0, -1), of(5, -2), of(0, 4096), of(5, 4097), of(15, 4096), of(0, math.MinInt), of(0, math.MaxInt), of(1, 1<<32),
	of(-1, -1), of(16, 4096), of(-1, 4096), of(-1, 4097), of(16, -1), of(1, -4096), of(1, -4095), of(0, 4097),
}

// of is a conn of that Shard and Number.
func of(shard, number int) api.Conn { return api.Conn{Shard: shard, Number: number} }

// some conns, each another one; neighbours differ in their Shard, or in their Number, alone, and the first is the one of zeros.
func some(count int) []api.Conn {
	var l []api.Conn
	for i := range count {
		l = append(l, of(i/2%16, (i+1)/2%4096))
	}
	return l
}

// waiting: one in which so many of some wait.
func waiting(t *testing.T, count int) *Queue {
	t.Helper()
	q := New()
	for _, c := range some(count) {
		if err := q.Offer(c); err != nil {
			t.Fatalf("Offer %v: got %v", c, err)
		}
	}
	allAre(t, q, some(count)...)
	return q
}

// allAre: All gives these, in their order, however often it is asked.
func allAre(t *testing.T, q *Queue, want ...api.Conn) {
	t.Helper()
	for range 2 {
		if got := q.All(); !slices.Equal(got, want) {
			t.Fatalf("All: got %v, want %v", got, want)
		}
	}
}

// offered: it is let, and is behind all that were there.
func offered(t *testing.T, q *Queue, c api.Conn) {
	t.Helper()
	want := append(q.All(), c)
	if err := q.Offer(c); err != nil {
		t.Fatalf("Offer %v: got %v", c, err)
	}
	allAre(t, q, want...)
}

// offerRefused: Offer tells that error, and who waits is who waited.
func offerRefused(t *testing.T, q *Queue, c api.Conn, want api.Errno) {
	t.Helper()
	before := q.All()
	if err := q.Offer(c); plain.Told(err) != want {
		t.Fatalf("Offer %v to %v: got %v, want %v", c, before, err, want)
	}
	allAre(t, q, before...)
}

// pulled: it is that one, and those behind it are left.
func pulled(t *testing.T, q *Queue, want api.Conn) {
	t.Helper()
	before := q.All()
	if got, err := q.Pull(); got != want || err != nil {
		t.Fatalf("Pull of %v: got %v, %v, want %v", before, got, err, want)
	}
	allAre(t, q, before[1:]...)
}

// pullRefused: Pull tells ErrNone, and the conn of zeros beside it; nobody waits behind it.
func pullRefused(t *testing.T, q *Queue) {
	t.Helper()
	if got, err := q.Pull(); got != (api.Conn{}) || plain.Told(err) != api.ErrNone {
		t.Fatalf("Pull: got %v, %v, want none, %v", got, err, api.ErrNone)
	}
	allAre(t, q)
}

// dropped: the one that stood there is gone, and all others are as they were.
func dropped(t *testing.T, q *Queue, at int) {
	t.Helper()
	before := q.All()
	if err := q.Drop(before[at]); err != nil {
		t.Fatalf("Drop %v of %v: got %v", before[at], before, err)
	}
	allAre(t, q, slices.Concat(before[:at], before[at+1:])...)
}

// dropRefused: Drop tells that error, and who waits is who waited.
func dropRefused(t *testing.T, q *Queue, c api.Conn, want api.Errno) {
	t.Helper()
	before := q.All()
	if err := q.Drop(c); plain.Told(err) != want {
		t.Fatalf("Drop %v of %v: got %v, want %v", c, before, err, want)
	}
	allAre(t, q, before...)
}

// TestMost: what these tests count by is what the document says.
func TestMost(t *testing.T) {
	if api.MaxQueue != most {
		t.Errorf("got %d, want %d", api.MaxQueue, most)
	}
}

// TestNew: nobody waits; what is asked of it finds none, and leaves it so.
func TestNew(t *testing.T) {
	q := New()
	allAre(t, q)
	pullRefused(t, q)
	pullRefused(t, q)
	dropRefused(t, q, of(0, 0), api.ErrNone)
	dropRefused(t, q, of(15, 4095), api.ErrNone)
	offered(t, q, of(3, 7))
}

// TestOffer: each is behind all, not where its numbers would put it, up to MaxQueue of them.
func TestOffer(t *testing.T) {
	q := New()
	l := []api.Conn{of(9, 1), of(0, 4095), of(15, 4095), of(0, 0), of(9, 0), of(15, 0), of(1, 9), of(4, 4)}
	for i, c := range l {
		offered(t, q, c)
		allAre(t, q, l[:i+1]...)
	}
	offerRefused(t, q, of(4, 5), api.ErrFull)
	for _, c := range l {
		pulled(t, q, c)
	}
	pullRefused(t, q)
}

// TestEdgesOfConns: those at the edges of chapter 8 are let, where they wait alone and beside the others.
func TestEdgesOfConns(t *testing.T) {
	edges := []api.Conn{of(0, 0), of(0, 4095), of(15, 0), of(15, 4095)}
	together := New()
	for _, c := range edges {
		q := New()
		offered(t, q, c)
		dropped(t, q, 0)
		offered(t, q, c)
		pulled(t, q, c)
		offered(t, together, c)
	}
	allAre(t, together, edges...)
}

// TestWrongConns: ErrRange is told, whether nobody waits, some do, or there is no place.
func TestWrongConns(t *testing.T) {
	for count := 0; count <= most; count++ {
		q := waiting(t, count)
		for _, c := range wrong {
			offerRefused(t, q, c, api.ErrRange)
			dropRefused(t, q, c, api.ErrRange)
		}
	}
}

// TestOfferAgain: who waits is refused, wherever it stands; that there is no place either is not told.
func TestOfferAgain(t *testing.T) {
	for count := 1; count <= most; count++ {
		q := waiting(t, count)
		for _, c := range some(count) {
			offerRefused(t, q, c, api.ErrClash)
			offerRefused(t, q, c, api.ErrClash)
		}
	}
}

// TestFull: one is let when there are MaxQueue less one, and none when there are MaxQueue, however often it asks.
func TestFull(t *testing.T) {
	q := waiting(t, most-1)
	offered(t, q, of(15, 1))
	for _, c := range []api.Conn{of(15, 2), of(14, 1), of(1, 15), of(15, 4095), of(15, 2)} {
		offerRefused(t, q, c, api.ErrFull)
	}
	for _, c := range some(100)[most:] {
		offerRefused(t, q, c, api.ErrFull)
	}
}

// TestPlaceAgain: when there was none, a Pull and every Drop give one place, and no more.
func TestPlaceAgain(t *testing.T) {
	q := waiting(t, most)
	offerRefused(t, q, of(12, 12), api.ErrFull)
	pulled(t, q, some(1)[0])
	offered(t, q, of(12, 12))
	offerRefused(t, q, of(13, 13), api.ErrFull)
	for at := range most {
		q := waiting(t, most)
		dropRefused(t, q, of(12, 12), api.ErrNone)
		offerRefused(t, q, of(12, 12), api.ErrFull)
		dropped(t, q, at)
		offered(t, q, of(12, 12))
		offerRefused(t, q, of(13, 13), api.ErrFull)
	}
}

// TestPull: however many wait, they come in their order, and then none does.
func TestPull(t *testing.T) {
	for count := 0; count <= most; count++ {
		q := waiting(t, count)
		for _, c := range some(count) {
			pulled(t, q, c)
		}
		pullRefused(t, q)
		pullRefused(t, q)
		offered(t, q, of(7, 7))
		pulled(t, q, of(7, 7))
		pullRefused(t, q)
	}
}

// TestPullOfZeros: the conn of zeros is one that waits, not what stands beside an error.
func TestPullOfZeros(t *testing.T) {
	q := New()
	dropRefused(t, q, of(0, 0), api.ErrNone)
	offered(t, q, of(0, 0))
	offerRefused(t, q, of(0, 0), api.ErrClash)
	pulled(t, q, of(0, 0))
	pullRefused(t, q)
	offered(t, q, of(1, 1))
	dropRefused(t, q, of(0, 0), api.ErrNone)
	pulled(t, q, of(1, 1))
	dropRefused(t, q, of(0, 0), api.ErrNone)
}

// TestDrop: of however many, the first, the last and each between goes, and can't go twice; the others are pulled in their order.
func TestDrop(t *testing.T) {
	for count := 1; count <= most; count++ {
		for at := range count {
			q := waiting(t, count)
			dropped(t, q, at)
			dropRefused(t, q, some(count)[at], api.ErrNone)
			for i, c := range some(count) {
				if i != at {
					pulled(t, q, c)
				}
			}
			pullRefused(t, q)
		}
	}
}

// TestDropTwo: of every two places, one behind the other.
func TestDropTwo(t *testing.T) {
	for first := range most {
		for second := range most - 1 {
			q := waiting(t, most)
			dropped(t, q, first)
			dropped(t, q, second)
			offered(t, q, of(9, 9))
			offered(t, q, some(most)[first])
			offerRefused(t, q, of(10, 10), api.ErrFull)
		}
	}
}

// TestDropOthers: one that has but the Shard, or but the Number, of one that waits is not there; nor is one the other way round.
func TestDropOthers(t *testing.T) {
	q := New()
	offered(t, q, of(3, 5))
	offered(t, q, of(7, 2))
	for _, c := range []api.Conn{of(3, 2), of(7, 5), of(5, 3), of(2, 7), of(3, 4), of(3, 6), of(2, 5), of(4, 5), of(0, 0)} {
		dropRefused(t, q, c, api.ErrNone)
	}
	for _, c := range []api.Conn{of(3, 2), of(7, 5), of(5, 3), of(2, 7)} {
		offered(t, q, c)
	}
}

// TestOfferPulled: who was pulled may come again, and is behind all.
func TestOfferPulled(t *testing.T) {
	for count := 1; count <= most; count++ {
		q := waiting(t, count)
		for range 3 * most {
			first := q.All()[0]
			pulled(t, q, first)
			offered(t, q, first)
			offerRefused(t, q, first, api.ErrClash)
		}
	}
}

// TestOfferDropped: who was dropped may come again, and is behind all, not where it stood.
func TestOfferDropped(t *testing.T) {
	for count := 1; count <= most; count++ {
		for at := range count {
			q := waiting(t, count)
			dropped(t, q, at)
			offered(t, q, some(count)[at])
			offerRefused(t, q, some(count)[at], api.ErrClash)
		}
	}
}

// TestPulledIsNotThere: it can't be dropped.
func TestPulledIsNotThere(t *testing.T) {
	for count := 1; count <= most; count++ {
		q := waiting(t, count)
		pulled(t, q, some(1)[0])
		dropRefused(t, q, some(1)[0], api.ErrNone)
	}
}

// spoil writes over a list, also behind its length, as an append would.
func spoil(l []api.Conn) {
	l = l[:cap(l)]
	for i := range l {
		l[i] = of(11, 11)
	}
}

// TestAllIsTheCallers: what is done to what All gave is not seen by who waits, nor in another such list.
func TestAllIsTheCallers(t *testing.T) {
	for count := 0; count <= most; count++ {
		q := waiting(t, count)
		one, other := q.All(), q.All()
		spoil(one)
		if !slices.Equal(other, some(count)) {
			t.Fatalf("of %d: got %v", count, other)
		}
		allAre(t, q, some(count)...)
		if count < most {
			offered(t, q, of(9, 9))
			spoil(other)
			offerRefused(t, q, of(9, 9), api.ErrClash)
			allAre(t, q, append(some(count), of(9, 9))...)
		}
		for _, c := range some(count) {
			pulled(t, q, c)
		}
	}
}

// TestAllStays: what All gave is as it was, whatever is done to who waits.
func TestAllStays(t *testing.T) {
	for count := 0; count <= most; count++ {
		q := waiting(t, count)
		first := q.All()
		for range count {
			dropped(t, q, len(q.All())/2)
		}
		for _, c := range some(2 * most)[most:] {
			offered(t, q, c)
		}
		if !slices.Equal(first, some(count)) {
			t.Errorf("of %d: got %v", count, first)
		}
		full := q.All()
		for range most {
			pulled(t, q, q.All()[0])
		}
		offered(t, q, of(2, 2))
		if !slices.Equal(full, some(2 * most)[most:]) {
			t.Errorf("of %d: got %v", count, full)
		}
	}
}

// TestTheirOwn: what is done to one is not to be seen in another, be this new, begun, or full.
func TestTheirOwn(t *testing.T) {
	one, other := New(), New()
	if one == other {
		t.Fatal("two are one")
	}
	offered(t, one, of(1, 1))
	allAre(t, other)
	pullRefused(t, other)
	dropRefused(t, other, of(1, 1), api.ErrNone)
	offered(t, other, of(2, 2))
	offered(t, other, of(1, 1))
	allAre(t, one, of(1, 1))
	full := waiting(t, most)
	offered(t, one, of(2, 2))
	dropped(t, other, 0)
	allAre(t, one, of(1, 1), of(2, 2))
	offerRefused(t, full, of(9, 9), api.ErrFull)
	offered(t, one, of(9, 9))
	pulled(t, other, of(1, 1))
	pullRefused(t, other)
	allAre(t, one, of(1, 1), of(2, 2), of(9, 9))
	allAre(t, full, some(most)...)
	allAre(t, New())
}

// places: of each conn the turn in which it came, and none for who is not there.
type places map[api.Conn]int

// first of those that wait, as who came in the least turn.
func (p places) first() (found api.Conn) {
	least := math.MaxInt
	for c, turn := range p {
		if turn < least {
			found, least = c, turn
		}
	}
	return found
}

// offer it in a turn, and tell what is to be answered.
func (p places) offer(c api.Conn, turn int) api.Errno {
	if c.Shard < 0 || c.Shard > 15 || c.Number < 0 || c.Number > 4095 {
		return api.ErrRange
	}
	if _, there := p[c]; there {
		return api.ErrClash
	}
	if len(p) == most {
		return api.ErrFull
	}
	p[c] = turn
	return api.OK
}

// drop it, and tell what is to be answered.
func (p places) drop(c api.Conn) api.Errno {
	if c.Shard < 0 || c.Shard > 15 || c.Number < 0 || c.Number > 4095 {
		return api.ErrRange
	}
	if _, there := p[c]; !there {
		return api.ErrNone
	}
	delete(p, c)
	return api.OK
}

// inOrder: those that wait, by the turns in which they came.
func (p places) inOrder() (l []api.Conn) {
	for c := range p {
		l = append(l, c)
	}
	slices.SortFunc(l, func(a, b api.Conn) int { return p[a] - p[b] })
	return l
}

// TestPlayedOn: long runs among few conns and many, with Offers more often than Pulls and Drops, and less often, against the turns in which they came.
func TestPlayedOn(t *testing.T) {
	drawn := 7
	draw := func(below int) int {
		drawn = (drawn*1103515245 + 12345) % (1 << 31)
		return drawn / 1024 % below
	}
	for _, wide := range []int{1, 2, 3, 5, 16} {
		for _, deeds := range []int{3, 4, 8} {
			q, want := New(), places{}
			for turn := range 2000 {
				c := of(draw(wide), draw(wide))
				if draw(20) == 0 {
					c = wrong[draw(len(wrong))]
				}
				switch draw(deeds) {
				case 0:
					if len(want) == 0 {
						pullRefused(t, q)
						continue
					}
					first := want.first()
					pulled(t, q, first)
					delete(want, first)
				case 1:
					told := want.drop(c)
					if err := q.Drop(c); plain.Told(err) != told {
						t.Fatalf("Drop %v: got %v, want %v", c, err, told)
					}
				default:
					told := want.offer(c, turn)
					if err := q.Offer(c); plain.Told(err) != told {
						t.Fatalf("Offer %v: got %v, want %v", c, err, told)
					}
				}
				allAre(t, q, want.inOrder()...)
			}
		}
	}
}
