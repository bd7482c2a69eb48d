package conn

import (
	"math"
	"slices"
	"testing"

	"tokenfold/api"
	"tokenfold/plain"
)

// all: how many numbers there are.
const all = 65_536

// noShards: what is the Shard of no conn, on both sides.
var noShards = []int{-1, -2, -15, -16, math.MinInt, math.MinInt + 1, 16, 17, 31, 32, 1 << 32, 1 << 52, math.MaxInt - 1, math.MaxInt}

// noNumbers: what is the Number of no conn, on both sides.
var noNumbers = []int{-1, -2, -4095, -4096, math.MinInt, math.MinInt + 1, 4096, 4097, 8191, 8192, all - 1, all, 1 << 32, math.MaxInt - 1, math.MaxInt}

// noConns: what is the number of no conn, on both sides.
var noConns = []int{-1, -2, -4096, -21845, -21846, -65_535, -65_536, math.MinInt, math.MinInt + 1, 65_536, 65_537, 65_536 + 21845, 131_071, 131_072, 1 << 32, math.MaxInt - 1, math.MaxInt}

// noRoutes: what there are never as shards to go to, on both sides.
var noRoutes = []int{0, -1, -2, -15, -16, math.MinInt, math.MinInt + 1, 17, 18, 32, 1 << 32, math.MaxInt - 1, math.MaxInt}

// of is a conn of that Shard and Number.
func of(shard, number int) api.Conn { return api.Conn{Shard: shard, Number: number} }

func numberIs(t *testing.T, c api.Conn, want int) {
	t.Helper()
	if got, err := Number(c); got != want || err != nil {
		t.Errorf("Number(%v): got %d, %v, want %d", c, got, err, want)
	}
}

// numberRefused: Number tells ErrRange, and nothing beside it.
func numberRefused(t *testing.T, c api.Conn) {
	t.Helper()
	if got, err := Number(c); got != 0 || plain.Told(err) != api.ErrRange {
		t.Errorf("Number(%v): got %d, %v, want 0, %v", c, got, err, api.ErrRange)
	}
}

func ofIs(t *testing.T, n int, want api.Conn) {
	t.Helper()
	if got, err := Of(n); got != want || err != nil {
		t.Errorf("Of(%d): got %v, %v, want %v", n, got, err, want)
	}
}

// ofRefused: Of tells ErrRange, and nothing beside it.
func ofRefused(t *testing.T, n int) {
	t.Helper()
	if got, err := Of(n); got != (api.Conn{}) || plain.Told(err) != api.ErrRange {
		t.Errorf("Of(%d): got %v, %v, want none, %v", n, got, err, api.ErrRange)
	}
}

func routeIs(t *testing.T, n, shards, want int) {
	t.Helper()
	if got, err := Route(n, shards); got != want || err != nil {
		t.Errorf("Route(%d, %d): got %d, %v, want %d", n, shards, got, err, want)
	}
}

// routeRefused: Route tells ErrRange, and nothing beside it.
func routeRefused(t *testing.T, n, shards int) {
	t.Helper()
	if got, err := Route(n, shards); got != 0 || plain.Told(err) != api.ErrRange {
		t.Errorf("Route(%d, %d): got %d, %v, want 0, %v", n, shards, got, err, api.ErrRange)
	}
}

// thereAndBack: a conn has that number, and the number is of that conn.
func thereAndBack(t *testing.T, c api.Conn, n int) {
	t.Helper()
	numberIs(t, c, n)
	ofIs(t, n, c)
}

// otherwise turns the digits of 21845 over, of 16 digits in twos, without an exclusive or: every second one, from the first on.
func otherwise(n int) int {
	turned := 0
	for place := 1; place < all; place *= 4 {
		turned += (1-n/place%2)*place + n/(2*place)%2*2*place
	}
	return turned
}

// TestKnown: conns and numbers that were worked out by hand.
func TestKnown(t *testing.T) {
	thereAndBack(t, of(0, 0), 21845)
	thereAndBack(t, of(0, 1), 21844)
	thereAndBack(t, of(0, 4095), 0x5aaa)
	thereAndBack(t, of(1, 0), 0x4555)
	thereAndBack(t, of(1, 4095), 0x4aaa)
	thereAndBack(t, of(5, 0x555), 0)
	thereAndBack(t, of(5, 0x554), 1)
	thereAndBack(t, of(7, 0x123), 0x2476)
	thereAndBack(t, of(10, 0xaaa), 65_535)
	thereAndBack(t, of(10, 0xaab), 65_534)
	thereAndBack(t, of(15, 0), 0xa555)
	thereAndBack(t, of(15, 4095), 0xaaaa)
}

// TestEvery: every conn there and back, each with a number of its own, and none is left over.
func TestEvery(t *testing.T) {
	var told [all]bool
	at := 0
	for shard := range 16 {
		for number := range 4096 {
			n := otherwise(at)
			thereAndBack(t, of(shard, number), n)
			if told[n] {
				t.Fatalf("%d is of two conns, of which one is %v", n, of(shard, number))
			}
			told[n] = true
			at++
		}
	}
	if slices.Contains(told[:], false) {
		t.Errorf("%d is of no conn", slices.Index(told[:], false))
	}
}

// TestNumberShard: a Shard beyond its edges on both sides, with Number right or wrong.
func TestNumberShard(t *testing.T) {
	for _, shard := range noShards {
		for _, number := range slices.Concat([]int{0, 1, 2000, 4094, 4095}, noNumbers) {
			numberRefused(t, of(shard, number))
		}
	}
}

// TestNumberNumber: a Number beyond its edges on both sides, at every Shard: what would be another shard's is none.
func TestNumberNumber(t *testing.T) {
	for shard := range 16 {
		for _, number := range noNumbers {
			numberRefused(t, of(shard, number))
		}
	}
}

// TestNumberMakesUp: a Shard and a Number that are wrong, but would come to a number that is one.
func TestNumberMakesUp(t *testing.T) {
	numberRefused(t, of(-1, 4096))
	numberRefused(t, of(-1, 8191))
	numberRefused(t, of(16, -1))
	numberRefused(t, of(16, -65_536))
	numberRefused(t, of(0, all-1))
	numberRefused(t, of(1, -1))
	numberRefused(t, of(15, -4096))
	numberRefused(t, of(1<<52, 0))
	numberRefused(t, of(math.MinInt, 0))
}

// TestOfRange: a number beyond its edges on both sides; Route tells it too, with shards right or wrong.
func TestOfRange(t *testing.T) {
	for _, n := range noConns {
		ofRefused(t, n)
		for shards := 1; shards <= 16; shards++ {
			routeRefused(t, n, shards)
		}
		for _, shards := range noRoutes {
			routeRefused(t, n, shards)
		}
	}
}

// TestNearEdges: the numbers just within, and just beyond.
func TestNearEdges(t *testing.T) {
	for n := -100; n < 0; n++ {
		ofRefused(t, n)
		routeRefused(t, n, 16)
		ofRefused(t, all-1-n)
		routeRefused(t, all-1-n, 16)
	}
	ofIs(t, 0, of(5, 1365))
	ofIs(t, 65_535, of(10, 2730))
	routeIs(t, 0, 16, 5)
	routeIs(t, 65_535, 16, 10)
}

// TestRouteKnown: what was worked out by hand; a number that is not of shard 0 may go there.
func TestRouteKnown(t *testing.T) {
	routeIs(t, 21845, 1, 0)
	routeIs(t, 21845, 16, 0)
	routeIs(t, 0, 1, 0)
	routeIs(t, 0, 2, 1)
	routeIs(t, 0, 4, 1)
	routeIs(t, 0, 5, 0)
	routeIs(t, 0, 6, 5)
	routeIs(t, 0xaaaa, 15, 0)
	routeIs(t, 0xaaaa, 14, 1)
	routeIs(t, 0xaaaa, 16, 15)
	routeIs(t, 0xa555, 9, 6)
}

// TestRouteEvery: every number, at as many shards as may be, goes where what is left of its Shard says; all of a shard go one way.
func TestRouteEvery(t *testing.T) {
	for shards := 1; shards <= 16; shards++ {
		for shard := range 16 {
			left := shard
			for left >= shards {
				left -= shards
			}
			for number := range 4096 {
				routeIs(t, otherwise(4096*shard+number), shards, left)
			}
		}
	}
}

// TestRouteShards: shards beyond their edges on both sides, whatever the number.
func TestRouteShards(t *testing.T) {
	for _, shards := range noRoutes {
		for n := 0; n < all; n += 257 {
			routeRefused(t, n, shards)
		}
		routeRefused(t, 0, shards)
		routeRefused(t, 21845, shards)
		routeRefused(t, 65_535, shards)
	}
}
