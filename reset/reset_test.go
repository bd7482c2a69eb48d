package reset

import (
	"math"
	"slices"
	"testing"

	"tokenfold/api"
	"tokenfold/plain"
)

const last = 999_982

// noTags: what is no key and no tag, on both sides.
var noTags = []int{-1, -2, -999_982, -999_983, math.MinInt, math.MinInt + 1, 999_983, 999_984, 2 * 999_983, 1 << 32, math.MaxInt - 1, math.MaxInt}

// noConns: a Shard or a Number beyond its edges on both sides, or both; some would come to a number that is one.
var noConns = []api.Conn{
	of(-1, 0), of(-1, 4095), of(-16, 7), of(math.MinInt, 0), of(math.MinInt, 4095),
	of(16, 0), of(16, 4095), of(17, 7), of(1<<52, 0), of(math.MaxInt, 0), of(math.MaxInt, 4095),
	of(0, -1), of(15, -1), of(7, -4096), of(0, math.MinInt), of(15, math.MinInt),
	of(0, 4096), of(15, 4096), of(7, 8191), of(0, 65_535), of(0, math.MaxInt), of(15, math.MaxInt),
	of(-1, -1), of(-1, 4096), of(16, -1), of(16, 4096), of(16, -65_536),
	of(math.MinInt, math.MaxInt), of(math.MaxInt, math.MinInt),
}

// edgeConns: both ends of Shard and of Number, the conns of the least and of the greatest number, and some between.
var edgeConns = []api.Conn{
	of(0, 0), of(0, 1), of(0, 4094), of(0, 4095), of(1, 0), of(14, 4095), of(15, 0), of(15, 4094), of(15, 4095),
	of(5, 1365), of(10, 2730), of(7, 291), of(11, 4),
}

// edgeSecrets: both ends of what a key may be, and some between.
var edgeSecrets = []int{0, 1, 2, 7, 4099, 500_000, 645_495, last - 1, last}

// of is a conn of that Shard and Number.
func of(shard, number int) api.Conn { return api.Conn{Shard: shard, Number: number} }

// otherwise is the tag of 3 and of a conn's number, by powers of 4099: 3 and 1 count with its second one.
func otherwise(secret int, c api.Conn) int {
	const (
		second = 4099 * 4099 % 999_983
		third  = 4099 * 4099 * 4099 % 999_983
	)
	n := (4096*c.Shard + c.Number) ^ 21845
	return (secret*(third+1) + 4*second + (n+1)*4099) % 999_983
}

func ofIs(t *testing.T, secret int, c api.Conn, want int) {
	t.Helper()
	if got, err := Of(secret, c); got != want || err != nil {
		t.Errorf("Of(%d, %v): got %d, %v, want %d", secret, c, got, err, want)
	}
}

// ofRefused: Of tells ErrRange, and nothing beside it.
func ofRefused(t *testing.T, secret int, c api.Conn) {
	t.Helper()
	if got, err := Of(secret, c); got != 0 || plain.Told(err) != api.ErrRange {
		t.Errorf("Of(%d, %v): got %d, %v, want 0, %v", secret, c, got, err, api.ErrRange)
	}
}

func isIs(t *testing.T, secret int, c api.Conn, tag int, want bool) {
	t.Helper()
	if got, err := Is(secret, c, tag); got != want || err != nil {
		t.Errorf("Is(%d, %v, %d): got %v, %v, want %v", secret, c, tag, got, err, want)
	}
}

// isRefused: Is tells ErrRange, and nothing beside it.
func isRefused(t *testing.T, secret int, c api.Conn, tag int) {
	t.Helper()
	if got, err := Is(secret, c, tag); got || plain.Told(err) != api.ErrRange {
		t.Errorf("Is(%d, %v, %d): got %v, %v, want false, %v", secret, c, tag, got, err, api.ErrRange)
	}
}

// near: that tag is right, one above it and one below it are not; where there is no such one, it is told.
func near(t *testing.T, secret int, c api.Conn, right int) {
	t.Helper()
	isIs(t, secret, c, right, true)
	for _, tag := range []int{right - 1, right + 1} {
		if tag < 0 || tag > last {
			isRefused(t, secret, c, tag)
		} else {
			isIs(t, secret, c, tag, false)
		}
	}
}

// TestWritten: tags that were worked out apart from the program, at the edges and between them; some are the least or the greatest.
func TestWritten(t *testing.T) {
	for _, c := range []struct{ secret, shard, number, tag int }{
		{0, 0, 0, 756_610}, // 4, 16396 and 21846 are 38242, 156753958 and 0, less 156 times 999983
		{1, 0, 0, 509_734},
		{last, 0, 0, 3503},
		{0, 0, 4095, 351_847},
		{last, 0, 4095, 598_723},
		{0, 15, 0, 705_558},
		{last, 15, 0, 952_434},
		{0, 15, 4095, 300_795},
		{last, 15, 4095, 547_671},
		{0, 5, 1365, 212_442},
		{last, 5, 1365, 459_318},
		{0, 10, 2730, 844_963},
		{last, 10, 2730, 91_856},
		{7, 0, 1, 24_362},
		{7, 11, 4, 120_168},
		{645_495, 7, 291, 540_414},
		{12_098, 0, 0, 0},
		{396_337, 0, 0, last},
		{637_748, 0, 4095, 0},
		{22_004, 0, 4095, last},
		{509_181, 15, 0, 0},
		{893_420, 15, 0, last},
		{134_848, 15, 4095, 0},
		{519_087, 15, 4095, last},
	} {
		ofIs(t, c.secret, of(c.shard, c.number), c.tag)
		near(t, c.secret, of(c.shard, c.number), c.tag)
	}
}

// TestEveryConn: every conn by some secrets, each with a tag of its own, that is the tag of none of those around it.
func TestEveryConn(t *testing.T) {
	for _, secret := range edgeSecrets {
		told := make([]bool, last+1)
		before := otherwise(secret, of(15, 4095))
		for shard := range 16 {
			for number := range 4096 {
				c := of(shard, number)
				right := otherwise(secret, c)
				ofIs(t, secret, c, right)
				near(t, secret, c, right)
				isIs(t, secret, c, before, false)
				if told[right] {
					t.Fatalf("by %d, %d is of two conns, of which one is %v", secret, right, c)
				}
				told[right] = true
				before = right
			}
		}
	}
}

// TestEverySecret: every secret, each with a tag of its own for one conn.
func TestEverySecret(t *testing.T) {
	for _, c := range []api.Conn{of(0, 0), of(15, 4095)} {
		told := make([]bool, last+1)
		before := otherwise(last, c)
		for secret := range last + 1 {
			right := otherwise(secret, c)
			ofIs(t, secret, c, right)
			isIs(t, secret, c, right, true)
			isIs(t, secret, c, before, false)
			told[right] = true
			before = right
		}
		if slices.Contains(told, false) {
			t.Errorf("of %v, %d is the tag by no secret", c, slices.Index(told, false))
		}
	}
}

// TestEveryTag: of all tags, one alone is right.
func TestEveryTag(t *testing.T) {
	for _, c := range []api.Conn{of(0, 0), of(15, 4095)} {
		right := otherwise(645_495, c)
		for tag := range last + 1 {
			isIs(t, 645_495, c, tag, tag == right)
		}
	}
}

// TestOthers: the tag by another secret, or of another conn, is not right; nor is that of a Shard and a Number that changed places.
func TestOthers(t *testing.T) {
	for _, secret := range edgeSecrets {
		for _, c := range edgeConns {
			for _, other := range edgeSecrets {
				isIs(t, secret, c, otherwise(other, c), other == secret)
			}
			for _, other := range edgeConns {
				isIs(t, secret, c, otherwise(secret, other), other == c)
			}
		}
		isIs(t, secret, of(3, 8), otherwise(secret, of(8, 3)), false)
	}
}

// TestOtherKinds: the same numbers tagged otherwise: with 1, 2 or nothing ahead, with 3 behind, or with the Shard and the Number apart.
func TestOtherKinds(t *testing.T) {
	isIs(t, 7, of(11, 4), 120_168, true)
	for _, tag := range []int{515_988, 318_078, 254_594, 586_247, 895_817} {
		isIs(t, 7, of(11, 4), tag, false)
	}
}

// TestSecret: what is no key, with conn and tag right or wrong.
func TestSecret(t *testing.T) {
	for _, secret := range noTags {
		for _, c := range slices.Concat(edgeConns, noConns) {
			ofRefused(t, secret, c)
			for _, tag := range slices.Concat([]int{0, 1, 344_506, last}, noTags) {
				isRefused(t, secret, c, tag)
			}
		}
	}
}

// TestConn: what is no conn, with the secret right, and the tag right or wrong: not even what its number would have as a tag is right.
func TestConn(t *testing.T) {
	for _, secret := range edgeSecrets {
		for _, c := range noConns {
			ofRefused(t, secret, c)
			for _, tag := range slices.Concat([]int{0, 1, 344_506, last}, noTags) {
				isRefused(t, secret, c, tag)
			}
		}
		isRefused(t, secret, of(0, 4096), otherwise(secret, of(1, 0)))
		isRefused(t, secret, of(1, -1), otherwise(secret, of(0, 4095)))
		isRefused(t, secret, of(-1, 4096), otherwise(secret, of(0, 0)))
		isRefused(t, secret, of(16, -1), otherwise(secret, of(15, 4095)))
	}
}

// TestTag: what is no tag, with secret and conn right: not even what is right modulo 999983.
func TestTag(t *testing.T) {
	for _, secret := range edgeSecrets {
		for _, c := range edgeConns {
			for _, tag := range noTags {
				isRefused(t, secret, c, tag)
			}
			right := otherwise(secret, c)
			isRefused(t, secret, c, right+999_983)
			isRefused(t, secret, c, right-999_983)
		}
	}
}
