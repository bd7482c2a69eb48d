package tag

import (
	"math"
	"math/big"
	"math/rand"
	"slices"
	"testing"

	"tokenfold/api"
	"tokenfold/plain"
)

const last = api.Modulo - 1

// outside: numbers that are no key, no number and no tag.
var outside = []int{-1, -api.Modulo, -api.Modulo - 1, math.MinInt, math.MinInt + 1, api.Modulo, api.Modulo + 1, 2 * api.Modulo, math.MaxInt - 1, math.MaxInt}

// row of n numbers, all of them v.
func row(n, v int) []int { return slices.Repeat([]int{v}, n) }

// with is a row of n noughts but for one number.
func with(n, at, v int) []int {
	l := row(n, 0)
	l[at] = v
	return l
}

// byPowers works a tag out another way: each number times its own power of 4099, all of them summed, modulo at the end alone.
func byPowers(key int, l []int) int {
	power := func(e int) *big.Int { return new(big.Int).Exp(big.NewInt(4099), big.NewInt(int64(e)), nil) }
	sum := new(big.Int).Mul(big.NewInt(int64(key)), power(len(l)+1))
	for i, n := range l {
		sum.Add(sum, new(big.Int).Mul(big.NewInt(int64(n)+1), power(len(l)-i)))
	}
	sum.Add(sum, big.NewInt(int64(key)))
	return int(sum.Mod(sum, big.NewInt(999983)).Int64())
}

// made is a tag that must be there.
func made(t *testing.T, key int, l []int) int {
	t.Helper()
	got, err := Make(key, l)
	if err != nil {
		t.Fatalf("Make(%d, %d): %v", key, l, err)
	}
	return got
}

// refused: Make, Of and Check tell that error, and nothing beside it.
func refused(t *testing.T, key int, l []int, tag int, want api.Errno) {
	t.Helper()
	if got, err := Make(key, l); got != 0 || plain.Told(err) != want {
		t.Errorf("Make(%d, %d): got %d, %v, want 0, %v", key, l, got, err, want)
	}
	if got, err := Of(key, l...); got != 0 || plain.Told(err) != want {
		t.Errorf("Of(%d, %d): got %d, %v, want 0, %v", key, l, got, err, want)
	}
	checkRefused(t, key, l, tag, want)
}

func checkRefused(t *testing.T, key int, l []int, tag int, want api.Errno) {
	t.Helper()
	if is, err := Check(key, l, tag); is || plain.Told(err) != want {
		t.Errorf("Check(%d, %d, %d): got %v, %v, want false, %v", key, l, tag, is, err, want)
	}
}

// TestMakeWritten: tags that were worked out by hand.
func TestMakeWritten(t *testing.T) {
	for _, c := range []struct {
		key  int
		l    []int
		want int
	}{
		{0, nil, 0},
		{1, nil, 4100},
		{last, nil, api.Modulo - 4100},
		{125808, nil, 821555},
		{0, []int{0}, 4099},
		{0, []int{last}, 0},
		{0, []int{1}, 8198},
		{1, []int{0}, 806173}, // 4100 * 4099 + 1 = 16805901, less 16 times 999983
	} {
		if got := made(t, c.key, c.l); got != c.want {
			t.Errorf("Make(%d, %d): got %d, want %d", c.key, c.l, got, c.want)
		}
	}
}

// TestMakeByPowers: every length that may be, at the edges of keys and numbers and between them.
func TestMakeByPowers(t *testing.T) {
	draw := rand.New(rand.NewSource(1))
	for n := 0; n <= api.MaxList; n++ {
		for _, key := range []int{0, 1, last, draw.Intn(api.Modulo)} {
			drawn := make([]int, n)
			for i := range drawn {
				drawn[i] = draw.Intn(api.Modulo)
			}
			for _, l := range [][]int{row(n, 0), row(n, 1), row(n, last), drawn} {
				want := byPowers(key, l)
				if got := made(t, key, l); got != want {
					t.Errorf("Make(%d, %d): got %d, want %d", key, l, got, want)
				}
				if got, err := Of(key, l...); got != want || err != nil {
					t.Errorf("Of(%d, %d): got %d, %v, want %d", key, l, got, err, want)
				}
			}
		}
	}
}

// TestCheck: the tag that is right, and those beside it and at the edges.
func TestCheck(t *testing.T) {
	for _, l := range [][]int{nil, {0}, {last}, {5, 0, last}, row(api.MaxList, last)} {
		for _, key := range []int{0, 1, 4711, last} {
			right := made(t, key, l)
			for _, tag := range []int{right, (right + 1) % api.Modulo, (right + last) % api.Modulo, 0, last} {
				if is, err := Check(key, l, tag); err != nil || is != (tag == right) {
					t.Errorf("Check(%d, %d, %d): got %v, %v; the tag is %d", key, l, tag, is, err, right)
				}
			}
		}
	}
}

// TestDiffers: what differs in one has another tag.
func TestDiffers(t *testing.T) {
	for n := 0; n <= api.MaxList; n++ {
		l := row(n, 77)
		tag := made(t, 1234, l)
		if made(t, 1235, l) == tag {
			t.Errorf("%d numbers: keys 1234 and 1235 have one tag", n)
		}
		for i := range l {
			other := slices.Clone(l)
			other[i] = last
			if made(t, 1234, other) == tag {
				t.Errorf("%d numbers: number %d does not count", n, i)
			}
		}
	}
	if made(t, 9, []int{1, 2}) == made(t, 9, []int{2, 1}) {
		t.Error("the order does not count")
	}
	if made(t, 0, nil) == made(t, 0, []int{0}) || made(t, 0, []int{0}) == made(t, 0, []int{0, 0}) {
		t.Error("a 0 does not count")
	}
}

// TestRange: keys, numbers and tags that are none.
func TestRange(t *testing.T) {
	for _, v := range outside {
		for _, l := range [][]int{nil, {3}, row(api.MaxList, 3)} {
			refused(t, v, l, 0, api.ErrRange)
			checkRefused(t, 3, l, v, api.ErrRange)
			made(t, 3, l)
		}
		for n := 1; n <= api.MaxList; n++ {
			for i := range n {
				refused(t, 3, with(n, i, v), 0, api.ErrRange)
			}
		}
	}
	// What is right but for a whole turn is none, either.
	right := made(t, 3, []int{4})
	checkRefused(t, 3, []int{4}, right+api.Modulo, api.ErrRange)
	checkRefused(t, 3, []int{4}, right-api.Modulo, api.ErrRange)
}

// TestFits: the bounds, and what is beyond them on both sides.
func TestFits(t *testing.T) {
	for _, n := range []int{0, 1, 4711, last - 1, last} {
		if !Fits(n) {
			t.Errorf("Fits(%d): got false", n)
		}
	}
	for _, n := range outside {
		if Fits(n) {
			t.Errorf("Fits(%d): got true", n)
		}
	}
}

// TestFull: as many numbers as may be, and more.
func TestFull(t *testing.T) {
	made(t, 3, row(api.MaxList, last))
	for _, n := range []int{api.MaxList + 1, api.MaxList + 2, 1000} {
		refused(t, 0, row(n, 0), 0, api.ErrFull)
		refused(t, last, row(n, last), last, api.ErrFull)
	}
}

// TestFirstError: which one is told where several apply.
func TestFirstError(t *testing.T) {
	more := api.MaxList + 1
	for _, v := range outside {
		refused(t, v, row(more, 0), 0, api.ErrRange)     // key ahead of length
		refused(t, v, row(more, v), v, api.ErrRange)     // and of all that is behind
		refused(t, 0, row(more, v), 0, api.ErrFull)      // length ahead of numbers
		refused(t, 0, with(more, 12, v), 0, api.ErrFull) // wherever the wrong one stands
		checkRefused(t, 0, row(more, 0), v, api.ErrFull) // Make's errors ahead of the tag
		checkRefused(t, 0, []int{v}, v, api.ErrRange)
		checkRefused(t, v, nil, v, api.ErrRange)
	}
}

// TestLists: a list is as it was, nothing behind its length counts, and an empty one is as nil.
func TestLists(t *testing.T) {
	memory := []int{5, 6, 7, -1, -1}
	l := memory[:3]
	right := made(t, 8, l)
	if want := byPowers(8, []int{5, 6, 7}); right != want {
		t.Errorf("what is behind the length counts: got %d, want %d", right, want)
	}
	if is, err := Check(8, l, right); !is || err != nil {
		t.Errorf("Check: got %v, %v", is, err)
	}
	refused(t, 8, memory, 0, api.ErrRange)
	if !slices.Equal(memory, []int{5, 6, 7, -1, -1}) {
		t.Errorf("the list was written into: %d", memory)
	}
	if made(t, 8, nil) != made(t, 8, []int{}) || made(t, 8, nil) != made(t, 8, memory[:0]) {
		t.Error("an empty list is not as nil")
	}
	l[0] = 9
	if got, want := made(t, 8, l), byPowers(8, []int{9, 6, 7}); got != want {
		t.Errorf("the list was kept: got %d, want %d", got, want)
	}
}
