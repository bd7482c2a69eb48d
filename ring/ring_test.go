package ring

import (
	"math"
	"testing"

	"tokenfold/api"
	"tokenfold/plain"
)

const last = api.Modulo - 1

// noKeys: numbers that are no key and no seed.
var noKeys = []int{-1, -api.Modulo, math.MinInt, math.MinInt + 1, api.Modulo, api.Modulo + 1, 2 * api.Modulo, math.MaxInt - 1, math.MaxInt}

// noEpochs: numbers that are no epoch.
var noEpochs = []int{-1, -2, -api.MaxEpoch, math.MinInt, math.MinInt + 1, api.MaxEpoch + 1, api.MaxEpoch + 2, math.MaxInt - 1, math.MaxInt}

// tagOf is chapter 1's tag of one number, written out at once.
func tagOf(key, n int) int { return ((key*4099+n+1)*4099 + key) % 999983 }

// refused: Check, Turn and Key, whatever epoch it is asked for, tell that error, and nothing beside it.
func refused(t *testing.T, r api.Ring, want api.Errno) {
	t.Helper()
	if err := Check(r); plain.Told(err) != want {
		t.Errorf("Check(%v): got %v, want %v", r, err, want)
	}
	turnRefused(t, r, want)
	for _, epoch := range append([]int{0, 1, 50, api.MaxEpoch, r.Epoch, r.Epoch - 1, r.Epoch - 2, r.Epoch + 1}, noEpochs...) {
		keyRefused(t, r, epoch, want)
	}
}

func turnRefused(t *testing.T, r api.Ring, want api.Errno) {
	t.Helper()
	if got, err := Turn(r); got != (api.Ring{}) || plain.Told(err) != want {
		t.Errorf("Turn(%v): got %v, %v, want none, %v", r, got, err, want)
	}
}

func keyRefused(t *testing.T, r api.Ring, epoch int, want api.Errno) {
	t.Helper()
	if got, err := Key(r, epoch); got != 0 || plain.Told(err) != want {
		t.Errorf("Key(%v, %d): got %d, %v, want 0, %v", r, epoch, got, err, want)
	}
}

// keyIs: the key of an epoch, where there must be one.
func keyIs(t *testing.T, r api.Ring, epoch, want int) {
	t.Helper()
	if got, err := Key(r, epoch); got != want || err != nil {
		t.Errorf("Key(%v, %d): got %d, %v, want %d", r, epoch, got, err, want)
	}
}

// turnIs: what a ring turns into, where it must turn.
func turnIs(t *testing.T, r, want api.Ring) {
	t.Helper()
	if got, err := Turn(r); got != want || err != nil {
		t.Errorf("Turn(%v): got %v, %v, want %v", r, got, err, want)
	}
}

// TestNew: keys that were worked out apart from the program, at the edges of seeds and of keys and between them.
func TestNew(t *testing.T) {
	for _, c := range []struct{ seed, key int }{
		{0, 4099},
		{1, 806173},    // 4100 * 4099 + 1 = 16805901, less 16 times 999983
		{7, 618702},    // 28694 * 4099 + 7 = 117616713, less 117 times 999983
		{last, 202008}, // as with -1: -4098 * 4099 - 1 = -16797703, and 17 times 999983
		{42630, 0},
		{299284, last},
	} {
		got, err := New(c.seed)
		if want := (api.Ring{Key: c.key}); got != want || err != nil {
			t.Errorf("New(%d): got %v, %v, want %v", c.seed, got, err, want)
		}
		if err := Check(got); err != nil {
			t.Errorf("New(%d): Check(%v): %v", c.seed, got, err)
		}
	}
}

// TestNewRange: seeds that are no keys.
func TestNewRange(t *testing.T) {
	for _, seed := range noKeys {
		if got, err := New(seed); got != (api.Ring{}) || plain.Told(err) != api.ErrRange {
			t.Errorf("New(%d): got %v, %v, want none, ErrRange", seed, got, err)
		}
	}
}

// TestCheck: every epoch, with keys at their edges and between them.
func TestCheck(t *testing.T) {
	keys := []int{0, 1, 4711, last}
	for epoch := 0; epoch <= api.MaxEpoch; epoch++ {
		for _, key := range keys {
			for _, old := range keys {
				r := api.Ring{Epoch: epoch, Key: key, Old: old}
				if epoch == 0 && old != 0 {
					refused(t, r, api.ErrShape)
				} else if err := Check(r); err != nil {
					t.Errorf("Check(%v): %v", r, err)
				}
			}
		}
	}
}

// TestRange: one number of a ring is none, and all of them.
func TestRange(t *testing.T) {
	for _, epoch := range noEpochs {
		refused(t, api.Ring{Epoch: epoch}, api.ErrRange)
		refused(t, api.Ring{Epoch: epoch, Key: 5, Old: 6}, api.ErrRange)
		refused(t, api.Ring{Epoch: epoch, Key: epoch * api.Modulo, Old: math.MinInt}, api.ErrRange)
	}
	for _, none := range noKeys {
		for _, epoch := range []int{0, 1, 50, api.MaxEpoch - 1, api.MaxEpoch} {
			refused(t, api.Ring{Epoch: epoch, Key: none}, api.ErrRange)
			refused(t, api.Ring{Epoch: epoch, Key: 5, Old: none}, api.ErrRange)
			refused(t, api.Ring{Epoch: epoch, Key: none, Old: none}, api.ErrRange)
		}
	}
}

// TestFirstError: which one is told where several apply. (refused asks Key for what is no epoch, too.)
func TestFirstError(t *testing.T) {
	for _, none := range noKeys {
		refused(t, api.Ring{Epoch: 0, Key: none, Old: 6}, api.ErrRange)            // ahead of ErrShape
		refused(t, api.Ring{Epoch: 0, Key: 5, Old: none}, api.ErrRange)            // though Old is not 0
		refused(t, api.Ring{Epoch: api.MaxEpoch, Key: none, Old: 6}, api.ErrRange) // ahead of ErrFull
		refused(t, api.Ring{Epoch: api.MaxEpoch, Key: 5, Old: none}, api.ErrRange)
	}
	// What is no epoch is neither late nor yet to come.
	for _, epoch := range noEpochs {
		for _, r := range []api.Ring{{Epoch: 0, Key: 5}, {Epoch: 1, Key: 5, Old: 6}, {Epoch: api.MaxEpoch, Key: 5, Old: 6}} {
			keyRefused(t, r, epoch, api.ErrRange)
		}
	}
}

// TestTurnWritten: turns that were worked out apart from the program, at the edges of keys and epochs.
func TestTurnWritten(t *testing.T) {
	turnIs(t, api.Ring{}, api.Ring{Epoch: 1, Key: 8198}) // 2 * 4099
	turnIs(t, api.Ring{Key: last}, api.Ring{Epoch: 1, Key: 206107, Old: last})
	turnIs(t, api.Ring{Key: 85260}, api.Ring{Epoch: 1, Key: 0, Old: 85260})
	turnIs(t, api.Ring{Epoch: 3, Key: 3, Old: 28225}, api.Ring{Epoch: 4, Key: 426751, Old: 3}) // 12302 * 4099 + 3 = 50425901, less 50 times 999983
	turnIs(t, api.Ring{Epoch: 99}, api.Ring{Epoch: 100, Key: 413999})                          // 101 * 4099
	turnIs(t, api.Ring{Epoch: 99, Key: last, Old: last}, api.Ring{Epoch: 100, Key: 611908, Old: last})
	turnIs(t, api.Ring{Epoch: 99, Key: 305698, Old: 1}, api.Ring{Epoch: 100, Key: 0, Old: 305698})
}

// TestTurnForgets: the key that was Old counts for nothing in what comes next.
func TestTurnForgets(t *testing.T) {
	for _, old := range []int{0, 1, 4711, last} {
		turnIs(t, api.Ring{Epoch: 3, Key: 3, Old: old}, api.Ring{Epoch: 4, Key: 426751, Old: 3})
	}
}

// TestTurnFull: the last epoch is not turned, and the one ahead of it is.
func TestTurnFull(t *testing.T) {
	for _, key := range []int{0, 1, last} {
		for _, old := range []int{0, 1, last} {
			turnRefused(t, api.Ring{Epoch: api.MaxEpoch, Key: key, Old: old}, api.ErrFull)
			turnIs(t, api.Ring{Epoch: api.MaxEpoch - 1, Key: key, Old: old}, api.Ring{Epoch: api.MaxEpoch, Key: tagOf(key, api.MaxEpoch), Old: key})
		}
	}
}

// TestKey: every epoch, asked of a ring of every epoch.
func TestKey(t *testing.T) {
	for at := 0; at <= api.MaxEpoch; at++ {
		r := api.Ring{Epoch: at, Key: 5, Old: 6}
		if at == 0 {
			r.Old = 0
		}
		for epoch := 0; epoch <= api.MaxEpoch; epoch++ {
			switch {
			case epoch > at:
				keyRefused(t, r, epoch, api.ErrNone)
			case epoch == at:
				keyIs(t, r, epoch, 5)
			case epoch == at-1:
				keyIs(t, r, epoch, 6)
			default:
				keyRefused(t, r, epoch, api.ErrLate)
			}
		}
	}
}

// TestKeyEdges: a key that is 0, or the greatest, is a key as any other.
func TestKeyEdges(t *testing.T) {
	keyIs(t, api.Ring{}, 0, 0)
	for _, at := range []int{1, 50, api.MaxEpoch} {
		for _, r := range []api.Ring{{Epoch: at, Key: 0, Old: last}, {Epoch: at, Key: last, Old: 0}, {Epoch: at}} {
			keyIs(t, r, at, r.Key)
			keyIs(t, r, at-1, r.Old)
		}
	}
}

// TestWholeLife: a ring from New to its last epoch; it has the key so far and the one ahead at each, and no other.
func TestWholeLife(t *testing.T) {
	for _, seed := range []int{0, 1, 4711, last} {
		r, err := New(seed)
		if err != nil {
			t.Fatalf("New(%d): %v", seed, err)
		}
		keys := []int{tagOf(seed, 0)}
		for epoch := 1; epoch <= api.MaxEpoch; epoch++ {
			keys = append(keys, tagOf(keys[epoch-1], epoch))
			turnIs(t, r, api.Ring{Epoch: epoch, Key: keys[epoch], Old: keys[epoch-1]})
			r, _ = Turn(r)
			if err := Check(r); err != nil {
				t.Fatalf("seed %d: Check(%v): %v", seed, r, err)
			}
			keyIs(t, r, epoch, keys[epoch])
			keyIs(t, r, epoch-1, keys[epoch-1])
			if epoch > 1 {
				keyRefused(t, r, epoch-2, api.ErrLate)
			}
		}
		turnRefused(t, r, api.ErrFull)
	}
}
