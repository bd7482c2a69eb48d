// Package tag is made with a key.
package tag

import (
	"tokenfold/api"
)

// factor is what a tag is taken times, ahead of each number and of the key.
const factor = 4099

// Make one.
func Make(key int, l []int) (int, error) { return Of(key, l...) }

// Of makes one, too: the other layers tag two or three numbers, of which none is in a list yet.
func Of(key int, numbers ...int) (int, error) {
	if !Fits(key) {
		return 0, api.ErrRange
	}
	if len(numbers) > api.MaxList {
		return 0, api.ErrFull
	}
	tag := key
	for _, n := range numbers {
		if !Fits(n) {
			return 0, api.ErrRange
		}
		// The 1 lets a 0 count: without it, key 0 would have one tag for no number and for any row of noughts.
		tag = fold(tag, n+1)
	}
	return fold(tag, key), nil
}

// Check one.
func Check(key int, l []int, tag int) (bool, error) {
	right, err := Make(key, l)
	if err != nil {
		return false, err
	}
	if !Fits(tag) {
		return false, api.ErrRange
	}
	return tag == right, nil
}

// Fits tells whether n may be a key, a number or a tag: they have the same bounds, here and in the layers below.
func Fits(n int) bool { return n >= 0 && n < api.Modulo }

// fold stays far below the greatest int, as both fit (n may be one above).
func fold(tag, n int) int { return (factor*tag + n) % api.Modulo }
