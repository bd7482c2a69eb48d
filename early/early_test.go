package early

import (
	"math"
	"strings"
	"testing"

	"tokenfold/api"
	"tokenfold/plain"
)

const most = 40

// made is one with that limit, of which nothing came yet.
func made(t *testing.T, limit int) *Early {
	t.Helper()
	e, err := New(limit)
	if e == nil || err != nil {
		t.Fatalf("New %d: got %v, %v", limit, e, err)
	}
	return e
}

// newRefused: New tells ErrRange, and nil beside it.
func newRefused(t *testing.T, limit int) {
	t.Helper()
	if e, err := New(limit); e != nil || plain.Told(err) != api.ErrRange {
		t.Errorf("New %d: got %v, %v, want nil, %v", limit, e, err, api.ErrRange)
	}
}

func leftIs(t *testing.T, e *Early, want int) {
	t.Helper()
	if got := e.Left(); got != want {
		t.Fatalf("Left: got %d, want %d", got, want)
	}
}

// put: it is let, and so many may come behind it.
func put(t *testing.T, e *Early, data string, left int) {
	t.Helper()
	if err := e.Put(data); err != nil {
		t.Fatalf("Put %q: got %v", data, err)
	}
	leftIs(t, e, left)
}

// putRefused: Put tells ErrFull, and Left is what it was.
func putRefused(t *testing.T, e *Early, data string) {
	t.Helper()
	before := e.Left()
	if err := e.Put(data); plain.Told(err) != api.ErrFull {
		t.Fatalf("Put %q: got %v, want %v", data, err, api.ErrFull)
	}
	leftIs(t, e, before)
}

// takeIs: Take gives that, and Left is what it was.
func takeIs(t *testing.T, e *Early, want string) {
	t.Helper()
	before := e.Left()
	if got := e.Take(); got != want {
		t.Fatalf("Take: got %q, want %q", got, want)
	}
	leftIs(t, e, before)
}

// many bytes, no two neighbours alike.
func many(count int) string {
	var b strings.Builder
	for i := range count {
		b.WriteByte(byte('a' + i%26))
	}
	return b.String()
}

// TestMost: what these tests count by is what the document says.
func TestMost(t *testing.T) {
	if api.MaxEarly != most {
		t.Errorf("got %d, want %d", api.MaxEarly, most)
	}
}

// TestLimits: every one from 0 to MaxEarly is let, and is what Left tells at first, however often it is asked.
func TestLimits(t *testing.T) {
	for limit := 0; limit <= most; limit++ {
		e := made(t, limit)
		for range 3 {
			leftIs(t, e, limit)
		}
	}
}

func TestWrongLimits(t *testing.T) {
	for _, limit := range []int{-1, -2, -most, math.MinInt32, math.MinInt, most + 1, most + 2, 2 * most, 256, 1 << 32, 1<<32 + 1, math.MaxInt32, math.MaxInt} {
		newRefused(t, limit)
	}
	for far := 1; far <= 300; far++ {
		newRefused(t, -far)
		newRefused(t, most+far)
	}
}

// TestJustAsMany: by every limit as many as it says come, in one Put, and not one more.
func TestJustAsMany(t *testing.T) {
	for limit := 0; limit <= most; limit++ {
		e := made(t, limit)
		putRefused(t, e, many(limit+1))
		putRefused(t, e, many(limit+100))
		put(t, e, many(limit), 0)
		putRefused(t, e, "x")
		put(t, e, "", 0)
		takeIs(t, e, many(limit))
		takeIs(t, e, "")
	}
}

// TestOneByOne: Left goes down by one behind each byte, to 0.
func TestOneByOne(t *testing.T) {
	for limit := 0; limit <= most; limit++ {
		e := made(t, limit)
		for i := range limit {
			put(t, e, many(limit)[i:i+1], limit-i-1)
		}
		putRefused(t, e, "x")
		takeIs(t, e, many(limit))
	}
}

// TestTwoPuts: of every two, the second is let where both together are not too many, be what came first taken or not.
func TestTwoPuts(t *testing.T) {
	for first := 0; first <= most; first++ {
		for second := 0; second <= most+2; second++ {
			for _, taken := range []bool{false, true} {
				e := made(t, most)
				put(t, e, many(first), most-first)
				there := many(first)
				if taken {
					takeIs(t, e, there)
					there = ""
				}
				data := strings.ToUpper(many(second))
				if first+second > most {
					putRefused(t, e, data)
				} else {
					put(t, e, data, most-first-second)
					there += data
				}
				takeIs(t, e, there)
				takeIs(t, e, "")
			}
		}
	}
}

// TestLimitOfNone: no byte comes, and a Put of none is no fault.
func TestLimitOfNone(t *testing.T) {
	e := made(t, 0)
	put(t, e, "", 0)
	putRefused(t, e, "x")
	takeIs(t, e, "")
	putRefused(t, e, "x")
	put(t, e, "", 0)
	leftIs(t, e, 0)
}

// TestPutOfNone: it changes nothing, at first, among others, behind a Take and when no more may come.
func TestPutOfNone(t *testing.T) {
	e := made(t, 5)
	put(t, e, "", 5)
	takeIs(t, e, "")
	put(t, e, "ab", 3)
	put(t, e, "", 3)
	put(t, e, "c", 2)
	takeIs(t, e, "abc")
	put(t, e, "", 2)
	takeIs(t, e, "")
	put(t, e, "de", 0)
	put(t, e, "", 0)
	takeIs(t, e, "de")
}

// TestTakeInOrder: what came first stands first, and what was taken does not come again.
func TestTakeInOrder(t *testing.T) {
	e := made(t, 12)
	takeIs(t, e, "")
	put(t, e, "one", 9)
	takeIs(t, e, "one")
	takeIs(t, e, "")
	put(t, e, "b", 8)
	put(t, e, "a", 7)
	put(t, e, "cd", 5)
	takeIs(t, e, "bacd")
	takeIs(t, e, "")
	takeIs(t, e, "")
	put(t, e, "ba", 3)
	takeIs(t, e, "ba")
}

// TestTakeGivesNoRoom: all that ever came counts, so that Takes let nothing more come.
func TestTakeGivesNoRoom(t *testing.T) {
	e := made(t, 7)
	put(t, e, "abc", 4)
	takeIs(t, e, "abc")
	putRefused(t, e, "ABCDE")
	takeIs(t, e, "")
	put(t, e, "defg", 0)
	takeIs(t, e, "defg")
	putRefused(t, e, "h")
	takeIs(t, e, "")
	putRefused(t, e, "h")
}

// TestRefusedPut: not even as many as there was room for come, and what is there stays; a smaller one is let behind it.
func TestRefusedPut(t *testing.T) {
	e := made(t, 5)
	putRefused(t, e, "ABCDEF")
	takeIs(t, e, "")
	put(t, e, "abc", 2)
	for range 3 {
		putRefused(t, e, "DEF")
	}
	put(t, e, "d", 1)
	putRefused(t, e, "EF")
	takeIs(t, e, "abcd")
	putRefused(t, e, "EF")
	put(t, e, "e", 0)
	takeIs(t, e, "e")
}

// TestGreatPut: one far above any limit is refused as any other.
func TestGreatPut(t *testing.T) {
	for _, count := range []int{most + 1, 255, 256, 257, 65536, 65537, 1 << 22} {
		e := made(t, most)
		put(t, e, "a", most-1)
		if err := e.Put(strings.Repeat("x", count)); plain.Told(err) != api.ErrFull {
			t.Errorf("Put of %d: got %v, want %v", count, err, api.ErrFull)
		}
		leftIs(t, e, most-1)
		takeIs(t, e, "a")
	}
}

// TestEveryByte: each value comes out as it came in, alone and between others, and counts as one.
func TestEveryByte(t *testing.T) {
	for v := range 256 {
		one := string([]byte{byte(v)})
		e := made(t, 4)
		put(t, e, one, 3)
		takeIs(t, e, one)
		put(t, e, one+one, 1)
		putRefused(t, e, one+one)
		put(t, e, one, 0)
		takeIs(t, e, one+one+one)
		around := made(t, 3)
		put(t, around, "a"+one+"z", 0)
		takeIs(t, around, "a"+one+"z")
	}
}

// TestBytesNotRunes: a rune of several bytes counts as those, and may come in pieces.
func TestBytesNotRunes(t *testing.T) {
	e := made(t, 3)
	putRefused(t, e, "ää")
	put(t, e, "ä"[:1], 2)
	put(t, e, "ä"[1:], 1)
	putRefused(t, e, "ä")
	takeIs(t, e, "ä")
}

// TestTakenStays: what was taken is the caller's, whatever comes behind it.
func TestTakenStays(t *testing.T) {
	e := made(t, most)
	put(t, e, "abc", most-3)
	first := e.Take()
	put(t, e, "XYZ", most-6)
	second := e.Take()
	put(t, e, "123", most-9)
	if first != "abc" || second != "XYZ" {
		t.Errorf("got %q and %q", first, second)
	}
}

// TestTheirOwn: what is done to one is not to be seen in another, be this new, begun, or full.
func TestTheirOwn(t *testing.T) {
	one, other := made(t, 6), made(t, 6)
	put(t, one, "abc", 3)
	leftIs(t, other, 6)
	takeIs(t, other, "")
	put(t, other, "XY", 4)
	put(t, one, "def", 0)
	putRefused(t, one, "g")
	put(t, other, "ZUV", 1)
	takeIs(t, one, "abcdef")
	late := made(t, 2)
	leftIs(t, late, 2)
	takeIs(t, late, "")
	takeIs(t, other, "XYZUV")
	put(t, late, "12", 0)
	put(t, other, "W", 0)
	newRefused(t, most+1)
	takeIs(t, one, "")
	takeIs(t, late, "12")
	takeIs(t, other, "W")
}

// deeds: all that was put, and up to where it was taken.
type deeds struct {
	limit int
	came  []string
	taken int
}

func (d deeds) left() int { return d.limit - len(strings.Join(d.came, "")) }

func (d deeds) there() string { return strings.Join(d.came[d.taken:], "") }

// TestPlayedOn: long runs by every limit, with short and long Puts; never more comes out than was let, and what comes out is what was let, in its order.
func TestPlayedOn(t *testing.T) {
	drawn := 7
	draw := func(below int) int {
		drawn = (drawn*1103515245 + 12345) % (1 << 31)
		return drawn / 1024 % below
	}
	for limit := 0; limit <= most; limit++ {
		for _, longest := range []int{1, 3, 8, most + 1} {
			e, done, out := made(t, limit), deeds{limit: limit}, ""
			for range 200 {
				if draw(4) == 0 {
					out += done.there()
					takeIs(t, e, done.there())
					done.taken = len(done.came)
					continue
				}
				data := []byte(many(draw(longest + 1)))
				for i := range data {
					data[i] = byte(draw(256))
				}
				if len(data) > done.left() {
					putRefused(t, e, string(data))
				} else {
					done.came = append(done.came, string(data))
					put(t, e, string(data), done.left())
				}
			}
			out += e.Take()
			if len(out) > limit || out != strings.Join(done.came, "") {
				t.Errorf("limit %d: %q came out, of %q", limit, out, done.came)
			}
		}
	}
}
