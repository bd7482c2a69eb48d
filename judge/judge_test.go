package judge

import (
	"math"
	"strings"
	"testing"

	"tokenfold/api"
	"tokenfold/plain"
	"tokenfold/ring"
	"tokenfold/ticket"
	"tokenfold/token"
)

const last = api.Modulo - 1

// noTags: numbers that are no key, no address, no number of a ticket and no tag.
var noTags = []int{-1, -2, -api.Modulo, math.MinInt, math.MinInt + 1, api.Modulo, api.Modulo + 1, 2 * api.Modulo, math.MaxInt - 1, math.MaxInt}

// noTimes: numbers that are no time and no life.
var noTimes = []int{-1, -2, -api.MaxTime, math.MinInt, math.MinInt + 1, api.MaxTime + 1, api.MaxTime + 2, last, math.MaxInt - 1, math.MaxInt}

// noEpochs: numbers that are no epoch.
var noEpochs = []int{-1, -2, -api.MaxEpoch, math.MinInt, math.MinInt + 1, api.MaxEpoch + 1, api.MaxEpoch + 2, math.MaxInt - 1, math.MaxInt}

// noQueues: numbers that cannot wait.
var noQueues = []int{-1, -2, -4, -8, math.MinInt, math.MinInt + 1, math.MinInt + 4, 9, 10, 16, 1 << 32, 1<<32 + 4, math.MaxInt - 1, math.MaxInt}

// wrongRings and what is wrong with them.
var wrongRings = []struct {
	r    api.Ring
	want api.Errno
}{
	{api.Ring{Epoch: -1, Key: 5}, api.ErrRange},
	{api.Ring{Epoch: api.MaxEpoch + 1, Key: 5, Old: 6}, api.ErrRange},
	{api.Ring{Epoch: math.MinInt, Key: 5, Old: 6}, api.ErrRange},
	{api.Ring{Epoch: math.MaxInt, Key: 5, Old: 6}, api.ErrRange},
	{api.Ring{Epoch: 3, Key: -1, Old: 6}, api.ErrRange},
	{api.Ring{Epoch: 3, Key: api.Modulo, Old: 6}, api.ErrRange},
	{api.Ring{Epoch: 3, Key: 5, Old: -1}, api.ErrRange},
	{api.Ring{Epoch: 3, Key: 5, Old: api.Modulo}, api.ErrRange},
	{api.Ring{Epoch: 0, Key: 5, Old: api.Modulo}, api.ErrRange},
	{api.Ring{Epoch: 0, Key: -1, Old: 6}, api.ErrRange},
	{api.Ring{Epoch: 0, Key: 5, Old: 1}, api.ErrShape},
	{api.Ring{Epoch: 0, Key: 5, Old: last}, api.ErrShape},
}

// tagOf is chapter 1's tag of three numbers, by powers of 4099.
func tagOf(key, kind, a, b int) int {
	const (
		second = 4099 * 4099 % 999983
		third  = 4099 * 4099 * 4099 % 999983
		fourth = 4099 * 4099 * 4099 * 4099 % 999983
	)
	return (key*fourth + (kind+1)*third + (a+1)*second + (b+1)*4099 + key) % 999983
}

// tokenBy is a token with the tag that is right by that key.
func tokenBy(key, epoch, address, time int) api.Token {
	return api.Token{Epoch: epoch, Address: address, Time: time, Tag: tagOf(key, 1, address, time)}
}

// ticketBy is a ticket with the tag that is right by that key.
func ticketBy(key, epoch, number, until int) api.Ticket {
	return api.Ticket{Epoch: epoch, Number: number, Until: until, Tag: tagOf(key, 2, number, until)}
}

// keyFor is the key by which these numbers have that tag.
func keyFor(t *testing.T, kind, a, b, tag int) int {
	t.Helper()
	for key := range api.Modulo {
		if tagOf(key, kind, a, b) == tag {
			return key
		}
	}
	t.Fatalf("no key gives %d, %d, %d the tag %d", kind, a, b, tag)
	return 0
}

// here is a ring, and what is right by it: shown at now 10, with a life of 5, from address 4.
var (
	here       = api.Ring{Epoch: 3, Key: 5, Old: 6}
	goodToken  = tokenBy(5, 3, 4, 8)
	goodTicket = ticketBy(5, 3, 7, 12)
)

// oldIs: Old answers that, however often it is asked.
func oldIs(t *testing.T, r api.Ring, tk api.Ticket, now int, want bool) {
	t.Helper()
	for range 2 {
		if got, err := Old(r, tk, now); got != want || err != nil {
			t.Errorf("Old(%v, %v, %d): got %v, %v, want %v", r, tk, now, got, err, want)
		}
	}
}

// oldRefused: Old tells that error, and false beside it.
func oldRefused(t *testing.T, r api.Ring, tk api.Ticket, now int, want api.Errno) {
	t.Helper()
	if got, err := Old(r, tk, now); got || plain.Told(err) != want {
		t.Errorf("Old(%v, %v, %d): got %v, %v, want false, %v", r, tk, now, got, err, want)
	}
}

// asked is what a call of Answer is given.
type asked struct {
	r                  api.Ring
	h                  api.Hello
	waiting, now, life int
}

// ask for an answer to who shows these, as things are here.
func ask(tok api.Token, tk api.Ticket, early string, waiting int) asked {
	return asked{r: here, h: api.Hello{Address: 4, Token: tok, Ticket: tk, Early: early}, waiting: waiting, now: 10, life: 5}
}

// is: Answer answers that, however often it is asked.
func (a asked) is(t *testing.T, kind int, early bool) {
	t.Helper()
	for range 2 {
		if got, may, err := Answer(a.r, a.h, a.waiting, a.now, a.life); got != kind || may != early || err != nil {
			t.Errorf("Answer(%+v): got %d, %v, %v, want %d, %v", a, got, may, err, kind, early)
		}
	}
}

// refused: Answer tells that error, and nothing beside it.
func (a asked) refused(t *testing.T, want api.Errno) {
	t.Helper()
	if got, may, err := Answer(a.r, a.h, a.waiting, a.now, a.life); got != 0 || may || plain.Told(err) != want {
		t.Errorf("Answer(%+v): got %d, %v, %v, want 0, false, %v", a, got, may, err, want)
	}
}

// tokenIs: is the token right for who asks? Told by what is answered, without a ticket, when half of those wait that may.
func (a asked) tokenIs(t *testing.T, right bool) {
	t.Helper()
	a.h.Ticket, a.h.Early, a.waiting = api.Ticket{}, "x", 4
	if right {
		a.is(t, api.Welcome, false)
	} else {
		a.is(t, api.Retry, false)
	}
}

// ticketIs: is the ticket Old? Told by Old, and by what is answered, without a token.
func (a asked) ticketIs(t *testing.T, old bool) {
	t.Helper()
	oldIs(t, a.r, a.h.Ticket, a.now, old)
	a.h.Token, a.h.Early, a.waiting = api.Token{}, "x", 4
	if old {
		a.is(t, api.Welcome, true)
	} else {
		a.is(t, api.Retry, false)
	}
	a.waiting = 3
	a.is(t, api.Welcome, old)
}

// TestOldWritten: tags that were worked out apart from the program, by both keys of a ring.
func TestOldWritten(t *testing.T) {
	r := api.Ring{Epoch: 3, Key: 3, Old: 28225}
	for _, tk := range []api.Ticket{{Epoch: 3, Number: 1, Until: 8, Tag: 2345}, {Epoch: 2, Number: 1, Until: 8, Tag: 832859}} {
		oldIs(t, r, tk, 0, true)
		oldIs(t, r, tk, 7, true)
		oldIs(t, r, tk, 8, true)
		oldIs(t, r, tk, 9, false)
		oldIs(t, r, tk, api.MaxTime, false)
		tk.Tag++
		oldIs(t, r, tk, 8, false)
	}
}

// TestAnswerWritten: the same, with tokens; the kinds and the bounds are written out, so that no const of the program is trusted.
func TestAnswerWritten(t *testing.T) {
	r := api.Ring{Epoch: 3, Key: 3, Old: 28225}
	h := api.Hello{Address: 1, Token: api.Token{Epoch: 3, Address: 1, Time: 8, Tag: 249222}, Ticket: api.Ticket{Epoch: 2, Number: 1, Until: 8, Tag: 832859}, Early: "hello"}
	asked{r, h, 3, 8, 0}.is(t, 1, true)
	asked{r, h, 7, 8, 0}.is(t, 1, true)
	asked{r, h, 8, 8, 0}.is(t, 2, false)
	asked{r, h, 7, 9, 1}.is(t, 1, false) // the ticket is over, and the token is not
	asked{r, h, 7, 9, 0}.is(t, 0, false) // both are over
	asked{r, h, 3, 9, 0}.is(t, 1, false)
	asked{r, h, 7, 7, 5}.is(t, 1, true) // the token is of a time to come
	h.Token.Epoch, h.Token.Tag = 2, 79753
	asked{r, h, 7, 9, 1}.is(t, 1, false)
	h.Ticket.Epoch, h.Ticket.Tag = 3, 2345
	asked{r, h, 7, 8, 0}.is(t, 1, true)
	h.Early = ""
	asked{r, h, 7, 8, 0}.is(t, 1, false)
}

// shownBy: what who comes shows, whether that is a right token and an Old ticket, and what is answered at each level.
var shownBy = []struct {
	tok  api.Token
	tk   api.Ticket
	old  bool
	kind [3]int
}{
	{api.Token{}, api.Ticket{}, false, [3]int{1, 0, 2}},
	{goodToken, api.Ticket{}, false, [3]int{1, 1, 2}},
	{api.Token{}, goodTicket, true, [3]int{1, 1, 2}},
	{goodToken, goodTicket, true, [3]int{1, 1, 2}},
	// What is wrong is as what is not there.
	{tokenBy(9, 3, 4, 8), ticketBy(9, 3, 7, 12), false, [3]int{1, 0, 2}},
	{goodToken, ticketBy(5, 3, 7, 9), false, [3]int{1, 1, 2}},
	{tokenBy(5, 3, 5, 8), goodTicket, true, [3]int{1, 1, 2}},
	{tokenBy(6, 2, 4, 10), ticketBy(6, 2, 7, 10), true, [3]int{1, 1, 2}},
}

// levels: the level of every number that may wait.
var levels = [9]int{0, 0, 0, 0, 1, 1, 1, 1, 2}

// TestAnswers: every number that may wait, whatever is shown, with early bytes of every number at the edges: they may be taken of who is welcome and Old alone.
func TestAnswers(t *testing.T) {
	for waiting, level := range levels {
		for _, s := range shownBy {
			for _, c := range []struct {
				many int
				may  bool
			}{{0, false}, {1, true}, {2, true}, {39, true}, {40, true}, {41, false}, {42, false}, {256, false}, {257, false}, {1<<16 + 1, false}} {
				early := c.may && s.old && level < 2
				ask(s.tok, s.tk, strings.Repeat("e", c.many), waiting).is(t, s.kind[level], early)
			}
		}
	}
}

// TestEarlyBytes: they are counted as bytes, whatever they are.
func TestEarlyBytes(t *testing.T) {
	for _, c := range []struct {
		early string
		may   bool
	}{
		{"", false},
		{"\x00", true},
		{" ", true},
		{"\n", true},
		{"\xff", true},
		{strings.Repeat("\x00", 40), true},
		{strings.Repeat("\x00", 41), false},
		{strings.Repeat("\xff", 40), true},
		{strings.Repeat("\xff", 41), false},
		{strings.Repeat("é", 20), true}, // 40 bytes
		{strings.Repeat("é", 20) + "e", false},
		{strings.Repeat("é", 40), false},
		{strings.Repeat("e", 39) + "é", false}, // 40 signs
		{strings.Repeat(" ", 41), false},
	} {
		ask(goodToken, goodTicket, c.early, 0).is(t, api.Welcome, c.may)
		ask(api.Token{}, goodTicket, c.early, 7).is(t, api.Welcome, c.may)
		ask(goodToken, goodTicket, c.early, 8).is(t, api.Busy, false)
		ask(goodToken, api.Ticket{}, c.early, 0).is(t, api.Welcome, false)
	}
}

// TestNoughtsTicket: a ticket of noughts alone is none, also where chapter 4 finds it right: by the ring's key, and by that of the one ahead.
func TestNoughtsTicket(t *testing.T) {
	const key = 19807 // by which 2, 0 and 0 have the tag 0
	for _, r := range []api.Ring{{Key: key}, {Epoch: 1, Key: 5, Old: key}, {Epoch: 1, Key: key, Old: key}} {
		if err := ticket.Check(r, api.Ticket{}, 0); err != nil {
			t.Fatalf("Check(%v): %v, so there is nothing to be told from", r, err)
		}
		oldIs(t, r, api.Ticket{}, 0, false)
		asked{r, api.Hello{Early: "x"}, 4, 0, 0}.is(t, api.Retry, false)
		asked{r, api.Hello{Early: "x"}, 3, 0, 0}.is(t, api.Welcome, false)
		asked{r, api.Hello{Early: "x"}, 8, 0, 0}.is(t, api.Busy, false)
	}
	for _, r := range []api.Ring{{}, {Key: 5}, here, {Epoch: api.MaxEpoch, Key: key, Old: key}} {
		for _, now := range []int{0, 1, api.MaxTime} {
			oldIs(t, r, api.Ticket{}, now, false)
		}
	}
}

// TestNoughtsToken: a token of noughts alone is none, also where chapter 3 finds it right.
func TestNoughtsToken(t *testing.T) {
	const key = 843445 // by which 1, 0 and 0 have the tag 0
	for _, r := range []api.Ring{{Key: key}, {Epoch: 1, Key: 5, Old: key}, {Epoch: 1, Key: key, Old: key}} {
		for _, now := range []int{0, 1, api.MaxTime} {
			if err := token.Check(r, api.Token{}, 0, now, now); err != nil {
				t.Fatalf("Check(%v): %v, so there is nothing to be told from", r, err)
			}
			asked{r, api.Hello{}, 4, now, now}.is(t, api.Retry, false)
			asked{r, api.Hello{}, 3, now, now}.is(t, api.Welcome, false)
			asked{r, api.Hello{}, 8, now, now}.is(t, api.Busy, false)
		}
	}
}

// TestNoughtsApart: the one that is none takes nothing from the other.
func TestNoughtsApart(t *testing.T) {
	r := api.Ring{Key: 19807}
	asked{r, api.Hello{Token: tokenBy(19807, 0, 0, 0), Early: "x"}, 4, 0, 0}.is(t, api.Welcome, false)
	r = api.Ring{Key: 843445}
	asked{r, api.Hello{Ticket: ticketBy(843445, 0, 0, 0), Early: "x"}, 4, 0, 0}.is(t, api.Welcome, true)
}

// TestNearNoughtsTicket: one number that is not 0 makes it a ticket, where chapter 4 finds it right.
func TestNearNoughtsTicket(t *testing.T) {
	for _, tk := range []api.Ticket{
		{Epoch: 1}, {Epoch: api.MaxEpoch}, {Number: 1}, {Number: last}, {Until: 1}, {Until: api.MaxTime}, {Tag: 1}, {Tag: last},
	} {
		key := keyFor(t, 2, tk.Number, tk.Until, tk.Tag)
		a := asked{r: api.Ring{Epoch: tk.Epoch, Key: key}, h: api.Hello{Ticket: tk}, now: tk.Until}
		a.ticketIs(t, true)
		a.r.Key = (key + 1) % api.Modulo
		a.ticketIs(t, false)
	}
}

// TestNearNoughtsToken: the same, of tokens.
func TestNearNoughtsToken(t *testing.T) {
	for _, tok := range []api.Token{
		{Epoch: 1}, {Epoch: api.MaxEpoch}, {Address: 1}, {Address: last}, {Time: 1}, {Time: api.MaxTime}, {Tag: 1}, {Tag: last},
	} {
		key := keyFor(t, 1, tok.Address, tok.Time, tok.Tag)
		a := asked{r: api.Ring{Epoch: tok.Epoch, Key: key}, h: api.Hello{Address: tok.Address, Token: tok}, now: tok.Time}
		a.tokenIs(t, true)
		a.r.Key = (key + 1) % api.Modulo
		a.tokenIs(t, false)
	}
}

// TestUntil: a ticket far below its Until, at it, and one later.
func TestUntil(t *testing.T) {
	for _, until := range []int{0, 1, 500, api.MaxTime - 1, api.MaxTime} {
		for _, now := range []int{0, 1, 2, 499, 500, 501, api.MaxTime - 2, api.MaxTime - 1, api.MaxTime} {
			a := ask(api.Token{}, ticketBy(5, 3, 7, until), "", 0)
			a.now = now
			a.ticketIs(t, now <= until)
			a.h.Ticket = ticketBy(6, 2, 7, until)
			a.ticketIs(t, now <= until)
		}
	}
}

// TestLife: a token below its Time, at it, as much as life later, and one more.
func TestLife(t *testing.T) {
	for _, time := range []int{0, 1, 500, api.MaxTime - 1, api.MaxTime} {
		for _, life := range []int{0, 1, 50, api.MaxTime - 1, api.MaxTime} {
			for _, now := range []int{0, 1, time - 1, time, time + 1, time + life - 1, time + life, time + life + 1, api.MaxTime} {
				if now < 0 || now > api.MaxTime {
					continue
				}
				a := ask(tokenBy(5, 3, 4, time), api.Ticket{}, "", 0)
				a.now, a.life = now, life
				a.tokenIs(t, now >= time && now <= time+life)
				a.h.Token = tokenBy(6, 2, 4, time)
				a.tokenIs(t, now >= time && now <= time+life)
			}
		}
	}
}

// TestEpochs: tickets and tokens of every epoch, asked of a ring of every epoch: its own and the one ahead count, an elder one and one to come do not.
func TestEpochs(t *testing.T) {
	for at := 0; at <= api.MaxEpoch; at++ {
		r := api.Ring{Epoch: at, Key: 5, Old: 6}
		if at == 0 {
			r.Old = 0
		}
		for epoch := 0; epoch <= api.MaxEpoch; epoch++ {
			for _, key := range []int{5, 6, 0} {
				right := epoch == at && key == 5 || epoch == at-1 && key == 6
				a := asked{r: r, h: api.Hello{Address: 4, Token: tokenBy(key, epoch, 4, 8), Ticket: ticketBy(key, epoch, 7, 12)}, now: 10, life: 5}
				a.tokenIs(t, right)
				a.ticketIs(t, right)
			}
		}
	}
}

// TestTurns: what a ring made outlives one turn, and not two.
func TestTurns(t *testing.T) {
	r, err := ring.New(7)
	if err != nil {
		t.Fatal(err)
	}
	for r.Epoch <= api.MaxEpoch-2 {
		tok, _ := token.Make(r, 4, 8)
		tk, _ := ticket.Make(r, 7, 12)
		next, _ := ring.Turn(r)
		later, _ := ring.Turn(next)
		for _, c := range []struct {
			r     api.Ring
			right bool
		}{{r, true}, {next, true}, {later, false}} {
			a := asked{r: c.r, h: api.Hello{Address: 4, Token: tok, Ticket: tk}, now: 10, life: 5}
			a.tokenIs(t, c.right)
			a.ticketIs(t, c.right)
		}
		r = next
	}
}

// TestWrongTag: tags beside the right one, at the edges, and of the other kind of thing with the same numbers.
func TestWrongTag(t *testing.T) {
	a := ask(goodToken, goodTicket, "", 0)
	for _, tag := range []int{0, 1, goodToken.Tag - 1, goodToken.Tag + 1, last, tagOf(5, 2, 4, 8), tagOf(6, 1, 4, 8), tagOf(5, 1, 8, 4), goodTicket.Tag} {
		a.h.Token.Tag = tag
		a.tokenIs(t, false)
	}
	for _, tag := range []int{0, 1, goodTicket.Tag - 1, goodTicket.Tag + 1, last, tagOf(5, 1, 7, 12), tagOf(6, 2, 7, 12), tagOf(5, 2, 12, 7), goodToken.Tag} {
		a.h.Ticket.Tag = tag
		a.ticketIs(t, false)
	}
}

// TestForged: what is given another number is not right, and none of it is an error.
func TestForged(t *testing.T) {
	for _, forge := range []func(*asked){
		func(a *asked) { a.h.Token.Epoch, a.h.Ticket.Epoch = 2, 2 },
		func(a *asked) { a.h.Token.Address, a.h.Ticket.Number = 5, 8 },
		func(a *asked) { a.h.Token.Time, a.h.Ticket.Until = 9, 13 },
		func(a *asked) { a.h.Token.Time, a.h.Ticket.Until = 10, api.MaxTime },
	} {
		a := ask(goodToken, goodTicket, "", 0)
		forge(&a)
		a.tokenIs(t, false)
		a.ticketIs(t, false)
		a.h.Address = a.h.Token.Address
		a.tokenIs(t, false)
	}
}

// TestNoSuchNumbers: a number of a token or a ticket that is none makes it wrong, and is no error.
func TestNoSuchNumbers(t *testing.T) {
	wrong := func(tok api.Token, tk api.Ticket) {
		t.Helper()
		ask(tok, api.Ticket{}, "", 0).tokenIs(t, false)
		ask(api.Token{}, tk, "", 0).ticketIs(t, false)
	}
	for _, none := range noTags {
		wrong(api.Token{Epoch: 3, Address: none, Time: 8, Tag: goodToken.Tag}, api.Ticket{Epoch: 3, Number: none, Until: 12, Tag: goodTicket.Tag})
		wrong(api.Token{Epoch: 3, Address: 4, Time: 8, Tag: none}, api.Ticket{Epoch: 3, Number: 7, Until: 12, Tag: none})
		wrong(api.Token{Tag: none}, api.Ticket{Tag: none})
		wrong(api.Token{Address: none}, api.Ticket{Number: none})
	}
	for _, none := range noTimes {
		wrong(api.Token{Epoch: 3, Address: 4, Time: none, Tag: goodToken.Tag}, api.Ticket{Epoch: 3, Number: 7, Until: none, Tag: goodTicket.Tag})
		wrong(api.Token{Time: none}, api.Ticket{Until: none})
	}
	for _, none := range noEpochs {
		wrong(api.Token{Epoch: none, Address: 4, Time: 8, Tag: goodToken.Tag}, api.Ticket{Epoch: none, Number: 7, Until: 12, Tag: goodTicket.Tag})
		wrong(api.Token{Epoch: none}, api.Ticket{Epoch: none})
	}
	// What is right but for a whole turn is not right, nor is a time above the greatest, with the tag that it would have.
	wrong(api.Token{Epoch: 3, Address: 4, Time: 8, Tag: goodToken.Tag + api.Modulo}, api.Ticket{Epoch: 3, Number: 7, Until: 12, Tag: goodTicket.Tag + api.Modulo})
	wrong(api.Token{Epoch: 3, Address: 4 + api.Modulo, Time: 8, Tag: goodToken.Tag}, ticketBy(5, 3, 7, api.MaxTime+1))
}

// TestAddress: a token is right for its own address alone, at the edges of addresses, too; a ticket is of none.
func TestAddress(t *testing.T) {
	edges := []int{0, 1, 4, 5, 4711, last - 1, last}
	for _, own := range edges {
		for _, address := range edges {
			a := ask(tokenBy(5, 3, own, 8), goodTicket, "", 0)
			a.h.Address = address
			a.tokenIs(t, own == address)
			a.ticketIs(t, true)
			a.h.Token = tokenBy(6, 2, own, 8)
			a.tokenIs(t, own == address)
		}
	}
}

// TestTimes: now and life of 0 and of MaxTime are as all others.
func TestTimes(t *testing.T) {
	for _, now := range []int{0, 1, api.MaxTime - 1, api.MaxTime} {
		for _, life := range []int{0, 1, api.MaxTime - 1, api.MaxTime} {
			a := ask(tokenBy(5, 3, 4, now), ticketBy(5, 3, 7, now), "", 0)
			a.now, a.life = now, life
			a.tokenIs(t, true)
			a.ticketIs(t, true)
			a.h = api.Hello{}
			a.tokenIs(t, false)
			a.ticketIs(t, false)
		}
	}
}

// hellos: what may be shown, when something else is wrong.
var hellos = []api.Hello{
	{},
	{Address: 4, Token: goodToken, Ticket: goodTicket, Early: "x"},
	{Address: 4, Token: goodToken},
	{Address: 4, Ticket: goodTicket, Early: "x"},
	{Address: 4, Token: api.Token{Epoch: -1, Address: -1, Time: -1, Tag: -1}, Ticket: api.Ticket{Epoch: -1, Number: -1, Until: -1, Tag: -1}},
}

// TestRange: an address, now, a life, and how many wait, that are none, whatever is shown and however many wait: also where nothing would hang on it.
func TestRange(t *testing.T) {
	for _, h := range hellos {
		for waiting := range 9 {
			for _, none := range noTimes {
				oldRefused(t, here, h.Ticket, none, api.ErrRange)
				asked{here, h, waiting, none, 5}.refused(t, api.ErrRange)
				asked{here, h, waiting, 10, none}.refused(t, api.ErrRange)
				asked{here, h, waiting, none, none}.refused(t, api.ErrRange)
			}
			for _, none := range noTags {
				from := h
				from.Address = none
				asked{here, from, waiting, 10, 5}.refused(t, api.ErrRange)
				from.Token.Address = none
				asked{here, from, waiting, 10, 5}.refused(t, api.ErrRange)
			}
		}
	}
	for _, h := range hellos {
		for _, none := range noQueues {
			asked{here, h, none, 10, 5}.refused(t, api.ErrRange)
		}
	}
}

// TestWrongRing: what is wrong with the ring is told ahead of all else.
func TestWrongRing(t *testing.T) {
	for _, c := range wrongRings {
		for _, h := range append(hellos, api.Hello{Address: -1}, api.Hello{Address: api.Modulo, Token: goodToken, Ticket: goodTicket}) {
			for _, n := range []int{-1, 0, 5, 8, api.MaxTime + 1} {
				oldRefused(t, c.r, h.Ticket, n, c.want)
				asked{c.r, h, n, 10, 5}.refused(t, c.want)
				asked{c.r, h, 4, n, 5}.refused(t, c.want)
				asked{c.r, h, 4, 10, n}.refused(t, c.want)
				asked{c.r, h, n, n, n}.refused(t, c.want)
			}
		}
	}
}

// faults of what Answer is given, in the order in which it tells them.
var faults = []struct {
	want api.Errno
	put  func(*asked)
}{
	{api.ErrRange, func(a *asked) { a.r.Key = api.Modulo }},
	{api.ErrShape, func(a *asked) { a.r = api.Ring{Key: 5, Old: 6} }},
	{api.ErrRange, func(a *asked) { a.h.Address = -1 }},
	{api.ErrRange, func(a *asked) { a.now = api.MaxTime + 1 }},
	{api.ErrRange, func(a *asked) { a.life = -1 }},
	{api.ErrRange, func(a *asked) { a.waiting = api.MaxQueue + 1 }},
	{api.OK, func(a *asked) { a.h.Token.Tag = -1 }},
	{api.OK, func(a *asked) { a.h.Token.Epoch = 4 }},
	{api.OK, func(a *asked) { a.h.Ticket.Tag++ }},
	{api.OK, func(a *asked) { a.h.Ticket.Until = api.MaxTime + 1 }},
	{api.OK, func(a *asked) { a.h.Early = strings.Repeat("e", api.MaxEarly+1) }},
}

// TestFirstError: which error is told where several apply: every choice of faults, put from the last to the first, so that the first of them stands. What is wrong with a token, a ticket or early bytes is no error.
func TestFirstError(t *testing.T) {
	for choice := range 1 << len(faults) {
		a := ask(goodToken, goodTicket, "x", 7)
		want := api.OK
		for i := len(faults) - 1; i >= 0; i-- {
			if choice>>i&1 == 1 {
				faults[i].put(&a)
				if faults[i].want != api.OK {
					want = faults[i].want
				}
			}
		}
		if want != api.OK {
			a.refused(t, want)
			continue
		}
		tokenWrong, ticketWrong, many := choice>>6&3 != 0, choice>>8&3 != 0, choice>>10&1 == 1
		kind := api.Welcome
		if tokenWrong && ticketWrong {
			kind = api.Retry
		}
		a.is(t, kind, !ticketWrong && !many)
	}
}

// TestExtremes: every number at the ends of int, all at a time: a call ends, and tells ErrRange.
func TestExtremes(t *testing.T) {
	for _, n := range []int{math.MinInt, math.MaxInt} {
		h := api.Hello{Address: n, Token: api.Token{Epoch: n, Address: n, Time: n, Tag: n}, Ticket: api.Ticket{Epoch: n, Number: n, Until: n, Tag: n}}
		for _, r := range []api.Ring{{}, {Epoch: n, Key: n, Old: n}} {
			oldRefused(t, r, h.Ticket, n, api.ErrRange)
			asked{r, h, n, n, n}.refused(t, api.ErrRange)
		}
		oldIs(t, here, h.Ticket, 10, false)
		h.Address = 4
		asked{here, h, 4, 10, 5}.is(t, api.Retry, false)
	}
}

// TestNothingIsKept: a call answers the same whatever was asked ahead of it, and refused.
func TestNothingIsKept(t *testing.T) {
	seed := 1
	for range 5000 {
		seed = seed*1103515245%(1<<31) + 12345
		s := shownBy[(seed>>8)%len(shownBy)]
		waiting := (seed >> 5) % len(levels)
		level := levels[waiting]
		a := ask(s.tok, s.tk, "hello", waiting)
		a.is(t, s.kind[level], s.old && level < 2)
		oldIs(t, here, s.tk, 10, s.old)
		a.now = noTimes[(seed>>10)%len(noTimes)]
		a.refused(t, api.ErrRange)
		oldRefused(t, wrongRings[(seed>>12)%len(wrongRings)].r, s.tk, 10, wrongRings[(seed>>12)%len(wrongRings)].want)
	}
}

// TestNoWrongHelps: who shows what is wrong is answered as who shows nothing, at every level.
func TestNoWrongHelps(t *testing.T) {
	for waiting := range levels {
		kind, _, err := Answer(here, api.Hello{Address: 4}, waiting, 10, 5)
		if err != nil {
			t.Fatal(err)
		}
		for address := range 100 {
			if address == goodToken.Address {
				continue
			}
			a := ask(goodToken, ticketBy(5, 3, 7, 9), "x", waiting)
			a.h.Address = address
			a.is(t, kind, false)
		}
	}
}
