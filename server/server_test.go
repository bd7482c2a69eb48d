package server

import (
	"math"
	"math/rand"
	"slices"
	"strings"
	"testing"

	"tokenfold/api"
	"tokenfold/plain"
)

// The numbers are written out, so that no const of the program is trusted.
const (
	modulo   = 999983
	last     = 999982
	maxTime  = 100000
	maxEpoch = 100
	most     = 8  // that wait
	room     = 16 // spent that are known
	conns    = 4096
	tickets  = 1000
	retry    = 0
	welcome  = 1
	busy     = 2
)

// noTags: numbers that are no key, no address, no number of a ticket and no tag; some would come to one, were they cut to fewer bits.
var noTags = []int{-1, -2, -modulo, math.MinInt, math.MinInt + 1, modulo, modulo + 1, 2 * modulo, 1 << 32, 1<<32 + 7, math.MaxInt - 1, math.MaxInt}

// noTimes: numbers that are no time and no life.
var noTimes = []int{-1, -2, -maxTime, math.MinInt, math.MinInt + 1, maxTime + 1, maxTime + 2, last, 1 << 32, 1<<32 + 50, math.MaxInt - 1, math.MaxInt}

// keyOf is the key of an epoch by a seed, by powers of 4099.
func keyOf(seed, epoch int) int {
	key := seed
	for e := range epoch + 1 {
		key = (key*(4099*4099+1) + (e+1)*4099) % modulo
	}
	return key
}

// tagOf is chapter 1's tag of three numbers, by powers of 4099.
func tagOf(key, kind, a, b int) int {
	const (
		second = 4099 * 4099 % modulo
		third  = 4099 * second % modulo
		fourth = 4099 * third % modulo
	)
	return (key*fourth + (kind+1)*third + (a+1)*second + (b+1)*4099 + key) % modulo
}

// tokenOf is the token that is right by the key of that epoch.
func tokenOf(seed, epoch, address, time int) api.Token {
	return api.Token{Epoch: epoch, Address: address, Time: time, Tag: tagOf(keyOf(seed, epoch), 1, address, time)}
}

// ticketOf is the ticket that is right by the key of that epoch.
func ticketOf(seed, epoch, number, until int) api.Ticket {
	return api.Ticket{Epoch: epoch, Number: number, Until: until, Tag: tagOf(keyOf(seed, epoch), 2, number, until)}
}

func made(t *testing.T, seed, life int) *Server {
	t.Helper()
	s, err := New(seed, life)
	if s == nil || err != nil {
		t.Fatalf("New(%d, %d): got %v, %v, want one", seed, life, s, err)
	}
	waits(t, s, 0)
	return s
}

// waits: Waiting tells that, however often it is asked.
func waits(t *testing.T, s *Server, want int) {
	t.Helper()
	for range 2 {
		if got := s.Waiting(); got != want {
			t.Fatalf("Waiting: got %d, want %d", got, want)
		}
	}
}

// told: Hello answers that and nothing beside it, and one more waits where it is welcome.
func told(t *testing.T, s *Server, h api.Hello, now int, want api.Answer) {
	t.Helper()
	before := s.Waiting()
	if got, err := s.Hello(h, now); got != want || err != nil {
		t.Fatalf("Hello(%+v, %d): got %+v, %v, want %+v", h, now, got, err, want)
	}
	if want.Kind == welcome {
		before++
	}
	waits(t, s, before)
}

// welcomed: Hello tells the conn of that number, and whether the early bytes were taken.
func welcomed(t *testing.T, s *Server, h api.Hello, now, number int, early bool) {
	t.Helper()
	told(t, s, h, now, api.Answer{Kind: welcome, Conn: api.Conn{Shard: 0, Number: number}, Early: early})
}

// retried: Hello tells to come again, with that token.
func retried(t *testing.T, s *Server, h api.Hello, now int, want api.Token) {
	t.Helper()
	told(t, s, h, now, api.Answer{Kind: retry, Token: want})
}

// refused: Hello tells that error, and nothing beside it, again and again, and as many wait as did.
func refused(t *testing.T, s *Server, h api.Hello, now int, want api.Errno) {
	t.Helper()
	before := s.Waiting()
	for range 2 {
		if got, err := s.Hello(h, now); got != (api.Answer{}) || plain.Told(err) != want {
			t.Fatalf("Hello(%+v, %d): got %+v, %v, want nothing, %v", h, now, got, err, want)
		}
		waits(t, s, before)
	}
}

// issued: Ticket gives that one.
func issued(t *testing.T, s *Server, until int, want api.Ticket) {
	t.Helper()
	if got, err := s.Ticket(until); got != want || err != nil {
		t.Fatalf("Ticket(%d): got %v, %v, want %v", until, got, err, want)
	}
}

// noTicket: Ticket tells that error, and nothing beside it.
func noTicket(t *testing.T, s *Server, until int, want api.Errno) {
	t.Helper()
	if got, err := s.Ticket(until); got != (api.Ticket{}) || plain.Told(err) != want {
		t.Fatalf("Ticket(%d): got %v, %v, want none, %v", until, got, err, want)
	}
}

func turned(t *testing.T, s *Server) {
	t.Helper()
	if err := s.Turn(); err != nil {
		t.Fatalf("Turn: got %v", err)
	}
}

// pulled: the conn of that number was the first, and one fewer waits.
func pulled(t *testing.T, s *Server, number int) {
	t.Helper()
	before := s.Waiting()
	if got, err := s.Pull(); got != (api.Conn{Number: number}) || err != nil {
		t.Fatalf("Pull: got %v, %v, want conn %d", got, err, number)
	}
	waits(t, s, before-1)
}

// nobody: Pull tells that nobody waits.
func nobody(t *testing.T, s *Server) {
	t.Helper()
	for range 2 {
		if got, err := s.Pull(); got != (api.Conn{}) || plain.Told(err) != api.ErrNone {
			t.Fatalf("Pull: got %v, %v, want none, ErrNone", got, err)
		}
		waits(t, s, 0)
	}
}

// crash: nobody waits any more.
func crash(t *testing.T, s *Server) {
	t.Helper()
	s.Crash()
	waits(t, s, 0)
	nobody(t, s)
}

// crowd of seed 7 and life 50 in which so many wait, the conns from 0 on; they came at time 100, from address 1.
func crowd(t *testing.T, waiting int) *Server {
	t.Helper()
	s := made(t, 7, 50)
	for n := range waiting {
		welcomed(t, s, api.Hello{Address: 1, Token: tokenOf(7, 0, 1, 100)}, 100, n, false)
	}
	return s
}

// old shows the ticket of that number, that is good till 200 by seed 7 in epoch 0, with early bytes.
func old(number int) api.Hello {
	return api.Hello{Address: 5, Ticket: ticketOf(7, 0, number, 200), Early: "hello"}
}

// TestNumbers: what these tests count by is what the document says.
func TestNumbers(t *testing.T) {
	if api.Modulo != modulo || api.MaxTime != maxTime || api.MaxEpoch != maxEpoch || api.MaxQueue != most || api.MaxSpent != room || api.MaxConns != conns {
		t.Error("the numbers are others")
	}
	if api.Retry != retry || api.Welcome != welcome || api.Busy != busy {
		t.Error("the kinds are others")
	}
}

// TestWritten: tags that were worked out apart from the program and from the rest of these tests.
func TestWritten(t *testing.T) {
	s := crowd(t, 4)
	h := api.Hello{Address: 77}
	retried(t, s, h, 100, api.Token{Epoch: 0, Address: 77, Time: 100, Tag: 622081})
	retried(t, s, api.Hello{}, 0, api.Token{Epoch: 0, Address: 0, Time: 0, Tag: 451506})
	retried(t, s, api.Hello{Address: last}, maxTime, api.Token{Epoch: 0, Address: last, Time: maxTime, Tag: 556386})
	issued(t, s, 100, api.Ticket{Epoch: 0, Number: 0, Until: 100, Tag: 614529})
	issued(t, s, 100, api.Ticket{Epoch: 0, Number: 1, Until: 100, Tag: 416619})
	turned(t, s)
	retried(t, s, h, 100, api.Token{Epoch: 1, Address: 77, Time: 100, Tag: 771620})
	h.Token = api.Token{Epoch: 0, Address: 77, Time: 100, Tag: 622081}
	welcomed(t, s, h, 150, 4, false)
	turned(t, s)
	retried(t, s, h, 100, api.Token{Epoch: 2, Address: 77, Time: 100, Tag: 416343})
	crash(t, s)
	issued(t, s, 100000, api.Ticket{Epoch: 2, Number: 8, Until: 100000, Tag: 322547})
	welcomed(t, s, h, 100, 5, false)
}

// TestNew: seeds and lives at their edges, each told from what it makes.
func TestNew(t *testing.T) {
	for _, c := range []struct{ seed, tag int }{{0, 737230}, {7, 614529}, {last, 611904}} {
		for _, life := range []int{0, 1, 50, maxTime - 1, maxTime} {
			s := made(t, c.seed, life)
			nobody(t, s)
			issued(t, s, 100, api.Ticket{Epoch: 0, Number: 0, Until: 100, Tag: c.tag})
			for n := range 4 {
				welcomed(t, s, api.Hello{}, 0, n, false)
			}
			h := api.Hello{Address: 4, Token: tokenOf(c.seed, 0, 4, 0)}
			welcomed(t, s, h, life, 4, false)
			if life < maxTime {
				retried(t, s, h, life+1, tokenOf(c.seed, 0, 4, life+1))
			}
		}
	}
}

// TestNewRefused: every seed and life that is none, alone and together; no fault but ErrRange can be told of New, so that which comes first can't be seen.
func TestNewRefused(t *testing.T) {
	no := func(seed, life int) {
		t.Helper()
		if s, err := New(seed, life); s != nil || plain.Told(err) != api.ErrRange {
			t.Errorf("New(%d, %d): got %v, %v, want nil, ErrRange", seed, life, s, err)
		}
	}
	for _, seed := range noTags {
		for _, life := range []int{0, 50, maxTime} {
			no(seed, life)
		}
		for _, life := range noTimes {
			no(seed, life)
		}
	}
	for _, life := range noTimes {
		for _, seed := range []int{0, 7, last} {
			no(seed, life)
		}
	}
}

// TestHellos: as many as may wait, and one more, whatever is shown: exactly what chapter 17 answers.
func TestHellos(t *testing.T) {
	right, wrong := tokenOf(7, 0, 5, 100), tokenOf(8, 0, 5, 100)
	for _, c := range []struct {
		waiting, nothing int
	}{{0, welcome}, {1, welcome}, {2, welcome}, {3, welcome}, {4, retry}, {5, retry}, {6, retry}, {7, retry}, {8, busy}} {
		for _, early := range []string{"", "x", "hello", strings.Repeat("e", 40), strings.Repeat("e", 41)} {
			for _, shown := range []struct {
				token  api.Token
				ticket api.Ticket
				some   bool
				old    bool
			}{
				{api.Token{}, api.Ticket{}, false, false},
				{wrong, ticketOf(8, 0, 3, 200), false, false},
				{right, api.Ticket{}, true, false},
				{api.Token{}, ticketOf(7, 0, 3, 200), true, true},
				{right, ticketOf(7, 0, 3, 200), true, true},
				{wrong, ticketOf(7, 0, 3, 120), true, true},
				{right, ticketOf(7, 0, 3, 119), true, false},
			} {
				kind := c.nothing
				if shown.some && c.waiting < 8 {
					kind = welcome
				}
				s := crowd(t, c.waiting)
				h := api.Hello{Address: 5, Token: shown.token, Ticket: shown.ticket, Early: early}
				switch kind {
				case welcome:
					welcomed(t, s, h, 120, c.waiting, shown.old && early != "" && len(early) <= 40)
				case retry:
					retried(t, s, h, 120, tokenOf(7, 0, 5, 120))
				case busy:
					told(t, s, h, 120, api.Answer{Kind: busy})
				}
			}
		}
	}
}

// TestRetryThenWelcome: the token that Retry told, shown ahead of its time, in time, as much as life later, and one more; also shown more than once, and from elsewhere.
func TestRetryThenWelcome(t *testing.T) {
	for _, life := range []int{0, 1, 50, maxTime - 100} {
		s := made(t, 7, life)
		for n := range 4 {
			welcomed(t, s, api.Hello{}, 0, n, false)
		}
		first, err := s.Hello(api.Hello{Address: 5}, 100)
		if err != nil || first.Kind != retry {
			t.Fatalf("got %v, %v", first, err)
		}
		h := api.Hello{Address: 5, Token: first.Token}
		next := 4
		for _, now := range []int{0, 99, 100, 100 + life, 101 + life, 100, 100 + life/2, maxTime} {
			if now > maxTime {
				continue
			}
			if now < 100 || now > 100+life {
				retried(t, s, h, now, tokenOf(7, 0, 5, now))
				continue
			}
			welcomed(t, s, h, now, next, false)
			pulled(t, s, next-4)
			next++
		}
		h.Address = 6
		retried(t, s, h, 100, tokenOf(7, 0, 6, 100))
	}
}

// TestTokensTurn: a token outlives one turn, and not two; a Retry tells one of the epoch that is.
func TestTokensTurn(t *testing.T) {
	s := crowd(t, 4)
	for epoch := range maxEpoch + 1 {
		if epoch > 0 {
			turned(t, s)
		}
		retried(t, s, api.Hello{Address: 5}, 100, tokenOf(7, epoch, 5, 100))
		for e := max(0, epoch-3); e <= min(maxEpoch, epoch+2); e++ {
			h := api.Hello{Address: 5, Token: tokenOf(7, e, 5, 100)}
			if e != epoch && e != epoch-1 {
				retried(t, s, h, 100, tokenOf(7, epoch, 5, 100))
				continue
			}
			got, err := s.Hello(h, 100)
			if err != nil || got.Kind != welcome {
				t.Fatalf("epoch %d, token of %d: got %v, %v", epoch, e, got, err)
			}
			if _, err := s.Pull(); err != nil {
				t.Fatal(err)
			}
		}
	}
}

// TestNoughts: a token, or a ticket, that is of noughts alone is told as it is, and is none when it is shown.
func TestNoughts(t *testing.T) {
	s := made(t, 829474, 50) // by which 1, 0 and 0 have the tag 0
	for n := range 4 {
		welcomed(t, s, api.Hello{}, 0, n, false)
	}
	retried(t, s, api.Hello{}, 0, api.Token{})
	retried(t, s, api.Hello{Address: 0, Token: api.Token{}}, 0, api.Token{})
	retried(t, s, api.Hello{}, 1, tokenOf(829474, 0, 0, 1))
	s = made(t, 410424, 50) // by which 2, 0 and 0 have the tag 0
	issued(t, s, 0, api.Ticket{})
	welcomed(t, s, api.Hello{Ticket: api.Ticket{}, Early: "x"}, 0, 0, false)
	issued(t, s, 0, ticketOf(410424, 0, 1, 0))
	welcomed(t, s, api.Hello{Ticket: ticketOf(410424, 0, 1, 0), Early: "x"}, 0, 1, true)
}

// TestEarlyOnce: early bytes of a ticket are taken once: not again, not behind crashes, not at a later time, not with other bytes, not from elsewhere.
func TestEarlyOnce(t *testing.T) {
	s := made(t, 7, 50)
	tk, err := s.Ticket(200)
	if err != nil {
		t.Fatal(err)
	}
	h := api.Hello{Address: 5, Ticket: tk, Early: "hello"}
	welcomed(t, s, h, 100, 0, true)
	welcomed(t, s, h, 100, 1, false)
	crash(t, s)
	welcomed(t, s, h, 100, 2, false)
	crash(t, s)
	crash(t, s)
	welcomed(t, s, h, 101, 3, false)
	welcomed(t, s, h, 0, 4, false)
	h.Early, h.Address = "x", 6
	welcomed(t, s, h, 200, 5, false)
	crash(t, s)
	welcomed(t, s, h, 201, 6, false) // it is over
	turned(t, s)
	welcomed(t, s, h, 200, 7, false)
}

// TestEarlyOldStill: a ticket whose bytes were taken is Old still: it is welcome where nothing would be told to come again.
func TestEarlyOldStill(t *testing.T) {
	s := crowd(t, 4)
	welcomed(t, s, old(3), 100, 4, true)
	welcomed(t, s, old(3), 100, 5, false)
	welcomed(t, s, old(3), 200, 6, false)
	retried(t, s, old(3), 201, tokenOf(7, 0, 5, 201))
	welcomed(t, s, old(3), 200, 7, false)
	told(t, s, old(3), 200, api.Answer{Kind: busy})
}

// TestNotTakenNotSpent: where early bytes may not be taken, the ticket is not spent, and may bring some later.
func TestNotTakenNotSpent(t *testing.T) {
	spoil := []func(*api.Hello){
		func(h *api.Hello) { h.Early = "" },
		func(h *api.Hello) { h.Early = strings.Repeat("e", 41) },
		func(h *api.Hello) { h.Ticket.Tag++ },
		func(h *api.Hello) { h.Ticket.Until++ },
		func(h *api.Hello) { h.Ticket = ticketOf(8, 0, 3, 200) },
		func(h *api.Hello) { h.Ticket = ticketOf(7, 1, 3, 200) },
		func(h *api.Hello) { h.Ticket = ticketOf(7, 0, 3, 99) },
		func(h *api.Hello) { h.Ticket = api.Ticket{} },
	}
	for i, f := range spoil {
		s := made(t, 7, 50)
		h := old(3)
		f(&h)
		welcomed(t, s, h, 100, 0, false)
		welcomed(t, s, old(3), 100, 1, true)
		if i < 2 {
			welcomed(t, s, h, 100, 2, false)
		}
	}
	s := crowd(t, 8)
	told(t, s, old(3), 100, api.Answer{Kind: busy})
	pulled(t, s, 0)
	welcomed(t, s, old(3), 100, 8, true)
}

// TestTimesGoBack: what is over is known no more once another is spent at that time, also if an earlier time comes behind it.
func TestTimesGoBack(t *testing.T) {
	s := made(t, 7, 50)
	welcomed(t, s, old(3), 100, 0, true)
	welcomed(t, s, api.Hello{Ticket: ticketOf(7, 0, 4, 300)}, 201, 1, false) // without early bytes nothing is spent, and nothing dropped
	welcomed(t, s, old(3), 200, 2, false)
	welcomed(t, s, api.Hello{Ticket: ticketOf(7, 0, 4, 300), Early: "x"}, 200, 3, true)
	welcomed(t, s, old(3), 200, 4, false)
	welcomed(t, s, api.Hello{Ticket: ticketOf(7, 0, 5, 300), Early: "x"}, 201, 5, true)
	welcomed(t, s, old(3), 200, 6, true)
}

// TestOneNumberOneTime: it is the Ticket's number that is spent, till its own Until: another ticket of that number brings nothing as long.
func TestOneNumberOneTime(t *testing.T) {
	s := made(t, 7, 50)
	short := api.Hello{Ticket: ticketOf(7, 0, 3, 150), Early: "x"}
	long := api.Hello{Ticket: ticketOf(7, 0, 3, 300), Early: "x"}
	welcomed(t, s, short, 100, 0, true)
	welcomed(t, s, long, 100, 1, false)
	welcomed(t, s, long, 150, 2, false)
	pulled(t, s, 0)
	welcomed(t, s, long, 151, 3, true)
	pulled(t, s, 1)
	crash(t, s)
	welcomed(t, s, long, 300, 4, false)
	turned(t, s)
	welcomed(t, s, api.Hello{Ticket: ticketOf(7, 1, 3, 400), Early: "x"}, 300, 5, false) // the number counts, of whatever epoch
	welcomed(t, s, api.Hello{Ticket: ticketOf(7, 1, 3, 400), Early: "x"}, 301, 6, true)
}

// TestVaultFull: where no more can be spent, just the early bytes are not taken; when one is over, they are.
func TestVaultFull(t *testing.T) {
	s := made(t, 7, 50)
	next := 0
	come := func(number, until, now int, early bool) {
		t.Helper()
		welcomed(t, s, api.Hello{Address: 5, Ticket: ticketOf(7, 0, number, until), Early: "x"}, now, next, early)
		pulled(t, s, next)
		next++
	}
	for n := range room {
		come(n, 200+n, 100, true)
	}
	come(16, 300, 100, false)
	come(16, 300, 200, false) // the first is good till just now
	come(0, 200, 200, false)
	crash(t, s)
	come(16, 300, 200, false)
	come(16, 300, 201, true)
	come(17, 300, 201, false)
	come(16, 300, 201, false)
	crash(t, s)
	come(16, 300, 202, false) // it is there: it drops nothing
	come(17, 300, 203, true)
	come(18, 300, 203, true)
	come(19, 300, 203, false)
}

// allTold is a server of which every conn was told, and so many wait: the last ones.
func allTold(t *testing.T, waiting int) *Server {
	t.Helper()
	s := made(t, 7, 50)
	h := api.Hello{Address: 1, Token: tokenOf(7, 0, 1, 100)}
	for n := range conns {
		if s.Waiting() == most {
			pulled(t, s, n-most)
		}
		welcomed(t, s, h, 100, n, false)
	}
	for s.Waiting() > waiting {
		pulled(t, s, conns-s.Waiting())
	}
	return s
}

// TestLastConn: the last of 4096 conns, and one more: who would be welcome is told ErrFull; who is to come again, or comes when it is busy, is told so still.
func TestLastConn(t *testing.T) {
	for waiting := range most + 1 {
		s := allTold(t, waiting)
		nothing, token, both := api.Hello{Address: 5}, api.Hello{Address: 5, Token: tokenOf(7, 0, 5, 100)}, old(3)
		both.Token = token.Token
		for _, h := range []api.Hello{nothing, token, both, old(4)} {
			switch {
			case waiting == most:
				told(t, s, h, 100, api.Answer{Kind: busy})
			case waiting >= most/2 && h == nothing:
				retried(t, s, h, 100, tokenOf(7, 0, 5, 100))
			default:
				refused(t, s, h, 100, api.ErrFull)
			}
			refused(t, s, h, -1, api.ErrRange) // chapter 17's errors are told ahead of it
			refused(t, s, h, maxTime+1, api.ErrRange)
			h.Address = -1
			refused(t, s, h, 100, api.ErrRange)
		}
		for n := range waiting {
			pulled(t, s, conns-waiting+n)
		}
		nobody(t, s)
		refused(t, s, nothing, 100, api.ErrFull)
		crash(t, s)
		refused(t, s, nothing, 100, api.ErrFull)
		refused(t, s, old(3), 100, api.ErrFull)
		turned(t, s)
		refused(t, s, nothing, 100, api.ErrFull)
		issued(t, s, 50, ticketOf(7, 1, 0, 50))
	}
}

// TestConnsAcrossCrashes: conns are told from 0 on, none twice and none left out, wherever it crashes.
func TestConnsAcrossCrashes(t *testing.T) {
	for every := 1; every <= 9; every++ {
		s := made(t, 7, 50)
		h := api.Hello{Address: 1, Token: tokenOf(7, 0, 1, 100)}
		for n := range conns {
			if n%every == every-1 {
				crash(t, s)
			} else if s.Waiting() == most {
				pulled(t, s, n-most)
			}
			welcomed(t, s, h, 100, n, false)
		}
		crash(t, s)
		refused(t, s, h, 100, api.ErrFull)
	}
}

// TestTickets: numbers from 0 on, up to the last, and one more; of the epoch that is.
func TestTickets(t *testing.T) {
	s := made(t, 7, 50)
	for n := range tickets {
		epoch := n / 10
		issued(t, s, n, ticketOf(7, epoch, n, n))
		noTicket(t, s, -1, api.ErrRange)
		if n%10 == 9 {
			turned(t, s)
		}
	}
	for range 2 {
		noTicket(t, s, 50, api.ErrFull)
		noTicket(t, s, 0, api.ErrFull)
		noTicket(t, s, maxTime, api.ErrFull)
		noTicket(t, s, -1, api.ErrRange)
		noTicket(t, s, maxTime+1, api.ErrRange)
		crash(t, s)
	}
	welcomed(t, s, api.Hello{Ticket: ticketOf(7, 99, 999, 999), Early: "x"}, 999, 0, true)
}

// TestTicketUntil: untils at their edges; a refused call takes no number.
func TestTicketUntil(t *testing.T) {
	s := made(t, 7, 50)
	for n, until := range []int{0, 1, 50, maxTime - 1, maxTime} {
		for _, no := range noTimes {
			noTicket(t, s, no, api.ErrRange)
		}
		issued(t, s, until, ticketOf(7, 0, n, until))
	}
	waits(t, s, 0)
}

// TestTicketsAcrossCrashes: a crash skips what is left of its 8, and no number is told twice.
func TestTicketsAcrossCrashes(t *testing.T) {
	s := made(t, 7, 50)
	crash(t, s)
	issued(t, s, 50, ticketOf(7, 0, 0, 50))
	crash(t, s)
	issued(t, s, 50, ticketOf(7, 0, 8, 50))
	issued(t, s, 50, ticketOf(7, 0, 9, 50))
	crash(t, s)
	crash(t, s)
	for n := range 8 {
		issued(t, s, 50, ticketOf(7, 0, 16+n, 50))
	}
	crash(t, s)
	issued(t, s, 50, ticketOf(7, 0, 24, 50))
	for n := 32; n < tickets; n += 8 {
		crash(t, s)
		issued(t, s, 50, ticketOf(7, 0, n, 50))
	}
	crash(t, s)
	noTicket(t, s, 50, api.ErrFull)
}

// TestTurns: up to the last, and one more, that changes nothing.
func TestTurns(t *testing.T) {
	s := crowd(t, 4)
	for epoch := range maxEpoch {
		retried(t, s, api.Hello{Address: 5}, 100, tokenOf(7, epoch, 5, 100))
		turned(t, s)
	}
	for range 3 {
		if err := s.Turn(); plain.Told(err) != api.ErrFull {
			t.Fatalf("Turn: got %v, want ErrFull", err)
		}
		waits(t, s, 4)
		retried(t, s, api.Hello{Address: 5}, 100, tokenOf(7, maxEpoch, 5, 100))
		retried(t, s, api.Hello{Address: 5, Token: tokenOf(7, maxEpoch-2, 5, 100)}, 100, tokenOf(7, maxEpoch, 5, 100))
	}
	welcomed(t, s, api.Hello{Address: 5, Token: tokenOf(7, maxEpoch, 5, 100)}, 100, 4, false)
	welcomed(t, s, api.Hello{Address: 5, Token: tokenOf(7, maxEpoch-1, 5, 100)}, 100, 5, false)
	issued(t, s, 50, ticketOf(7, maxEpoch, 0, 50))
	crash(t, s)
	if err := s.Turn(); plain.Told(err) != api.ErrFull {
		t.Fatalf("Turn behind a crash: got %v, want ErrFull", err)
	}
}

// TestPull: who came first is first, and nobody is pulled where nobody waits.
func TestPull(t *testing.T) {
	for waiting := range most + 1 {
		s := crowd(t, waiting)
		for n := range waiting {
			pulled(t, s, n)
		}
		nobody(t, s)
		welcomed(t, s, api.Hello{}, 0, waiting, false)
		pulled(t, s, waiting)
		nobody(t, s)
	}
}

// TestPullMakesRoom: one that was pulled is one that waits no more, at each of the levels' edges.
func TestPullMakesRoom(t *testing.T) {
	s := crowd(t, 8)
	h := api.Hello{Address: 5}
	told(t, s, h, 100, api.Answer{Kind: busy})
	pulled(t, s, 0)
	retried(t, s, h, 100, tokenOf(7, 0, 5, 100))
	for n := 1; n < 5; n++ {
		pulled(t, s, n)
	}
	welcomed(t, s, h, 100, 8, false)
	retried(t, s, h, 100, tokenOf(7, 0, 5, 100))
	for n := 5; n < 9; n++ {
		pulled(t, s, n)
	}
	nobody(t, s)
}

// TestWaitingBehindEach: what changes how many wait, and what does not.
func TestWaitingBehindEach(t *testing.T) {
	for waiting := 1; waiting <= most; waiting++ {
		s := crowd(t, waiting)
		turned(t, s)
		waits(t, s, waiting)
		issued(t, s, 50, ticketOf(7, 1, 0, 50))
		waits(t, s, waiting)
		noTicket(t, s, -1, api.ErrRange)
		waits(t, s, waiting)
		refused(t, s, api.Hello{Address: -1}, 100, api.ErrRange)
		pulled(t, s, 0)
		waits(t, s, waiting-1)
		crash(t, s)
	}
}

// TestCrashKeeps: behind a crash nobody waits, while the keys, the conns and what was spent are known.
func TestCrashKeeps(t *testing.T) {
	for waiting := range most + 1 {
		for turns := range 4 {
			s := crowd(t, waiting)
			for range turns {
				turned(t, s)
			}
			crash(t, s)
			for n := range 4 {
				welcomed(t, s, api.Hello{}, 0, waiting+n, false)
			}
			retried(t, s, api.Hello{Address: 5}, 100, tokenOf(7, turns, 5, 100))
			h := api.Hello{Address: 5, Token: tokenOf(7, 0, 5, 100)}
			if turns < 2 {
				welcomed(t, s, h, 100, waiting+4, false)
			} else {
				retried(t, s, h, 100, tokenOf(7, turns, 5, 100))
			}
		}
	}
}

// TestRefusedHello: an address and a now that are none, whatever is shown and however many wait: what comes next is as if nothing had been asked.
func TestRefusedHello(t *testing.T) {
	for waiting := range most + 1 {
		s := crowd(t, waiting)
		for _, h := range []api.Hello{{}, old(3), {Address: 5, Token: tokenOf(7, 0, 5, 100)}, {Address: 5, Token: tokenOf(7, 0, 5, 100), Ticket: ticketOf(7, 0, 3, 200), Early: "x"}} {
			for _, no := range noTimes {
				refused(t, s, h, no, api.ErrRange)
			}
			for _, no := range noTags {
				from := h
				from.Address = no
				refused(t, s, from, 100, api.ErrRange)
				refused(t, s, from, -1, api.ErrRange)
			}
		}
		if waiting == most {
			told(t, s, old(3), 100, api.Answer{Kind: busy})
			pulled(t, s, 0)
		}
		welcomed(t, s, old(3), 100, waiting, true) // the next conn, and the ticket was not spent
		issued(t, s, 50, ticketOf(7, 0, 0, 50))
	}
}

// TestWrongThings: numbers of a token and a ticket that are none are no error: they are as what is not there.
func TestWrongThings(t *testing.T) {
	for _, no := range append(slices.Clone(noTags), noTimes...) {
		h := api.Hello{Address: 5, Token: api.Token{Epoch: no, Address: no, Time: no, Tag: no}, Ticket: api.Ticket{Epoch: no, Number: no, Until: no, Tag: no}, Early: "x"}
		welcomed(t, crowd(t, 0), h, 100, 0, false)
		retried(t, crowd(t, 4), h, 100, tokenOf(7, 0, 5, 100))
		told(t, crowd(t, 8), h, 100, api.Answer{Kind: busy})
	}
}

// TestEdgesOfHello: the least and the greatest address and now.
func TestEdgesOfHello(t *testing.T) {
	for _, address := range []int{0, 1, last - 1, last} {
		for _, now := range []int{0, 1, maxTime - 1, maxTime} {
			s := made(t, 7, 50)
			h := api.Hello{Address: address, Ticket: ticketOf(7, 0, address, now), Early: "\x00"}
			welcomed(t, s, h, now, 0, true)
			welcomed(t, s, h, now, 1, false)
			welcomed(t, s, api.Hello{Address: address}, now, 2, false)
			welcomed(t, s, api.Hello{Address: address}, now, 3, false)
			h = api.Hello{Address: address}
			h.Token = tokenOf(7, 0, address, now)
			retried(t, s, api.Hello{Address: address}, now, h.Token)
			welcomed(t, s, h, now, 4, false)
		}
	}
}

// TestTheirOwn: no two Servers have anything of each other.
func TestTheirOwn(t *testing.T) {
	a, b := made(t, 7, 50), made(t, 7, 50)
	welcomed(t, a, old(3), 100, 0, true)
	issued(t, a, 50, ticketOf(7, 0, 0, 50))
	turned(t, a)
	waits(t, b, 0)
	nobody(t, b)
	welcomed(t, b, old(3), 100, 0, true)
	issued(t, b, 50, ticketOf(7, 0, 0, 50))
	crash(t, b)
	waits(t, a, 1)
	issued(t, a, 50, ticketOf(7, 1, 1, 50))
	pulled(t, a, 0)
	issued(t, b, 50, ticketOf(7, 0, 8, 50))
	c := made(t, 8, 50)
	welcomed(t, c, old(3), 100, 0, false) // of another seed it is not right
}

// model is another way to have the same: a plain list of who waits, and a map of what was spent, that no crash touches.
type model struct {
	seed, epoch, life  int
	told, next, behind int // the next conn, the next ticket, and up to where tickets are kept as told
	waiting            []int
	spent              map[int]int
}

func (m *model) right(epoch int) bool { return epoch == m.epoch || epoch == m.epoch-1 }

func (m *model) token(h api.Hello, now int) bool {
	k := h.Token
	return k != api.Token{} && k.Epoch >= 0 && m.right(k.Epoch) && k.Address == h.Address && k.Time >= 0 &&
		now >= k.Time && now <= k.Time+m.life && k == tokenOf(m.seed, k.Epoch, k.Address, k.Time)
}

func (m *model) old(h api.Hello, now int) bool {
	k := h.Ticket
	return k != api.Ticket{} && k.Epoch >= 0 && m.right(k.Epoch) && k.Number >= 0 && now <= k.Until &&
		k == ticketOf(m.seed, k.Epoch, k.Number, k.Until)
}

func (m *model) take(k api.Ticket, now int) bool {
	left := map[int]int{}
	for n, until := range m.spent {
		if until >= now {
			left[n] = until
		}
	}
	if _, ok := left[k.Number]; ok || len(left) == room {
		return false
	}
	left[k.Number] = k.Until
	m.spent = left
	return true
}

func (m *model) hello(h api.Hello, now int) (api.Answer, api.Errno) {
	many, old := len(m.waiting), m.old(h, now)
	switch {
	case h.Address < 0 || h.Address > last || now < 0 || now > maxTime:
		return api.Answer{}, api.ErrRange
	case many == most:
		return api.Answer{Kind: busy}, api.OK
	case many >= most/2 && !old && !m.token(h, now):
		return api.Answer{Kind: retry, Token: tokenOf(m.seed, m.epoch, h.Address, now)}, api.OK
	case m.told == conns:
		return api.Answer{}, api.ErrFull
	}
	a := api.Answer{Kind: welcome, Conn: api.Conn{Number: m.told}}
	m.waiting = append(m.waiting, m.told)
	m.told++
	a.Early = old && len(h.Early) >= 1 && len(h.Early) <= 40 && m.take(h.Ticket, now)
	return a, api.OK
}

func (m *model) ticket(until int) (api.Ticket, api.Errno) {
	if until < 0 || until > maxTime {
		return api.Ticket{}, api.ErrRange
	}
	if m.next == tickets {
		return api.Ticket{}, api.ErrFull
	}
	m.next++
	m.behind = (m.next + 7) / 8 * 8
	return ticketOf(m.seed, m.epoch, m.next-1, until), api.OK
}

func (m *model) turn() api.Errno {
	if m.epoch == maxEpoch {
		return api.ErrFull
	}
	m.epoch++
	return api.OK
}

func (m *model) pull() (api.Conn, api.Errno) {
	if len(m.waiting) == 0 {
		return api.Conn{}, api.ErrNone
	}
	first := m.waiting[0]
	m.waiting = m.waiting[1:]
	return api.Conn{Number: first}, api.OK
}

func (m *model) crash() { m.waiting, m.next = nil, m.behind }

// play has a Server and its model, and what was told so far, that may be shown.
type play struct {
	s      *Server
	m      *model
	r      *rand.Rand
	tokens []api.Token
	passes []api.Ticket
	seen   map[api.Errno]int
	kinds  [3]int
	early  [2]int
}

func (p *play) same(t *testing.T, deed string, got, want any, err error, errno api.Errno) {
	t.Helper()
	p.seen[errno]++
	if got != want || plain.Told(err) != errno {
		t.Fatalf("%s: got %+v, %v, want %+v, %v", deed, got, err, want, errno)
	}
}

// shown is what comes: mostly what was told, now and then forged.
func (p *play) shown() api.Hello {
	h := api.Hello{Address: p.r.Intn(4)}
	if len(p.tokens) > 0 && p.r.Intn(2) == 0 {
		h.Token = p.tokens[max(0, len(p.tokens)-1-p.r.Intn(4))]
		h.Address = h.Token.Address
	}
	if len(p.passes) > 0 && p.r.Intn(2) == 0 {
		h.Ticket = p.passes[max(0, len(p.passes)-1-p.r.Intn(24))]
	}
	switch p.r.Intn(20) {
	case 0:
		h.Token.Tag++
	case 1:
		h.Ticket.Tag--
	case 2:
		h.Address ^= 1
	case 3:
		h.Address = noTags[p.r.Intn(len(noTags))]
	}
	h.Early = strings.Repeat("e", []int{0, 1, 5, 40, 41}[p.r.Intn(5)])
	return h
}

func (p *play) hello(t *testing.T, now int) {
	t.Helper()
	h := p.shown()
	got, err := p.s.Hello(h, now)
	want, errno := p.m.hello(h, now)
	p.same(t, "Hello", got, want, err, errno)
	if errno != api.OK {
		return
	}
	p.kinds[want.Kind]++
	if want.Early {
		p.early[1]++
	} else if want.Kind == welcome && h.Early != "" {
		p.early[0]++
	}
	if want.Kind == retry {
		p.tokens = append(p.tokens, want.Token)
	}
}

func (p *play) ticket(t *testing.T, until int) {
	t.Helper()
	got, err := p.s.Ticket(until)
	want, errno := p.m.ticket(until)
	p.same(t, "Ticket", got, want, err, errno)
	if errno == api.OK {
		p.passes = append(p.passes, want)
	}
}

// step does one deed, at about that time.
func (p *play) step(t *testing.T, time int) {
	t.Helper()
	switch k := p.r.Intn(60); {
	case k < 30:
		p.hello(t, time+p.r.Intn(6)-p.r.Intn(3))
	case k < 42:
		got, err := p.s.Pull()
		want, errno := p.m.pull()
		p.same(t, "Pull", got, want, err, errno)
	case k < 57:
		p.ticket(t, time+p.r.Intn(60)-p.r.Intn(3))
	case k < 58:
		p.same(t, "Turn", nil, nil, p.s.Turn(), p.m.turn())
	case k < 59:
		p.s.Crash()
		p.m.crash()
	}
	waits(t, p.s, len(p.m.waiting))
}

// TestPlayedOn: long plays against the model; times go on slowly, and a little to and fro.
func TestPlayedOn(t *testing.T) {
	seen := map[api.Errno]int{}
	var kinds [3]int
	var early [2]int
	for n := range 40 {
		seed, life := n*25639%modulo, []int{0, 3, 10, maxTime}[n%4]
		p := &play{s: made(t, seed, life), m: &model{seed: seed, life: life}, r: rand.New(rand.NewSource(int64(n))), seen: seen}
		for i := range 4000 {
			p.step(t, i/(10+n))
		}
		for k := range kinds {
			kinds[k] += p.kinds[k]
		}
		early[0], early[1] = early[0]+p.early[0], early[1]+p.early[1]
	}
	for _, e := range []api.Errno{api.OK, api.ErrRange, api.ErrFull, api.ErrNone} {
		if seen[e] < 100 {
			t.Errorf("%v came %d times only: the play is too narrow", e, seen[e])
		}
	}
	for _, n := range append(kinds[:], early[:]...) {
		if n < 1000 {
			t.Errorf("kinds came %v times, early bytes were left and taken %v times: the play is too narrow", kinds, early)
		}
	}
}
