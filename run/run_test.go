package run

import (
	"errors"
	"math/rand"
	"regexp"
	"strconv"
	"strings"
	"sync"
	"testing"

	"tokenfold/api"
)

// The numbers are written out, so that no const of the program is trusted.
const (
	modulo   = 999983
	last     = 999982
	maxTime  = 100000
	maxEpoch = 100
	most     = 8    // that wait
	tickets  = 1000 // that there are numbers for
	longest  = 3000 // bytes of a text
	good     = 50   // how long a token is
)

// said is a line and its answer.
type said struct{ line, answer string }

// play answers a session's lines as one text, whether a byte 10 stands behind the last one or not.
func play(t *testing.T, session ...said) {
	t.Helper()
	var text, want strings.Builder
	for _, s := range session {
		text.WriteString(s.line + "\n")
		want.WriteString(s.answer + "\n")
	}
	is(t, text.String(), want.String())
	if n := len(session); n > 0 && session[n-1].line != "" {
		is(t, strings.TrimSuffix(text.String(), "\n"), want.String())
	}
}

// is: that is the answer to the text, and it is again.
func is(t *testing.T, text, want string) {
	t.Helper()
	for range 2 {
		got := Run(text)
		if got == want {
			continue
		}
		lines, gots, wants := strings.Split(text, "\n"), strings.Split(got, "\n"), strings.Split(want, "\n")
		for i := range min(len(gots), len(wants)) {
			if gots[i] != wants[i] {
				t.Fatalf("Run(%q), line %d, %q: got %q, want %q", text, i, lines[min(i, len(lines)-1)], gots[i], wants[i])
			}
		}
		t.Fatalf("Run(%q): got %q, want %q", text, got, want)
	}
}

// numberOf is that of the conn that is told behind so many others.
func numberOf(told int) string { return strconv.Itoa(told ^ 21845) }

func welcome(told int) string { return "welcome " + numberOf(told) }

// keyOf is the key of an epoch, by powers of 4099.
func keyOf(epoch int) int {
	key := 7
	for e := range epoch + 1 {
		key = (key*(4099*4099+1) + (e+1)*4099) % modulo
	}
	return key
}

// tagOf is chapter 1's tag of three numbers, by powers of 4099.
func tagOf(epoch, kind, a, b int) int {
	const (
		second = 4099 * 4099 % modulo
		third  = 4099 * second % modulo
		fourth = 4099 * third % modulo
	)
	key := keyOf(epoch)
	return (key*fourth + (kind+1)*third + (a+1)*second + (b+1)*4099 + key) % modulo
}

// four numbers and a blank between each.
func four(a, b, c, d int) string {
	return strconv.Itoa(a) + " " + strconv.Itoa(b) + " " + strconv.Itoa(c) + " " + strconv.Itoa(d)
}

// tokenOf is the token that is told in that epoch.
func tokenOf(epoch, address, time int) string {
	return four(epoch, address, time, tagOf(epoch, 1, address, time))
}

// ticketOf is the ticket that is told in that epoch.
func ticketOf(epoch, n, until int) string { return four(epoch, n, until, tagOf(epoch, 2, n, until)) }

// crowd of so many that wait, the conns from 0 on: the first ones just come, and the others show what they were told.
func crowd(waiting int) []said {
	var session []said
	for n := range waiting {
		line := "hello 1 100"
		if n >= 4 {
			line = "again 1 " + tokenOf(0, 1, 100) + " 100"
		}
		session = append(session, said{line, welcome(n)})
	}
	return session
}

// whole has a line of each kind that can be read, with numbers of several lengths.
func whole() []string {
	return []string{"hello 3 20", "again 1 0 1 100 534303 120", "ticket 57", "pull", "turn", "crash", "waiting"}
}

// TestNumbers: what these tests count by is what the document says.
func TestNumbers(t *testing.T) {
	if api.Modulo != modulo || api.MaxTime != maxTime || api.MaxEpoch != maxEpoch || api.MaxQueue != most || api.MaxRun != longest {
		t.Error("the numbers are others")
	}
}

// TestWritten: answers that were worked out apart from the program and from the rest of these tests.
func TestWritten(t *testing.T) {
	play(t, []said{
		{"waiting", "0"},
		{"pull", "ErrNone"},
		{"hello 77 100", "welcome 21845"},
		{"hello 0 0", "welcome 21844"},
		{"hello 999982 100000", "welcome 21847"},
		{"hello 77 100", "welcome 21846"},
		{"waiting", "4"},
		{"hello 77 100", "retry 0 77 100 622081"},
		{"again 77 0 77 100 622081 150", "welcome 21841"},
		{"hello 0 0", "retry 0 0 0 451506"},
		{"hello 999982 100000", "retry 0 999982 100000 556386"},
		{"ticket 100", "0 0 100 614529"},
		{"ticket 100", "0 1 100 416619"},
		{"turn", "ok"},
		{"hello 77 100", "retry 1 77 100 771620"},
		{"again 77 0 77 100 622081 100", "welcome 21840"},
		{"again 78 0 77 100 622081 100", "retry 1 78 100 573710"},
		{"again 77 1 77 100 771620 151", "retry 1 77 151 980669"},
		{"again 77 1 77 100 771620 150", "welcome 21843"},
		{"turn", "ok"},
		{"again 77 0 77 100 622081 100", "retry 2 77 100 416343"},
		{"again 77 1 77 100 771620 100", "welcome 21842"},
		{"hello 77 100", "busy"},
		{"pull", "21845"},
		{"pull", "21844"},
		{"waiting", "6"},
		{"crash", "ok"},
		{"waiting", "0"},
		{"pull", "ErrNone"},
		{"ticket 100000", "2 8 100000 322547"},
		{"hello 5 100", "welcome 21853"},
		{"ticket 100001", "ErrRange"},
		{"hello 999983 100", "ErrRange"},
		{"hello 77 100001", "ErrRange"},
		{"Waiting", "bad"},
	}...)
}

// TestCut: lines are cut at byte 10 alone; a last piece that is empty is none, and any other empty one is a line.
func TestCut(t *testing.T) {
	for _, c := range []struct{ text, want string }{
		{"", ""},
		{"\n", "bad\n"},
		{"\n\n", "bad\nbad\n"},
		{"waiting", "0\n"},
		{"waiting\n", "0\n"},
		{"waiting\n\n", "0\nbad\n"},
		{"waiting\n\n\n", "0\nbad\nbad\n"},
		{"\nwaiting", "bad\n0\n"},
		{"\n\nwaiting\n", "bad\nbad\n0\n"},
		{"waiting\nwaiting", "0\n0\n"},
		{"waiting\n\nwaiting\n", "0\nbad\n0\n"},
		{"hello 1 2\n\n\nwaiting\n\npull", "welcome 21845\nbad\nbad\n1\nbad\n21845\n"},
		{"waiting\r\nwaiting\r\n", "bad\nbad\n"},
		{"waiting\rwaiting", "bad\n"},
		{"waiting\r", "bad\n"},
		{"waiting\x00waiting\n", "bad\n"},
		{"waiting\vwaiting\fwaiting\u0085waiting\u2028waiting", "bad\n"},
		{" ", "bad\n"},
		{" \n ", "bad\nbad\n"},
		{"\x00", "bad\n"},
		{"\xff\n\xfe", "bad\nbad\n"},
		{"waiting\n\xff", "0\nbad\n"},
	} {
		is(t, c.text, c.want)
	}
}

// TestTooLong: a text of just as many bytes as may be, and of one more; also of very many.
func TestTooLong(t *testing.T) {
	is(t, strings.Repeat("\n", longest), strings.Repeat("bad\n", longest))
	is(t, strings.Repeat("\n", longest+1), "too long\n")
	is(t, strings.Repeat("x", longest), "bad\n")
	is(t, strings.Repeat("x", longest+1), "too long\n")
	is(t, strings.Repeat("waiting\n", longest/8), strings.Repeat("0\n", longest/8))
	is(t, strings.Repeat("waiting\n", longest/8)+"\n", "too long\n")
	is(t, strings.Repeat("é", longest/2), "bad\n")
	is(t, strings.Repeat("é", longest/2+1), "too long\n")
	for _, session := range []string{"hello 1 100\nticket 7\n", "waiting\nhello 1 100\nwaiting"} {
		for n := longest - 3; n <= longest+3; n++ {
			text := strings.Repeat("\n", n-len(session)) + session
			if n > longest {
				is(t, text, "too long\n")
				continue
			}
			is(t, text, (&model{}).run(text))
			is(t, strings.TrimSuffix(text, "\n"), (&model{}).run(text))
		}
	}
	for _, n := range []int{longest + 2, 2 * longest, 1 << 16, 1 << 20, 1<<20 + longest} {
		is(t, strings.Repeat("\n", n), "too long\n")
		is(t, "waiting\n"+strings.Repeat(" ", n), "too long\n")
	}
}

// TestWords: each line with one word too few and one too many, two blanks between, a blank ahead and one behind, and what is no blank between.
func TestWords(t *testing.T) {
	for _, line := range whole() {
		words := strings.Split(line, " ")
		wrong := []string{
			line + " 1", line + " 0", line + " x", line + " " + line, line + " " + words[0], // one too many, or more
			" " + line, line + " ", "  " + line, line + "  ", " " + line + " ", "\t" + line, line + "\t", line + "\r", line + "\x00", line + ".", line + ";",
			words[0] + words[0], "x" + line, line[1:], words[0][:len(words[0])-1],
			strings.ToUpper(line), strings.ToUpper(line[:1]) + line[1:],
			words[0] + "s" + line[len(words[0]):], words[0] + " ",
		}
		for i := range words {
			fewer := append(append([]string(nil), words[:i]...), words[i+1:]...)
			wrong = append(wrong, strings.Join(fewer, " "))
			for _, between := range []string{"  ", "   ", "\t", " \t", "", ",", "\u00a0", "\x00", "_"} {
				if i > 0 {
					wrong = append(wrong, strings.Join(words[:i], " ")+between+strings.Join(words[i:], " "))
				}
			}
		}
		for n := range 9 {
			if n != len(words)-1 {
				wrong = append(wrong, words[0]+strings.Repeat(" 1", n))
			}
		}
		for _, w := range wrong {
			if w != "waiting" {
				play(t, said{w, "bad"}, said{"waiting", "0"}, said{"hello 1 100", welcome(0)}, said{w, "bad"}, said{"waiting", "1"}, said{"ticket 9", ticketOf(0, 0, 9)})
			}
		}
	}
}

// TestOtherLines: words that are none, with as many numbers as others want.
func TestOtherLines(t *testing.T) {
	for _, word := range []string{"", "x", "0", "1", "ok", "bad", "retry", "welcome", "busy", "offer", "drop", "spend", "sync", "tickets", "Hello", "HELLO", "hellO", "heIlo", "Pull", "Turn", "Crash", "Waiting", "Ticket", "Again", "wаiting", "too long", "#", "-", "hello\x00"} {
		for n := range 8 {
			play(t, said{word + strings.Repeat(" 1", n), "bad"}, said{"waiting", "0"})
		}
	}
}

// withNumber is a line of each kind that wants numbers, with that one at each place.
func withNumber(n string) []string {
	lines := []string{"ticket " + n}
	for _, line := range []string{"hello 3 20", "again 3 0 3 20 7 20"} {
		words := strings.Split(line, " ")
		for i := 1; i < len(words); i++ {
			with := append([]string(nil), words...)
			with[i] = n
			lines = append(lines, strings.Join(with, " "))
		}
	}
	return lines
}

// TestNoNumbers: what is none, at each place of each line.
func TestNoNumbers(t *testing.T) {
	for _, n := range []string{
		"00", "01", "07", "000000", "012345", "0000001", "00000000", // a needless 0
		"+1", "-1", "+0", "-0", "--1", "-", "+", "1-", "1+", "-12345", "+12345", // a sign
		"1000000", "1234567", "9999999", "0999999", "1000001", "18446744073709551617", "9223372036854775807", "-9223372036854775808", strings.Repeat("9", 100), // seven digits, and more
		"x", "1x", "x1", "1x2", "0x1", "0b1", "0o1", "1e3", "1.0", "1.", ".5", "1,0", "1_000", "a", "f", "é", "١", "１", "²", "1\x00", "\x001", "\xff", "1\xff", "1\t", "\t1", "1\r", "/", ":", "1/", "1:", "NaN", "nil", // a byte that is no digit
		"", " ", // none
	} {
		for _, line := range withNumber(n) {
			play(t, said{line, "bad"}, said{"hello 3 20", welcome(0)}, said{line, "bad"}, said{"waiting", "1"}, said{"ticket 20", ticketOf(0, 0, 20)})
		}
	}
}

// TestNumbersRead: from one digit to six, at each place of each line.
func TestNumbersRead(t *testing.T) {
	for _, n := range []string{"0", "1", "5", "9", "10", "19", "90", "99", "100", "999", "1000", "9999", "10000", "65536", "99999", "100000", "100001", "123456", "900000", "999982", "999983", "999999"} {
		for _, line := range withNumber(n) {
			m := &model{}
			answer := m.answer(line)
			if answer == "bad" {
				t.Fatalf("%q: the model does not read it", line)
			}
			play(t, said{line, answer}, said{"waiting", m.answer("waiting")})
		}
	}
}

// TestEachByte: each byte put into each line of the table at each place, and put in another's stead, and each left out.
func TestEachByte(t *testing.T) {
	look := func(text string) {
		t.Helper()
		is(t, text, (&model{}).run(text))
	}
	for _, line := range whole() {
		for i := 0; i <= len(line); i++ {
			for b := range 256 {
				c := string([]byte{byte(b)})
				look(line[:i] + c + line[i:])
				if i < len(line) {
					look(line[:i] + c + line[i+1:])
				}
			}
			if i < len(line) {
				look(line[:i] + line[i+1:])
			}
			look(line[:i])
			look(line[i:])
		}
	}
}

// TestHello: where nobody waits, where many wait, and where as many wait as may.
func TestHello(t *testing.T) {
	for waiting := range most + 1 {
		for _, c := range []struct{ address, now int }{{0, 0}, {1, 100}, {1, 151}, {77, 100}, {last, maxTime}, {0, maxTime}, {last, 0}} {
			answer, behind := welcome(waiting), waiting+1
			if waiting >= 4 {
				answer, behind = "retry "+tokenOf(0, c.address, c.now), waiting
			}
			if waiting == most {
				answer = "busy"
			}
			line := "hello " + strconv.Itoa(c.address) + " " + strconv.Itoa(c.now)
			play(t, append(crowd(waiting), said{line, answer}, said{"waiting", strconv.Itoa(behind)})...)
		}
	}
}

// TestHelloRange: an address or a now that is none is told by its name, however many wait, and no conn goes by it.
func TestHelloRange(t *testing.T) {
	for waiting := range most + 1 {
		session := crowd(waiting)
		for _, line := range []string{"hello 999983 100", "hello 999999 100", "hello 1 100001", "hello 1 999999", "hello 999983 100001"} {
			session = append(session, said{line, "ErrRange"}, said{"waiting", strconv.Itoa(waiting)})
		}
		for _, line := range []string{"again 999983 0 999983 100 1 100", "again 999999 0 1 100 534303 100", "again 1 " + tokenOf(0, 1, 100) + " 100001", "again 1 " + tokenOf(0, 1, maxTime) + " 999999"} {
			session = append(session, said{line, "ErrRange"}, said{"waiting", strconv.Itoa(waiting)})
		}
		play(t, append(session, said{"crash", "ok"}, said{"hello 1 100", welcome(waiting)})...)
	}
}

// TestAgain: the token that was told, in time and behind it, by another address, and one that was never told; with the answer where so many wait that a token is asked for.
func TestAgain(t *testing.T) {
	told := tokenOf(0, 5, 100)
	for waiting := range most + 1 {
		for _, c := range []struct {
			token, address, now string
			right               bool
		}{
			{told, "5", "100", true},
			{told, "5", "101", true},
			{told, "5", "149", true},
			{told, "5", "150", true},
			{told, "5", "151", false},
			{told, "5", "99", false},
			{told, "5", "0", false},
			{told, "5", "100000", false},
			{told, "6", "100", false},
			{told, "0", "100", false},
			{told, "999982", "100", false},
			{tokenOf(0, 6, 100), "6", "100", true}, // it is right, though nobody was told it
			{tokenOf(0, 0, 0), "0", "50", true},
			{tokenOf(0, last, maxTime), "999982", "100000", true},
			{tokenOf(1, 5, 100), "5", "100", false}, // of an epoch that is yet to come
			{four(0, 5, 100, tagOf(0, 1, 5, 100)+1), "5", "100", false},
			{four(0, 5, 101, tagOf(0, 1, 5, 100)), "5", "110", false},
			{four(0, 6, 100, tagOf(0, 1, 5, 100)), "6", "100", false},
			{four(1, 5, 100, tagOf(0, 1, 5, 100)), "5", "100", false},
			{four(100, 5, 100, tagOf(0, 1, 5, 100)), "5", "100", false},
			{four(0, 100, 5, tagOf(0, 1, 5, 100)), "5", "100", false}, // its numbers in another row
			{four(5, 100, 0, tagOf(0, 1, 5, 100)), "5", "100", false},
			{ticketOf(0, 5, 100), "5", "100", false},
			{"0 0 0 0", "0", "0", false},
			{"0 5 100 0", "5", "100", false},
			{"101 5 100 0", "5", "100", false}, // numbers that are none of a token
			{"0 999983 100 0", "5", "100", false},
			{"0 5 100001 0", "5", "100", false},
			{"0 5 100 999983", "5", "100", false},
			{"999999 999999 999999 999999", "5", "100", false},
		} {
			address, _ := strconv.Atoi(c.address)
			now, _ := strconv.Atoi(c.now)
			answer, behind := welcome(waiting), waiting+1
			switch {
			case waiting == most:
				answer, behind = "busy", waiting
			case waiting >= 4 && !c.right:
				answer, behind = "retry "+tokenOf(0, address, now), waiting
			}
			line := "again " + c.address + " " + c.token + " " + c.now
			play(t, append(crowd(waiting), said{line, answer}, said{"waiting", strconv.Itoa(behind)})...)
		}
	}
}

// TestRetryThenWelcome: what Retry told is shown, and more than once; it is good for 50, and no more.
func TestRetryThenWelcome(t *testing.T) {
	for _, time := range []int{0, 7, 100, maxTime - good} {
		session := append(crowd(4), said{"hello 5 " + strconv.Itoa(time), "retry " + tokenOf(0, 5, time)})
		for n, later := range []int{0, 1, good - 1, good} {
			line := "again 5 " + tokenOf(0, 5, time) + " " + strconv.Itoa(time+later)
			session = append(session, said{line, welcome(4 + n)}, said{"pull", numberOf(n)})
		}
		if late := time + good + 1; late <= maxTime {
			session = append(session, said{"again 5 " + tokenOf(0, 5, time) + " " + strconv.Itoa(late), "retry " + tokenOf(0, 5, late)})
		}
		if time > 0 {
			session = append(session, said{"again 5 " + tokenOf(0, 5, time) + " " + strconv.Itoa(time-1), "retry " + tokenOf(0, 5, time-1)})
		}
		play(t, session...)
	}
}

// TestNoughts: a token of noughts alone is none, and is no fault.
func TestNoughts(t *testing.T) {
	for waiting := range most + 1 {
		m := &model{}
		session := crowd(waiting)
		for _, s := range session {
			m.answer(s.line)
		}
		for _, line := range []string{"again 0 0 0 0 0 0", "again 1 0 0 0 0 100", "again 999982 0 0 0 0 100000", "again 999983 0 0 0 0 100", "again 1 0 0 0 0 100001"} {
			session = append(session, said{line, m.answer(line)})
		}
		play(t, session...)
	}
}

// TestTicket: untils at their edges, the numbers one by one, and behind turns and crashes.
func TestTicket(t *testing.T) {
	play(t,
		said{"ticket 0", ticketOf(0, 0, 0)},
		said{"ticket 100000", ticketOf(0, 1, maxTime)},
		said{"ticket 100001", "ErrRange"},
		said{"ticket 999999", "ErrRange"},
		said{"ticket", "bad"},
		said{"ticket 1 1", "bad"},
		said{"ticket 33", ticketOf(0, 2, 33)},
		said{"turn", "ok"},
		said{"ticket 33", ticketOf(1, 3, 33)},
		said{"crash", "ok"},
		said{"ticket 33", ticketOf(1, 8, 33)},
		said{"turn", "ok"},
		said{"ticket 33", ticketOf(2, 9, 33)},
		said{"crash", "ok"},
		said{"crash", "ok"},
		said{"ticket 100001", "ErrRange"},
		said{"crash", "ok"},
		said{"ticket 33", ticketOf(2, 16, 33)},
	)
	var session []said
	for n := range 20 {
		session = append(session, said{"ticket 57", ticketOf(0, n, 57)}, said{"waiting", "0"})
	}
	play(t, session...)
}

// TestTicketFull: once there is no number any more it is ErrFull, and behind ErrRange.
func TestTicketFull(t *testing.T) {
	session := []said{{"crash", "ok"}}
	for n := 0; n < tickets; n += 8 {
		session = append(session, said{"ticket 7", ticketOf(0, n, 7)})
		if n < tickets-8 {
			session = append(session, said{"crash", "ok"})
		}
	}
	for n := tickets - 7; n < tickets; n++ {
		session = append(session, said{"ticket 0", ticketOf(0, n, 0)})
	}
	play(t, append(session,
		said{"ticket 7", "ErrFull"}, said{"ticket 100001", "ErrRange"}, said{"ticket 0", "ErrFull"},
		said{"crash", "ok"}, said{"turn", "ok"}, said{"ticket 7", "ErrFull"}, said{"hello 1 1", welcome(0)},
	)...)
}

// TestTurn: as often as may be, and once more; a token outlives one turn, and not two.
func TestTurn(t *testing.T) {
	session := crowd(4)
	for epoch := range maxEpoch {
		session = append(session, said{"turn", "ok"})
		if epoch%25 == 24 {
			session = append(session, said{"hello 5 100", "retry " + tokenOf(epoch+1, 5, 100)})
		}
	}
	session = append(session,
		said{"turn", "ErrFull"}, said{"turn", "ErrFull"},
		said{"hello 5 100", "retry " + tokenOf(maxEpoch, 5, 100)}, said{"crash", "ok"}, said{"turn", "ErrFull"},
		said{"ticket 9", ticketOf(maxEpoch, 0, 9)}, said{"hello 5 100", welcome(4)},
	)
	play(t, session...)
	for epoch := range 8 {
		session := crowd(4)
		for range epoch {
			session = append(session, said{"turn", "ok"})
		}
		again := "again 5 " + tokenOf(epoch, 5, 100) + " 100"
		play(t, append(session,
			said{again, welcome(4)}, said{"turn", "ok"},
			said{again, welcome(5)}, said{"turn", "ok"},
			said{again, "retry " + tokenOf(epoch+2, 5, 100)}, said{"turn", "ok"},
			said{again, "retry " + tokenOf(epoch+3, 5, 100)}, said{"waiting", "6"},
		)...)
	}
}

// TestPull: who came first is first, till nobody waits; a conn that went is not told again.
func TestPull(t *testing.T) {
	for waiting := range most + 1 {
		session := crowd(waiting)
		for n := range waiting {
			session = append(session, said{"pull", numberOf(n)}, said{"waiting", strconv.Itoa(waiting - n - 1)})
		}
		play(t, append(session,
			said{"pull", "ErrNone"}, said{"pull", "ErrNone"}, said{"waiting", "0"},
			said{"hello 1 100", welcome(waiting)}, said{"pull", numberOf(waiting)}, said{"pull", "ErrNone"},
		)...)
	}
}

// TestBehindTurn: a turn leaves who waits, and the numbers of tickets.
func TestBehindTurn(t *testing.T) {
	for waiting := range most + 1 {
		session := append(crowd(waiting), said{"ticket 9", ticketOf(0, 0, 9)}, said{"turn", "ok"}, said{"waiting", strconv.Itoa(waiting)}, said{"ticket 9", ticketOf(1, 1, 9)})
		if waiting > 0 {
			play(t, append(session, said{"pull", numberOf(0)}, said{"waiting", strconv.Itoa(waiting - 1)})...)
			continue
		}
		play(t, append(session, said{"pull", "ErrNone"}, said{"waiting", "0"})...)
	}
}

// TestBehindCrash: a crash leaves nobody who waits; the epoch, and which conns and tickets were told, are known.
func TestBehindCrash(t *testing.T) {
	for waiting := range most + 1 {
		play(t, append(crowd(waiting),
			said{"ticket 9", ticketOf(0, 0, 9)}, said{"turn", "ok"}, said{"crash", "ok"},
			said{"waiting", "0"}, said{"pull", "ErrNone"}, said{"ticket 9", ticketOf(1, 8, 9)},
			said{"hello 1 100", welcome(waiting)}, said{"waiting", "1"}, said{"pull", numberOf(waiting)}, said{"pull", "ErrNone"},
			said{"crash", "ok"}, said{"crash", "ok"}, said{"waiting", "0"}, said{"hello 1 100", welcome(waiting + 1)}, said{"crash", "ok"},
			said{"hello 1 100", welcome(waiting + 2)}, said{"hello 1 100", welcome(waiting + 3)}, said{"hello 1 100", welcome(waiting + 4)}, said{"hello 1 100", welcome(waiting + 5)},
			said{"again 5 " + tokenOf(0, 5, 100) + " 100", welcome(waiting + 6)}, said{"hello 5 100", "retry " + tokenOf(1, 5, 100)}, said{"ticket 9", ticketOf(1, 16, 9)},
		)...)
	}
}

// TestManyConns: each has another number, as far as a text goes.
func TestManyConns(t *testing.T) {
	session := []said{}
	for n := range 170 {
		session = append(session, said{"hello 0 0", welcome(n)}, said{"pull", numberOf(n)})
	}
	play(t, session...)
}

// TestNames: an error is told by its name, also where it stands behind another; what is no Errno has none.
func TestNames(t *testing.T) {
	for e, name := range []string{"OK", "ErrRange", "ErrSyntax", "ErrShape", "ErrFull", "ErrNone", "ErrState", "ErrClash", "ErrSeal", "ErrLate"} {
		if got := told(api.Errno(e)); e > 0 && got != name {
			t.Errorf("told(%d): got %q, want %q", e, got, name)
		}
		if got := told(wrapped{api.Errno(e)}); e > 0 && got != name {
			t.Errorf("told of what wraps %d: got %q, want %q", e, got, name)
		}
	}
	for _, err := range []error{unread{api.ErrSyntax}, wrapped{unread{api.ErrSyntax}}, errors.New("ErrRange")} {
		if got := told(err); got != "bad" {
			t.Errorf("told(%v): got %q, want bad", err, got)
		}
	}
}

type wrapped struct{ error }

func (w wrapped) Unwrap() error { return w.error }

// TestLines: they may be gone over again, and left ahead of the end.
func TestLines(t *testing.T) {
	seq := lines("a\n\nb\nc")
	for range 2 {
		var got []string
		for line := range seq {
			got = append(got, line)
		}
		if strings.Join(got, ",") != "a,,b,c" {
			t.Errorf("got %q", got)
		}
	}
	for line := range seq {
		if line == "a" {
			continue
		}
		if line != "" {
			t.Errorf("got %q behind the end", line)
		}
		break
	}
}

// TestTheirOwn: no text is told of another, though they run at one time.
func TestTheirOwn(t *testing.T) {
	var group sync.WaitGroup
	for n := range 16 {
		group.Go(func() {
			r := rand.New(rand.NewSource(int64(n)))
			for range 20 {
				p := &player{r: r, m: &model{}}
				text, want := p.session()
				if got := Run(text); got != want {
					t.Errorf("Run(%q): got %q, want %q", text, got, want)
				}
			}
		})
	}
	group.Wait()
}

// model is what the chapters say, worked out in another way: lines are read by a pattern, and tags are by powers of 4099.
type model struct {
	epoch, told  int
	next, behind int // the number of the next ticket, and that of the next one behind a crash
	waiting      []int
}

const numeral = " (0|[1-9][0-9]{0,5})"

var pattern = regexp.MustCompile(`\A(?:(hello)` + strings.Repeat(numeral, 2) + `|(again)` + strings.Repeat(numeral, 6) + `|(ticket)` + numeral + `|(pull|turn|crash|waiting))\z`)

// run answers a text that is not too long.
func (m *model) run(text string) string {
	if strings.HasSuffix(text, "\n") {
		text = text[:len(text)-1]
	} else if text == "" {
		return ""
	}
	var answers strings.Builder
	for _, line := range strings.Split(text, "\n") {
		answers.WriteString(m.answer(line) + "\n")
	}
	return answers.String()
}

func (m *model) answer(line string) string {
	found := pattern.FindStringSubmatch(line)
	if found == nil {
		return "bad"
	}
	var words []string
	for _, f := range found[1:] {
		if f != "" {
			words = append(words, f)
		}
	}
	var n []int
	for _, w := range words[1:] {
		i, _ := strconv.Atoi(w)
		n = append(n, i)
	}
	switch words[0] {
	case "hello":
		return m.hello(n[0], [4]int{}, n[1])
	case "again":
		return m.hello(n[0], [4]int(n[1:5]), n[5])
	case "ticket":
		return m.ticket(n[0])
	case "pull":
		return m.pull()
	case "turn":
		return m.turn()
	case "crash":
		m.waiting, m.next = nil, m.behind
		return "ok"
	}
	return strconv.Itoa(len(m.waiting))
}

func (m *model) hello(address int, token [4]int, now int) string {
	switch n := len(m.waiting); {
	case address > last || now > maxTime:
		return "ErrRange"
	case n == most:
		return "busy"
	case n >= most/2 && !m.right(address, token, now):
		return "retry " + tokenOf(m.epoch, address, now)
	}
	m.waiting = append(m.waiting, m.told)
	m.told++
	return welcome(m.told - 1)
}

// right: is it one that was, or would be, told to that address, now or up to 50 earlier, in this epoch or the last one?
func (m *model) right(address int, token [4]int, now int) bool {
	if token == [4]int{} || token[1] != address || token[2] > now || token[2]+good < now {
		return false
	}
	e := token[0]
	return (e == m.epoch || e == m.epoch-1) && token[3] == tagOf(e, 1, address, token[2])
}

func (m *model) ticket(until int) string {
	if until > maxTime {
		return "ErrRange"
	}
	if m.next == tickets {
		return "ErrFull"
	}
	m.next++
	m.behind = (m.next + 7) / 8 * 8
	return ticketOf(m.epoch, m.next-1, until)
}

func (m *model) pull() string {
	if len(m.waiting) == 0 {
		return "ErrNone"
	}
	first := m.waiting[0]
	m.waiting = m.waiting[1:]
	return numberOf(first)
}

func (m *model) turn() string {
	if m.epoch == maxEpoch {
		return "ErrFull"
	}
	m.epoch++
	return "ok"
}

// player makes sessions up, and shows what was told in them.
type player struct {
	r       *rand.Rand
	m       *model
	tokens  []string // each with the address it is for
	kinds   [12]int  // how often each kind of line may come
	time    int
	answers map[string]int
}

// session is a text as long as may be, and what the model answers to it.
func (p *player) session() (string, string) {
	for i := range p.kinds {
		p.kinds[i] = p.r.Intn(8)
	}
	if p.r.Intn(20) == 0 {
		p.kinds[8] = 100 // else hardly any session would get to the last epoch
	}
	var text, want strings.Builder
	for {
		line := p.line()
		if text.Len()+len(line)+1 > longest {
			return text.String(), want.String()
		}
		answer := p.m.answer(line)
		if token, found := strings.CutPrefix(answer, "retry "); found {
			p.tokens = append(p.tokens, strings.Split(token, " ")[1]+" "+token)
		}
		if p.answers != nil {
			p.answers[p.kind(line, answer)]++
		}
		text.WriteString(line + "\n")
		want.WriteString(answer + "\n")
	}
}

// kind of a line with its answer: its words that are no numbers.
func (p *player) kind(line, answer string) string {
	if answer == "bad" {
		return answer
	}
	line, _, _ = strings.Cut(line, " ")
	answer, _, _ = strings.Cut(answer, " ")
	if answer[0] <= '9' {
		return line
	}
	return line + " " + answer
}

// line that comes next: now and then with a byte that is none of its own.
func (p *player) line() string {
	p.time += p.r.Intn(4)
	line := p.whole()
	if p.r.Intn(40) > 0 {
		return line
	}
	i := p.r.Intn(len(line))
	b := []byte(line)
	b[i] = " 0123456789xH\t\r-+"[p.r.Intn(17)]
	return string(b)
}

// whole line that can be read.
func (p *player) whole() string {
	sum := 1
	for _, k := range p.kinds {
		sum += k
	}
	at := p.r.Intn(sum)
	kind := 0
	for kind < len(p.kinds)-1 && at >= p.kinds[kind] {
		at -= p.kinds[kind]
		kind++
	}
	now := strconv.Itoa(p.time)
	switch kind {
	case 0, 1, 2:
		return "hello " + strconv.Itoa(p.r.Intn(5)) + " " + now
	case 3, 4, 5:
		return p.again(now)
	case 6:
		return "ticket " + strconv.Itoa(p.time+p.r.Intn(50))
	case 7:
		return "pull"
	case 8:
		return "turn"
	case 9:
		return "crash"
	case 10:
		return "waiting"
	}
	return []string{"hello 999983 " + now, "hello 1 100001", "ticket 100001", "again 1 0 0 0 0 " + now, "again 1 0 1 0 1 100001"}[p.r.Intn(5)]
}

// again with what was told: mostly one of the last.
func (p *player) again(now string) string {
	if len(p.tokens) == 0 {
		return "again 3 0 3 0 7 " + now
	}
	token := p.tokens[max(0, len(p.tokens)-1-p.r.Intn(5))]
	if p.r.Intn(10) == 0 {
		_, token, _ = strings.Cut(token, " ")
		token = strconv.Itoa(p.r.Intn(5)) + " " + token
	}
	return "again " + token + " " + now
}

// TestPlayedOn: long sessions against the model.
func TestPlayedOn(t *testing.T) {
	seen := map[string]int{}
	for n := range 1500 {
		p := &player{r: rand.New(rand.NewSource(int64(n))), m: &model{}, answers: seen}
		text, want := p.session()
		is(t, text, want)
	}
	for _, kind := range []string{"hello retry", "hello welcome", "hello busy", "hello ErrRange", "again retry", "again welcome", "again busy", "again ErrRange", "ticket", "ticket ErrRange", "pull", "pull ErrNone", "turn ok", "turn ErrFull", "crash ok", "waiting", "bad"} {
		if seen[kind] < 20 {
			t.Errorf("%s came %d times only: the play is too narrow", kind, seen[kind])
		}
	}
}

// TestBeginnings: the answers to the first lines, and to a text that is cut within one, are the beginning of the answers to all.
func TestBeginnings(t *testing.T) {
	for n := range 20 {
		p := &player{r: rand.New(rand.NewSource(int64(n + 7000))), m: &model{}}
		text, _ := p.session()
		all := strings.SplitAfter(Run(text), "\n")
		if count := strings.Count(text, "\n"); len(all) != count+1 || all[count] != "" {
			t.Fatalf("Run(%q): %d lines, %d answers", text, count, len(all)-1)
		}
		for cut := range len(text) + 1 {
			got := strings.SplitAfter(Run(text[:cut]), "\n")
			first := strings.Count(text[:cut], "\n")
			begun := 0
			if cut > 0 && text[cut-1] != '\n' {
				begun = 1
			}
			if len(got) != first+begun+1 || got[first+begun] != "" {
				t.Fatalf("Run(%q): %d lines, %d answers", text[:cut], first+begun, len(got)-1)
			}
			if strings.Join(got[:first], "") != strings.Join(all[:first], "") {
				t.Fatalf("Run(%q): got %q, want %q", text[:cut], got[:first], all[:first])
			}
		}
	}
}

// TestMoreLines: what stands behind changes no answer ahead of it, whatever it is, as long as all are not too long.
func TestMoreLines(t *testing.T) {
	first := "hello 1 100\nhello 2 100\nticket 9\nturn\n"
	want := Run(first)
	for _, more := range []string{"", "x", "\n", "crash\n", "crash", "turn\nturn\nticket 9\n", "pull\npull\npull", "again 1 0 0 0 0 1\n", "\x00\xff", strings.Repeat("\n", longest-len(first)), strings.Repeat("crash\n", 490)} {
		if got := Run(first + more); !strings.HasPrefix(got, want) {
			t.Errorf("Run(%q): got %q, which does not begin with %q", first+more, got, want)
		}
	}
	is(t, first+strings.Repeat("\n", longest-len(first)+1), "too long\n")
}
