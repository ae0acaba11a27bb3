package server

import (
	"slices"
	"strings"
	"testing"

	"fenestra/api"
	"fenestra/draw"
	"fenestra/grid"
	"fenestra/paint"
	"fenestra/parse"
)

// terminal is what a client has at hand: it shows what its bytes tell, however they come.
type terminal struct {
	parser api.Parser
	screen api.Grid
}

// newTerminal is one that was used before: letters and colours are on it, an ink is taken, few rows scroll.
func newTerminal(wide, high int) *terminal {
	g := grid.New(wide, high)
	for i := range g.Cells {
		g.Cells[i] = []api.Cell{{Ch: 'o'}, {Pic: 3}, {}, {Ch: 'd', Ink: 5, Bold: true}}[i%4]
	}
	g.Row, g.Col, g.Ink, g.Bold = high-1, wide, 3, true
	g.Top, g.Bottom = high/2, high/2+1
	return &terminal{screen: g}
}

func (x *terminal) feed(t *testing.T, text string) {
	t.Helper()
	p, told, err := parse.Feed(x.parser, text)
	if err != api.OK {
		t.Fatal(err)
	}
	g, err := grid.All(x.screen, told)
	if err != api.OK {
		t.Fatal(err)
	}
	x.parser, x.screen = p, g
}

// takes drains bytes of a client into its terminal, and holds the reply against P6.5; it is how many.
func takes(t *testing.T, s *Server, i int, x *terminal, n int) int {
	t.Helper()
	waiting, lost, _ := s.Client(i)
	r := s.Do(drain(i, n))
	rest, lostStill, here := s.Client(i)
	if r.Code != api.OK || r.N != len(r.Out) || r.N != max(0, min(n, len(waiting))) || r.Out+rest != waiting || lostStill != lost || !here {
		t.Fatalf("a drain of %d of %q: %+v, and %q, %v, %v", n, waiting, r, rest, lostStill, here)
	}
	x.feed(t, r.Out)
	return r.N
}

func looksLike(a, b api.Grid) bool {
	return a.Wide == b.Wide && a.High == b.High && slices.Equal(a.Cells, b.Cells) && a.Row == b.Row && a.Col == b.Col
}

// showsAll asks that nothing of a client is lost, and that its terminal, as soon as it has all that waits, shows what there is to see.
func showsAll(t *testing.T, s *Server, i int, x *terminal) {
	t.Helper()
	waiting, lost, here := s.Client(i)
	if lost || !here || len(waiting) > api.MaxQueue {
		t.Fatalf("client %d: %d bytes, %v, %v", i, len(waiting), lost, here)
	}
	ahead := *x
	ahead.feed(t, waiting)
	if want := paint.Screen(s.View(), x.screen.Wide, x.screen.High); !looksLike(ahead.screen, want) || ahead.parser.At != api.Ground {
		t.Fatalf("client %d, behind %q: %+v, at %d; wanted %+v", i, waiting, ahead.screen, ahead.parser.At, want)
	}
}

// P6.5: ActAttach: it is here, nothing waits, something was lost; at the smallest and the greatest sides, and all others.
func TestAttach(t *testing.T) {
	for i := range api.Clients {
		for wide := 1; wide <= api.MaxWide; wide++ {
			s := New()
			for high := 1; high <= api.MaxHigh; high++ {
				if r := s.Do(attach(i, wide, high)); r != (api.Reply{}) {
					t.Errorf("%+v", r)
				}
				if waiting, lost, here := s.Client(i); waiting != "" || !lost || !here {
					t.Errorf("%q, %v, %v", waiting, lost, here)
				}
				isNotHere(t, s, (i+1)%3)
				x := newTerminal(wide, high)
				did(t, s, tick())
				showsAll(t, s, i, x)
				did(t, s, output(0, "more"), tick())
				showsAll(t, s, i, x)
				did(t, s, detach(i))
			}
		}
	}
}

// P6.5: ActAttach changes nothing that is to be seen, and nothing of others.
func TestAttachAlone(t *testing.T) {
	s, twin := busy(t), busy(t)
	did(t, s, detach(1), attach(1, 24, 10))
	for _, i := range []int{0, 2} {
		waiting, lost, here := s.Client(i)
		if w, l, h := twin.Client(i); waiting != w || lost != l || here != h {
			t.Errorf("client %d: %q, %v, %v", i, waiting, lost, here)
		}
	}
	if !sameView(s.View(), twin.View()) {
		t.Errorf("%+v", s.View())
	}
}

// P6.5: ActAttach: no client's number, one that is here, sides out of range, in this order.
func TestAttachRefuses(t *testing.T) {
	s := after(t, attach(1, 5, 5), tick())
	for _, i := range append(oddNumbers, 3, 4, 5, 6) {
		refused(t, s, attach(i, 5, 5), api.ErrNone)
		refused(t, s, attach(i, 0, 0), api.ErrNone)
	}
	refused(t, s, attach(1, 5, 5), api.ErrTwice)
	refused(t, s, attach(1, 6, 6), api.ErrTwice)
	refused(t, s, attach(1, 0, 99), api.ErrTwice)
	for _, n := range append(oddNumbers, 0, 25) {
		refused(t, s, attach(0, n, 1), api.ErrRange)
		refused(t, s, attach(0, n, 10), api.ErrRange)
		refused(t, s, attach(2, 1, n), api.ErrRange)
		refused(t, s, attach(2, 24, n), api.ErrRange)
		refused(t, s, attach(2, n, n), api.ErrRange)
	}
	refused(t, s, attach(0, 24, 11), api.ErrRange)
	refused(t, s, attach(0, 25, 10), api.ErrRange)
	did(t, s, attach(0, 24, 10), attach(2, 1, 1))
}

// P6.5: ActDetach: it is gone with all that waited; when it comes again, it begins anew, with other sides.
func TestDetach(t *testing.T) {
	s := after(t, attach(0, 9, 4), attach(1, 9, 4), tick(), drain(1, 4000), output(0, "x"), tick())
	want, _, _ := s.Client(1)
	if r := s.Do(detach(0)); r != (api.Reply{}) {
		t.Errorf("%+v", r)
	}
	isNotHere(t, s, 0)
	if waiting, lost, here := s.Client(1); waiting != want || lost || !here {
		t.Errorf("%q, %v, %v", waiting, lost, here)
	}
	refused(t, s, detach(0), api.ErrNone)
	refused(t, s, drain(0, 1), api.ErrNone)
	did(t, s, attach(0, 24, 10))
	if waiting, lost, here := s.Client(0); waiting != "" || !lost || !here {
		t.Errorf("%q, %v, %v", waiting, lost, here)
	}
	did(t, s, tick())
	showsAll(t, s, 0, newTerminal(24, 10))
}

// P6.5: ActDetach, ActDrain: clients that are not here, or no numbers of such.
func TestDetachAndDrainRefuse(t *testing.T) {
	s := after(t, attach(1, 9, 4), tick())
	for _, i := range append(oddNumbers, 0, 2, 3, 4, 6) {
		refused(t, s, detach(i), api.ErrNone)
		for _, n := range []int{-1, 0, 1, 4000} {
			refused(t, s, drain(i, n), api.ErrNone)
		}
	}
}

// P6.5: ActDrain: below 0, of 0, of some, of all, of more than waits.
func TestDrain(t *testing.T) {
	s := after(t, attach(0, 9, 4), attach(1, 9, 4), tick())
	all, _, _ := s.Client(0)
	for _, n := range append(oddNumbers, 0, 1, 2, len(all)-1, len(all), len(all)+1, api.MaxQueue, api.MaxQueue+1) {
		s := after(t, attach(0, 9, 4), attach(1, 9, 4), tick())
		taken := n
		if n < 0 {
			taken = 0
		} else if n > len(all) {
			taken = len(all)
		}
		if r := s.Do(drain(0, n)); r != (api.Reply{N: taken, Out: all[:taken]}) {
			t.Errorf("%d of %q: %+v", n, all, r)
		}
		if rest, lost, here := s.Client(0); rest != all[taken:] || lost || !here {
			t.Errorf("%d of %q: %q, %v, %v", n, all, rest, lost, here)
		}
		if other, _, _ := s.Client(1); other != all {
			t.Errorf("%d of %q: another has %q", n, all, other)
		}
	}
}

// P6.5: ActDrain: where nothing waits, also of a client of which something was lost.
func TestDrainNothing(t *testing.T) {
	s := after(t, attach(0, 9, 4))
	for _, n := range append(oddNumbers, 0, 1, 4000) {
		if r := s.Do(drain(0, n)); r != (api.Reply{}) {
			t.Errorf("%d: %+v", n, r)
		}
	}
	if waiting, lost, here := s.Client(0); waiting != "" || !lost || !here {
		t.Errorf("%q, %v, %v", waiting, lost, here)
	}
}

// P6.5: piece by piece, of each length, all of it comes, in its order.
func TestDrainPieces(t *testing.T) {
	for piece := 1; piece <= 40; piece++ {
		s := after(t, attach(2, 9, 4), tick(), output(0, "hello"), tick())
		want, _, _ := s.Client(2)
		var got strings.Builder
		for {
			r := s.Do(drain(2, piece))
			if r.N == 0 {
				break
			}
			got.WriteString(r.Out)
		}
		if got.String() != want {
			t.Errorf("pieces of %d: %q; wanted %q", piece, got.String(), want)
		}
	}
}

// P6.6: a client that comes is shown all anew, then what is other than what it shows; each by the bytes of chapter 5.
func TestTick(t *testing.T) {
	s := after(t, split(0, 1), output(0, "hello \x1b[31mred"))
	sides := [api.Clients][2]int{{24, 10}, {1, 1}, {12, 4}}
	var shown [api.Clients]api.Grid
	var want [api.Clients]string
	for i, side := range sides {
		did(t, s, attach(i, side[0], side[1]))
		want[i], shown[i], _ = draw.Anew(paint.Screen(s.View(), side[0], side[1]))
	}
	did(t, s, tick())
	for _, a := range []api.Act{output(1, "picture \x1bPabc-def\x1b\\"), focus(0), output(0, "\x1b["), split(1, 0), resize(15, 6), tick(), kill(0), output(2, "\n\n\n\nend")} {
		for i := range sides {
			if waiting, lost, here := s.Client(i); waiting != want[i] || lost || !here {
				t.Fatalf("client %d: %q, %v, %v; wanted %q", i, waiting, lost, here, want[i])
			}
		}
		did(t, s, a)
		if r := s.Do(tick()); r != (api.Reply{}) {
			t.Errorf("%+v", r)
		}
		for i, side := range sides {
			more, next, err := draw.Turn(shown[i], paint.Screen(s.View(), side[0], side[1]))
			if err != api.OK {
				t.Fatal(err)
			}
			want[i] += more
			shown[i] = next
		}
	}
}

// P6.6: where nothing is other, nothing is sent; a tick changes nothing of the panes.
func TestTickNothing(t *testing.T) {
	s := after(t, split(0, 1), attach(0, 24, 8), attach(1, 3, 3), output(0, "x\x1b["), tick())
	was := whole(s)
	for range 20 {
		did(t, s, tick())
	}
	did(t, s, output(0, "999"), output(1, "\x1b"), output(1, "\x07"), tick())
	for i := range 2 {
		if waiting, lost, _ := s.Client(i); waiting != was.clients[i].waiting || lost {
			t.Errorf("client %d: %q, %v", i, waiting, lost)
		}
	}
	if !sameView(s.View(), was.view) {
		t.Errorf("%+v", s.View())
	}
	did(t, New(), tick(), tick())
}

// P6.6: between ticks nothing is sent, whatever is done.
func TestOnlyTicksSend(t *testing.T) {
	s := after(t, attach(0, 24, 8), tick(), drain(0, 4000), attach(1, 9, 9))
	for _, a := range []api.Act{output(0, "hello"), split(0, 1), focus(0), resize(9, 9), kill(0), drain(0, 9), attach(2, 4, 4), detach(2)} {
		did(t, s, a)
		if waiting, lost, _ := s.Client(0); waiting != "" || lost {
			t.Errorf("%+v: %q, %v", a, waiting, lost)
		}
		if waiting, lost, _ := s.Client(1); waiting != "" || !lost {
			t.Errorf("%+v: %q, %v", a, waiting, lost)
		}
	}
}

// colourful is a text that makes all cells of a pane others than with another n, each with another ink than its neighbours.
func colourful(n int) string {
	var text strings.Builder
	text.WriteString("\x1b[H")
	for i := range 20*7 - 1 {
		text.WriteString("\x1b[3" + string(rune('0'+(i+n)%8)) + "m" + string(rune('a'+(i+n)%26)))
	}
	text.WriteString("\x1b[H")
	return text.String()
}

// letters is a text of k letters that are others with another n, with the cursor back where it was, at the first cell.
func letters(k, n int) string {
	return "\x1b[m\x1b[H" + strings.Repeat(string(rune('A'+n%26)), k) + "\x1b[H"
}

// filled is a server whose client 0, of 24 columns and 8 rows, has just MaxQueue bytes waiting, less by some, and nothing lost; client 1 took all.
func filled(t *testing.T, less int) *Server {
	t.Helper()
	s := after(t, attach(0, 24, 8), attach(1, 24, 8), tick())
	back := 0
	for n := 0; ; n++ {
		waiting, lost, _ := s.Client(0)
		room := api.MaxQueue - less - len(waiting)
		switch {
		case room == 0 && !lost:
			did(t, s, drain(1, 4000))
			return s
		case room < 0 || lost || s.acts > 250:
			t.Fatalf("%d bytes, %v, after %d acts", len(waiting), lost, s.acts)
		case room > 1500:
			did(t, s, output(0, colourful(n)))
		case back == 0:
			// One letter more is one byte more: what the way back takes is seen at the first ones.
			did(t, s, output(0, letters(1, n)), tick(), output(0, letters(1, n+1)), tick())
			was, _, _ := s.Client(0)
			did(t, s, output(0, letters(1, n+2)), tick())
			is, _, _ := s.Client(0)
			back = len(is) - len(was) - 1
			n += 2
		default:
			k := min(18, room-back)
			if left := room - k - back; left > 0 && left <= back {
				k -= back
			}
			did(t, s, output(0, letters(k, n)))
		}
		did(t, s, tick(), drain(1, 4000))
	}
}

// P6.6: just MaxQueue bytes may wait, and nothing is lost while nothing more is to be sent; one more is one too many.
func TestFullQueue(t *testing.T) {
	s := filled(t, 0)
	full, _, _ := s.Client(0)
	if len(full) != api.MaxQueue {
		t.Fatalf("%d bytes", len(full))
	}
	did(t, s, tick(), tick())
	if waiting, lost, _ := s.Client(0); waiting != full || lost {
		t.Fatalf("%d bytes, %v", len(waiting), lost)
	}
	showsAll(t, s, 0, newTerminal(24, 8))
	did(t, s, output(0, "!"), tick())
	if waiting, lost, here := s.Client(0); waiting != full || !lost || !here {
		t.Fatalf("%d bytes, %v, %v", len(waiting), lost, here)
	}
}

// P6.6: one byte less leaves room for one, of a letter where the cursor is, not for two.
func TestNearlyFullQueue(t *testing.T) {
	s := filled(t, 1)
	did(t, s, output(0, "!"), tick())
	if waiting, lost, _ := s.Client(0); len(waiting) != api.MaxQueue || lost {
		t.Errorf("%d bytes, %v", len(waiting), lost)
	}
	showsAll(t, s, 0, newTerminal(24, 8))
	s = filled(t, 1)
	did(t, s, output(0, "!?"), tick())
	if waiting, lost, _ := s.Client(0); len(waiting) != api.MaxQueue-1 || !lost {
		t.Errorf("%d bytes, %v", len(waiting), lost)
	}
}

// P6.6: when something was lost, nothing is sent until all that waits was taken; then all of it anew, and nothing is lost any more.
func TestLost(t *testing.T) {
	for _, a := range []api.Act{tick(), output(0, "after"), split(0, 1), resize(5, 5), drain(1, 1)} {
		s := filled(t, 0)
		full, _, _ := s.Client(0)
		did(t, s, output(0, "!"), tick(), drain(0, 0), drain(0, -1), tick())
		x := newTerminal(24, 8)
		for _, n := range []int{1, 100, 3000, api.MaxQueue - 3102} {
			takes(t, s, 0, x, n)
			did(t, s, tick())
			if _, lost, _ := s.Client(0); !lost {
				t.Fatalf("%d: nothing is lost", n)
			}
		}
		if waiting, lost, _ := s.Client(0); waiting != full[api.MaxQueue-1:] || !lost {
			t.Fatalf("%q, %v", waiting, lost)
		}
		takes(t, s, 0, x, 1)
		did(t, s, a)
		if a.Kind != api.ActTick {
			if waiting, lost, _ := s.Client(0); waiting != "" || !lost {
				t.Fatalf("%+v: %q, %v", a, waiting, lost)
			}
			did(t, s, tick())
		}
		want, _, _ := draw.Anew(paint.Screen(s.View(), 24, 8))
		if waiting, lost, _ := s.Client(0); waiting != want || lost {
			t.Fatalf("%+v: %q, %v; wanted %q", a, waiting, lost, want)
		}
		showsAll(t, s, 0, x)
		did(t, s, output(0, "on"), tick())
		showsAll(t, s, 0, x)
	}
}

// P6.6: what is lost is lost of one client alone; it may go and come again.
func TestLostOfOne(t *testing.T) {
	s := filled(t, 0)
	x := newTerminal(24, 8)
	did(t, s, detach(1), attach(1, 24, 8), tick())
	for n := range 5 {
		did(t, s, output(0, colourful(n)), tick())
		showsAll(t, s, 1, x)
		takes(t, s, 1, x, 4000)
	}
	if waiting, lost, _ := s.Client(0); len(waiting) != api.MaxQueue || !lost {
		t.Errorf("%d bytes, %v", len(waiting), lost)
	}
	did(t, s, detach(0), attach(0, 3, 3), tick())
	showsAll(t, s, 0, newTerminal(3, 3))
}

// A client that takes few bytes at a time, wherever that cuts them, shows all as soon as it has what waits; whoever takes all catches up at the next tick.
func TestEveryPace(t *testing.T) {
	all := texts()
	for pace := 0; pace <= 60; pace += 3 {
		s := after(t, split(0, 1), split(0, 0), attach(0, 24, 8), attach(1, 11, 3))
		x := [2]*terminal{newTerminal(24, 8), newTerminal(11, 3)}
		lostOnce := false
		for n := range 45 {
			text := all[n*7%len(all)]
			if n%2 == 1 {
				text = colourful(n)
			}
			did(t, s, output(n%3, text), tick())
			for i := range x {
				if _, lost, _ := s.Client(i); lost {
					lostOnce = true
				} else {
					showsAll(t, s, i, x[i])
				}
				takes(t, s, i, x[i], pace)
			}
		}
		if pace == 0 && !lostOnce {
			t.Error("nothing was ever lost")
		}
		for i := range x {
			takes(t, s, i, x[i], api.MaxQueue)
			did(t, s, tick())
			showsAll(t, s, i, x[i])
		}
	}
}
