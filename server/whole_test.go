package server

import (
	"slices"
	"testing"

	"fenestra/api"
	"fenestra/draw"
	"fenestra/grid"
	"fenestra/paint"
	"fenestra/parse"
	"fenestra/tiles"
)

// model is a server by the words of the chapter; of a client it keeps all that it was ever sent, and what that makes of a screen.
type model struct {
	view    api.View
	parsers [api.MaxPanes]api.Parser
	clients [api.Clients]sent
	done    int
}

// sent: all bytes that ever waited, how many of them were taken, and the screen behind all of them.
type sent struct {
	here, lost bool
	bytes      string
	taken      int
	screen     api.Grid
}

func newModel() *model {
	m := &model{view: api.View{Wide: 20, High: 7, Tiles: api.Tiles{Columns: [][]int{{0}}}}}
	m.view.Grids[0] = grid.New(20, 7)
	return m
}

func (m *model) do(a api.Act) api.Reply {
	if m.done >= api.MaxActs {
		return api.Reply{Code: api.ErrFull}
	}
	m.done++
	switch {
	case a.Kind >= api.ActSplit && a.Kind <= api.ActResize:
		return m.doToPanes(a)
	case a.Kind == api.ActTick:
		for i := range m.clients {
			m.showTo(&m.clients[i])
		}
		return api.Reply{}
	case a.Kind >= api.ActAttach && a.Kind <= api.ActDrain:
		return m.doToClient(a)
	}
	return api.Reply{Code: api.ErrKind}
}

func (m *model) doToPanes(a api.Act) api.Reply {
	there := slices.Concat(m.view.Tiles.Columns...)
	switch a.Kind {
	case api.ActSplit:
		if len(there) == api.MaxPanes {
			return api.Reply{Code: api.ErrFull}
		}
		n := 0
		for slices.Contains(there, n) {
			n++
		}
		t, err := tiles.Split(m.view.Tiles, a.P, n, a.N == 1)
		if err != api.OK {
			return api.Reply{Code: err}
		}
		m.lay(t)
		m.view.Focus = n
		return api.Reply{N: n}
	case api.ActKill:
		t, err := tiles.Kill(m.view.Tiles, a.P)
		if err != api.OK {
			return api.Reply{Code: err}
		}
		m.lay(t)
		if m.view.Focus == a.P {
			m.view.Focus = slices.Concat(t.Columns...)[0]
		}
		return api.Reply{}
	case api.ActResize:
		if a.N < 1 || a.N > api.MaxWide || a.M < 1 || a.M > api.MaxHigh {
			return api.Reply{Code: api.ErrRange}
		}
		m.view.Wide, m.view.High = a.N, a.M
		m.lay(m.view.Tiles)
		return api.Reply{}
	}
	if !slices.Contains(there, a.P) {
		return api.Reply{Code: api.ErrNone}
	}
	if a.Kind == api.ActFocus {
		m.view.Focus = a.P
		return api.Reply{}
	}
	var told []api.Event
	for _, b := range []byte(a.Bytes) {
		p, l, _ := parse.Feed(m.parsers[a.P], string([]byte{b}))
		m.parsers[a.P] = p
		told = append(told, l...)
	}
	m.view.Grids[a.P], _ = grid.All(m.view.Grids[a.P], told)
	return api.Reply{}
}

// lay makes the screens of all panes those that P6.2 asks for.
func (m *model) lay(t api.Tiles) {
	for p := range api.MaxPanes {
		was, is := tiles.Has(m.view.Tiles, p), tiles.Has(t, p)
		r := tiles.Where(t, m.view.Wide, m.view.High, p)
		g := &m.view.Grids[p]
		switch {
		case !is:
			*g, m.parsers[p] = api.Grid{}, api.Parser{}
		case !was:
			*g, m.parsers[p] = grid.New(r.Wide, r.High), api.Parser{}
		case g.Wide != max(1, r.Wide) || g.High != max(1, r.High):
			*g, _ = grid.Resize(*g, r.Wide, r.High)
		}
	}
	m.view.Tiles = t
}

func (m *model) doToClient(a api.Act) api.Reply {
	isOne := a.P >= 0 && a.P < api.Clients
	if a.Kind == api.ActAttach {
		switch {
		case !isOne:
			return api.Reply{Code: api.ErrNone}
		case m.clients[a.P].here:
			return api.Reply{Code: api.ErrTwice}
		case a.N < 1 || a.N > api.MaxWide || a.M < 1 || a.M > api.MaxHigh:
			return api.Reply{Code: api.ErrRange}
		}
		m.clients[a.P] = sent{here: true, lost: true, screen: grid.New(a.N, a.M)}
		return api.Reply{}
	}
	if !isOne || !m.clients[a.P].here {
		return api.Reply{Code: api.ErrNone}
	}
	c := &m.clients[a.P]
	if a.Kind == api.ActDetach {
		*c = sent{}
		return api.Reply{}
	}
	n := 0
	if a.N > 0 {
		n = min(a.N, len(c.bytes)-c.taken)
	}
	c.taken += n
	return api.Reply{N: n, Out: c.bytes[c.taken-n : c.taken]}
}

func (m *model) showTo(c *sent) {
	waiting := len(c.bytes) - c.taken
	if !c.here || c.lost && waiting > 0 {
		return
	}
	to := paint.Screen(m.view, c.screen.Wide, c.screen.High)
	more, _, _ := draw.Turn(c.screen, to)
	if c.lost {
		more, _, _ = draw.Anew(to)
	}
	if waiting+len(more) > api.MaxQueue {
		c.lost = true
		return
	}
	_, told, _ := parse.Feed(api.Parser{}, more)
	c.screen, _ = grid.All(c.screen, told)
	c.bytes, c.lost = c.bytes+more, false
}

// agrees asks that a server is what the model is.
func agrees(t *testing.T, s *Server, m *model) {
	t.Helper()
	if v := s.View(); !sameView(v, m.view) {
		t.Fatalf("%+v; wanted %+v", v, m.view)
	}
	for i, c := range m.clients {
		waiting, lost, here := s.Client(i)
		if waiting != c.bytes[c.taken:] || lost != c.lost || here != c.here {
			t.Fatalf("client %d: %q, %v, %v; wanted %q, %v, %v", i, waiting, lost, here, c.bytes[c.taken:], c.lost, c.here)
		}
	}
	fits(t, s)
}

// dice throw numbers that bytes stand for; zeros, when these are at their end.
type dice struct{ bytes []byte }

func (d *dice) throw(n int) int {
	if len(d.bytes) == 0 {
		return 0
	}
	b := int(d.bytes[0])
	d.bytes = d.bytes[1:]
	return b % n
}

func (d *dice) of(l ...int) int { return l[d.throw(len(l))] }

// anyAct is one that dice make: mostly such as are done, sometimes one that is not. With idle clients there is much to show, and few take it.
func anyAct(d *dice, v api.View, idle bool) api.Act {
	pane, client := anyPane(d, v), d.throw(api.Clients)
	k := d.throw(20)
	switch {
	case k == 0 && !idle:
		return resize(d.throw(27), d.throw(12))
	case k == 0:
		return resize(24, 9)
	case k == 1:
		return split(pane, d.of(0, 1, 2))
	case k == 2 && d.throw(2) == 0:
		return kill(pane)
	case k == 2:
		return focus(pane)
	case k == 3:
		return attach(d.throw(4), d.throw(26), d.throw(12))
	case k == 4:
		return attach(client, 24, 10)
	case k == 5 && d.throw(8) == 0:
		return detach(client)
	case k == 6 && d.throw(4) == 0:
		return api.Act{Kind: d.of(-1, 0, 10, 300), P: pane, N: client, Bytes: "x"}
	case k < 9 && idle && d.throw(8) > 0:
		return tick()
	case k < 9:
		return drain(d.throw(4), d.of(-1, 0, 1, 2, 3, 5, 8, 13, 40, 77, 200, 1000, 3999, 4000, 4001))
	case k < 14:
		return tick()
	case k < 17 && idle:
		return output(pane, colourful(d.throw(26)))
	}
	return output(pane, anyText(d))
}

// anyPane is mostly one that is there.
func anyPane(d *dice, v api.View) int {
	if d.throw(12) == 0 {
		return d.throw(api.MaxPanes+2) - 1
	}
	there := slices.Concat(v.Tiles.Columns...)
	return there[d.throw(len(there))]
}

// anyText is pieces of what programs put out, ends and beginnings of commands among them.
func anyText(d *dice) string {
	pieces := append(texts(), "\x1b[", "\x1b[3", "1m", ";1", "2;4r", "H", "\r\n", "\n\n\n", "5;5H", "\x1b[2J", "\x1bPab-", "cd-ef\x1b", "\\", "\x18", "\x1b[L", "\x1b[1M", "some words ", "\b\b")
	text := ""
	for range 1 + d.throw(6) {
		text += pieces[d.throw(len(pieces))]
	}
	return text
}

// plays does acts that bytes stand for to a server and to the model, and holds all that is to be seen against all promises.
func plays(t *testing.T, bytes []byte) {
	d := &dice{bytes}
	idle := d.throw(2) == 1
	s, m := New(), newModel()
	var x [api.Clients]*terminal
	var acts []api.Act
	var replies []api.Reply
	for len(d.bytes) > 0 && len(acts) < api.MaxActs+5 {
		a := anyAct(d, m.view, idle)
		got, want := s.Do(a), m.do(a)
		acts, replies = append(acts, a), append(replies, got)
		if got != want {
			t.Fatalf("%+v: %+v; wanted %+v", a, got, want)
		}
		agrees(t, s, m)
		if got.Code != api.OK {
			continue
		}
		switch a.Kind {
		case api.ActAttach:
			x[a.P] = newTerminal(a.N, a.M)
		case api.ActDrain:
			x[a.P].feed(t, got.Out)
		case api.ActTick:
			for i := range x {
				if _, lost, here := s.Client(i); here && !lost {
					showsAll(t, s, i, x[i])
				}
			}
		}
	}
	if len(acts) <= api.MaxActs {
		if l, err := Run(acts); err != api.OK || !slices.Equal(l, replies) {
			t.Fatalf("%+v, %d; wanted %+v", l, err, replies)
		}
	} else if l, err := Run(acts); err != api.ErrFull || len(l) != 0 {
		t.Fatalf("%+v, %d", l, err)
	}
}

// mixed is bytes of no order, the same ones for the same number.
func mixed(seed, n int) []byte {
	l := make([]byte, n)
	x := uint64(seed)*2862933555777941757 + 3037000493
	for i := range l {
		x = x*6364136223846793005 + 1442695040888963407
		l[i] = byte(x >> 56)
	}
	return l
}

// All promises together, at many runs of many acts.
func TestManyRuns(t *testing.T) {
	for seed := range 60 {
		plays(t, mixed(seed, 300+seed*40))
	}
}

// The promises together.
func FuzzServer(f *testing.F) {
	for seed := range 4 {
		f.Add(mixed(1000+seed, 600))
	}
	f.Add([]byte{})
	f.Fuzz(plays)
}
