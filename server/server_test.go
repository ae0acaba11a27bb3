package server

import (
	"math"
	"reflect"
	"slices"
	"strings"
	"testing"

	"fenestra/api"
	"fenestra/grid"
	"fenestra/parse"
)

func split(p, n int) api.Act        { return api.Act{Kind: api.ActSplit, P: p, N: n} }
func kill(p int) api.Act            { return api.Act{Kind: api.ActKill, P: p} }
func focus(p int) api.Act           { return api.Act{Kind: api.ActFocus, P: p} }
func resize(wide, high int) api.Act { return api.Act{Kind: api.ActResize, N: wide, M: high} }
func detach(i int) api.Act          { return api.Act{Kind: api.ActDetach, P: i} }
func tick() api.Act                 { return api.Act{Kind: api.ActTick} }
func drain(i, n int) api.Act        { return api.Act{Kind: api.ActDrain, P: i, N: n} }

func output(p int, text string) api.Act {
	return api.Act{Kind: api.ActOutput, P: p, Bytes: text}
}

func attach(i, wide, high int) api.Act {
	return api.Act{Kind: api.ActAttach, P: i, N: wide, M: high}
}

// did does acts all of which must be done.
func did(t *testing.T, s *Server, acts ...api.Act) {
	t.Helper()
	for _, a := range acts {
		if r := s.Do(a); r.Code != api.OK {
			t.Fatalf("%+v: %+v", a, r)
		}
	}
}

// after is a new server to which acts were done, all of them.
func after(t *testing.T, acts ...api.Act) *Server {
	t.Helper()
	s := New()
	did(t, s, acts...)
	return s
}

// whole is a copy of all that a server is but for the count of acts, in memory of its own.
func whole(s *Server) Server {
	to := *s
	to.acts = 0
	to.view.Tiles = copied(s.view.Tiles)
	for p, g := range to.view.Grids {
		to.view.Grids[p].Cells = slices.Clone(g.Cells)
		to.parsers[p].Params = slices.Clone(to.parsers[p].Params)
	}
	for i, c := range to.clients {
		if c != nil {
			other := *c
			other.shown.Cells = slices.Clone(c.shown.Cells)
			to.clients[i] = &other
		}
	}
	return to
}

func copied(t api.Tiles) api.Tiles {
	l := slices.Clone(t.Columns)
	for i, column := range l {
		l[i] = slices.Clone(column)
	}
	return api.Tiles{Columns: l}
}

// refused does an act that must be refused so, count, and change nothing.
func refused(t *testing.T, s *Server, a api.Act, want api.Errno) {
	t.Helper()
	was, acts := whole(s), s.acts
	if got := s.Do(a); got != (api.Reply{Code: want}) {
		t.Errorf("%+v: %+v; wanted the error %d", a, got, want)
	}
	if s.acts != acts+1 {
		t.Errorf("%+v: %d acts, then %d", a, acts, s.acts)
	}
	if is := whole(s); !reflect.DeepEqual(is, was) {
		t.Errorf("%+v, refused, changes %+v to %+v", a, was, is)
	}
}

func sameGrid(a, b api.Grid) bool {
	return a.Wide == b.Wide && a.High == b.High && slices.Equal(a.Cells, b.Cells) &&
		a.Row == b.Row && a.Col == b.Col && a.Ink == b.Ink && a.Bold == b.Bold &&
		a.Top == b.Top && a.Bottom == b.Bottom
}

func sameView(a, b api.View) bool {
	for p := range a.Grids {
		if !sameGrid(a.Grids[p], b.Grids[p]) {
			return false
		}
	}
	return columns(a) == columns(b) && a.Wide == b.Wide && a.High == b.High && a.Focus == b.Focus
}

// columns is the panes as a text: a digit a pane, a slash between columns.
func columns(v api.View) string {
	var l []string
	for _, column := range v.Tiles.Columns {
		var text strings.Builder
		for _, p := range column {
			text.WriteByte(byte('0' + p))
		}
		l = append(l, text.String())
	}
	return strings.Join(l, "/")
}

// written is what a text makes of a screen, and of a parser on the Ground.
func written(t *testing.T, g api.Grid, text string) (api.Grid, api.Parser) {
	t.Helper()
	p, told, err := parse.Feed(api.Parser{}, text)
	if err != api.OK {
		t.Fatal(err)
	}
	g, err = grid.All(g, told)
	if err != api.OK {
		t.Fatal(err)
	}
	return g, p
}

// oddNumbers are numbers far from all that there is.
var oddNumbers = []int{math.MinInt, math.MinInt + 1, -1 << 32, -1000, -1, 1 << 32, math.MaxInt - 1, math.MaxInt}

func isNotHere(t *testing.T, s *Server, i int) {
	t.Helper()
	if waiting, lost, here := s.Client(i); waiting != "" || lost || here {
		t.Errorf("client %d: %q, %v, %v", i, waiting, lost, here)
	}
}

// P6.1: one pane that has the focus, 20 columns and 7 rows, no clients.
func TestNew(t *testing.T) {
	s := New()
	want := api.View{Tiles: api.Tiles{Columns: [][]int{{0}}}, Wide: 20, High: 7}
	want.Grids[0] = grid.New(20, 7)
	if v := s.View(); !reflect.DeepEqual(v, want) {
		t.Errorf("%+v", v)
	}
	if s.parsers[0].At != api.Ground {
		t.Errorf("%+v", s.parsers[0])
	}
	for i := -1; i <= api.Clients; i++ {
		isNotHere(t, s, i)
	}
}

// P6.1: servers have nothing in common.
func TestServersApart(t *testing.T) {
	a, b := New(), New()
	did(t, a, split(0, 1), output(0, "x\x1b["), resize(5, 5), attach(0, 3, 3), tick())
	if v := b.View(); !sameView(v, New().View()) || b.acts != 0 {
		t.Errorf("%+v", v)
	}
	isNotHere(t, b, 0)
}

// P6.1: what waits, whether something was lost, whether it is here.
func TestClient(t *testing.T) {
	s := after(t, attach(1, 9, 4))
	if waiting, lost, here := s.Client(1); waiting != "" || !lost || !here {
		t.Errorf("%q, %v, %v", waiting, lost, here)
	}
	did(t, s, tick())
	waiting, lost, here := s.Client(1)
	if waiting == "" || lost || !here {
		t.Errorf("%q, %v, %v", waiting, lost, here)
	}
	if r := s.Do(drain(1, 5)); r.Out != waiting[:5] {
		t.Errorf("%+v", r)
	}
	if rest, lost, here := s.Client(1); rest != waiting[5:] || lost || !here {
		t.Errorf("%q, %v, %v", rest, lost, here)
	}
	for _, i := range append(oddNumbers, 0, 2, 3, 4, 6) {
		isNotHere(t, s, i)
	}
	did(t, s, detach(1))
	isNotHere(t, s, 1)
}

// everyAct is one of each kind, and some of no kind.
func everyAct() []api.Act {
	return []api.Act{
		split(0, 0), split(0, 1), kill(0), output(0, "x"), focus(0), resize(9, 9), attach(0, 9, 9), detach(0), tick(), drain(0, 9),
		{}, {Kind: -1}, {Kind: 10},
	}
}

// P6.1: a nil server has nothing, and never more.
func TestNilServer(t *testing.T) {
	var s *Server
	for range api.MaxActs {
		for _, a := range everyAct() {
			if r := s.Do(a); r != (api.Reply{Code: api.ErrNone}) {
				t.Fatalf("%+v: %+v", a, r)
			}
		}
	}
	if v := s.View(); !reflect.DeepEqual(v, api.View{}) {
		t.Errorf("%+v", v)
	}
	for _, i := range append(oddNumbers, 0, 1, 2, 3) {
		isNotHere(t, s, i)
	}
}

// P6.1: the zero value has no panes and no clients; it can be given sides and clients.
func TestZeroServer(t *testing.T) {
	var s Server
	if v := s.View(); !reflect.DeepEqual(v, api.View{}) {
		t.Errorf("%+v", v)
	}
	for i := -1; i <= api.Clients; i++ {
		isNotHere(t, &s, i)
	}
	for _, p := range []int{-1, 0, 1, 5, 6} {
		refused(t, &s, split(p, 0), api.ErrRange)
		refused(t, &s, split(p, 1), api.ErrRange)
		refused(t, &s, kill(p), api.ErrRange)
		refused(t, &s, output(p, "x"), api.ErrNone)
		refused(t, &s, focus(p), api.ErrNone)
	}
	did(t, &s, attach(0, 5, 3), tick(), resize(3, 2))
	x := newTerminal(5, 3)
	takes(t, &s, 0, x, api.MaxQueue)
	did(t, &s, tick())
	showsAll(t, &s, 0, x)
}

// P6.3: ErrFull behind MaxActs acts, of each kind, whatever came of them.
func TestActsAreCounted(t *testing.T) {
	for _, often := range everyAct() {
		s := New()
		for range api.MaxActs {
			if s.Do(often).Code == api.ErrFull && often.Kind != api.ActSplit && often.Kind != api.ActKill {
				t.Fatalf("%+v: refused after %d", often, s.acts)
			}
		}
		was := whole(s)
		for _, a := range everyAct() {
			if r := s.Do(a); r != (api.Reply{Code: api.ErrFull}) {
				t.Errorf("%+v: %+v", a, r)
			}
		}
		if is := whole(s); !reflect.DeepEqual(is, was) {
			t.Errorf("%+v becomes %+v", was, is)
		}
	}
}

// P6.3: the last one of MaxActs is still done, after others that were refused.
func TestLastAct(t *testing.T) {
	s := New()
	for i := range api.MaxActs - 1 {
		refused(t, s, api.Act{Kind: 10 + i}, api.ErrKind)
	}
	did(t, s, output(0, "x"))
	if r := s.Do(output(0, "y")); r != (api.Reply{Code: api.ErrFull}) {
		t.Errorf("%+v", r)
	}
	if r := s.Do(api.Act{}); r != (api.Reply{Code: api.ErrFull}) {
		t.Errorf("%+v", r)
	}
	if g := s.View().Grids[0]; g.Col != 1 || g.Cells[0].Ch != 'x' {
		t.Errorf("%+v", g)
	}
}

// P6.3: a Kind that is none of the nine, whatever else is said.
func TestKinds(t *testing.T) {
	s := after(t, split(0, 1), attach(0, 9, 9), output(1, "x\x1b[3"), tick())
	for _, kind := range append(oddNumbers, 0, 10, 11, 1<<32+1, 1<<32+9, 256+3) {
		refused(t, s, api.Act{Kind: kind}, api.ErrKind)
		refused(t, s, api.Act{Kind: kind, P: 1, N: 5, M: 5, Bytes: "z"}, api.ErrKind)
	}
}

// P6.3: all else is 0 or empty where nothing is said.
func TestRepliesSayNoMore(t *testing.T) {
	s := after(t, split(0, 1), attach(0, 9, 9), tick())
	for _, a := range []api.Act{output(0, "xyz"), focus(0), resize(9, 9), attach(1, 9, 9), tick(), tick(), detach(1), kill(1)} {
		a.Bytes += "more"
		if r := s.Do(a); r != (api.Reply{}) {
			t.Errorf("%+v: %+v", a, r)
		}
	}
}

// busy is a server with many panes and clients, and much on their screens.
func busy(t *testing.T) *Server {
	s := after(t, split(0, 1), split(0, 0), split(1, 0), split(1, 1), attach(0, 24, 10), attach(2, 7, 3), attach(1, 1, 1), tick())
	for p := range 5 {
		did(t, s, output(p, "hello \x1b[1;33mworld\x1b[2;3H\x1bPabc-def\x1b\\\x1b[2;4r"), output(p, "\x1b[3;4"))
	}
	did(t, s, drain(0, 30), drain(1, 2), tick())
	return s
}

// scribbleCells and scribblePanes write to a list and to its spare room.
func scribbleCells(l []api.Cell) {
	l = l[:cap(l)]
	for i := range l {
		l[i] = api.Cell{Ch: 'S', Ink: 6}
	}
}

func scribblePanes(l []int) {
	l = l[:cap(l)]
	for i := range l {
		l[i] = 4
	}
}

// P6.1: what View answers is the caller's.
func TestViewIsTheCallers(t *testing.T) {
	s, twin := busy(t), busy(t)
	was := whole(s)
	v, other := s.View(), s.View()
	for p := range v.Grids {
		scribbleCells(v.Grids[p].Cells)
	}
	for i := range v.Tiles.Columns {
		scribblePanes(v.Tiles.Columns[i])
	}
	l := v.Tiles.Columns[:cap(v.Tiles.Columns)]
	for i := range l {
		l[i] = []int{9, 9}
	}
	if is := whole(s); !reflect.DeepEqual(is, was) {
		t.Fatalf("%+v becomes %+v", was, is)
	}
	if !sameView(other, twin.View()) {
		t.Errorf("another answer becomes %+v", other)
	}
	for _, a := range []api.Act{tick(), output(3, "C!"), split(3, 1), tick(), kill(0), resize(24, 10), tick(), drain(0, 4000), tick()} {
		if got, want := s.Do(a), twin.Do(a); got != want || !sameView(s.View(), twin.View()) {
			t.Fatalf("%+v: %+v; wanted %+v", a, got, want)
		}
	}
}

// P6.1: no two lists of one answer share memory, their spare room neither.
func TestListsOfAView(t *testing.T) {
	s := busy(t)
	for p := range api.MaxPanes {
		v, want := s.View(), s.View()
		scribbleCells(v.Grids[p].Cells)
		v.Grids[p] = want.Grids[p]
		if !sameView(v, want) {
			t.Errorf("cells of pane %d are those of another one", p)
		}
	}
	for i := range s.View().Tiles.Columns {
		v, want := s.View(), s.View()
		scribblePanes(v.Tiles.Columns[i])
		v.Tiles.Columns[i] = want.Tiles.Columns[i]
		if !sameView(v, want) {
			t.Errorf("column %d is part of another one", i)
		}
	}
}

// P6.1: a view is as it stood when it was asked for.
func TestViewStays(t *testing.T) {
	s, twin := busy(t), busy(t)
	v := s.View()
	for p := range 5 {
		did(t, s, output(p, "m\x1bcAll of it\r\nis other\nnow\x1b[L\x1b[2J"))
	}
	did(t, s, split(2, 0), kill(0), focus(1), resize(3, 3), resize(24, 10), kill(1), split(3, 1), split(3, 0), tick())
	if !sameView(v, twin.View()) {
		t.Errorf("%+v", v)
	}
}

// P6.7: the replies of a new server, one by one.
func TestRun(t *testing.T) {
	acts := []api.Act{
		{}, attach(0, 9, 3), tick(), split(0, 1), split(0, 2), split(7, 0), output(2, "hi"), output(5, "hi"), tick(),
		drain(0, 7), drain(0, -1), drain(0, 4000), drain(1, 1), kill(0), kill(0), resize(0, 1), detach(0), detach(0),
	}
	for n := range len(acts) + 1 {
		got, err := Run(acts[:n])
		if err != api.OK || len(got) != n {
			t.Fatalf("%d acts: %+v, %d", n, got, err)
		}
		s := New()
		for i, a := range acts[:n] {
			if want := s.Do(a); got[i] != want {
				t.Errorf("%+v: %+v; wanted %+v", a, got[i], want)
			}
		}
	}
	got, _ := Run(acts)
	for i, want := range []api.Errno{2, 0, 0, 0, 0, 3, 0, 3, 0, 0, 0, 0, 3, 0, 3, 1, 0, 3} {
		if got[i].Code != want {
			t.Errorf("%+v: %+v; wanted %d", acts[i], got[i], want)
		}
	}
	if got[9].N != 7 || len(got[9].Out) != 7 || got[3].N != 1 || got[4].N != 2 || got[10] != (api.Reply{}) {
		t.Errorf("%+v", got)
	}
}

// P6.7: none, the most, and too many acts.
func TestRunBounds(t *testing.T) {
	for _, l := range [][]api.Act{nil, {}} {
		if got, err := Run(l); len(got) != 0 || err != api.OK {
			t.Errorf("%+v, %d", got, err)
		}
	}
	most := slices.Repeat([]api.Act{output(0, "x")}, api.MaxActs)
	got, err := Run(most)
	if err != api.OK || len(got) != api.MaxActs || got[api.MaxActs-1] != (api.Reply{}) {
		t.Errorf("%+v, %d", got, err)
	}
	for _, more := range []int{1, 2, api.MaxActs} {
		if got, err := Run(append(slices.Clone(most), most[:more]...)); len(got) != 0 || err != api.ErrFull {
			t.Errorf("%d too many: %+v, %d", more, got, err)
		}
	}
}

// P6.7: acts are not changed, and what was answered is the caller's; each run begins anew.
func TestRunLeavesListsAlone(t *testing.T) {
	all := []api.Act{attach(0, 9, 3), split(0, 1), tick(), output(1, "x\x1b["), drain(0, 4000), {}, {Kind: 99, P: 3, Bytes: "spare"}}
	was := slices.Clone(all)
	first, _ := Run(all[:5])
	kept := slices.Clone(first)
	spare := first[:cap(first)]
	for i := range spare {
		spare[i] = api.Reply{Code: 6, N: 7, Out: "scribble"}
	}
	if second, err := Run(all[:5]); !slices.Equal(second, kept) || err != api.OK {
		t.Errorf("%+v; wanted %+v", second, kept)
	}
	if !slices.Equal(all, was) {
		t.Errorf("%+v; they were %+v", all, was)
	}
}
