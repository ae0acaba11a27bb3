package server

import (
	"math"
	"reflect"
	"strings"
	"testing"

	"fenestra/api"
	"fenestra/grid"
	"fenestra/paint"
	"fenestra/parse"
	"fenestra/tiles"
)

// layouts are ways to come to panes side by side and one below another: the fewest, the most, and numbers that were used before.
func layouts() [][]api.Act {
	return [][]api.Act{
		{},
		{split(0, 0)},
		{split(0, 1)},
		{split(0, 0), split(0, 0)},
		{split(0, 1), split(0, 0), split(1, 0)},
		{split(0, 1), split(1, 1), split(1, 0), kill(1)},
		{split(0, 0), split(0, 0), split(0, 1), split(3, 0), split(3, 0)},
		{split(0, 1), split(0, 1), split(0, 1), split(0, 1), split(0, 1)},
		{split(0, 1), split(0, 0), kill(0), split(1, 0), split(2, 0), kill(1), split(0, 1)},
	}
}

// fits holds the panes of a server against P6.2.
func fits(t *testing.T, s *Server) {
	t.Helper()
	v := s.View()
	for p, g := range v.Grids {
		if !tiles.Has(v.Tiles, p) {
			if !reflect.DeepEqual(g, api.Grid{}) || !reflect.DeepEqual(s.parsers[p], api.Parser{}) {
				t.Errorf("%s: pane %d, that is not there: %+v, %+v", columns(v), p, g, s.parsers[p])
			}
			continue
		}
		r := tiles.Where(v.Tiles, v.Wide, v.High, p)
		if g.Wide != max(r.Wide, 1) || g.High != max(r.High, 1) || !grid.Good(g) || !parse.Good(s.parsers[p]) {
			t.Errorf("%s, %d by %d, pane %d: %+v, %+v", columns(v), v.Wide, v.High, p, g, s.parsers[p])
		}
	}
	if !tiles.Good(v.Tiles) || !tiles.Has(v.Tiles, v.Focus) {
		t.Errorf("%s, focus %d", columns(v), v.Focus)
	}
}

// P6.2: screens of the sides of their places, of one cell where there is no room, at all sides that there are.
func TestSidesOfPanes(t *testing.T) {
	for _, acts := range layouts() {
		s := after(t, acts...)
		fits(t, s)
		for wide := 1; wide <= api.MaxWide; wide++ {
			s = after(t, acts...)
			for high := 1; high <= api.MaxHigh; high++ {
				did(t, s, resize(wide, high))
				fits(t, s)
			}
		}
	}
}

// P6.2: what comes when there is no room, by what is written down here.
func TestNoRoom(t *testing.T) {
	s := after(t, resize(3, 3), split(0, 1), split(0, 1), output(1, "ab"), output(0, "c"))
	v := s.View()
	for p := range 3 {
		if g := v.Grids[p]; g.Wide != 1 || g.High != 1 {
			t.Errorf("pane %d: %+v", p, g)
		}
	}
	if v.Grids[1].Cells[0].Ch != 'b' || v.Grids[0].Cells[0].Ch != 'c' || v.Grids[2].Cells[0].Ch != 0 {
		t.Errorf("%+v", v.Grids)
	}
	did(t, s, resize(5, 2))
	if v = s.View(); v.Grids[1].High != 2 || v.Grids[1].Wide != 1 || v.Grids[1].Cells[0].Ch != 'b' {
		t.Errorf("%+v", v.Grids[1])
	}
}

// halves are texts that leave a parser off the Ground, one for each place.
var halves = []string{"\x1b", "\x1b[", "\x1b[31;", "\x1bP", "\x1bPabc", "\x1bPabc\x1b", "\x1bP" + tooLong}

const tooLong = "abcdefghabcdefghabcdefghabcdefghabcdefghabcdefghabcdefgh"

// P6.2: a pane that comes has a new screen and a parser on the Ground, whatever the one that had its number left.
func TestPaneComesNew(t *testing.T) {
	for _, half := range halves {
		for _, right := range []int{0, 1} {
			s := after(t, split(0, right), output(1, "old\x1b[1;33m\x1b[2;2r"+half), kill(1))
			fits(t, s)
			did(t, s, split(0, right))
			g := s.View().Grids[1]
			if !sameGrid(g, grid.New(g.Wide, g.High)) {
				t.Errorf("%q: %+v", half, g)
			}
			did(t, s, output(1, "[1Pc\\m"))
			want, _ := written(t, grid.New(g.Wide, g.High), "[1Pc\\m")
			if got := s.View().Grids[1]; !sameGrid(got, want) {
				t.Errorf("%q: %+v", half, got)
			}
		}
	}
}

// P6.2: Resized (chapter 2) when the sides of its place are others, by whichever act.
func TestPanesAreResized(t *testing.T) {
	for _, text := range []string{"", "hello, world, this is\r\nmore\nthan fits\x1b[1;34m", "\x1b[7;20Hx", "\x1b[3;5r\x1b[4;4H\x1bPab-cd\x1b\\y"} {
		for _, c := range []struct {
			a          api.Act
			wide, high int
		}{
			{resize(5, 3), 5, 3},
			{resize(24, 10), 24, 10},
			{resize(1, 1), 1, 1},
			{resize(20, 6), 20, 6},
			{resize(19, 7), 19, 7},
			{split(0, 0), 20, 3},
			{split(0, 1), 10, 7},
		} {
			s := after(t, output(0, text))
			was := s.View().Grids[0]
			want, _ := grid.Resize(was, c.wide, c.high)
			did(t, s, c.a)
			if got := s.View().Grids[0]; !sameGrid(got, want) {
				t.Errorf("%q, %+v: %+v; wanted %+v", text, c.a, got, want)
			}
			if c.a.Kind == api.ActSplit {
				want, _ = grid.Resize(want, 20, 7)
				did(t, s, kill(1))
				if got := s.View().Grids[0]; !sameGrid(got, want) {
					t.Errorf("%q, %+v and a kill: %+v; wanted %+v", text, c.a, got, want)
				}
			}
		}
	}
}

// P6.2: where the sides stay, all stays: the rows that scroll, the cursor behind the last column.
func TestSameSidesStay(t *testing.T) {
	text := "\x1b[2;3r\x1b[1;35m\x1b[2;1H" + strings.Repeat("x", 10)
	s := after(t, split(0, 1), output(0, text), output(1, "y"))
	was := s.View().Grids[0]
	if was.Col != 10 || was.Wide != 10 || was.Top != 1 || was.Bottom != 3 {
		t.Fatalf("%+v", was)
	}
	for _, a := range []api.Act{
		resize(20, 7), split(1, 0), resize(20, 7), split(1, 0), kill(2), focus(0), kill(1), resize(21, 7), tick(), attach(0, 9, 9), output(3, "zzz\x1bc"),
	} {
		did(t, s, a)
		if g := s.View().Grids[0]; !sameGrid(g, was) {
			t.Errorf("%+v: %+v; it was %+v", a, g, was)
		}
	}
	did(t, s, resize(20, 6))
	if g := s.View().Grids[0]; g.Top != 0 || g.Bottom != 6 || g.Col != 9 || !g.Bold {
		t.Errorf("%+v", g)
	}
}

// P6.2: a parser goes on where it was, whatever happens to its pane's sides and to others.
func TestParserStays(t *testing.T) {
	for _, half := range halves {
		s := after(t, split(0, 1), output(0, half))
		did(t, s, output(1, "x\x1b[1m"), resize(12, 5), split(0, 0), focus(1), output(2, half), kill(1), resize(20, 7), attach(0, 4, 4), tick(), kill(2))
		want, _, _ := parse.Feed(api.Parser{}, half)
		if !reflect.DeepEqual(s.parsers[0], want) {
			t.Errorf("%q: %+v; wanted %+v", half, s.parsers[0], want)
		}
	}
}

// P6.3: ActSplit: where the new one is, its number, and that it has the focus.
func TestSplit(t *testing.T) {
	s := New()
	for _, c := range []struct {
		a    api.Act
		want string
		n    int
	}{
		{split(0, 0), "01", 1},
		{split(0, 1), "01/2", 2},
		{split(1, 1), "01/3/2", 3},
		{split(0, 0), "041/3/2", 4},
		{kill(0), "41/3/2", 0},
		{split(2, 0), "41/3/20", 0},
		{split(4, 1), "41/5/3/20", 5},
		{kill(3), "41/5/20", 0},
		{kill(1), "4/5/20", 0},
		{split(4, 2), "41/5/20", 1},
		{split(0, -1), "41/5/203", 3},
		{kill(0), "41/5/23", 0},
		{split(1, math.MaxInt), "410/5/23", 0},
		{kill(4), "10/5/23", 0},
		{split(5, math.MinInt), "10/54/23", 4},
		{kill(5), "10/4/23", 0},
		{split(0, 1<<32+1), "105/4/23", 5},
	} {
		if r := s.Do(c.a); r != (api.Reply{N: c.n}) {
			t.Errorf("%+v: %+v; wanted %d", c.a, r, c.n)
		}
		v := s.View()
		if columns(v) != c.want || c.a.Kind == api.ActSplit && v.Focus != c.n {
			t.Errorf("%+v: %s, focus %d; wanted %s", c.a, columns(v), v.Focus, c.want)
		}
		fits(t, s)
	}
}

// P6.3: ActSplit: MaxPanes are there, ahead of all else; the errors of Split.
func TestSplitRefuses(t *testing.T) {
	most := after(t, split(0, 1), split(0, 1), split(0, 1), split(0, 1), split(0, 0), attach(0, 9, 9))
	tall := after(t, split(0, 0), split(0, 0), output(1, "x\x1b["), focus(1))
	for _, n := range []int{-1, 0, 1, 2} {
		for _, p := range append(oddNumbers, 0, 1, 5, 6, 7) {
			refused(t, most, split(p, n), api.ErrFull)
		}
		for _, p := range append(oddNumbers, 3, 4, 5, 6, 7) {
			refused(t, tall, split(p, n), api.ErrNone)
		}
	}
	for p := range 3 {
		refused(t, tall, split(p, 0), api.ErrFull)
		refused(t, tall, split(p, 2), api.ErrFull)
	}
	did(t, tall, split(1, 1))
	if v := tall.View(); columns(v) != "021/3" || v.Focus != 3 {
		t.Errorf("%s, focus %d", columns(v), v.Focus)
	}
	refused(t, tall, split(0, 0), api.ErrFull)
}

// P6.3: ActKill: that the first pane has the focus, if the killed one had it, and else who had it.
func TestKill(t *testing.T) {
	for _, c := range []struct {
		acts  []api.Act
		p     int
		want  string
		focus int
	}{
		{[]api.Act{split(0, 0)}, 1, "0", 0},
		{[]api.Act{split(0, 0)}, 0, "1", 1},
		{[]api.Act{split(0, 0), focus(0)}, 0, "1", 1},
		{[]api.Act{split(0, 1), focus(0)}, 0, "1", 1},
		{[]api.Act{split(0, 1), focus(0)}, 1, "0", 0},
		{[]api.Act{split(0, 1), split(1, 0), split(1, 0)}, 3, "0/12", 0},
		{[]api.Act{split(0, 1), split(1, 0), split(1, 0)}, 0, "132", 3},
		{[]api.Act{split(0, 1), split(1, 0), split(1, 0), focus(0)}, 0, "132", 1},
		{[]api.Act{split(0, 1), kill(0), split(1, 0), split(1, 1), split(2, 0)}, 3, "10/2", 1},
		{[]api.Act{split(0, 1), kill(0), split(1, 0), split(1, 1)}, 2, "10", 1},
		{[]api.Act{split(0, 1), kill(0), split(1, 0), split(1, 1)}, 1, "0/2", 2},
		{[]api.Act{split(0, 1), kill(0), split(1, 0), split(1, 1)}, 0, "1/2", 2},
	} {
		s := after(t, c.acts...)
		if r := s.Do(kill(c.p)); r != (api.Reply{}) {
			t.Errorf("%+v", r)
		}
		if v := s.View(); columns(v) != c.want || v.Focus != c.focus {
			t.Errorf("%+v, kill of %d: %s, focus %d; wanted %s, %d", c.acts, c.p, columns(v), v.Focus, c.want, c.focus)
		}
		fits(t, s)
	}
}

// P6.3: ActKill: the errors of Kill; the only one, whatever its number.
func TestKillRefuses(t *testing.T) {
	s := after(t, output(0, "x\x1b["), attach(1, 3, 3))
	refused(t, s, kill(0), api.ErrFull)
	other := after(t, split(0, 1), kill(0))
	refused(t, other, kill(1), api.ErrFull)
	refused(t, other, kill(0), api.ErrNone)
	two := after(t, split(0, 1), split(0, 0), kill(1))
	for _, p := range append(oddNumbers, 1, 3, 4, 5, 6, 7) {
		refused(t, s, kill(p), api.ErrNone)
		refused(t, two, kill(p), api.ErrNone)
	}
}

// texts are what programs put out: letters, moves, colours, pictures, what scrolls, what is cut off, and all bytes there are.
func texts() []string {
	var all strings.Builder
	for b := range 256 {
		all.WriteByte(byte(b))
	}
	l := []string{
		"", "x", "hello, world", "one\r\ntwo \x1b[31mred \x1bPabc-d\x1b\\", "a\tb\bc\n\n\n\n\n\n\n\nd",
		"\x1b[2J\x1b[H" + strings.Repeat("0123456789", 40), "\x1b[999;999Hx\x1b[999Ay\x1b[999Dz\x1b[999Bw\x1b[999Cv",
		"\x1b[2;3r\n\n\n\nab\x1b[L\x1b[2Mcd\x1b[9L", "\x1b[1;37mbold\x1b[K\x1b[1J\x1b[2K\x1b[0mq",
		"\x1bPaaaaaaaaaaaaaaaaaaaaaaaaaaaaaaaa-bbbbbbbb-\x1b\\", "\x1b[5;5H\x1bPa-b-c-d-e-f-g-h\x1b\\", "\x1bP" + tooLong + "\x1b\\k",
		"\x1bc", "xyz\x1bcw", all.String(), all.String() + "\x1b\\" + all.String(),
	}
	return append(l, halves...)
}

// P6.4: ActOutput: its bytes to its parser, and what they tell on its screen; it does not take the focus.
func TestOutput(t *testing.T) {
	for _, acts := range layouts() {
		for i, text := range texts() {
			s := after(t, acts...)
			for p, had := range s.View().Grids {
				if had.Wide == 0 {
					continue
				}
				was := s.View()
				want, parser := written(t, had, text)
				if r := s.Do(output(p, text)); r != (api.Reply{}) {
					t.Fatalf("%+v", r)
				}
				v := s.View()
				if !sameGrid(v.Grids[p], want) || !reflect.DeepEqual(s.parsers[p], parser) {
					t.Errorf("text %d at pane %d: %+v, %+v; wanted %+v, %+v", i, p, v.Grids[p], s.parsers[p], want, parser)
				}
				v.Grids[p] = had
				if !sameView(v, was) {
					t.Errorf("text %d at pane %d changes more than that", i, p)
				}
				fits(t, s)
			}
		}
	}
}

// P6.4: it does not matter how what a pane puts out is cut, nor what others do between.
func TestOutputCut(t *testing.T) {
	for i, text := range texts() {
		text = "\x1b[1;32mbegin" + text + "0m;end"
		if len(text) > 100 {
			text = text[:100]
		}
		whole := after(t, split(0, 1), output(0, text), focus(0))
		for at := range len(text) + 1 {
			s := after(t, split(0, 1), output(0, text[:at]), focus(0), output(0, ""), tick(), output(0, text[at:]))
			if !sameView(s.View(), whole.View()) || !reflect.DeepEqual(s.parsers, whole.parsers) {
				t.Errorf("text %d, cut at %d: %+v; wanted %+v", i, at, s.View().Grids[0], whole.View().Grids[0])
			}
		}
		s := after(t, split(0, 1), focus(0))
		for at := range len(text) {
			did(t, s, output(0, text[at:at+1]), output(1, text[at:at+1]))
		}
		if v, want := s.View(), whole.View(); !sameGrid(v.Grids[0], want.Grids[0]) || !reflect.DeepEqual(s.parsers[0], whole.parsers[0]) {
			t.Errorf("text %d, byte by byte: %+v; wanted %+v", i, v.Grids[0], want.Grids[0])
		}
	}
}

// P6.4: long outputs are as any others, wherever commands and pictures stand in them.
func TestLongOutput(t *testing.T) {
	unit := "ab\x1b[1;3%mc\x1bPabc-d\x1b\\\x1b[2Ce\r\n\x1b[36mfghij\x1b[L\x1b[;31m"
	for shift := range len(unit) + 3 {
		text := strings.Repeat("z", shift) + strings.Repeat(unit, 3*mostAtOnce/len(unit)) + unit[:shift%len(unit)]
		s := after(t, output(0, text))
		want, parser := written(t, grid.New(20, 7), text)
		if g := s.View().Grids[0]; !sameGrid(g, want) || !reflect.DeepEqual(s.parsers[0], parser) {
			t.Errorf("shift %d: %+v, %+v; wanted %+v, %+v", shift, g, s.parsers[0], want, parser)
		}
	}
	for _, n := range []int{mostAtOnce - 1, mostAtOnce, mostAtOnce + 1, 2 * mostAtOnce} {
		s := after(t, output(0, strings.Repeat("\x00", n-1)+"x"))
		if g := s.View().Grids[0]; g.Cells[0].Ch != 'x' || g.Col != 1 {
			t.Errorf("%d bytes: %+v", n, g)
		}
	}
}

// P6.4: panes that are not there, or no numbers of such.
func TestOutputAndFocusRefuse(t *testing.T) {
	for _, acts := range layouts() {
		s := after(t, acts...)
		did(t, s, attach(0, 9, 9), tick())
		for _, p := range append(oddNumbers, 0, 1, 2, 3, 4, 5, 6, 7) {
			if tiles.Has(s.View().Tiles, p) {
				did(t, s, output(p, "x\x1b[1"), focus(p))
				continue
			}
			refused(t, s, output(p, "x\x1b[1"), api.ErrNone)
			refused(t, s, output(p, ""), api.ErrNone)
			refused(t, s, focus(p), api.ErrNone)
		}
	}
}

// P6.4: ActFocus: the focus, and nothing else, whatever else the act says.
func TestFocus(t *testing.T) {
	s := busy(t)
	for _, p := range []int{0, 4, 4, 2, 3, 1, 0} {
		want := s.View()
		want.Focus = p
		if r := s.Do(api.Act{Kind: api.ActFocus, P: p, N: 3, M: 3, Bytes: "xyz"}); r != (api.Reply{}) {
			t.Errorf("%+v", r)
		}
		if v := s.View(); !sameView(v, want) {
			t.Errorf("focus %d: %+v", p, v)
		}
	}
}

// beyond asks that two screens of one server are the same but in a place; the status line, the last row, is beyond all places.
func beyond(t *testing.T, a, b api.Grid, place api.Rect) {
	t.Helper()
	for i := range a.Cells {
		row, col := i/a.Wide, i%a.Wide
		inside := row < a.High-1 && row >= place.Row && row < place.Row+place.High && col >= place.Col && col < place.Col+place.Wide
		if !inside && a.Cells[i] != b.Cells[i] {
			t.Errorf("row %d, column %d, beyond %+v: %+v becomes %+v", row, col, place, a.Cells[i], b.Cells[i])
		}
	}
}

// What a pane puts out changes nothing beyond its place.
func TestPanesDoNotTouch(t *testing.T) {
	for _, side := range [][2]int{{20, 7}, {24, 10}, {9, 5}, {4, 2}} {
		for _, acts := range layouts() {
			s := after(t, append([]api.Act{resize(side[0], side[1])}, acts...)...)
			for p := range api.MaxPanes {
				if !tiles.Has(s.View().Tiles, p) {
					continue
				}
				did(t, s, output(p, strings.Repeat("fill", 60)))
				for _, text := range texts() {
					was := s.View()
					did(t, s, output(p, text))
					v := s.View()
					beyond(t, paint.Screen(was, 24, 10), paint.Screen(v, 24, 10), tiles.Where(v.Tiles, v.Wide, v.High, p))
					v.Grids[p] = was.Grids[p]
					if !sameView(v, was) {
						t.Errorf("%q at pane %d", text, p)
					}
				}
			}
		}
	}
}

// P6.4: ActResize: all sides that there are.
func TestResize(t *testing.T) {
	for wide := 1; wide <= api.MaxWide; wide++ {
		s := after(t, split(0, 1), focus(0), attach(0, 5, 5))
		for high := 1; high <= api.MaxHigh; high++ {
			if r := s.Do(resize(wide, high)); r != (api.Reply{}) {
				t.Errorf("%+v", r)
			}
			if v := s.View(); v.Wide != wide || v.High != high || v.Focus != 0 || columns(v) != "0/1" {
				t.Errorf("%d by %d: %+v", wide, high, v)
			}
		}
		if c := s.clients[0]; c.shown.Wide != 5 || c.shown.High != 5 {
			t.Errorf("%+v", c)
		}
	}
}

// P6.4: ActResize: sides out of range, one of them or both.
func TestResizeRefuses(t *testing.T) {
	s := after(t, split(0, 1), output(0, "x\x1b["), attach(0, 5, 5), tick())
	for _, wide := range append(oddNumbers, 0, 25, 26) {
		refused(t, s, resize(wide, 1), api.ErrRange)
		refused(t, s, resize(wide, 10), api.ErrRange)
		refused(t, s, resize(wide, wide), api.ErrRange)
	}
	for _, high := range append(oddNumbers, 0, 11, 12, 24) {
		refused(t, s, resize(1, high), api.ErrRange)
		refused(t, s, resize(24, high), api.ErrRange)
	}
}
