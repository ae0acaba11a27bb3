package grid

import (
	"math"
	"slices"
	"strings"
	"testing"

	"fenestra/api"
)

func same(a, b api.Grid) bool {
	return a.Wide == b.Wide && a.High == b.High && slices.Equal(a.Cells, b.Cells) &&
		a.Row == b.Row && a.Col == b.Col && a.Ink == b.Ink && a.Bold == b.Bold &&
		a.Top == b.Top && a.Bottom == b.Bottom
}

func cellOf(b byte) api.Cell {
	switch {
	case b == '_':
		return api.Cell{}
	case b >= '1' && b <= '9':
		return api.Cell{Pic: int(b - '0')}
	}
	return api.Cell{Ch: int(b)}
}

// screen is one whose rows stand in a text, with slashes between: a letter, an underscore (empty), a digit (a picture's colour). All of its rows scroll.
func screen(text string, row, col int) api.Grid {
	lines := strings.Split(text, "/")
	g := api.Grid{Wide: len(lines[0]), High: len(lines), Row: row, Col: col, Bottom: len(lines)}
	for _, line := range lines {
		for i := range len(line) {
			g.Cells = append(g.Cells, cellOf(line[i]))
		}
	}
	return g
}

// scrolls is g with other rows that scroll.
func scrolls(g api.Grid, top, bottom int) api.Grid {
	g.Top, g.Bottom = top, bottom
	return g
}

// inks is g with an ink.
func inks(g api.Grid, ink int, bold bool) api.Grid {
	g.Ink, g.Bold = ink, bold
	return g
}

// put is g with one other cell, in a list of its own.
func put(g api.Grid, i int, c api.Cell) api.Grid {
	g.Cells = slices.Clone(g.Cells)
	g.Cells[i] = c
	return g
}

func letter(b int) api.Event { return api.Event{Kind: api.Print, B: b} }

func letters(s string) []api.Event {
	var l []api.Event
	for i := range len(s) {
		l = append(l, letter(int(s[i])))
	}
	return l
}

func ctl(b int) api.Event { return api.Event{Kind: api.Ctl, B: b} }

func csi(b int, params ...int) api.Event {
	return api.Event{Kind: api.Csi, B: b, Params: params}
}

func pic(payload string) api.Event { return api.Event{Kind: api.Pic, Payload: payload} }

// becomes holds what an event makes of a screen against what is wanted, with and without an ink that only some of them touch.
func becomes(t *testing.T, g api.Grid, e api.Event, want api.Grid) {
	t.Helper()
	for _, bold := range []bool{false, true} {
		for _, ink := range []int{0, 5, api.Colours} {
			before, after := inks(g, ink, bold), inks(want, ink, bold)
			if got, err := Do(before, e); err != api.OK || !same(got, after) || !Good(got) {
				t.Errorf("Do(%+v, %+v) = %+v, %d; wanted %+v, 0", before, e, got, err, after)
			}
		}
	}
}

// sides are the smallest, the greatest, and some that are refused.
var sides = []int{math.MinInt, -1, 0, 1, 2, 9, 10, 11, 23, 24, 25, 1 << 32, math.MaxInt}

// P2.1
func TestNew(t *testing.T) {
	for _, wide := range sides {
		for _, high := range sides {
			g := New(wide, high)
			w, h := max(1, min(wide, 24)), max(1, min(high, 10))
			want := api.Grid{Wide: w, High: h, Cells: make([]api.Cell, w*h), Bottom: h}
			if !same(g, want) || !Good(g) {
				t.Errorf("New(%d, %d) = %+v", wide, high, g)
			}
		}
	}
}

func goodCellsOfTests() []api.Cell {
	return []api.Cell{
		{},
		{Pic: 1},
		{Pic: 8},
		{Ch: 32},
		{Ch: 126},
		{Ch: 'a', Ink: 8},
		{Ch: 'a', Ink: 1, Bold: true},
		{Ch: 32, Bold: true},
	}
}

func badCellsOfTests() []api.Cell {
	return []api.Cell{
		{Bold: true},
		{Ink: 1},
		{Ink: -1},
		{Ink: 1, Bold: true},
		{Pic: -1},
		{Pic: 9},
		{Pic: math.MinInt},
		{Pic: math.MaxInt},
		{Pic: 1, Ch: 'a'},
		{Pic: 1, Ink: 1},
		{Pic: 1, Bold: true},
		{Pic: -1, Ch: 'a'},
		{Pic: 9, Ch: 'a'},
		{Ch: 31},
		{Ch: 127},
		{Ch: -1},
		{Ch: 1},
		{Ch: 256 + 'a'},
		{Ch: math.MinInt},
		{Ch: math.MaxInt},
		{Ch: 'a', Ink: -1},
		{Ch: 'a', Ink: 9},
		{Ch: 'a', Ink: math.MinInt},
		{Ch: 'a', Ink: math.MaxInt},
	}
}

// P2.1
func TestGoodCell(t *testing.T) {
	for _, c := range goodCellsOfTests() {
		if !GoodCell(c) {
			t.Errorf("%+v is good", c)
		}
	}
	for _, c := range badCellsOfTests() {
		if GoodCell(c) {
			t.Errorf("%+v is not good", c)
		}
	}
}

// P2.1: all cells of small numbers.
func TestGoodCellAll(t *testing.T) {
	for ch := -1; ch <= 128; ch++ {
		for ink := -1; ink <= 9; ink++ {
			for colour := -1; colour <= 9; colour++ {
				for _, bold := range []bool{false, true} {
					c := api.Cell{Ch: ch, Ink: ink, Pic: colour, Bold: bold}
					empty := ch == 0 && ink == 0 && colour == 0 && !bold
					coloured := ch == 0 && ink == 0 && !bold && colour >= 1 && colour <= 8
					shown := ch >= 32 && ch <= 126 && ink >= 0 && ink <= 8 && colour == 0
					if GoodCell(c) != (empty || coloured || shown) {
						t.Errorf("GoodCell(%+v) = %v", c, GoodCell(c))
					}
				}
			}
		}
	}
}

func goodScreens() []api.Grid {
	g := screen("ab1d/____/ijkl", 1, 2)
	l := []api.Grid{
		g,
		New(1, 1),
		New(api.MaxWide, api.MaxHigh),
		screen("a", 0, 1),
		screen("ab1d/____/ijkl", 0, 0),
		screen("ab1d/____/ijkl", 2, 4),
		scrolls(g, 0, 1),
		scrolls(g, 2, 3),
		scrolls(g, 1, 2),
		inks(g, 8, true),
		inks(g, 1, false),
	}
	for _, c := range goodCellsOfTests() {
		l = append(l, put(g, 0, c), put(g, 11, c))
	}
	return l
}

func badScreens() []api.Grid {
	g := screen("ab1d/____/ijkl", 1, 2)
	l := []api.Grid{
		{},
		{Wide: 1, High: 1, Bottom: 1},
		{Wide: -1, High: -1, Cells: make([]api.Cell, 1), Bottom: 1},
		{Wide: 25, High: 1, Cells: make([]api.Cell, 25), Bottom: 1},
		{Wide: 1, High: 11, Cells: make([]api.Cell, 11), Bottom: 1},
		{Wide: 0, High: 1, Bottom: 1},
		{Wide: 1, High: 0, Bottom: 1},
		{Wide: 1 << 32, High: 1 << 32, Bottom: 1},
		{Wide: math.MaxInt, High: math.MaxInt, Cells: make([]api.Cell, 1), Bottom: 1},
		{Wide: math.MinInt, High: math.MinInt, Bottom: 1},
		inks(g, -1, false),
		inks(g, 9, false),
		inks(g, math.MinInt, false),
		inks(g, math.MaxInt, false),
		scrolls(g, -1, 3),
		scrolls(g, 0, 0),
		scrolls(g, 1, 1),
		scrolls(g, 2, 1),
		scrolls(g, 3, 3),
		scrolls(g, 0, 4),
		scrolls(g, 3, 4),
		scrolls(g, math.MinInt, math.MaxInt),
		screen("ab1d/____/ijk", 1, 2),
		screen("ab1d/____/ijkl_", 1, 2),
	}
	for _, n := range []int{math.MinInt, -1, 3, math.MaxInt} {
		l = append(l, screen("ab1d/____/ijkl", n, 2))
	}
	for _, n := range []int{math.MinInt, -1, 5, math.MaxInt} {
		l = append(l, screen("ab1d/____/ijkl", 1, n))
	}
	for _, c := range badCellsOfTests() {
		l = append(l, put(g, 0, c), put(g, 11, c))
	}
	return l
}

// P2.1
func TestGood(t *testing.T) {
	for _, g := range goodScreens() {
		if !Good(g) {
			t.Errorf("%+v is good", g)
		}
	}
	for _, g := range badScreens() {
		if Good(g) {
			t.Errorf("%+v is not good", g)
		}
	}
}

// P2.2
func TestAt(t *testing.T) {
	text := "abcd/ef1h/i_kl"
	g := screen(text, 0, 0)
	for row := -2; row < 6; row++ {
		for col := -2; col < 8; col++ {
			var want api.Cell
			if row >= 0 && row < 3 && col >= 0 && col < 4 {
				want = cellOf(text[row*5+col])
			}
			if got := At(g, row, col); got != want {
				t.Errorf("At(%d, %d) = %+v, wanted %+v", row, col, got, want)
			}
		}
	}
	for _, n := range []int{math.MinInt, math.MinInt / 4, -1, math.MaxInt/4 + 1, math.MaxInt} {
		for _, c := range []api.Cell{At(g, n, 0), At(g, 0, n), At(g, n, n), At(g, 1, n), At(g, n, 1)} {
			if c != (api.Cell{}) {
				t.Errorf("At with %d: %+v", n, c)
			}
		}
	}
}

// P2.2: screens that are not good.
func TestAtOfScreensThatAreNotGood(t *testing.T) {
	a, z := api.Cell{Ch: 'a'}, api.Cell{Ch: 1000, Ink: -5, Pic: 99, Bold: true}
	cells := slices.Repeat([]api.Cell{a, z}, 200)
	for _, c := range []struct {
		g        api.Grid
		row, col int
		want     api.Cell
	}{
		{api.Grid{Wide: 3, High: 2, Cells: cells}, 1, 0, z},
		{api.Grid{Wide: 3, High: 2, Cells: cells}, 1, 1, a},
		{api.Grid{Wide: 3, High: 2, Cells: cells}, 2, 0, api.Cell{}},
		{api.Grid{Wide: 3, High: 2, Cells: cells}, 0, 3, api.Cell{}},
		{api.Grid{Wide: 3, High: 2, Cells: cells[:4]}, 1, 0, z},
		{api.Grid{Wide: 3, High: 2, Cells: cells[:4]}, 1, 1, api.Cell{}},
		{api.Grid{Wide: 3, High: 2}, 0, 0, api.Cell{}},
		{api.Grid{Wide: 3, High: 2, Cells: cells, Row: -9, Col: 99, Ink: -1, Top: 5}, 0, 1, z},
		{api.Grid{Wide: 24, High: 10, Cells: cells}, 9, 23, z},
		{api.Grid{Wide: 24, High: 10, Cells: cells}, 9, 22, a},
		{api.Grid{Wide: 25, High: 2, Cells: cells}, 0, 0, api.Cell{}},
		{api.Grid{Wide: 2, High: 11, Cells: cells}, 0, 0, api.Cell{}},
		{api.Grid{Wide: math.MaxInt, High: 2, Cells: cells}, 1, 1, api.Cell{}},
		{api.Grid{Wide: 2, High: math.MaxInt, Cells: cells}, 1 << 62, 0, api.Cell{}},
		{api.Grid{Wide: 0, High: 2, Cells: cells}, 0, 0, api.Cell{}},
		{api.Grid{Wide: 2, High: 0, Cells: cells}, 0, 0, api.Cell{}},
		{api.Grid{Wide: -1, High: 2, Cells: cells}, 0, 0, api.Cell{}},
		{api.Grid{Wide: -1, High: 2, Cells: cells}, 1, 1, api.Cell{}},
		{api.Grid{Wide: math.MinInt, High: math.MinInt, Cells: cells}, 0, 0, api.Cell{}},
		{api.Grid{Wide: math.MinInt, High: math.MinInt, Cells: cells}, -1, -1, api.Cell{}},
	} {
		if got := At(c.g, c.row, c.col); got != c.want {
			t.Errorf("At(%d wide, %d high, %d cells; %d, %d) = %+v", c.g.Wide, c.g.High, len(c.g.Cells), c.row, c.col, got)
		}
	}
}

// P2.9
func TestResize(t *testing.T) {
	from := inks(scrolls(screen("ab1d/efgh/_jkl", 2, 4), 1, 2), 3, true)
	for _, c := range []struct {
		wide, high int
		want       api.Grid
	}{
		{4, 3, screen("ab1d/efgh/_jkl", 2, 3)},
		{6, 4, screen("ab1d__/efgh__/_jkl__/______", 2, 4)},
		{5, 3, screen("ab1d_/efgh_/_jkl_", 2, 4)},
		{2, 2, screen("ab/ef", 1, 1)},
		{3, 5, screen("ab1/efg/_jk/___/___", 2, 2)},
		{7, 1, screen("ab1d___", 0, 4)},
		{1, 1, screen("a", 0, 0)},
		{0, -5, screen("a", 0, 0)},
		{math.MinInt, math.MinInt, screen("a", 0, 0)},
	} {
		got, err := Resize(from, c.wide, c.high)
		if want := inks(c.want, 3, true); err != api.OK || !same(got, want) || !Good(got) {
			t.Errorf("to %d, %d: %+v, %d; wanted %+v", c.wide, c.high, got, err, want)
		}
	}
}

// P2.9: each cell as At says of the old one.
func TestResizeAllSides(t *testing.T) {
	for _, from := range []api.Grid{full(1, 1), full(5, 3), full(24, 10), full(24, 1), full(1, 10)} {
		for _, wide := range sides {
			for _, high := range sides {
				from.Row, from.Col = from.High-1, from.Wide
				want := New(wide, high)
				for i := range want.Cells {
					want.Cells[i] = At(from, i/want.Wide, i%want.Wide)
				}
				want.Row = min(from.Row, want.High-1)
				want.Col = min(from.Col, want.Wide-1)
				if got, err := Resize(from, wide, high); err != api.OK || !same(got, want) {
					t.Errorf("%d, %d to %d, %d: %+v, %d", from.Wide, from.High, wide, high, got, err)
				}
			}
		}
	}
}

// full is a screen whose neighbours never are the same.
func full(wide, high int) api.Grid {
	g := New(wide, high)
	for i := range g.Cells {
		g.Cells[i] = api.Cell{Ch: 32 + i%95, Ink: i % 9, Bold: i%2 == 1}
	}
	return g
}

// P2.9: a screen that is not good.
func TestResizeRefuses(t *testing.T) {
	for _, g := range badScreens() {
		for _, n := range []int{0, 2, 24} {
			if got, err := Resize(g, n, n); err != api.ErrRange || !same(got, g) {
				t.Errorf("Resize(%+v) = %+v, %d", g, got, err)
			}
		}
	}
}

// P2.9
func TestAll(t *testing.T) {
	g := New(3, 2)
	for _, c := range []struct {
		l    []api.Event
		want api.Grid
		err  api.Errno
	}{
		{nil, New(3, 2), api.OK},
		{[]api.Event{}, New(3, 2), api.OK},
		{letters("abcd"), screen("abc/d__", 1, 1), api.OK},
		{letters("abcdefg"), screen("def/g__", 1, 1), api.OK},
		{letters("ab\x1fcd"), screen("ab_/___", 0, 2), api.ErrForm},
		{[]api.Event{letter('a'), {}, letter('b')}, screen("a__/___", 0, 1), api.ErrKind},
		{[]api.Event{letter('a'), {Kind: 6}, letter(0)}, screen("a__/___", 0, 1), api.ErrKind},
		{[]api.Event{letter(0), {Kind: 6}}, New(3, 2), api.ErrForm},
		{[]api.Event{{Kind: -1}}, New(3, 2), api.ErrKind},
	} {
		if got, err := All(g, c.l); err != c.err || !same(got, c.want) {
			t.Errorf("All(%+v) = %+v, %d; wanted %+v, %d", c.l, got, err, c.want, c.err)
		}
	}
}

// P2.9: nothing is done to a screen that is not good, not even by no events at all.
func TestAllOfScreensThatAreNotGood(t *testing.T) {
	for _, g := range badScreens() {
		if got, err := All(g, nil); err != api.OK || !same(got, g) {
			t.Errorf("All(%+v) of nothing = %+v, %d", g, got, err)
		}
		for _, e := range everyEvent() {
			if got, err := All(g, []api.Event{e, letter('a')}); err != api.ErrRange || !same(got, g) {
				t.Errorf("All(%+v, %+v) = %+v, %d", g, e, got, err)
			}
		}
	}
}

// guarded is g with spare room behind its cells, and all that there is of both.
func guarded(g api.Grid) (api.Grid, []api.Cell) {
	whole := append(slices.Clone(g.Cells), slices.Repeat([]api.Cell{{Ch: 'z', Ink: 7}}, 300)...)
	g.Cells = whole[:len(g.Cells)]
	return g, whole
}

// What is handed in stays as it is, its spare room, too; what is answered is memory of its own.
func TestListsAreLeftAlone(t *testing.T) {
	for _, from := range append(goodScreens(), badScreens()...) {
		answers := []func(g api.Grid) api.Grid{
			func(g api.Grid) api.Grid { g, _ = Resize(g, 3, 3); return g },
			func(g api.Grid) api.Grid { g, _ = Resize(g, g.Wide, g.High); return g },
			func(g api.Grid) api.Grid { g, _ = All(g, nil); return g },
		}
		for _, e := range everyEvent() {
			answers = append(answers, func(g api.Grid) api.Grid { g, _ = Do(g, e); return g })
		}
		for i, answer := range answers {
			g, whole := guarded(from)
			was := slices.Clone(whole)
			got := answer(g)
			scribble(got.Cells)
			if !slices.Equal(whole, was) {
				t.Errorf("answer %d changes what it was handed: %+v", i, from)
			}
		}
	}
}

// scribble writes to a list and to its spare room.
func scribble(cells []api.Cell) {
	cells = cells[:cap(cells)]
	for i := range cells {
		cells[i] = api.Cell{Ch: 'S', Ink: 6}
	}
}

// The numbers of a command are the caller's.
func TestParamsAreLeftAlone(t *testing.T) {
	for letter := range 128 {
		whole := []int{-5, 2000, 31, 1, 0, 7, 7}
		if _, err := Do(full(4, 3), csi(letter, whole[:4]...)); err != api.OK || !slices.Equal(whole, []int{-5, 2000, 31, 1, 0, 7, 7}) {
			t.Errorf("%c: %v, %d", letter, whole, err)
		}
	}
}

// everyEvent is one event of each kind, of each letter that is named, and some that are wrong.
func everyEvent() []api.Event {
	l := []api.Event{
		{}, {Kind: -1}, {Kind: 6}, {Kind: math.MinInt}, {Kind: math.MaxInt},
		{Kind: api.Reset}, {Kind: api.Reset, B: 300, Params: []int{-1}, Payload: "a"},
		letter('x'), letter(31), letter(127), letter(math.MinInt), letter(math.MaxInt),
		pic(""), pic("abcdefghi"), pic("a-b--c-.-\x00\xff-h"), pic(strings.Repeat("a", 300)), pic(strings.Repeat("-a", 300)),
	}
	for _, b := range []int{math.MinInt, -1, 0, 7, 8, 9, 10, 11, 13, 256 + 8, math.MaxInt} {
		l = append(l, ctl(b))
	}
	for _, b := range []int{math.MinInt, -1, 0, 'E', 'q', 256 + 'A', math.MaxInt} {
		l = append(l, csi(b, 2, 2))
	}
	for _, b := range "ABCDHJKLMmr" {
		l = append(l, csi(int(b)))
		for _, n := range []int{math.MinInt, -1, 0, 1, 2, 3, 31, 999, 1000, math.MaxInt} {
			l = append(l, csi(int(b), n), csi(int(b), n, n), csi(int(b), 1, n), csi(int(b), n, 1, n, n, n, n))
		}
	}
	return l
}

// The promises together: a good screen stays good, of its sides, and one event after another is as all of them at once.
func FuzzAll(f *testing.F) {
	f.Add(4, 3, []byte("\x00a\x00b\x01\x0a\x02A\x02L\x02r\x03a\x04"))
	f.Add(24, 10, []byte("\x02r\x02H\x02M\x02K\x02J\x02m\x05x\x00\x1f"))
	f.Fuzz(func(t *testing.T, wide, high int, told []byte) {
		g := New(wide, high)
		var l []api.Event
		for i := 0; i+1 < len(told); i += 2 {
			params := []int{int(told[len(told)-1-i]) - 3, int(told[i/2]) - 3}
			l = append(l, api.Event{Kind: int(told[i]%7) + 1, B: int(told[i+1]), Params: params, Payload: string(told[i:])})
		}
		step, stop := g, api.OK
		for _, e := range l {
			step, stop = Do(step, e)
			if !Good(step) || step.Wide != g.Wide || step.High != g.High {
				t.Fatalf("%+v makes %+v", e, step)
			}
			if stop != api.OK {
				break
			}
		}
		if got, err := All(g, l); err != stop || !same(got, step) {
			t.Errorf("at once %+v, %d; one by one %+v, %d", got, err, step, stop)
		}
	})
}
