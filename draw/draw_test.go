package draw

import (
	"math"
	"slices"
	"strings"
	"testing"

	"fenestra/api"
	"fenestra/grid"
	"fenestra/parse"
)

func same(a, b api.Grid) bool {
	return a.Wide == b.Wide && a.High == b.High && slices.Equal(a.Cells, b.Cells) &&
		a.Row == b.Row && a.Col == b.Col && a.Ink == b.Ink && a.Bold == b.Bold &&
		a.Top == b.Top && a.Bottom == b.Bottom
}

// looksLike is whether one sees the same: cells and cursor.
func looksLike(a, b api.Grid) bool {
	return a.Wide == b.Wide && a.High == b.High && slices.Equal(a.Cells, b.Cells) && a.Row == b.Row && a.Col == b.Col
}

func cellOf(b byte) api.Cell {
	switch {
	case b == '_':
		return api.Cell{}
	case b >= '1' && b <= '8':
		return api.Cell{Pic: int(b - '0')}
	}
	return api.Cell{Ch: int(b)}
}

// screen is one whose rows stand in a text, with slashes between: a letter, an underscore (empty), a digit (a picture's colour). All of its rows scroll.
func screen(text string, row, col int) api.Grid {
	lines := strings.Split(text, "/")
	g := api.Grid{Wide: len(lines[0]), High: len(lines), Row: row, Col: col, Bottom: len(lines)}
	for _, line := range lines {
		for i := range len(line) {
			g.Cells = append(g.Cells, cellOf(line[i]))
		}
	}
	return g
}

// at is g with the cursor elsewhere.
func at(g api.Grid, row, col int) api.Grid {
	g.Row, g.Col = row, col
	return g
}

// scrolls is g with other rows that scroll.
func scrolls(g api.Grid, top, bottom int) api.Grid {
	g.Top, g.Bottom = top, bottom
	return g
}

// inks is g with an ink.
func inks(g api.Grid, ink int, bold bool) api.Grid {
	g.Ink, g.Bold = ink, bold
	return g
}

// put is g with one other cell, in a list of its own.
func put(g api.Grid, i int, c api.Cell) api.Grid {
	g.Cells = slices.Clone(g.Cells)
	g.Cells[i] = c
	return g
}

// filled is a screen of such sides, cell by cell.
func filled(wide, high int, cell func(i int) api.Cell) api.Grid {
	g := grid.New(wide, high)
	for i := range g.Cells {
		g.Cells[i] = cell(i)
	}
	return g
}

// does is what bytes make of a screen; it asks that they leave a parser on the Ground.
func does(t *testing.T, g api.Grid, s string) api.Grid {
	t.Helper()
	p, told, err := parse.Feed(api.Parser{}, s)
	if err != api.OK || p.At != api.Ground || len(p.Params) > 0 || p.Payload != "" || p.Long {
		t.Fatalf("%q leaves %+v, %d", s, p, err)
	}
	g, err = grid.All(g, told)
	if err != api.OK {
		t.Fatalf("%q is refused: %d", s, err)
	}
	return g
}

// turns holds an answer of Turn against the whole of P5.1; it is the bytes.
func turns(t *testing.T, from, to api.Grid) string {
	t.Helper()
	s, told, err := Turn(from, to)
	if err != api.OK || len(s) > api.MaxQueue {
		t.Fatalf("Turn(%+v, %+v): %d bytes, %d", from, to, len(s), err)
	}
	made := does(t, from, s)
	if !looksLike(made, to) {
		t.Fatalf("%q on %+v makes %+v; wanted %+v", s, from, made, to)
	}
	if !same(told, made) {
		t.Fatalf("%q on %+v makes %+v; told is %+v", s, from, made, told)
	}
	if looksLike(from, to) && s != "" {
		t.Fatalf("nothing is to be done: %q", s)
	}
	return s
}

// showsAnew holds an answer of Anew against the whole of P5.2, on screens of the same sides; it is the bytes.
func showsAnew(t *testing.T, to api.Grid, on ...api.Grid) string {
	t.Helper()
	s, told, err := Anew(to)
	if err != api.OK || len(s) > api.MaxQueue {
		t.Fatalf("Anew(%+v): %d bytes, %d", to, len(s), err)
	}
	for _, g := range on {
		made := does(t, g, s)
		if !looksLike(made, to) {
			t.Fatalf("%q on %+v makes %+v; wanted %+v", s, g, made, to)
		}
		if !same(told, made) {
			t.Fatalf("%q on %+v makes %+v; told is %+v", s, g, made, told)
		}
	}
	return s
}

// sidesOfTests are the smallest, the greatest, and some between.
func sidesOfTests() [][2]int {
	return [][2]int{{1, 1}, {1, 2}, {2, 1}, {1, api.MaxHigh}, {api.MaxWide, 1}, {3, 2}, {9, 9}, {api.MaxWide, api.MaxHigh}}
}

// everyCell is an empty cell, letters of each ink, bold and not, and each colour.
func everyCell() []api.Cell {
	l := []api.Cell{{}, {Ch: ' '}, {Ch: '~'}, {Ch: '['}, {Ch: ' ', Ink: 8}, {Ch: ' ', Bold: true}}
	for ink := range api.Colours + 1 {
		l = append(l, api.Cell{Ch: 'a', Ink: ink}, api.Cell{Ch: 'a', Ink: ink, Bold: true})
	}
	for colour := 1; colour <= api.Colours; colour++ {
		l = append(l, api.Cell{Pic: colour})
	}
	return l
}

// patterns are rules by which screens are filled: even ones, some that change from cell to cell, and some that are mixed.
func patterns() []func(i int) api.Cell {
	var l []func(i int) api.Cell
	for _, c := range []api.Cell{{}, {Ch: ' '}, {Ch: 'x'}, {Ch: 'y', Ink: 8, Bold: true}, {Pic: 1}, {Pic: 8}} {
		l = append(l, func(int) api.Cell { return c })
	}
	lively := func(i int) api.Cell { return api.Cell{Ch: 33 + i%94, Ink: 1 + i%8, Bold: i%2 == 0} }
	wild := func(i int) api.Cell { return api.Cell{Ch: 126 - i%94, Ink: i * 5 % 9, Bold: i%3 == 0} }
	colourful := func(i int) api.Cell { return api.Cell{Pic: 1 + i%8} }
	empty := func(int) api.Cell { return api.Cell{} }
	l = append(l, lively, wild, colourful)
	for _, every := range []int{2, 3, 5} {
		for _, pair := range [][2]func(i int) api.Cell{
			{lively, colourful}, {colourful, lively}, {lively, empty}, {empty, lively}, {empty, colourful}, {colourful, empty}, {wild, colourful},
		} {
			l = append(l, func(i int) api.Cell {
				if i%every == 0 {
					return pair[0](i)
				}
				return pair[1](i)
			})
		}
	}
	all := everyCell()
	l = append(l, func(i int) api.Cell { return all[i*7%len(all)] }, func(i int) api.Cell { return all[i*11%len(all)] })
	return l
}

// P5.1: ordinary ones.
func TestTurn(t *testing.T) {
	for _, c := range []struct{ from, to string }{
		{"______/______", "hello_/______"},
		{"hello_/x____y", "hel_o_/x__1_y"},
		{"hello_/x____y", "______/______"},
		{"abcdef/ghijkl", "ghijkl/______"},
		{"abcdef/ghijkl", "______/abcdef"},
		{"abcdef/ghijkl", "1234__/5678__"},
		{"123456/12__78", "1_34_6/a2bc7_"},
		{"ab|cde/fg|hij", "__|cde/f_|hij"},
		{"ab|cde/fg|hij", "ab|___/fg|h__"},
		{"abcdef/ghijkl", "abcdeF/ghijkL"},
		{"abcdef/ghijkl", "abcde_/ghijk_"},
		{"abcdef/ghijkl", "abcde1/ghijk8"},
		{"      /      ", "______/______"},
		{"______/______", "      /      "},
	} {
		turns(t, screen(c.from, 0, 0), screen(c.to, 1, 5))
		turns(t, screen(c.from, 1, 6), screen(c.to, 0, 3))
		showsAnew(t, screen(c.to, 1, 3), screen(c.from, 1, 6))
	}
}

// P5.1: just what differs is sent, and where the cursor is.
func TestTurnIsBrief(t *testing.T) {
	for _, c := range []struct {
		from, to api.Grid
		want     string
	}{
		{screen("abc/def", 0, 0), screen("Abc/def", 0, 1), "A"},
		{screen("abc/def", 0, 0), screen("abc/def", 1, 0), "\x1b[2;1H"},
		{screen("abc/def", 1, 3), screen("abc/def", 1, 0), "\x1b[2;1H"},
		{screen("abc/def", 1, 3), screen("abc/def", 1, 2), "\x1b[2;3H"},
		{screen("abc/def", 1, 3), screen("abc/def", 1, 1), "\x1b[2;2H"},
		{screen("____/____", 0, 0), screen("____/_ab_", 1, 3), "\x1b[2;2Hab"},
		{screen("____/____", 0, 1), screen("_12_/____", 0, 1), "\x1bPab\x1b\\"},
		{screen("abcd/efgh", 0, 2), screen("ab__/efgh", 0, 2), "\x1b[K"},
		{screen("abcd/efgh", 0, 1), screen("__cd/efgh", 0, 1), "\x1b[1K"},
		{inks(screen("ab", 0, 0), 3, false), put(screen("ab", 0, 1), 0, api.Cell{Ch: 'a', Ink: 3, Bold: true}), "\x1b[1ma"},
		{inks(screen("ab", 0, 0), 3, true), put(screen("ab", 0, 1), 0, api.Cell{Ch: 'a', Ink: 2}), "\x1b[;31ma"},
		{inks(screen("_b", 0, 0), 3, true), screen("ab", 0, 1), "\x1b[ma"},
	} {
		if got := turns(t, c.from, c.to); len(got) > len(c.want) {
			t.Errorf("%+v to %+v: %q; enough is %q", c.from, c.to, got, c.want)
		}
	}
}

// P5.1, P5.2: each cell turned into each, with each ink at hand, alone and at the first, the last and other places.
func TestEachCellIntoEach(t *testing.T) {
	base := screen("xy1/_zw", 0, 0)
	for i, a := range everyCell() {
		for j, b := range everyCell() {
			ink, bold := (i+j)%(api.Colours+1), (i+j)%2 == 0
			turns(t, inks(put(screen("x", 0, 1), 0, a), ink, bold), put(screen("x", 0, 0), 0, b))
			for place := range base.Cells {
				from := inks(put(at(base, j%2, i%4), place, a), ink, bold)
				turns(t, from, put(at(base, i%2, j%3), place, b))
				showsAnew(t, put(at(base, i%2, j%3), place, b), from)
			}
		}
	}
}

// P5.1: from each ink to each.
func TestEachInk(t *testing.T) {
	for ink := range api.Colours + 1 {
		for _, bold := range []bool{false, true} {
			for _, c := range everyCell() {
				turns(t, inks(screen("_", 0, 0), ink, bold), put(screen("_", 0, 0), 0, c))
				turns(t, inks(screen("xyz", 0, 3), ink, bold), put(screen("xyz", 0, 1), 2, c))
			}
		}
	}
}

// P5.1: each row of four cells into each, of empty ones, letters and colours.
func TestEachRowIntoEach(t *testing.T) {
	rows := []string{""}
	for range 4 {
		var longer []string
		for _, s := range rows {
			longer = append(longer, s+"_", s+"a", s+"2")
		}
		rows = longer
	}
	for i, a := range rows {
		for j, b := range rows {
			turns(t, screen("zzzz/"+a, 1, i%5), screen("zzzz/"+b, 1, j%4))
		}
	}
}

// P5.1, P5.2: whole screens into each other, of all sides.
func TestWholeScreens(t *testing.T) {
	for _, side := range sidesOfTests() {
		var all []api.Grid
		for _, pattern := range patterns() {
			all = append(all, filled(side[0], side[1], pattern))
		}
		for i, from := range all {
			from = inks(at(from, i%from.High, i%(from.Wide+1)), i%(api.Colours+1), i%2 == 0)
			from = scrolls(from, i%from.High, i%from.High+1)
			for j, to := range all {
				to = at(to, j%to.High, j%to.Wide)
				turns(t, from, to)
				showsAnew(t, to, from)
			}
		}
	}
}

// mostOf is a screen that takes many bytes: all of its cells are other ones than those of another seed, with other inks than their neighbours.
func mostOf(seed, wide, high int) api.Grid {
	return filled(wide, high, func(i int) api.Cell {
		return api.Cell{Ch: 33 + (i+seed)%94, Ink: 1 + (i+seed)%8, Bold: (i+seed)%2 == 0}
	})
}

// P5.1, P5.2: at most MaxQueue, with all cells other ones, ink and Bold changing from cell to cell, or every other cell to be skipped.
func TestMostBytes(t *testing.T) {
	from := at(mostOf(1, api.MaxWide, api.MaxHigh), 9, 24)
	whole := at(mostOf(2, api.MaxWide, api.MaxHigh), 9, 23)
	for i := range from.Cells {
		if from.Cells[i] == whole.Cells[i] || i > 0 && whole.Cells[i].Ink == whole.Cells[i-1].Ink {
			t.Fatalf("cell %d does not change", i)
		}
	}
	if s := turns(t, from, whole); len(s) < len(whole.Cells) {
		t.Errorf("%d bytes show %d cells", len(s), len(whole.Cells))
	}
	showsAnew(t, whole, from)
	for skip := range 6 {
		for _, other := range everyCell() {
			to := whole
			for i := range to.Cells {
				if skip > 0 && i%(skip+1) == skip {
					to = put(to, i, other)
				}
			}
			turns(t, from, to)
			turns(t, to, visible(from))
			turns(t, grid.New(api.MaxWide, api.MaxHigh), to)
			showsAnew(t, to, from, whole)
		}
	}
}

// visible is g with the cursor at a cell, so that it can be shown.
func visible(g api.Grid) api.Grid {
	g.Col = min(g.Col, g.Wide-1)
	return g
}

// P5.1: from each place of the cursor to each, in each part that scrolls; the last column, behind it, and the last row among them.
func TestEachWay(t *testing.T) {
	for _, g := range []api.Grid{screen("abc/de1/_hi", 0, 0), screen("a/b/c/d", 0, 0), screen("ab", 0, 0), screen("x", 0, 0)} {
		for top := range g.High {
			for bottom := top + 1; bottom <= g.High; bottom++ {
				for i := range g.High * (g.Wide + 1) {
					from := inks(scrolls(at(g, i/(g.Wide+1), i%(g.Wide+1)), top, bottom), 3, true)
					for j := range g.Cells {
						to := at(g, j/g.Wide, j%g.Wide)
						turns(t, from, to)
						turns(t, from, put(to, j, api.Cell{Ch: 'z', Ink: 2}))
						turns(t, from, put(to, len(g.Cells)-1-j, api.Cell{Pic: 3}))
						turns(t, from, put(to, j, api.Cell{}))
					}
				}
			}
		}
	}
}

// P5.1: ways of two digits, on the greatest screen.
func TestEachWayOfTheGreatest(t *testing.T) {
	g := mostOf(0, api.MaxWide, api.MaxHigh)
	places := []int{0, 1, 8, 9, 10, 11, 22, 23}
	for _, row := range []int{0, 1, 8, 9} {
		for _, col := range append(places, 24) {
			for _, toRow := range []int{0, 1, 8, 9} {
				for _, toCol := range places {
					turns(t, at(g, row, col), at(g, toRow, toCol))
					turns(t, scrolls(at(g, row, col), row, row+1), at(g, toRow, toCol))
				}
			}
		}
	}
}

// P5.1: the last column of the last row that scrolls is filled without that it scrolls.
func TestLastCellDoesNotScroll(t *testing.T) {
	from := screen("abc/def/ghi", 0, 0)
	to := screen("ABC/DEF/GHI", 2, 2)
	for top := range 3 {
		for bottom := top + 1; bottom <= 3; bottom++ {
			for i := range 12 {
				turns(t, scrolls(at(from, i/4, i%4), top, bottom), to)
			}
		}
	}
}

// P5.1: nothing is to be done, whatever ink, and rows that scroll, both have.
func TestTurnNothing(t *testing.T) {
	for _, side := range sidesOfTests() {
		for _, pattern := range patterns() {
			to := filled(side[0], side[1], pattern)
			for _, cursor := range [][2]int{{0, 0}, {to.High - 1, to.Wide - 1}} {
				to = scrolls(inks(at(to, cursor[0], cursor[1]), 5, true), 0, 1)
				from := scrolls(inks(to, 2, false), to.High-1, to.High)
				if s, g, err := Turn(from, to); s != "" || !same(g, from) || err != api.OK {
					t.Errorf("%q, %+v, %d", s, g, err)
				}
			}
		}
	}
}

// P5.1: the cursor behind the last column is not in it.
func TestTurnFromBehindTheLastColumn(t *testing.T) {
	for _, side := range sidesOfTests() {
		g := mostOf(0, side[0], side[1])
		for row := range g.High {
			if s := turns(t, at(g, row, g.Wide), at(g, row, g.Wide-1)); s == "" {
				t.Errorf("%d wide, row %d: nothing is sent", g.Wide, row)
			}
			turns(t, at(g, row, g.Wide), put(at(g, row, 0), row*g.Wide, api.Cell{Ch: '!'}))
			turns(t, at(g, row, g.Wide), put(at(g, row, 0), (row+1)*g.Wide-1, api.Cell{}))
		}
	}
}

// P5.1: ink and rows that scroll are those that the bytes lead to, not those of the screen that is shown.
func TestTurnTellsInkAndWhatScrolls(t *testing.T) {
	from := inks(scrolls(screen("ab/cd/ef", 0, 0), 1, 2), 7, true)
	to := inks(scrolls(screen("ab/cd/ef", 2, 1), 0, 1), 4, false)
	if _, g, err := Turn(from, to); err != api.OK || !same(g, at(from, 2, 1)) {
		t.Errorf("%+v, %d", g, err)
	}
	turns(t, from, put(to, 3, api.Cell{Ch: 'x', Ink: 1}))
}

// P5.2: on whatever screen there is, the same; it never is nothing.
func TestAnew(t *testing.T) {
	for _, side := range sidesOfTests() {
		empty := grid.New(side[0], side[1])
		wide, high := empty.Wide, empty.High
		var on []api.Grid
		for i, pattern := range patterns() {
			g := inks(filled(wide, high, pattern), i%(api.Colours+1), i%2 == 1)
			on = append(on, at(g, high-1, wide), scrolls(at(g, i%high, i%wide), i%high, high), scrolls(g, 0, 1+i%high))
		}
		for _, g := range on {
			to := at(g, g.Row, min(g.Col, wide-1))
			if s := showsAnew(t, to, append(on, empty, to)...); s == "" {
				t.Errorf("nothing is sent for %+v", to)
			}
		}
		showsAnew(t, empty, on...)
		showsAnew(t, at(empty, high-1, wide-1), on...)
	}
}

func badScreens() []api.Grid {
	g := screen("ab1d/____/ijkl", 1, 2)
	l := []api.Grid{
		{},
		{Wide: 1, High: 1, Bottom: 1},
		{Wide: -1, High: -1, Cells: make([]api.Cell, 1), Bottom: 1},
		{Wide: 25, High: 1, Cells: make([]api.Cell, 25), Bottom: 1},
		{Wide: 1, High: 11, Cells: make([]api.Cell, 11), Bottom: 1},
		{Wide: 0, High: 1, Bottom: 1},
		{Wide: 1, High: 0, Bottom: 1},
		{Wide: 1 << 32, High: 1 << 32, Bottom: 1},
		{Wide: math.MaxInt, High: math.MaxInt, Cells: make([]api.Cell, 1), Bottom: 1},
		{Wide: math.MinInt, High: math.MinInt, Bottom: 1},
		screen("ab1d/____/ijk", 1, 2),
		screen("ab1d/____/ijkl_", 1, 2),
		scrolls(g, -1, 3),
		scrolls(g, 1, 1),
		scrolls(g, 0, 4),
		scrolls(g, math.MinInt, math.MaxInt),
	}
	for _, n := range []int{math.MinInt, -1, 9, math.MaxInt} {
		l = append(l, at(g, n, 2), at(g, 1, n), inks(g, n, false), put(g, 11, api.Cell{Ch: 'a', Ink: n}), put(g, 0, api.Cell{Pic: n}))
	}
	for _, n := range []int{math.MinInt, -1, 1, 31, 127, 256 + 'a', math.MaxInt} {
		l = append(l, put(g, 11, api.Cell{Ch: n}))
	}
	return append(l, at(g, 3, 0), at(g, 0, 5), put(g, 3, api.Cell{Bold: true}), put(g, 3, api.Cell{Ink: 1}), put(g, 3, api.Cell{Ch: 'a', Pic: 1}))
}

// refuses holds an answer of Turn against the last part of P5.1.
func refuses(t *testing.T, from, to api.Grid) {
	t.Helper()
	if s, g, err := Turn(from, to); s != "" || !same(g, from) || err != api.ErrRange {
		t.Errorf("Turn(%+v, %+v) = %q, %+v, %d", from, to, s, g, err)
	}
}

// P5.1: a screen that is not good, the first, the second, or both of them.
func TestTurnRefuses(t *testing.T) {
	for _, bad := range badScreens() {
		refuses(t, bad, screen("ab1d/____/ijkl", 1, 2))
		refuses(t, screen("ab1d/____/ijkl", 1, 2), bad)
		refuses(t, bad, bad)
		refuses(t, bad, grid.New(1, 1))
		refuses(t, grid.New(1, 1), bad)
	}
}

// P5.1: other sides, as many cells as they may have.
func TestTurnRefusesOtherSides(t *testing.T) {
	for _, a := range append(sidesOfTests(), [2]int{2, 3}, [2]int{6, 1}, [2]int{1, 6}) {
		for _, b := range append(sidesOfTests(), [2]int{2, 3}, [2]int{6, 1}, [2]int{1, 6}) {
			from, to := mostOf(1, a[0], a[1]), mostOf(1, b[0], b[1])
			if a != b {
				refuses(t, from, to)
				refuses(t, inks(at(from, 0, from.Wide), 3, true), to)
			} else {
				turns(t, from, to)
			}
		}
	}
}

// P5.1, P5.2: the cursor that is wanted behind the last column.
func TestRefusesBehindTheLastColumn(t *testing.T) {
	for _, side := range sidesOfTests() {
		g := mostOf(1, side[0], side[1])
		for row := range g.High {
			to := at(g, row, g.Wide)
			refuses(t, g, to)
			refuses(t, to, to)
			refuses(t, grid.New(side[0], side[1]), to)
			refusesAnew(t, to)
		}
	}
}

func refusesAnew(t *testing.T, to api.Grid) {
	t.Helper()
	if s, g, err := Anew(to); s != "" || !same(g, to) || err != api.ErrRange {
		t.Errorf("Anew(%+v) = %q, %+v, %d", to, s, g, err)
	}
}

// P5.2: a screen that is not good.
func TestAnewRefuses(t *testing.T) {
	for _, bad := range badScreens() {
		refusesAnew(t, bad)
	}
}

// guarded is g with spare room behind its cells, and all that there is of both.
func guarded(g api.Grid) (api.Grid, []api.Cell) {
	whole := append(slices.Clone(g.Cells), slices.Repeat([]api.Cell{{Ch: 'z', Ink: 7}}, 300)...)
	g.Cells = whole[:len(g.Cells)]
	return g, whole
}

// scribble writes to a list and to its spare room.
func scribble(cells []api.Cell) {
	cells = cells[:cap(cells)]
	for i := range cells {
		cells[i] = api.Cell{Ch: 'S', Ink: 6}
	}
}

// What is handed in stays as it is, its spare room, too; what is answered is memory of its own, and the same each time.
func TestListsAreLeftAlone(t *testing.T) {
	g := screen("ab1d/____/ijkl", 1, 2)
	for _, from := range append(badScreens(), g, screen("____/ab1d/i2__", 2, 4), at(g, 0, 4)) {
		for _, to := range append(badScreens(), g, screen("1_cd/____/i23l", 0, 0), at(g, 0, 4)) {
			a, allOfA := guarded(from)
			b, allOfB := guarded(to)
			wasA, wasB := slices.Clone(allOfA), slices.Clone(allOfB)
			s, got, err := Turn(a, b)
			sAgain, gotAgain, errAgain := Turn(a, b)
			if s != sAgain || !same(got, gotAgain) || err != errAgain {
				t.Errorf("%q, %+v, %d; then %q, %+v, %d", s, got, err, sAgain, gotAgain, errAgain)
			}
			_, anew, _ := Anew(b)
			scribble(got.Cells)
			scribble(anew.Cells)
			if !slices.Equal(allOfA, wasA) || !slices.Equal(allOfB, wasB) {
				t.Fatalf("Turn(%+v, %+v) or Anew of the second changes what it was handed", from, to)
			}
		}
	}
}

// A client that is shown one screen after another, each from what it was told to show.
func TestTurnAfterTurn(t *testing.T) {
	all := patterns()
	shown := inks(scrolls(at(filled(9, 4, all[0]), 1, 9), 1, 3), 6, true)
	client := shown
	for i := range 400 {
		to := at(filled(9, 4, all[i*13%len(all)]), i%4, i*5%9)
		to.Cells[i%36] = api.Cell{Ch: 33 + i%90, Ink: i % 9}
		s, told, err := Turn(shown, to)
		if i%17 == 16 {
			s, told, err = Anew(to)
		}
		shown, client = told, does(t, client, s)
		if err != api.OK || !same(shown, client) || !looksLike(client, to) {
			t.Fatalf("step %d: %+v, %d; wanted %+v", i, client, err, to)
		}
	}
}

// screenOf is a good screen that bytes stand for.
func screenOf(told []byte, wide, high int) api.Grid {
	all := everyCell()
	next := func(n int) int {
		if len(told) == 0 {
			return 0
		}
		b := int(told[0])
		told = told[1:]
		return b % n
	}
	g := grid.New(wide, high)
	g.Row, g.Col, g.Ink, g.Bold = next(g.High), next(g.Wide+1), next(api.Colours+1), next(2) == 1
	g.Top = next(g.High)
	g.Bottom = g.Top + 1 + next(g.High-g.Top)
	for i := range g.Cells {
		g.Cells[i] = all[next(len(all))]
	}
	return g
}

// The promises together.
func FuzzTurn(f *testing.F) {
	f.Add(4, 3, []byte("hello, world"), []byte("\x02\x01\x00another"))
	f.Add(24, 10, []byte(strings.Repeat("\x01\x0c\x17", 80)), []byte(strings.Repeat("\x09\x00\x1c\x08", 60)))
	f.Add(1, 1, []byte("\x00\x01"), []byte(""))
	f.Fuzz(func(t *testing.T, wide, high int, a, b []byte) {
		from, to := screenOf(a, wide, high), screenOf(b, wide, high)
		if to.Col == to.Wide {
			refuses(t, from, to)
			refusesAnew(t, to)
			to.Col--
		}
		turns(t, from, to)
		showsAnew(t, to, from, to)
	})
}
