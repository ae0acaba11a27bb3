package paint

import (
	"math"
	"reflect"
	"slices"
	"strings"
	"testing"

	"fenestra/api"
	"fenestra/grid"
	"fenestra/tiles"
)

// panes are columns that stand in a text, with slashes between; each digit is a pane.
func panes(text string) api.Tiles {
	var t api.Tiles
	for _, column := range strings.Split(text, "/") {
		var l []int
		for i := range len(column) {
			l = append(l, int(column[i]-'0'))
		}
		t.Columns = append(t.Columns, l)
	}
	return t
}

// filled is a screen whose cells differ from those of all other panes, by row and column, too.
func filled(p, wide, high int) api.Grid {
	g := grid.New(wide, high)
	for i := range g.Cells {
		row, col := i/g.Wide, i%g.Wide
		g.Cells[i] = api.Cell{Ch: 'A' + p, Ink: row % 9, Bold: col%2 == 0}
		if (row+col)%3 == 2 {
			g.Cells[i] = api.Cell{Pic: 1 + (p+row+col)%8}
		}
	}
	return g
}

// view is panes of a text, each with a screen of a letter (pane 0: a) of the sides of its place, its cursor at the first cell.
func view(text string, wide, high, focus int) api.View {
	v := api.View{Tiles: panes(text), Wide: wide, High: high, Focus: focus}
	for p := range v.Grids {
		if r := tiles.Where(v.Tiles, wide, high, p); r.Wide > 0 {
			g := grid.New(r.Wide, r.High)
			for i := range g.Cells {
				g.Cells[i].Ch = 'a' + p
			}
			v.Grids[p] = g
		}
	}
	return v
}

// shown is the bytes of a screen, row by row, with slashes between; an underscore for an empty cell.
func shown(g api.Grid) string {
	var s strings.Builder
	for i, c := range g.Cells {
		if i > 0 && i%g.Wide == 0 {
			s.WriteByte('/')
		}
		if c.Ch == 0 {
			c.Ch = '_'
		}
		s.WriteByte(byte(c.Ch))
	}
	return s.String()
}

// P4.1, P4.2, P4.3: what is seen of panes, by letters.
func TestScreenShows(t *testing.T) {
	for _, c := range []struct {
		panes            string
		wide, high       int
		ofWide, ofHigh   int
		want             string
		wantWide, wantHi int
	}{
		{"0", 3, 2, 3, 3, "aaa/aaa/0  ", 3, 3},
		{"0", 3, 3, 3, 3, "aaa/aaa/0  ", 3, 3}, // the status line is in the place of a row
		{"0", 3, 2, 4, 4, "aaa./aaa./..../0   ", 4, 4},
		{"5", 2, 1, 3, 2, "ff./5  ", 3, 2},
		{"0/1", 5, 2, 7, 4, "aa|bb../aa|bb../......./0 1    ", 7, 4},
		{"0/1", 6, 2, 7, 4, "aaa|bb./aaa|bb./......./0 1    ", 7, 4},
		{"01", 2, 5, 3, 7, "aa./aa./--./bb./bb./.../0 1", 3, 7},
		{"01", 2, 6, 3, 7, "aa./aa./aa./--./bb./bb./0 1", 3, 7},
		{"02/1", 5, 3, 7, 5, "aa|bb../--|bb../cc|bb../......./0 2 1  ", 7, 5},
		{"1/20", 5, 3, 6, 4, "bb|cc./bb|--./bb|aa./1 2 0 ", 6, 4},
		{"012/34/5", 5, 5, 7, 6, "a|d|f../-|d|f../b|-|f../-|e|f../c|e|f../0 1 2 3", 7, 6},
		{"0/1/2/3/4/5", 11, 1, 12, 2, "a|b|c|d|e|f./0 1 2 3 4 5 ", 12, 2},

		// One less than room for all: no places, no lines; in a column alone: its line stays.
		{"0/1", 2, 2, 4, 4, "--../--../..../0 1 ", 4, 4},
		{"0/1/2/3/4/5", 10, 1, 12, 2, "----------../0 1 2 3 4 5 ", 12, 2},
		{"01", 2, 2, 3, 4, "--./--./.../0 1", 3, 4},
		{"01/2", 5, 2, 6, 3, "--|cc./--|cc./0 1 2 ", 6, 3},
		{"2/01", 5, 2, 6, 3, "cc|--./cc|--./2 0 1 ", 6, 3},
		{"012/34/5", 5, 4, 6, 5, "-|d|f./-|d|f./-|-|f./-|e|f./0 1 2 ", 6, 5},
		{"01/23", 5, 2, 6, 3, "--|--./--|--./0 1 2 ", 6, 3},

		// Sides that no place has.
		{"0", 0, 0, 2, 2, "../0 ", 2, 2},
		{"0", 3, 0, 2, 2, "../0 ", 2, 2},
		{"0", 0, 3, 2, 2, "../0 ", 2, 2},
		{"0", -1, 3, 2, 2, "../0 ", 2, 2},
		{"0", 25, 2, 2, 2, "--/0 ", 2, 2},
		{"0/1", 25, 2, 3, 2, "---/0 1", 3, 2},
		{"0", 2, 25, 2, 2, "--/0 ", 2, 2},
		{"0/1", 3, 25, 3, 2, "-|-/0 1", 3, 2},
		{"0/1", 3, 24, 3, 2, "a|b/0 1", 3, 2},
		{"0/1", math.MaxInt, math.MaxInt, 3, 2, "---/0 1", 3, 2},
		{"0/1", math.MinInt, math.MinInt, 3, 2, ".../0 1", 3, 2},

		// The client's own sides.
		{"02/1", 5, 3, 1, 1, "0", 1, 1},
		{"02/1", 5, 3, 1, 2, "a/0", 1, 2},
		{"02/1", 5, 3, 2, 1, "0 ", 2, 1},
		{"02/1", 5, 3, 2, 2, "aa/0 ", 2, 2},
		{"02/1", 5, 3, 0, 0, "0", 1, 1},
		{"02/1", 5, 3, -1, 2, "a/0", 1, 2},
		{"02/1", 5, 3, math.MinInt, math.MinInt, "0", 1, 1},
		{"02/1", 5, 2, 24, 3, "--|bb" + strings.Repeat(".", 19) + "/--|bb" + strings.Repeat(".", 19) + "/0 2 1" + strings.Repeat(" ", 19), 24, 3},
		{"02/1", 5, 2, 25, 3, "--|bb" + strings.Repeat(".", 19) + "/--|bb" + strings.Repeat(".", 19) + "/0 2 1" + strings.Repeat(" ", 19), 24, 3},
		{"0", 1, 10, 1, 10, strings.Repeat("a/", 9) + "0", 1, 10},
		{"0", 1, 10, 1, 11, strings.Repeat("a/", 9) + "0", 1, 10},
		{"0", 1, 3, 1, math.MaxInt, "a/a/a/" + strings.Repeat("./", 6) + "0", 1, 10},
	} {
		g := Screen(view(c.panes, c.wide, c.high, 0), c.ofWide, c.ofHigh)
		if got := shown(g); got != c.want || g.Wide != c.wantWide || g.High != c.wantHi {
			t.Errorf("%s of %d, %d on %d, %d: %d, %d, %q; wanted %q", c.panes, c.wide, c.high, c.ofWide, c.ofHigh, g.Wide, g.High, got, c.want)
		}
	}
}

// P4.1: the first and the last cell of all, and one beyond each.
func TestCellOut(t *testing.T) {
	v := view("0/1", 20, 7, 0)
	out, a, b := api.Cell{Ch: '.'}, api.Cell{Ch: 'a'}, api.Cell{Ch: 'b'}
	for _, c := range []struct {
		row, col int
		want     api.Cell
	}{
		{0, 0, a}, {6, 0, a}, {0, 19, b}, {6, 19, b},
		{-1, 0, out}, {7, 0, out}, {0, -1, out}, {0, 20, out},
		{-1, -1, out}, {7, 20, out}, {7, 10, out}, {-1, 10, out},
		{math.MinInt, 0, out}, {math.MaxInt, 0, out}, {0, math.MinInt, out}, {0, math.MaxInt, out},
		{math.MinInt, math.MinInt, out}, {math.MaxInt, math.MaxInt, out},
		{1 << 32, 1 << 32, out}, {-1 << 32, 0, out},
	} {
		if got := Cell(v, c.row, c.col); got != c.want {
			t.Errorf("Cell(%d, %d) = %+v; wanted %+v", c.row, c.col, got, c.want)
		}
	}
}

// P4.1: the cell of a pane's screen is answered as it is, whatever it is made of.
func TestCellIsWhole(t *testing.T) {
	cells := []api.Cell{
		{}, {Pic: 8}, {Pic: 1}, {Ch: ' '}, {Ch: '~', Ink: 8, Bold: true}, {Ch: 'a', Ink: 3}, {Ch: 'a', Bold: true},
		{Ch: -1, Ink: 99, Pic: math.MinInt, Bold: true}, // of a screen that is not good
	}
	v := view("0/1", 5, 4, 0)
	for p := range 2 {
		for i, c := range cells {
			v.Grids[p].Cells[i] = c
			if got := Cell(v, i/2, p*3+i%2); got != c {
				t.Errorf("pane %d: %+v; wanted %+v", p, got, c)
			}
		}
	}
	if g := Screen(v, 5, 5); !slices.Equal(g.Cells[3*5:3*5+2], cells[6:]) || !slices.Equal(g.Cells[3*5+3:4*5], cells[6:]) {
		t.Errorf("%+v", g.Cells)
	}
}

// P4.1: a pane's screen that has not the sides of its place, or is not good: as At says.
func TestCellOfOtherScreens(t *testing.T) {
	e, a, bar := api.Cell{}, api.Cell{Ch: 'A'}, api.Cell{Ch: '-'}
	small, large := grid.New(1, 1), grid.New(24, 10)
	for _, g := range []api.Grid{small, large} {
		for i := range g.Cells {
			g.Cells[i] = a
		}
	}
	few := api.Grid{Wide: 2, High: 2, Cells: []api.Cell{a, a, a}}
	wide, high := large, large
	wide.Wide, high.High = 25, 11
	less := api.Grid{Wide: -1, High: -1, Cells: []api.Cell{a}}
	most := api.Grid{Wide: math.MaxInt, High: math.MaxInt, Cells: []api.Cell{a}}
	for _, c := range []struct {
		name string
		g    api.Grid
		want []api.Cell // in two columns and five rows; the third one is the bar
	}{
		{"small", small, []api.Cell{a, e, e, e}},
		{"large", large, []api.Cell{a, a, a, a}},
		{"few", few, []api.Cell{a, a, a, e}},
		{"too wide", wide, []api.Cell{e, e, e, e}},
		{"too high", high, []api.Cell{e, e, e, e}},
		{"zero", api.Grid{}, []api.Cell{e, e, e, e}},
		{"less", less, []api.Cell{e, e, e, e}},
		{"most", most, []api.Cell{e, e, e, e}},
	} {
		v := api.View{Tiles: panes("01"), Wide: 2, High: 5}
		for p, first := range []int{0, 3} {
			v.Grids = [api.MaxPanes]api.Grid{}
			v.Grids[p] = c.g
			for i, want := range c.want {
				if got := Cell(v, first+i/2, i%2); got != want {
					t.Errorf("%s: pane %d, cell %d: %+v; wanted %+v", c.name, p, i, got, want)
				}
			}
			for col := range 2 {
				if got := Cell(v, 2, col); got != bar {
					t.Errorf("%s: %+v", c.name, got)
				}
			}
		}
	}
}

// P4.1: panes that are not good have no places; but columns are columns, and lines stand behind them.
func TestCellOfWrongPanes(t *testing.T) {
	for _, c := range []struct {
		columns [][]int
		want    string
	}{
		{nil, "-----"},
		{[][]int{}, "-----"},
		{[][]int{nil}, "-----"},
		{[][]int{{-1}}, "-----"},
		{[][]int{{6}}, "-----"},
		{[][]int{{math.MinInt}}, "-----"},
		{[][]int{{math.MaxInt}}, "-----"},
		{[][]int{{0, 0}}, "-----"},
		{[][]int{{0, 1, 2, 3}}, "-----"},
		{[][]int{{0}, {}}, "--|--"},
		{[][]int{{}, {0}}, "--|--"},
		{[][]int{{0}, {0}}, "--|--"},
		{[][]int{{0}, {6}}, "--|--"},
		{[][]int{nil, nil, nil}, "-|-|-"},
		{[][]int{{0}, {1}, {1}}, "-|-|-"},
		{[][]int{{0}, {1}, {2}, {2}}, "-----"},
		{make([][]int, 7), "-----"},
		{make([][]int, 1000), "-----"},
	} {
		v := view("0", 5, 1, 0)
		v.Tiles.Columns = c.columns
		got := ""
		for col := range 5 {
			cell := Cell(v, 0, col)
			got += string(rune(cell.Ch))
			if cell != (api.Cell{Ch: cell.Ch}) {
				t.Errorf("%v: %+v", c.columns, cell)
			}
		}
		if got != c.want {
			t.Errorf("%v: %q; wanted %q", c.columns, got, c.want)
		}
		if g := Screen(v, 5, 2); g.Row != 0 || g.Col != 0 || shown(g)[:5] != c.want {
			t.Errorf("%v: %+v", c.columns, g)
		}
	}
}

// P4.2
func TestStatus(t *testing.T) {
	good, wrong := [][]int{{2, 0}, {5}}, [][]int{nil, {7, 9, 10, 8}, {}, {-1, math.MinInt, math.MaxInt, 7}}
	for _, c := range []struct {
		columns    [][]int
		focus, col int
		want       api.Cell
	}{
		{good, 0, 0, api.Cell{Ch: '2'}},
		{good, 0, 2, api.Cell{Ch: '0', Bold: true}},
		{good, 0, 4, api.Cell{Ch: '5'}},
		{good, 2, 0, api.Cell{Ch: '2', Bold: true}},
		{good, 2, 2, api.Cell{Ch: '0'}},
		{good, 5, 4, api.Cell{Ch: '5', Bold: true}},
		{good, 3, 4, api.Cell{Ch: '5'}},
		{good, -1, 2, api.Cell{Ch: '0'}},
		{good, 1, 2, api.Cell{Ch: '0'}},
		{good, 0, 1, api.Cell{Ch: ' '}},
		{good, 0, 3, api.Cell{Ch: ' '}},
		{good, 0, 5, api.Cell{Ch: ' '}},
		{good, 0, 6, api.Cell{Ch: ' '}},
		{good, 0, 24, api.Cell{Ch: ' '}},
		{good, 2, -1, api.Cell{Ch: ' '}},
		{good, 2, -2, api.Cell{Ch: ' '}},
		{good, 2, math.MinInt, api.Cell{Ch: ' '}},
		{good, 2, math.MaxInt, api.Cell{Ch: ' '}},
		{good, 2, math.MaxInt - 1, api.Cell{Ch: ' '}},
		{nil, 0, 0, api.Cell{Ch: ' '}},
		{[][]int{nil, {}}, 0, 0, api.Cell{Ch: ' '}},

		{wrong, 0, 0, api.Cell{Ch: '7'}}, // digits that are no panes
		{wrong, 0, 2, api.Cell{Ch: '9'}},
		{wrong, 9, 2, api.Cell{Ch: '9', Bold: true}},
		{wrong, 0, 4, api.Cell{Ch: '9'}}, // no digits
		{wrong, 9, 4, api.Cell{Ch: '9'}},
		{wrong, 10, 4, api.Cell{Ch: '9', Bold: true}},
		{wrong, 0, 6, api.Cell{Ch: '8'}},
		{wrong, 0, 8, api.Cell{Ch: '0'}},
		{wrong, -1, 8, api.Cell{Ch: '0', Bold: true}},
		{wrong, 0, 10, api.Cell{Ch: '0'}},
		{wrong, 0, 12, api.Cell{Ch: '9'}},
		{wrong, math.MaxInt, 12, api.Cell{Ch: '9', Bold: true}},
		{wrong, 7, 0, api.Cell{Ch: '7', Bold: true}}, // twice
		{wrong, 7, 14, api.Cell{Ch: '7', Bold: true}},
		{wrong, 7, 13, api.Cell{Ch: ' '}},
		{wrong, 7, 16, api.Cell{Ch: ' '}},
	} {
		v := api.View{Tiles: api.Tiles{Columns: c.columns}, Focus: c.focus}
		if got := Status(v, c.col); got != c.want {
			t.Errorf("Status(%v, %d, %d) = %+v; wanted %+v", c.columns, c.focus, c.col, got, c.want)
		}
	}
}

// P4.3
func TestCursor(t *testing.T) {
	for _, c := range []struct {
		name             string
		panes            string
		focus, row, col  int // the cursor of that pane's own screen
		wide, high       int // of the client
		wantRow, wantCol int
		atWide, atHigh   int
	}{
		// On 20 columns and 7 rows: pane 0 from 0, 0; 2 from 4, 0; 1 from 0, 11.
		{name: "first", panes: "02/1", focus: 0, wide: 20, high: 8},
		{name: "within", panes: "02/1", focus: 0, row: 1, col: 4, wide: 20, high: 8, wantRow: 1, wantCol: 4},
		{name: "last", panes: "02/1", focus: 0, row: 2, col: 9, wide: 20, high: 8, wantRow: 2, wantCol: 9},
		{name: "behind the last column", panes: "02/1", focus: 0, row: 2, col: 10, wide: 20, high: 8, wantRow: 2, wantCol: 9},
		{name: "below the last row", panes: "02/1", focus: 0, row: 3, col: 0, wide: 20, high: 8, wantRow: 2},
		{name: "of one below", panes: "02/1", focus: 2, wide: 20, high: 8, wantRow: 4},
		{name: "of one below, within", panes: "02/1", focus: 2, row: 1, col: 3, wide: 20, high: 8, wantRow: 5, wantCol: 3},
		{name: "of one below, last", panes: "02/1", focus: 2, row: 2, col: 10, wide: 20, high: 8, wantRow: 6, wantCol: 9},
		{name: "of one to the right", panes: "02/1", focus: 1, wide: 20, high: 8, wantCol: 11},
		{name: "of one to the right, within", panes: "02/1", focus: 1, row: 6, col: 3, wide: 20, high: 8, wantRow: 6, wantCol: 14},
		{name: "of one to the right, last", panes: "02/1", focus: 1, row: 6, col: 9, wide: 20, high: 8, wantRow: 6, wantCol: 19},
		{name: "the last pane", panes: "0/1/2/3/4/5", focus: 5, row: 1, col: 1, wide: 24, high: 8, wantRow: 1, wantCol: 19},

		{name: "lower than the client", panes: "02/1", focus: 2, row: 1, col: 3, wide: 20, high: 5, wantRow: 4, wantCol: 3},
		{name: "in the status line", panes: "02/1", focus: 2, row: 1, col: 3, wide: 20, high: 6, wantRow: 5, wantCol: 3},
		{name: "wider than the client", panes: "02/1", focus: 1, row: 1, col: 3, wide: 14, high: 8, wantRow: 1, wantCol: 13},
		{name: "just within the client", panes: "02/1", focus: 1, row: 1, col: 3, wide: 15, high: 8, wantRow: 1, wantCol: 14},
		{name: "one cell", panes: "02/1", focus: 1, row: 1, col: 3, wide: 1, high: 1},
		{name: "no sides", panes: "02/1", focus: 1, row: 1, col: 3, wide: math.MinInt, high: 0},
		{name: "too great sides", panes: "02/1", focus: 1, row: 6, col: 9, wide: math.MaxInt, high: 11, wantRow: 6, wantCol: 19},

		{name: "far below", panes: "02/1", focus: 2, row: math.MaxInt, col: math.MaxInt, wide: 20, high: 8, wantRow: 6, wantCol: 9},
		{name: "far to the right", panes: "02/1", focus: 1, row: math.MaxInt, col: math.MaxInt - 5, wide: 20, high: 8, wantRow: 6, wantCol: 19},
		{name: "far above", panes: "02/1", focus: 2, row: math.MinInt, col: math.MinInt, wide: 20, high: 8},
		{name: "far to the left", panes: "02/1", focus: 1, row: math.MinInt, col: math.MinInt, wide: 20, high: 8},
		{name: "a little above", panes: "02/1", focus: 2, row: -1, col: -1, wide: 20, high: 8, wantRow: 3},
		{name: "a little to the left", panes: "02/1", focus: 1, row: -1, col: -3, wide: 20, high: 8, wantCol: 8},

		{name: "not there", panes: "02/1", focus: 3, row: 1, col: 1, wide: 20, high: 8},
		{name: "no pane", panes: "02/1", focus: 6, wide: 20, high: 8},
		{name: "below 0", panes: "02/1", focus: -1, wide: 20, high: 8},
		{name: "far below 0", panes: "02/1", focus: math.MinInt, wide: 20, high: 8},
		{name: "far beyond", panes: "02/1", focus: math.MaxInt, wide: 20, high: 8},
		{name: "no room", panes: "02/1", focus: 2, row: 1, col: 1, atWide: 20, atHigh: 2, wide: 20, high: 8},
		{name: "room, but not for others", panes: "02/1", focus: 1, row: 1, col: 1, atWide: 20, atHigh: 2, wide: 20, high: 8, wantRow: 1, wantCol: 12},
		{name: "no room for columns", panes: "02/1", focus: 1, row: 1, col: 1, atWide: 2, atHigh: 7, wide: 20, high: 8},
		{name: "no room on a screen that is too wide", panes: "02/1", focus: 1, row: 1, col: 1, atWide: 25, atHigh: 7, wide: 20, high: 8},
		{name: "not good", panes: "02/6", focus: 2, row: 1, col: 1, wide: 20, high: 8},
		{name: "not good, and no pane", panes: "02/6", focus: 6, row: 1, col: 1, wide: 20, high: 8},
		{name: "twice", panes: "02/2", focus: 2, row: 1, col: 1, wide: 20, high: 8},
	} {
		if c.atWide == 0 {
			c.atWide, c.atHigh = 20, 7
		}
		v := api.View{Tiles: panes(c.panes), Wide: c.atWide, High: c.atHigh, Focus: c.focus}
		for p := range v.Grids {
			v.Grids[p] = filled(p, 10, 3)
			v.Grids[p].Row, v.Grids[p].Col = 2, 7 // of the others
		}
		if c.focus >= 0 && c.focus < api.MaxPanes {
			v.Grids[c.focus].Row, v.Grids[c.focus].Col = c.row, c.col
		}
		if g := Screen(v, c.wide, c.high); g.Row != c.wantRow || g.Col != c.wantCol {
			t.Errorf("%s: %d, %d; wanted %d, %d", c.name, g.Row, g.Col, c.wantRow, c.wantCol)
		}
	}
}

// shapes are all panes by the lengths of their columns, numbered from the first pane on, by steps that go round.
func shapes() []api.Tiles {
	var all []api.Tiles
	var more func(x api.Tiles, n, first, step int)
	more = func(x api.Tiles, n, first, step int) {
		if n > 0 {
			all = append(all, x)
		}
		for tall := 1; tall <= 3 && n+tall <= 6; tall++ {
			var column []int
			for i := range tall {
				column = append(column, (first+(n+i)*step)%6)
			}
			more(api.Tiles{Columns: append(slices.Clone(x.Columns), column)}, n+tall, first, step)
		}
	}
	more(api.Tiles{}, 0, 0, 1)
	more(api.Tiles{}, 0, 3, 5)
	return all
}

// dealt are where n parts of a length begin and end, counted out; none, if one would be empty.
func dealt(length, n int) [][2]int {
	if length < 2*n-1 || length > 24 {
		return nil
	}
	parts := make([][2]int, n)
	for i := range length - (n - 1) {
		parts[i%n][1]++
	}
	begin := 0
	for i := range parts {
		long := parts[i][1]
		parts[i] = [2]int{begin, begin + long}
		begin += long + 1
	}
	return parts
}

// painted is P4.1 to P4.3 of good panes the other way round: not cell by cell, but bars, then lines, then panes over them. Cells beyond are out.
func painted(v api.View, wide, high int) api.Grid {
	var all [40][40]api.Cell
	for row := range all {
		for col := range all[row] {
			all[row][col].Ch = '.'
			if row < v.High && col < v.Wide {
				all[row][col].Ch = '-'
			}
		}
	}
	g := grid.New(wide, high)
	columns := dealt(v.Wide, len(v.Tiles.Columns))
	for i, c := range columns {
		for row := range min(v.High, len(all)) {
			if i < len(columns)-1 {
				all[row][c[1]].Ch = '|'
			}
		}
		for k, r := range dealt(v.High, len(v.Tiles.Columns[i])) {
			p := v.Tiles.Columns[i][k]
			s := v.Grids[p]
			for row := r[0]; row < r[1]; row++ {
				for col := c[0]; col < c[1]; col++ {
					all[row][col] = api.Cell{}
					if row-r[0] < s.High && col-c[0] < s.Wide {
						all[row][col] = s.Cells[(row-r[0])*s.Wide+col-c[0]]
					}
				}
			}
			if p == v.Focus {
				g.Row = min(r[0]+s.Row, r[1]-1, g.High-1)
				g.Col = min(c[0]+s.Col, c[1]-1, g.Wide-1)
			}
		}
	}
	for i := range g.Cells {
		g.Cells[i] = all[i/g.Wide][i%g.Wide]
	}
	foot := g.Cells[len(g.Cells)-g.Wide:]
	for i := range foot {
		foot[i] = api.Cell{Ch: ' '}
	}
	for k, p := range slices.Concat(v.Tiles.Columns...) {
		if 2*k < len(foot) {
			foot[2*k] = api.Cell{Ch: int("012345"[p]), Bold: p == v.Focus}
		}
	}
	return g
}

// P4.1, P4.2, P4.3: all shapes of panes, on all sides, with screens of the sides of their places, or smaller or larger ones.
func TestScreenOfAllShapes(t *testing.T) {
	n := 0
	for _, x := range shapes() {
		for _, wide := range []int{0, 1, 2, 3, 4, 5, 6, 7, 10, 11, 12, 19, 20, 24, 25} {
			for _, high := range []int{0, 1, 2, 3, 4, 5, 6, 7, 10, 11, 24, 25} {
				n++
				v := api.View{Tiles: x, Wide: wide, High: high, Focus: n % 7}
				for p := range v.Grids {
					r := tiles.Where(x, wide, high, p)
					by := n%3 - 1
					g := filled(p, r.Wide+by, r.High-by)
					g.Row, g.Col = n%g.High, n%(g.Wide+1)
					v.Grids[p] = g
				}
				w, h := 1+n%24, 1+n/24%10
				if got, want := Screen(v, w, h), painted(v, w, h); !reflect.DeepEqual(got, want) {
					t.Fatalf("Screen(%+v, %d, %d) = %+v; wanted %+v", v, w, h, got, want)
				}
			}
		}
	}
}

// P4.3: what is answered is a screen like any other, its ink and the rows that scroll as New makes them.
func TestScreenIsGood(t *testing.T) {
	v := view("02/1", 5, 3, 2)
	for p := range v.Grids {
		v.Grids[p].Ink, v.Grids[p].Bold = 3, true
		v.Grids[p].Top, v.Grids[p].Bottom = 0, 1
	}
	for _, wide := range []int{math.MinInt, 0, 1, 24, 25, math.MaxInt} {
		for _, high := range []int{math.MinInt, 0, 1, 10, 11, math.MaxInt} {
			g, n := Screen(v, wide, high), grid.New(wide, high)
			if !grid.Good(g) || g.Ink != 0 || g.Bold || g.Top != 0 || g.Bottom != n.High || g.Wide != n.Wide || g.High != n.High {
				t.Errorf("Screen(%d, %d) = %+v", wide, high, g)
			}
		}
	}
}

// What is handed in stays as it is, its spare room too, and shares no memory with what is answered.
func TestViewStays(t *testing.T) {
	made := func() api.View {
		v := view("02/1", 5, 3, 2)
		v.Tiles.Columns = append(make([][]int, 0, 9), v.Tiles.Columns...)
		for p := range v.Grids {
			v.Grids[p].Cells = append(make([]api.Cell, 0, 99), v.Grids[p].Cells...)
		}
		return v
	}
	whole := func(v api.View) api.View {
		v.Tiles.Columns = v.Tiles.Columns[:9]
		for p := range v.Grids {
			v.Grids[p].Cells = v.Grids[p].Cells[:99]
		}
		return v
	}
	v := made()
	g := Screen(v, 7, 5)
	for i := range g.Cells {
		g.Cells[i] = api.Cell{Pic: 7}
	}
	Cell(v, 0, 0)
	Status(v, 0)
	if !reflect.DeepEqual(whole(v), whole(made())) {
		t.Errorf("%+v", v)
	}
}

// FuzzScreen looks for views that make a call end otherwise than P4.1 to P4.3 say. In what is tried a byte 200 begins a column; of all others 2 less is a pane.
func FuzzScreen(f *testing.F) {
	f.Add("\xc8\x02\x04\xc8\x03", 20, 7, 2, 5, 3, 1, 2, 20, 8)
	f.Add("\xc8\x02\xc8", 20, 7, 0, 5, 3, 1, 2, 20, 8)
	f.Add("", math.MinInt, math.MaxInt, -1, 0, 0, math.MaxInt, math.MinInt, 0, 99)
	f.Fuzz(func(t *testing.T, text string, wide, high, focus, ofWide, ofHigh, row, col, w, h int) {
		v := api.View{Wide: wide, High: high, Focus: focus}
		for i := range len(text) {
			if last := len(v.Tiles.Columns) - 1; text[i] == 200 || last < 0 {
				v.Tiles.Columns = append(v.Tiles.Columns, nil)
			} else {
				v.Tiles.Columns[last] = append(v.Tiles.Columns[last], int(text[i])-2)
			}
		}
		for p := range v.Grids {
			v.Grids[p] = filled(p, ofWide, ofHigh)
			v.Grids[p].Row, v.Grids[p].Col = row, col
		}
		g := Screen(v, w, h)
		if !grid.Good(g) || g.Col == g.Wide || !reflect.DeepEqual(g, Screen(v, w, h)) {
			t.Fatalf("Screen(%+v, %d, %d) = %+v", v, w, h, g)
		}
		out := row < 0 || col < 0 || row >= high || col >= wide
		if c := Cell(v, row, col); !grid.GoodCell(c) || out != (c == api.Cell{Ch: '.'}) {
			t.Fatalf("Cell(%+v, %d, %d) = %+v", v, row, col, c)
		}
		if row < 0 || col < 0 || row > 99 || col > 99 || !tiles.Good(v.Tiles) {
			return
		}
		if want := painted(v, w, h); !reflect.DeepEqual(g, want) {
			t.Fatalf("Screen(%+v, %d, %d) = %+v; wanted %+v", v, w, h, g, want)
		}
	})
}
