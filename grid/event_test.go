package grid

import (
	"math"
	"strings"
	"testing"

	"fenestra/api"
)

// emptied is g without those of its cells that is names by row and column.
func emptied(g api.Grid, is func(row, col int) bool) api.Grid {
	for i := range g.Cells {
		if is(i/g.Wide, i%g.Wide) {
			g = put(g, i, api.Cell{})
		}
	}
	return g
}

// at is g with the cursor elsewhere.
func at(g api.Grid, row, col int) api.Grid {
	g.Row, g.Col = row, col
	return g
}

// P2.3: the errors, in their order; the screen is as it was.
func TestDoRefuses(t *testing.T) {
	for _, g := range badScreens() {
		for _, e := range everyEvent() {
			if got, err := Do(g, e); err != api.ErrRange || !same(got, g) {
				t.Errorf("Do(%+v, %+v) = %+v, %d", g, e, got, err)
			}
		}
	}
	for _, g := range goodScreens() {
		for _, kind := range []int{math.MinInt, -1, 0, 6, 7, 256 + 1, math.MaxInt} {
			if got, err := Do(g, api.Event{Kind: kind}); err != api.ErrKind || !same(got, g) {
				t.Errorf("kind %d: %+v, %d", kind, got, err)
			}
		}
		for _, b := range []int{math.MinInt, -1, 0, 10, 31, 127, 128, 255, 256 + 'a', math.MaxInt} {
			if got, err := Do(g, letter(b)); err != api.ErrForm || !same(got, g) {
				t.Errorf("letter %d: %+v, %d", b, got, err)
			}
		}
	}
}

// P2.3: only a Print is held to be plain; all the rest of an event is not asked for.
func TestDoTakesWhatIsNotAskedFor(t *testing.T) {
	g := full(4, 3)
	for _, kind := range []int{api.Ctl, api.Csi, api.Pic, api.Reset} {
		for _, b := range []int{math.MinInt, -1, 0, 31, 127, math.MaxInt} {
			if _, err := Do(g, api.Event{Kind: kind, B: b, Params: []int{-1, 5000, 3, 4, 5, 6, 7}, Payload: "\xff"}); err != api.OK {
				t.Errorf("kind %d, %d: %d", kind, b, err)
			}
		}
	}
}

// P2.3, Print: every byte that is plain, every ink.
func TestPrint(t *testing.T) {
	for b := 32; b <= 126; b++ {
		for ink := range api.Colours + 1 {
			for _, bold := range []bool{false, true} {
				g := inks(screen("ab1/d_f", 0, 2), ink, bold)
				want := at(put(g, 2, api.Cell{Ch: b, Ink: ink, Bold: bold}), 0, 3)
				if got, err := Do(g, letter(b)); err != api.OK || !same(got, want) {
					t.Errorf("%d: %+v, %d", b, got, err)
				}
			}
		}
	}
}

// P2.3, Print: at Wide the cursor goes a row on first.
func TestPrintBehindTheLastColumn(t *testing.T) {
	for _, c := range []struct {
		g, want api.Grid
	}{
		{screen("abc/def/ghi", 0, 3), screen("abc/xef/ghi", 1, 1)},
		{screen("abc/def/ghi", 1, 3), screen("abc/def/xhi", 2, 1)},
		{screen("abc/def/ghi", 2, 3), screen("def/ghi/x__", 2, 1)},
		{scrolls(screen("abc/def/ghi", 0, 3), 0, 1), scrolls(screen("x__/def/ghi", 0, 1), 0, 1)},
		{scrolls(screen("abc/def/ghi", 1, 3), 0, 2), scrolls(screen("def/x__/ghi", 1, 1), 0, 2)},
		{scrolls(screen("abc/def/ghi", 2, 3), 0, 2), scrolls(screen("abc/def/xhi", 2, 1), 0, 2)},
		{scrolls(screen("abc/def/ghi", 2, 3), 1, 3), scrolls(screen("abc/ghi/x__", 2, 1), 1, 3)},
		{scrolls(screen("abc/def/ghi", 0, 3), 1, 3), scrolls(screen("abc/xef/ghi", 1, 1), 1, 3)},
		{screen("a", 0, 0), screen("x", 0, 1)},
		{screen("a", 0, 1), screen("x", 0, 1)},
		{screen("a/b", 0, 1), screen("a/x", 1, 1)},
		{screen("a/b", 1, 1), screen("b/x", 1, 1)},
	} {
		becomesJust(t, c.g, letter('x'), c.want)
	}
}

// becomesJust is becomes for events that use the ink themselves.
func becomesJust(t *testing.T, g api.Grid, e api.Event, want api.Grid) {
	t.Helper()
	if got, err := Do(g, e); err != api.OK || !same(got, want) || !Good(got) {
		t.Errorf("Do(%+v, %+v) = %+v, %d; wanted %+v, 0", g, e, got, err, want)
	}
}

// P2.3: the row that comes when rows go up is empty, whatever the ink.
func TestRowThatComesIsEmpty(t *testing.T) {
	g := inks(screen("ab/cd", 1, 2), 4, true)
	want := put(inks(screen("cd/__", 1, 1), 4, true), 2, api.Cell{Ch: 'x', Ink: 4, Bold: true})
	becomesJust(t, g, letter('x'), want)
}

// P2.3, Reset.
func TestReset(t *testing.T) {
	for _, g := range goodScreens() {
		becomesJust(t, g, api.Event{Kind: api.Reset}, New(g.Wide, g.High))
	}
}

// P2.4: 8.
func TestBackspace(t *testing.T) {
	for col, want := range []int{0, 0, 1, 2, 2} {
		becomes(t, screen("abcd/efgh", 1, col), ctl(8), screen("abcd/efgh", 1, want))
	}
	becomes(t, screen("a", 0, 0), ctl(8), screen("a", 0, 0))
	becomes(t, screen("a", 0, 1), ctl(8), screen("a", 0, 0))
	becomes(t, screen("ab", 0, 2), ctl(8), screen("ab", 0, 0))
}

// P2.4: 9, at every column of every width.
func TestTab(t *testing.T) {
	for wide := 1; wide <= api.MaxWide; wide++ {
		for col := range wide + 1 {
			next := col + 1
			for next%8 != 0 {
				next++
			}
			g := full(wide, 2)
			becomes(t, at(g, 1, col), ctl(9), at(g, 1, min(next, wide-1)))
		}
	}
}

// P2.4: 10 is a row on, in every row of every part that scrolls.
func TestRowOn(t *testing.T) {
	const high = 5
	for top := range high {
		for bottom := top + 1; bottom <= high; bottom++ {
			for row := range high {
				for col := range 4 {
					g := at(scrolls(full(3, high), top, bottom), row, col)
					becomes(t, g, ctl(10), afterRowOn(g))
				}
			}
		}
	}
}

// afterRowOn tells cell by cell what a row on is.
func afterRowOn(g api.Grid) api.Grid {
	if g.Row != g.Bottom-1 {
		return at(g, min(g.Row+1, g.High-1), g.Col)
	}
	want := g
	for i := range g.Cells {
		row, col := i/g.Wide, i%g.Wide
		switch {
		case row >= g.Top && row < g.Bottom-1:
			want = put(want, i, At(g, row+1, col))
		case row == g.Bottom-1:
			want = put(want, i, api.Cell{})
		}
	}
	return want
}

// P2.4: 13.
func TestReturn(t *testing.T) {
	for col := range 5 {
		becomes(t, screen("abcd/efgh", 1, col), ctl(13), screen("abcd/efgh", 1, 0))
	}
}

// P2.4: all others are nothing.
func TestOtherControls(t *testing.T) {
	for _, g := range goodScreens() {
		for b := -1; b <= 300; b++ {
			if b != 8 && b != 9 && b != 10 && b != 13 {
				becomes(t, g, ctl(b), g)
			}
		}
		becomes(t, g, ctl(math.MinInt), g)
		becomes(t, g, ctl(math.MaxInt), g)
	}
}

// numbers are lists of them as they come, and what the first of each stands for.
var numbers = []struct {
	l     []int
	first int
}{
	{nil, 0},
	{[]int{}, 0},
	{[]int{math.MinInt}, 0},
	{[]int{-1}, 0},
	{[]int{0}, 0},
	{[]int{1}, 1},
	{[]int{2}, 2},
	{[]int{3, 1}, 3},
	{[]int{4, 0, 0}, 4},
	{[]int{998}, 998},
	{[]int{999}, 999},
	{[]int{1000}, 999},
	{[]int{math.MaxInt - 1}, 999},
	{[]int{math.MaxInt, 1}, 999},
}

// P2.5: A, B, C, D, from every place of a screen.
func TestMoves(t *testing.T) {
	g := full(6, 5)
	for _, p := range numbers {
		n := max(p.first, 1)
		for row := range 5 {
			for col := range 7 {
				from := at(g, row, col)
				becomes(t, from, csi('A', p.l...), at(g, max(row-n, 0), col))
				becomes(t, from, csi('B', p.l...), at(g, min(row+n, 4), col))
				becomes(t, from, csi('C', p.l...), at(g, row, min(col+n, 5)))
				becomes(t, from, csi('D', p.l...), at(g, row, max(min(col, 5)-n, 0)))
			}
		}
	}
}

// P2.5: the moves, by what is written down here.
func TestMovesOneByOne(t *testing.T) {
	g := full(6, 5)
	for _, c := range []struct {
		row, col         int
		e                api.Event
		wantRow, wantCol int
	}{
		{2, 3, csi('A'), 1, 3},
		{2, 3, csi('A', 2), 0, 3},
		{2, 6, csi('A', 3), 0, 6},
		{2, 3, csi('B', 0), 3, 3},
		{2, 6, csi('B', 9), 4, 6},
		{2, 3, csi('C', 2), 2, 5},
		{2, 3, csi('C', 3), 2, 5},
		{2, 6, csi('C', 1), 2, 5},
		{2, 3, csi('D', 3), 2, 0},
		{2, 6, csi('D', 1), 2, 4},
		{2, 6, csi('D', 5), 2, 0},
		{2, 6, csi('D', 6), 2, 0},
		{2, 5, csi('D', -7), 2, 4},
	} {
		becomes(t, at(g, c.row, c.col), c.e, at(g, c.wantRow, c.wantCol))
	}
}

// P2.5: the moves know nothing of the rows that scroll.
func TestMovesBeyondWhatScrolls(t *testing.T) {
	g := scrolls(full(3, 6), 2, 4)
	becomes(t, at(g, 3, 1), csi('A', 9), at(g, 0, 1))
	becomes(t, at(g, 3, 1), csi('B', 9), at(g, 5, 1))
	becomes(t, at(g, 3, 1), csi('H', 1, 1), at(g, 0, 0))
	becomes(t, at(g, 3, 1), csi('H', 9, 9), at(g, 5, 2))
}

// P2.5: H.
func TestGoTo(t *testing.T) {
	g := full(6, 5)
	for _, c := range []struct {
		l        []int
		row, col int
	}{
		{nil, 0, 0},
		{[]int{0}, 0, 0},
		{[]int{1, 1}, 0, 0},
		{[]int{3}, 2, 0},
		{[]int{3, 0}, 2, 0},
		{[]int{3, 4}, 2, 3},
		{[]int{0, 4}, 0, 3},
		{[]int{-3, -4}, 0, 0},
		{[]int{5, 6}, 4, 5},
		{[]int{6, 7}, 4, 5},
		{[]int{2, 7, 1}, 1, 5},
		{[]int{999, 999}, 4, 5},
		{[]int{math.MaxInt, math.MaxInt}, 4, 5},
		{[]int{math.MinInt, math.MinInt}, 0, 0},
		{[]int{math.MinInt, 2}, 0, 1},
		{[]int{2, 3, 4, 5}, 1, 2},
	} {
		becomes(t, at(g, 3, 6), csi('H', c.l...), at(g, c.row, c.col))
		becomes(t, at(g, 0, 1), csi('H', c.l...), at(g, c.row, c.col))
	}
}

// P2.5: J and K, from every place of a screen; the cursor stays.
func TestErase(t *testing.T) {
	g := full(4, 3)
	for _, p := range numbers {
		for row := range 3 {
			for col := range 5 {
				from := at(g, row, col)
				here := row*4 + min(col, 3)
				gone := func(i int) bool {
					return p.first == 0 && i >= here || p.first == 1 && i <= here || p.first == 2
				}
				becomes(t, from, csi('J', p.l...), emptied(from, func(r, c int) bool { return gone(r*4 + c) }))
				becomes(t, from, csi('K', p.l...), emptied(from, func(r, c int) bool { return r == row && gone(r*4+c) }))
			}
		}
	}
}

// P2.5: J and K, by what is written down here.
func TestEraseOneByOne(t *testing.T) {
	for _, c := range []struct {
		col  int
		e    api.Event
		want string
	}{
		{1, csi('J'), "abc/d__/___"},
		{1, csi('J', 0), "abc/d__/___"},
		{1, csi('J', -1), "abc/d__/___"},
		{1, csi('J', 1), "___/__f/ghi"},
		{1, csi('J', 2), "___/___/___"},
		{1, csi('J', 3), "abc/def/ghi"},
		{3, csi('J', 0), "abc/de_/___"},
		{3, csi('J', 1), "___/___/ghi"},
		{1, csi('K'), "abc/d__/ghi"},
		{1, csi('K', 1), "abc/__f/ghi"},
		{1, csi('K', 2), "abc/___/ghi"},
		{1, csi('K', 3), "abc/def/ghi"},
		{3, csi('K', 0), "abc/de_/ghi"},
		{3, csi('K', 1), "abc/___/ghi"},
		{0, csi('K', 1), "abc/_ef/ghi"},
	} {
		becomes(t, screen("abc/def/ghi", 1, c.col), c.e, screen(c.want, 1, c.col))
	}
}

// P2.5: J reaches beyond the rows that scroll.
func TestEraseBeyondWhatScrolls(t *testing.T) {
	g := scrolls(screen("ab/cd/ef", 1, 1), 1, 2)
	becomes(t, g, csi('J', 2), scrolls(screen("__/__/__", 1, 1), 1, 2))
	becomes(t, g, csi('J', 1), scrolls(screen("__/__/ef", 1, 1), 1, 2))
	becomes(t, g, csi('J', 0), scrolls(screen("ab/c_/__", 1, 1), 1, 2))
}

// P2.6: L and M, in every row of every part that scrolls.
func TestPushRows(t *testing.T) {
	const high = 5
	for top := range high {
		for bottom := top + 1; bottom <= high; bottom++ {
			for row := range high {
				for _, col := range []int{0, 1, 3} {
					for _, p := range numbers {
						g := at(scrolls(full(3, high), top, bottom), row, col)
						becomes(t, g, csi('L', p.l...), afterPush(g, -max(p.first, 1)))
						becomes(t, g, csi('M', p.l...), afterPush(g, max(p.first, 1)))
					}
				}
			}
		}
	}
}

// afterPush tells cell by cell what comes of rows that take the cells of those n below them.
func afterPush(g api.Grid, n int) api.Grid {
	if g.Row < g.Top || g.Row >= g.Bottom {
		return g
	}
	want := at(g, g.Row, 0)
	for row := g.Row; row < g.Bottom; row++ {
		for col := range g.Wide {
			var c api.Cell
			if from := row + n; from >= g.Row && from < g.Bottom {
				c = At(g, from, col)
			}
			want = put(want, row*g.Wide+col, c)
		}
	}
	return want
}

// P2.6: L and M, by what is written down here.
func TestPushRowsOneByOne(t *testing.T) {
	for _, c := range []struct {
		row, top, bottom int
		e                api.Event
		want             string
		col              int
	}{
		{1, 0, 4, csi('L'), "ab/__/cd/ef", 0},
		{1, 0, 4, csi('L', 2), "ab/__/__/cd", 0},
		{1, 0, 4, csi('L', 3), "ab/__/__/__", 0},
		{1, 0, 4, csi('L', 4), "ab/__/__/__", 0},
		{1, 0, 4, csi('M'), "ab/ef/gh/__", 0},
		{1, 0, 4, csi('M', 2), "ab/gh/__/__", 0},
		{1, 0, 4, csi('M', 3), "ab/__/__/__", 0},
		{1, 0, 3, csi('L'), "ab/__/cd/gh", 0},
		{1, 0, 3, csi('M'), "ab/ef/__/gh", 0},
		{2, 0, 3, csi('L'), "ab/cd/__/gh", 0},
		{3, 0, 3, csi('L'), "ab/cd/ef/gh", 2},
		{3, 0, 3, csi('M', 9), "ab/cd/ef/gh", 2},
		{0, 1, 3, csi('L'), "ab/cd/ef/gh", 2},
		{0, 1, 3, csi('M'), "ab/cd/ef/gh", 2},
		{1, 1, 3, csi('M', 999), "ab/__/__/gh", 0},
	} {
		g := scrolls(screen("ab/cd/ef/gh", c.row, 2), c.top, c.bottom)
		becomes(t, g, c.e, scrolls(screen(c.want, c.row, c.col), c.top, c.bottom))
	}
}

// P2.6: m, every number from each ink.
func TestInk(t *testing.T) {
	g := screen("ab/cd", 1, 2)
	for n := -2; n <= 1100; n++ {
		for ink := range api.Colours + 1 {
			for _, bold := range []bool{false, true} {
				want := inks(g, ink, bold)
				switch {
				case n == 0:
					want = inks(g, 0, false)
				case n == 1:
					want = inks(g, ink, true)
				case n == 22:
					want = inks(g, ink, false)
				case n >= 30 && n <= 37:
					want = inks(g, n-29, bold)
				case n == 39:
					want = inks(g, 0, bold)
				}
				becomesJust(t, inks(g, ink, bold), csi('m', n), want)
			}
		}
	}
}

// P2.6: m, number by number.
func TestInkNumberByNumber(t *testing.T) {
	g := screen("ab/cd", 1, 2)
	for _, c := range []struct {
		l    []int
		ink  int
		bold bool
	}{
		{nil, 5, true},
		{[]int{}, 5, true},
		{[]int{1, 31}, 2, true},
		{[]int{31, 0}, 0, false},
		{[]int{0, 31}, 2, false},
		{[]int{0, 1, 37}, 8, true},
		{[]int{22, 30, 36}, 7, false},
		{[]int{22, 1}, 5, true},
		{[]int{1, 22, 39, 30}, 1, false},
		{[]int{38, 29, 40, 2, 21, 23, -1, 999}, 5, true},
		{[]int{math.MinInt, math.MaxInt, 256 + 31}, 5, true},
		{[]int{0, 0, 0, 0, 0, 0, 33}, 4, false},
	} {
		becomesJust(t, inks(g, 5, true), csi('m', c.l...), inks(g, c.ink, c.bold))
	}
}

// P2.7
func TestWhatScrolls(t *testing.T) {
	for _, c := range []struct {
		l           []int
		top, bottom int
	}{
		{nil, 0, 5},
		{[]int{}, 0, 5},
		{[]int{0}, 0, 5},
		{[]int{0, 0}, 0, 5},
		{[]int{1, 5}, 0, 5},
		{[]int{2}, 1, 5},
		{[]int{5}, 4, 5},
		{[]int{2, 4}, 1, 4},
		{[]int{2, 2}, 1, 2},
		{[]int{0, 1}, 0, 1},
		{[]int{-7, 3}, 0, 3},
		{[]int{5, 5}, 4, 5},
		{[]int{3, 6}, 2, 5},
		{[]int{3, 999}, 2, 5},
		{[]int{3, 1000}, 2, 5},
		{[]int{3, math.MaxInt}, 2, 5},
		{[]int{3, -1}, 2, 5},
		{[]int{3, math.MinInt}, 2, 5},
		{[]int{math.MinInt, 1}, 0, 1},
		{[]int{2, 3, 1, 5}, 1, 3},
	} {
		g := at(scrolls(full(3, 5), 1, 3), 4, 3)
		becomes(t, g, csi('r', c.l...), at(scrolls(g, c.top, c.bottom), 0, 0))
	}
}

// P2.7: what has no row is nothing.
func TestWhatScrollsNothing(t *testing.T) {
	g := at(scrolls(full(3, 5), 1, 3), 4, 3)
	for _, l := range [][]int{{3, 2}, {6}, {6, 0}, {6, 6}, {2, 1}, {999}, {math.MaxInt}, {math.MaxInt, math.MaxInt}, {5, 4}} {
		becomes(t, g, csi('r', l...), g)
	}
}

// P2.7: all other letters are nothing.
func TestOtherLetters(t *testing.T) {
	for _, g := range []api.Grid{screen("abc/1_f", 0, 1), scrolls(screen("abc/1_f", 1, 3), 1, 2)} {
		for b := -1; b <= 400; b++ {
			if b < 0 || !strings.ContainsRune("ABCDHJKLMmr", rune(b)) {
				becomes(t, g, csi(b, 1, 2), g)
			}
		}
		becomes(t, g, csi(math.MinInt, 1), g)
		becomes(t, g, csi(math.MaxInt, 1), g)
	}
}

// P2.8: every byte.
func TestPicBytes(t *testing.T) {
	for b := range 256 {
		want := "xyzw/xy2w/xyzw"
		switch {
		case b == '-':
			want = "xyzw/xyzw/x2zw"
		case b >= 'a' && b <= 'h':
			want = "xyzw/x" + string(rune('1'+b-'a')) + "2w/xyzw"
		}
		g := screen("xyzw/xyzw/xyzw", 1, 1)
		becomes(t, g, pic(string([]byte{byte(b), 'b'})), screen(want, 1, 1))
	}
}

// P2.8
func TestPic(t *testing.T) {
	for _, c := range []struct {
		row, col int
		payload  string
		want     string
	}{
		{0, 0, "", "xyzw/xyzw/xyzw"},
		{0, 0, "abcd", "1234/xyzw/xyzw"},
		{0, 0, "efgh", "5678/xyzw/xyzw"},
		{0, 0, "abcdefgh", "1234/xyzw/xyzw"},
		{0, 1, "ab-c.-", "x12w/x3zw/xyzw"},
		{0, 1, ".b-..c", "xy2w/xyz3/xyzw"},
		{1, 2, "abc-def-gh", "xyzw/xy12/xy45"},
		{2, 3, "ab-cd", "xyzw/xyzw/xyz1"},
		{2, 4, "ab-cd", "xyzw/xyzw/xyz1"},
		{0, 4, "a-b-c-d", "xyz1/xyz2/xyz3"},
		{0, 4, "a-bb", "xyz1/xyz2/xyzw"},
		{0, 0, "--a", "xyzw/xyzw/1yzw"},
		{0, 0, "---a", "xyzw/xyzw/xyzw"},
		{0, 0, "    a-    b", "xyzw/xyzw/xyzw"},
		{0, 0, "ii`ia", "xyzw/xyzw/xyzw"},
		{0, 0, "\u00e9a", "xy1w/xyzw/xyzw"},
	} {
		g := screen("xyzw/xyzw/xyzw", c.row, c.col)
		becomes(t, g, pic(c.payload), screen(c.want, c.row, c.col))
		becomes(t, scrolls(g, 1, 2), pic(c.payload), scrolls(screen(c.want, c.row, c.col), 1, 2))
	}
}

// P2.8: a cell of a picture has nothing of what was there; pictures of any length end.
func TestPicOverInk(t *testing.T) {
	g := inks(full(3, 2), 7, true)
	want := g
	for i := range want.Cells {
		want = put(want, i, api.Cell{Pic: 1 + i/3})
	}
	becomesJust(t, g, pic("aaaaa-bbbbb-ccccc"), want)
	becomes(t, screen("ab/cd", 0, 0), pic(strings.Repeat("a", 100000)), screen("11/cd", 0, 0))
	becomes(t, screen("ab/cd", 0, 0), pic(strings.Repeat("-", 100000)+"a"), screen("ab/cd", 0, 0))
}

// P2.8: what a picture leaves is covered and emptied as all is.
func TestPicIsCovered(t *testing.T) {
	g := screen("12/34", 0, 0)
	becomesJust(t, g, letter('x'), screen("x2/34", 0, 1))
	becomes(t, g, csi('K'), screen("__/34", 0, 0))
	becomes(t, at(g, 1, 0), ctl(10), screen("34/__", 1, 0))
}
