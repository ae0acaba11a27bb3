package tiles

import (
	"math"
	"slices"
	"testing"

	"fenestra/api"
)

// P3.3
func TestShare(t *testing.T) {
	for _, c := range []struct{ length, n, k, begin, long int }{
		{1, 1, 0, 0, 1},
		{24, 1, 0, 0, 24},
		{7, 2, 0, 0, 3}, // evenly
		{7, 2, 1, 4, 3},
		{8, 2, 0, 0, 4}, // not evenly
		{8, 2, 1, 5, 3},
		{11, 3, 0, 0, 3},
		{11, 3, 1, 4, 3},
		{11, 3, 2, 8, 3},
		{12, 3, 0, 0, 4},
		{12, 3, 1, 5, 3},
		{12, 3, 2, 9, 3},
		{13, 3, 0, 0, 4},
		{13, 3, 1, 5, 4},
		{13, 3, 2, 10, 3},
		{24, 6, 0, 0, 4},
		{24, 6, 1, 5, 3},
		{24, 6, 5, 21, 3},
		{23, 6, 5, 20, 3},
		{22, 6, 4, 16, 3},
		{22, 6, 5, 20, 2},
		{3, 2, 0, 0, 1}, // just room for all
		{3, 2, 1, 2, 1},
		{5, 3, 2, 4, 1},
		{11, 6, 0, 0, 1},
		{11, 6, 5, 10, 1},
		{12, 6, 0, 0, 2},
		{12, 6, 5, 11, 1},

		{0, 1, 0, 0, 0}, // one less
		{2, 2, 0, 0, 0},
		{2, 2, 1, 0, 0},
		{4, 3, 0, 0, 0},
		{4, 3, 2, 0, 0},
		{10, 6, 0, 0, 0},
		{10, 6, 5, 0, 0},
		{-1, 1, 0, 0, 0},
		{-24, 3, 1, 0, 0},
		{math.MinInt, 1, 0, 0, 0},
		{math.MinInt, 2, 0, 0, 0},
		{math.MinInt, 6, 5, 0, 0},
		{math.MinInt + 4, 6, 5, 0, 0},
		{25, 1, 0, 0, 0},
		{25, 6, 3, 0, 0},
		{math.MaxInt, 1, 0, 0, 0},
		{1 << 32, 2, 1, 0, 0},
		{20, 0, 0, 0, 0},
		{20, -1, 0, 0, 0},
		{20, -1, -2, 0, 0},
		{20, 7, 0, 0, 0},
		{20, math.MinInt, 0, 0, 0},
		{20, math.MaxInt, 0, 0, 0},
		{20, 3, -1, 0, 0},
		{20, 3, 3, 0, 0},
		{20, 6, 6, 0, 0},
		{20, 1, 1, 0, 0},
		{20, 3, math.MinInt, 0, 0},
		{20, 3, math.MaxInt, 0, 0},
		{math.MaxInt, math.MaxInt, math.MaxInt, 0, 0},
		{math.MinInt, math.MinInt, math.MinInt, 0, 0},
	} {
		if begin, long := Share(c.length, c.n, c.k); begin != c.begin || long != c.long {
			t.Errorf("Share(%d, %d, %d) = %d, %d; wanted %d, %d", c.length, c.n, c.k, begin, long, c.begin, c.long)
		}
	}
}

// dealt are the lengths of n parts: cells are dealt to one after the other till none is left but those between.
func dealt(length, n int) []int {
	parts := make([]int, n)
	for i := range length - (n - 1) {
		parts[i%n]++
	}
	return parts
}

// shareWant is what Share must say, counted out.
func shareWant(length, n, k int) (int, int) {
	if n < 1 || n > 6 || k < 0 || k >= n || length < 0 || length > 24 {
		return 0, 0
	}
	parts := dealt(length, n)
	if slices.Contains(parts, 0) {
		return 0, 0
	}
	begin := 0
	for _, long := range parts[:k] {
		begin += long + 1
	}
	return begin, parts[k]
}

var lengths = []int{math.MinInt, math.MinInt + 1, math.MinInt + 5, -1 << 32, 1 << 32, math.MaxInt - 5, math.MaxInt}

// P3.3: all lengths and parts within their bounds, and beyond.
func TestShareAll(t *testing.T) {
	all := slices.Clone(lengths)
	for length := -3; length <= 30; length++ {
		all = append(all, length)
	}
	for _, length := range all {
		for n := -3; n <= 9; n++ {
			for k := -3; k <= 9; k++ {
				wantBegin, wantLong := shareWant(length, n, k)
				if begin, long := Share(length, n, k); begin != wantBegin || long != wantLong {
					t.Errorf("Share(%d, %d, %d) = %d, %d; wanted %d, %d", length, n, k, begin, long, wantBegin, wantLong)
				}
			}
		}
	}
}

// P3.4
func TestWhere(t *testing.T) {
	for _, c := range []struct {
		from          string
		wide, high, p int
		want          api.Rect
	}{
		{"0", 20, 7, 0, api.Rect{Row: 0, Col: 0, High: 7, Wide: 20}},
		{"5", 24, 10, 5, api.Rect{Row: 0, Col: 0, High: 10, Wide: 24}},
		{"0", 1, 1, 0, api.Rect{Row: 0, Col: 0, High: 1, Wide: 1}},
		{"01", 20, 7, 0, api.Rect{Row: 0, Col: 0, High: 3, Wide: 20}},
		{"01", 20, 7, 1, api.Rect{Row: 4, Col: 0, High: 3, Wide: 20}},
		{"01", 20, 8, 0, api.Rect{Row: 0, Col: 0, High: 4, Wide: 20}},
		{"01", 20, 8, 1, api.Rect{Row: 5, Col: 0, High: 3, Wide: 20}},
		{"0/1", 20, 7, 0, api.Rect{Row: 0, Col: 0, High: 7, Wide: 10}},
		{"0/1", 20, 7, 1, api.Rect{Row: 0, Col: 11, High: 7, Wide: 9}},
		{"201/3/45", 20, 7, 0, api.Rect{Row: 3, Col: 0, High: 2, Wide: 6}},
		{"201/3/45", 20, 7, 1, api.Rect{Row: 6, Col: 0, High: 1, Wide: 6}},
		{"201/3/45", 20, 7, 3, api.Rect{Row: 0, Col: 7, High: 7, Wide: 6}},
		{"201/3/45", 20, 7, 5, api.Rect{Row: 4, Col: 14, High: 3, Wide: 6}},
		{"0/1/2/3/4/5", 11, 1, 5, api.Rect{Row: 0, Col: 10, High: 1, Wide: 1}},
		{"0/1/2/3/4/5", 24, 3, 0, api.Rect{Row: 0, Col: 0, High: 3, Wide: 4}},
		{"0/1/2/3/4/5", 24, 3, 1, api.Rect{Row: 0, Col: 5, High: 3, Wide: 3}},
		{"012", 5, 24, 2, api.Rect{Row: 17, Col: 0, High: 7, Wide: 5}}, // Share has one bound for both sides

		{"201/3/45", 20, 4, 0, api.Rect{}}, // no room in the first column, some in the others
		{"201/3/45", 20, 4, 1, api.Rect{}},
		{"201/3/45", 20, 4, 4, api.Rect{Row: 0, Col: 14, High: 2, Wide: 6}},
		{"201/3/45", 20, 2, 4, api.Rect{}},
		{"201/3/45", 20, 2, 3, api.Rect{Row: 0, Col: 7, High: 2, Wide: 6}},
		{"201/3/45", 5, 1, 3, api.Rect{Row: 0, Col: 2, High: 1, Wide: 1}},
		{"201/3/45", 4, 7, 3, api.Rect{}},
		{"201/3/45", 4, 7, 5, api.Rect{}},
		{"201/3/45", 20, 0, 3, api.Rect{}},
		{"201/3/45", 25, 7, 3, api.Rect{}},
		{"201/3/45", 20, 25, 5, api.Rect{}},
		{"201/3/45", -1, -1, 0, api.Rect{}},
		{"201/3/45", math.MinInt, 7, 0, api.Rect{}},
		{"201/3/45", 20, math.MinInt, 0, api.Rect{}},
		{"201/3/45", math.MaxInt, math.MaxInt, 0, api.Rect{}},
		{"0/1", 20, 7, 2, api.Rect{}}, // not there
		{"0/1", 20, 7, -1, api.Rect{}},
		{"0/1", 20, 7, 6, api.Rect{}},
		{"0/1", 20, 7, math.MinInt, api.Rect{}},
		{"0/1", 20, 7, math.MaxInt, api.Rect{}},
		{"", 20, 7, 0, api.Rect{}}, // not good
		{"0/", 20, 7, 0, api.Rect{}},
		{"0/1/1", 20, 7, 0, api.Rect{}},
		{"0/6", 20, 7, 0, api.Rect{}},
		{"0/1234", 20, 7, 0, api.Rect{}},
	} {
		if got := Where(panes(c.from), c.wide, c.high, c.p); got != c.want {
			t.Errorf("Where(%s, %d, %d, %d) = %+v; wanted %+v", c.from, c.wide, c.high, c.p, got, c.want)
		}
	}
}

// whereWant is what Where must say of good panes, counted out.
func whereWant(x api.Tiles, wide, high, p int) api.Rect {
	for i, column := range x.Columns {
		if k := slices.Index(column, p); k >= 0 {
			col, w := shareWant(wide, len(x.Columns), i)
			row, h := shareWant(high, len(column), k)
			if w > 0 && h > 0 {
				return api.Rect{Row: row, Col: col, High: h, Wide: w}
			}
		}
	}
	return api.Rect{}
}

// P3.4: all shapes on screens of all sides.
func TestWhereAll(t *testing.T) {
	sides := []int{math.MinInt, -1, 0, 1, 2, 3, 4, 5, 6, 7, 10, 11, 12, 20, 23, 24, 25, math.MaxInt}
	for _, x := range goodPanes() {
		for _, wide := range sides {
			for _, high := range sides {
				for p := -1; p <= 6; p++ {
					if got, want := Where(x, wide, high, p), whereWant(x, wide, high, p); got != want {
						t.Fatalf("Where(%v, %d, %d, %d) = %+v; wanted %+v", x, wide, high, p, got, want)
					}
				}
			}
		}
	}
}

// P3.4: panes that are not good have no places.
func TestWhereRefuses(t *testing.T) {
	for _, x := range badPanes() {
		for _, p := range numbers {
			if got := Where(x, 24, 24, p); got != (api.Rect{}) {
				t.Errorf("Where(%v, %d) = %+v", x, p, got)
			}
		}
	}
}

// P3.4: where there is room for all, each cell is of one pane or stands between, and panes have a cell between them.
func TestPlacesNeverTouch(t *testing.T) {
	for _, x := range goodPanes() {
		for _, wide := range []int{11, 12, 20, 24} {
			for _, high := range []int{5, 7, 10} {
				of, cells := covered(x, wide, high)
				want := 0
				for i, column := range x.Columns {
					want += dealt(wide, len(x.Columns))[i] * (high - len(column) + 1)
				}
				if got := len(cells); got != want || neighbours(of) {
					t.Fatalf("%v, %d, %d: %d cells, wanted %d: %v", x, wide, high, got, want, of)
				}
				slices.Sort(cells)
				if len(slices.Compact(cells)) != want {
					t.Fatalf("%v, %d, %d: a cell is of two panes", x, wide, high)
				}
			}
		}
	}
}

// covered is the pane of each cell, 1 more, with a rim of none; and the cells of all panes, one by one.
func covered(x api.Tiles, wide, high int) ([12][26]int, []int) {
	var of [12][26]int
	var cells []int
	for _, p := range slices.Concat(x.Columns...) {
		r := Where(x, wide, high, p)
		for row := r.Row; row < r.Row+r.High; row++ {
			for col := r.Col; col < r.Col+r.Wide; col++ {
				of[row+1][col+1] = p + 1
				cells = append(cells, row*wide+col)
			}
		}
	}
	return of, cells
}

// neighbours is whether cells of two panes touch, at their sides or corners.
func neighbours(of [12][26]int) bool {
	for row := 1; row < 11; row++ {
		for col := 1; col < 25; col++ {
			for _, by := range [][2]int{{-1, -1}, {-1, 0}, {-1, 1}, {0, 1}, {1, 1}, {1, 0}, {1, -1}, {0, -1}} {
				a, b := of[row][col], of[row+by[0]][col+by[1]]
				if a != 0 && b != 0 && a != b {
					return true
				}
			}
		}
	}
	return false
}

// FuzzTiles looks for panes that make a call end otherwise than P3.1 to P3.4 say. In what is tried a byte 200 begins a column; of all others 2 less is a pane.
func FuzzTiles(f *testing.F) {
	f.Add("\xc8\x02\x05\x03\xc8\x06\xc8\x04", 0, 5, 20, 7, true)
	f.Add("\xc8\x02\xc8", 0, 1, 20, 7, false)
	f.Add("\xc8\x02\x03\x04", 2, 3, 5, 5, false)
	f.Add("", 0, 0, math.MinInt, math.MaxInt, false)
	f.Fuzz(func(t *testing.T, text string, p, n, wide, high int, right bool) {
		x := panesOfBytes(text)
		good := goodWant(x)
		if Good(x) != good || Has(x, p) != slices.Contains(slices.Concat(x.Columns...), p) {
			t.Fatalf("Good(%v) = %v, Has(%d) = %v", x, Good(x), p, Has(x, p))
		}
		want, wantErr := x, splitError(x, good, p, n, right)
		if wantErr == api.OK {
			want = splitWant(x, p, n, right)
		}
		if got, err := Split(x, p, n, right); err != wantErr || !same(got, want) || Good(got) != good {
			t.Fatalf("Split(%v, %d, %d, %v) = %v, %d", x, p, n, right, got, err)
		}
		want, wantErr = x, killError(x, good, p)
		if wantErr == api.OK {
			want = killWant(x, p)
		}
		if got, err := Kill(x, p); err != wantErr || !same(got, want) || Good(got) != good {
			t.Fatalf("Kill(%v, %d) = %v, %d", x, p, got, err)
		}
		var place api.Rect
		if good {
			place = whereWant(x, wide, high, p)
		}
		if got := Where(x, wide, high, p); got != place {
			t.Fatalf("Where(%v, %d, %d, %d) = %+v", x, wide, high, p, got)
		}
	})
}

func panesOfBytes(text string) api.Tiles {
	var x api.Tiles
	for i := range len(text) {
		if last := len(x.Columns) - 1; text[i] == 200 || last < 0 {
			x.Columns = append(x.Columns, nil)
		} else {
			x.Columns[last] = append(x.Columns[last], int(text[i])-2)
		}
	}
	return x
}

// goodWant is P3.1, asked of each column, and of each pane of all.
func goodWant(x api.Tiles) bool {
	all := slices.Concat(x.Columns...)
	wrong := func(column []int) bool { return len(column) == 0 || len(column) > 3 }
	slices.Sort(all)
	once := len(slices.Compact(slices.Clone(all))) == len(all)
	return len(all) > 0 && !slices.ContainsFunc(x.Columns, wrong) && once && all[0] >= 0 && all[len(all)-1] <= 5
}
