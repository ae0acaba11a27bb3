package tiles

import (
	"math"
	"slices"
	"strings"
	"testing"

	"fenestra/api"
)

// panes are those of a text: a digit a pane, a slash between columns, nothing for no columns at all.
func panes(text string) api.Tiles {
	if text == "" {
		return api.Tiles{}
	}
	var t api.Tiles
	for _, column := range strings.Split(text, "/") {
		var l []int
		for i := range len(column) {
			l = append(l, int(column[i]-'0'))
		}
		t.Columns = append(t.Columns, l)
	}
	return t
}

func same(a, b api.Tiles) bool {
	return slices.EqualFunc(a.Columns, b.Columns, func(x, y []int) bool { return slices.Equal(x, y) })
}

// shapes are all ways to put a number of panes into columns, by how tall these are.
func shapes(count int) [][]int {
	if count == 0 {
		return [][]int{nil}
	}
	var l [][]int
	for tall := 1; tall <= min(count, 3); tall++ {
		for _, rest := range shapes(count - tall) {
			l = append(l, append([]int{tall}, rest...))
		}
	}
	return l
}

// filled is columns that are so tall, with panes of a list in their order.
func filled(shape, order []int) api.Tiles {
	var t api.Tiles
	for _, tall := range shape {
		t.Columns = append(t.Columns, slices.Clone(order[:tall]))
		order = order[tall:]
	}
	return t
}

// goodPanes are all shapes there are, each with several orders of panes.
func goodPanes() []api.Tiles {
	var l []api.Tiles
	for count := 1; count <= 6; count++ {
		for _, shape := range shapes(count) {
			for _, order := range [][]int{{0, 1, 2, 3, 4, 5}, {5, 4, 3, 2, 1, 0}, {3, 0, 5, 1, 4, 2}, {2, 5, 0, 4, 1, 3}} {
				l = append(l, filled(shape, order))
			}
		}
	}
	return l
}

func badPanes() []api.Tiles {
	l := []api.Tiles{
		{},
		{Columns: [][]int{}},
		{Columns: [][]int{nil}},
		{Columns: [][]int{{}}},
		{Columns: [][]int{{-1}}},
		{Columns: [][]int{{0, -1}}},
		{Columns: [][]int{{0}, {-1}}},
		{Columns: [][]int{{math.MinInt}}},
		{Columns: [][]int{{math.MaxInt}}},
		{Columns: [][]int{{0}, {1 << 32}}},
		{Columns: [][]int{{0}, {-1 << 32}}},
		{Columns: [][]int{{0, 1}, {2, math.MaxInt}}},
	}
	for _, text := range []string{
		"/", "0/", "/0", "0//1", "0/1/", "/0/1", "012/345/", // a column is empty
		"0123", "0/1234", "1234/0", "012345", "0/1/2345", // one is too tall
		"00", "0/0", "010", "01/20", "012/345/0", "5/4/3/2/1/0/5", "0/1/2/3/4/5/0", "55", // one is twice
		"6", "06", "0/6", "6/0", "0/1/26", "012/346", "7", "9", // one is none
	} {
		l = append(l, panes(text))
	}
	return l
}

// numbers are all panes, and some that are none.
var numbers = []int{math.MinInt, -1 << 32, -6, -1, 0, 1, 2, 3, 4, 5, 6, 7, 9, 1 << 32, math.MaxInt}

// P3.1
func TestGood(t *testing.T) {
	for _, x := range goodPanes() {
		if !Good(x) {
			t.Errorf("%v are good", x)
		}
	}
	for _, x := range badPanes() {
		if Good(x) {
			t.Errorf("%v are not good", x)
		}
	}
	if n := len(goodPanes()); n != 4*(1+2+4+7+13+24) {
		t.Errorf("%d were tried", n)
	}
}

// P3.1: every order of two or three panes, within their bounds and beyond, in every shape.
func TestGoodSmall(t *testing.T) {
	for a := -2; a <= 7; a++ {
		for b := -2; b <= 7; b++ {
			for c := -2; c <= 7; c++ {
				within := min(a, b, c) >= 0 && max(a, b, c) <= 5
				want := within && a != b && b != c && a != c
				for _, shape := range shapes(3) {
					if x := filled(shape, []int{a, b, c}); Good(x) != want {
						t.Errorf("Good(%v) = %v", x, !want)
					}
				}
			}
		}
	}
}

// P3.1: a pane that is in a column, whichever, and wherever there.
func TestHas(t *testing.T) {
	for _, x := range append(goodPanes(), badPanes()...) {
		there := slices.Concat(x.Columns...)
		for _, p := range numbers {
			if want := slices.Contains(there, p); Has(x, p) != want {
				t.Errorf("Has(%v, %d) = %v", x, p, !want)
			}
		}
	}
}

// P3.2
func TestSplit(t *testing.T) {
	for _, c := range []struct {
		from  string
		p, n  int
		right bool
		want  string
		err   api.Errno
	}{
		{"0", 0, 1, false, "01", api.OK},
		{"0", 0, 5, false, "05", api.OK},
		{"5", 5, 0, false, "50", api.OK},
		{"0", 0, 1, true, "0/1", api.OK},
		{"5", 5, 0, true, "5/0", api.OK},
		{"01", 0, 2, false, "021", api.OK},
		{"01", 1, 2, false, "012", api.OK},
		{"01", 0, 2, true, "01/2", api.OK},
		{"01", 1, 2, true, "01/2", api.OK},
		{"0/1", 0, 2, false, "02/1", api.OK},
		{"0/1", 1, 2, false, "0/12", api.OK},
		{"0/1", 0, 2, true, "0/2/1", api.OK},
		{"0/1", 1, 2, true, "0/1/2", api.OK},
		{"01/2/34", 2, 5, false, "01/25/34", api.OK},
		{"01/2/34", 2, 5, true, "01/2/5/34", api.OK},
		{"01/2/34", 3, 5, false, "01/2/354", api.OK},
		{"012/34", 3, 5, false, "012/354", api.OK},
		{"012", 1, 3, true, "012/3", api.OK},
		{"3/012", 0, 4, true, "3/012/4", api.OK},
		{"0/1/2/3/4", 4, 5, true, "0/1/2/3/4/5", api.OK},
		{"0/1/2/3/4", 0, 5, true, "0/5/1/2/3/4", api.OK},
		{"0/1/2/3/4", 2, 5, false, "0/1/25/3/4", api.OK},

		{"012", 0, 3, false, "012", api.ErrFull},
		{"012", 1, 3, false, "012", api.ErrFull},
		{"012", 2, 3, false, "012", api.ErrFull},
		{"3/012", 2, 4, false, "3/012", api.ErrFull},
		{"0", 0, 0, false, "0", api.ErrTwice},
		{"0", 0, 0, true, "0", api.ErrTwice},
		{"0/1", 0, 1, false, "0/1", api.ErrTwice},
		{"012", 0, 1, false, "012", api.ErrTwice},
		{"012/345", 0, 5, false, "012/345", api.ErrTwice},
		{"012/345", 0, 5, true, "012/345", api.ErrTwice},
		{"0", 1, 2, false, "0", api.ErrNone},
		{"0", 1, 0, false, "0", api.ErrNone},
		{"0", 1, 1, true, "0", api.ErrNone},
		{"0", -1, 1, true, "0", api.ErrNone},
		{"0", 6, 1, true, "0", api.ErrNone},
		{"0", 0, 6, false, "0", api.ErrRange},
		{"0", 0, -1, true, "0", api.ErrRange},
		{"0", 1, 6, true, "0", api.ErrRange},
		{"012", 0, 6, false, "012", api.ErrRange},
		{"", 0, 1, false, "", api.ErrRange},
		{"0/", 0, 1, true, "0/", api.ErrRange},
		{"0123", 0, 4, false, "0123", api.ErrRange},
		{"00", 0, 0, false, "00", api.ErrRange},
		{"6", 6, 1, false, "6", api.ErrRange},
	} {
		got, err := Split(panes(c.from), c.p, c.n, c.right)
		if err != c.err || !same(got, panes(c.want)) {
			t.Errorf("Split(%s, %d, %d, %v) = %v, %d; wanted %s, %d", c.from, c.p, c.n, c.right, got, err, c.want, c.err)
		}
	}
}

// splitError is the first that applies, in the order of P3.2.
func splitError(x api.Tiles, good bool, p, n int, right bool) api.Errno {
	there := slices.Concat(x.Columns...)
	if !good || n < 0 || n > 5 {
		return api.ErrRange
	}
	if !slices.Contains(there, p) {
		return api.ErrNone
	}
	if slices.Contains(there, n) {
		return api.ErrTwice
	}
	for _, column := range x.Columns {
		if !right && len(column) == 3 && slices.Contains(column, p) {
			return api.ErrFull
		}
	}
	return api.OK
}

// splitWant is the columns as they must be, made one by one.
func splitWant(x api.Tiles, p, n int, right bool) api.Tiles {
	var to api.Tiles
	for _, column := range x.Columns {
		var l []int
		for _, q := range column {
			l = append(l, q)
			if q == p && !right {
				l = append(l, n)
			}
		}
		to.Columns = append(to.Columns, l)
		if right && slices.Contains(column, p) {
			to.Columns = append(to.Columns, []int{n})
		}
	}
	return to
}

// P3.2: all that can be asked of all shapes; Kill takes away again what Split brought.
func TestSplitAll(t *testing.T) {
	for _, x := range goodPanes() {
		for _, p := range numbers {
			for _, n := range numbers {
				for _, right := range []bool{false, true} {
					want, wantErr := x, splitError(x, true, p, n, right)
					if wantErr == api.OK {
						want = splitWant(x, p, n, right)
					}
					got, err := Split(x, p, n, right)
					if err != wantErr || !same(got, want) || !Good(got) {
						t.Fatalf("Split(%v, %d, %d, %v) = %v, %d; wanted %v, %d", x, p, n, right, got, err, want, wantErr)
					}
					if back, e := Kill(got, n); err == api.OK && (e != api.OK || !same(back, x)) {
						t.Fatalf("Kill(%v, %d) = %v, %d; wanted %v", got, n, back, e, x)
					}
				}
			}
		}
	}
}

// P3.2: of panes that are not good nothing else is said, and they are as they were.
func TestSplitAndKillRefuse(t *testing.T) {
	for _, x := range badPanes() {
		for _, p := range numbers {
			for _, n := range numbers {
				for _, right := range []bool{false, true} {
					if got, err := Split(x, p, n, right); err != api.ErrRange || !same(got, x) {
						t.Errorf("Split(%v, %d, %d, %v) = %v, %d", x, p, n, right, got, err)
					}
				}
			}
			if got, err := Kill(x, p); err != api.ErrRange || !same(got, x) {
				t.Errorf("Kill(%v, %d) = %v, %d", x, p, got, err)
			}
		}
	}
}

// P3.2
func TestKill(t *testing.T) {
	for _, c := range []struct {
		from string
		p    int
		want string
		err  api.Errno
	}{
		{"01", 0, "1", api.OK},
		{"01", 1, "0", api.OK},
		{"0/1", 0, "1", api.OK},
		{"0/1", 1, "0", api.OK},
		{"012", 0, "12", api.OK},
		{"012", 1, "02", api.OK},
		{"012", 2, "01", api.OK},
		{"01/2/345", 2, "01/345", api.OK},
		{"01/2/345", 1, "0/2/345", api.OK},
		{"01/2/345", 4, "01/2/35", api.OK},
		{"01/2/345", 5, "01/2/34", api.OK},
		{"0/1/2/3/4/5", 0, "1/2/3/4/5", api.OK},
		{"0/1/2/3/4/5", 5, "0/1/2/3/4", api.OK},
		{"0/1/2/3/4/5", 3, "0/1/2/4/5", api.OK},
		{"012/345", 0, "12/345", api.OK},
		{"0", 0, "0", api.ErrFull},
		{"5", 5, "5", api.ErrFull},
		{"0", 1, "0", api.ErrNone},
		{"5", 0, "5", api.ErrNone},
		{"01/2", 3, "01/2", api.ErrNone},
		{"01/2", -1, "01/2", api.ErrNone},
		{"01/2", 6, "01/2", api.ErrNone},
		{"01/2", math.MinInt, "01/2", api.ErrNone},
		{"01/2", math.MaxInt, "01/2", api.ErrNone},
		{"", 0, "", api.ErrRange},
		{"6", 6, "6", api.ErrRange},
		{"0/", 0, "0/", api.ErrRange},
		{"0/0", 0, "0/0", api.ErrRange},
		{"0123", 5, "0123", api.ErrRange},
	} {
		got, err := Kill(panes(c.from), c.p)
		if err != c.err || !same(got, panes(c.want)) {
			t.Errorf("Kill(%s, %d) = %v, %d; wanted %s, %d", c.from, c.p, got, err, c.want, c.err)
		}
	}
}

// killWant is the columns as they must be, made one by one.
func killWant(x api.Tiles, p int) api.Tiles {
	var to api.Tiles
	for _, column := range x.Columns {
		var l []int
		for _, q := range column {
			if q != p {
				l = append(l, q)
			}
		}
		if len(l) > 0 {
			to.Columns = append(to.Columns, l)
		}
	}
	return to
}

// killError is the first that applies, in the order of P3.2.
func killError(x api.Tiles, good bool, p int) api.Errno {
	there := slices.Concat(x.Columns...)
	if !good {
		return api.ErrRange
	}
	if !slices.Contains(there, p) {
		return api.ErrNone
	}
	if len(there) == 1 {
		return api.ErrFull
	}
	return api.OK
}

// P3.2: every pane of all shapes.
func TestKillAll(t *testing.T) {
	for _, x := range goodPanes() {
		for _, p := range numbers {
			want, wantErr := x, killError(x, true, p)
			if wantErr == api.OK {
				want = killWant(x, p)
			}
			if got, err := Kill(x, p); err != wantErr || !same(got, want) || !Good(got) {
				t.Errorf("Kill(%v, %d) = %v, %d; wanted %v, %d", x, p, got, err, want, wantErr)
			}
		}
	}
}

const spare = 77

// roomy is x in lists that have spare room, all of it spare.
func roomy(x api.Tiles) api.Tiles {
	var to api.Tiles
	for _, column := range x.Columns {
		l := append(slices.Clone(column), spare, spare, spare)
		to.Columns = append(to.Columns, l[:len(column)])
	}
	end := len(to.Columns)
	to.Columns = append(to.Columns, []int{spare}, []int{spare})[:end]
	return to
}

// asRoomy is whether x is still what roomy made of its panes, spare room and all.
func asRoomy(x, of api.Tiles) bool {
	for _, column := range x.Columns {
		if !slices.Equal(column[len(column):len(column)+3], []int{spare, spare, spare}) {
			return false
		}
	}
	end := len(x.Columns)
	for _, column := range x.Columns[end : end+2] {
		if !slices.Equal(column, []int{spare}) {
			return false
		}
	}
	return same(x, of)
}

// scribble writes over all of an answer's lists, and its spare room.
func scribble(x api.Tiles) {
	for _, column := range x.Columns {
		for i := range column[:cap(column)] {
			column[:cap(column)][i] = -9
		}
	}
	for i := range x.Columns[:cap(x.Columns)] {
		x.Columns[:cap(x.Columns)][i] = []int{-9}
	}
}

// apart is whether writing behind one list of an answer leaves the others as they are.
func apart(x api.Tiles) bool {
	was := api.Tiles{}
	for _, column := range x.Columns {
		was.Columns = append(was.Columns, slices.Clone(column))
	}
	for i := range x.Columns {
		_ = append(x.Columns[i], -9, -9, -9)
	}
	return same(x, was)
}

// What holds everywhere: lists that are handed in are not changed, their spare room neither; answers are memory of their own.
func TestListsAreNotShared(t *testing.T) {
	for _, of := range append(goodPanes(), badPanes()...) {
		for _, p := range []int{-1, 0, 1, 2, 3, 4, 5, 6} {
			for _, n := range []int{0, 3, 5, 6} {
				for _, right := range []bool{false, true} {
					x := roomy(of)
					got, _ := Split(x, p, n, right)
					if !apart(got) {
						t.Errorf("Split(%v, %d, %d, %v): lists share memory", of, p, n, right)
					}
					scribble(got)
					if !asRoomy(x, of) {
						t.Errorf("Split(%v, %d, %d, %v) left %v", of, p, n, right, x)
					}
				}
			}
			x := roomy(of)
			got, _ := Kill(x, p)
			if !apart(got) {
				t.Errorf("Kill(%v, %d): lists share memory", of, p)
			}
			scribble(got)
			Good(x)
			Has(x, p)
			Where(x, 20, 7, p)
			if !asRoomy(x, of) {
				t.Errorf("Kill(%v, %d) left %v", of, p, x)
			}
		}
	}
}

// Columns that are one list in the caller's memory are lists of their own in the answer.
func TestColumnsOfOneList(t *testing.T) {
	l := []int{0, 1, 2, 3}
	x := api.Tiles{Columns: [][]int{l[:1], l[1:3], l[3:]}}
	for _, c := range []struct {
		p, n int
		want string
	}{{0, 4, "04/12/3"}, {1, 4, "0/142/3"}, {2, 4, "0/124/3"}, {3, 4, "0/12/34"}} {
		if got, err := Split(x, c.p, c.n, false); err != api.OK || !same(got, panes(c.want)) || !apart(got) {
			t.Errorf("Split(%v, %d, %d) = %v, %d; wanted %s", x, c.p, c.n, got, err, c.want)
		}
	}
	for p, want := range []string{"12/3", "0/2/3", "0/1/3", "0/12"} {
		if got, err := Kill(x, p); err != api.OK || !same(got, panes(want)) || !apart(got) {
			t.Errorf("Kill(%v, %d) = %v, %d; wanted %s", x, p, got, err, want)
		}
	}
	if !slices.Equal(l, []int{0, 1, 2, 3}) {
		t.Errorf("the list is %v", l)
	}
}
