package draw

import (
	"strconv"
	"strings"

	"fenestra/api"
)

// What bytes begin and end with; between them stand numbers, or a picture.
const (
	reset      = "\x1bc"
	command    = "\x1b["
	picture    = "\x1bP"
	endPicture = "\x1b\\"
)

// pen writes bytes, and knows what they will do: screen is always the one that they lead to.
type pen struct {
	out    []byte
	screen api.Grid
}

func (p *pen) write(s string) {
	p.out = append(p.out, s...)
}

// show turns the pen's screen into a good one of the same sides.
//
// That takes less than MaxQueue: in each of 10 rows at most an erasure (a move, 8 bytes, and 4), a picture (a move and 28), and letters (7 for ink and Bold, and itself) and moves to them, 8 bytes each, no more than 25 of both, as each move but the first one skips a cell; and the last move (8).
func (p *pen) show(to api.Grid) {
	for row := range to.High {
		p.showRow(row, cells(to, row))
	}
	p.move(to.Row, to.Col)
}

func (p *pen) showRow(row int, want []api.Cell) {
	p.erase(row, want)
	have := cells(p.screen, row)
	for col, c := range want {
		if have[col] == c {
			continue
		}
		p.move(row, col)
		if c.Pic > 0 {
			p.colour(want)
		} else {
			p.print(c)
		}
	}
}

// erase empties what is to be empty in a row. No byte empties a cell alone: of the two ways, from the first one on and up to the last one, it takes that which spoils less.
func (p *pen) erase(row int, want []api.Cell) {
	have := cells(p.screen, row)
	first, last := surplus(have, want)
	if last < 0 {
		return
	}
	if kept(have[first:], want[first:]) <= kept(have[:last+1], want[:last+1]) {
		p.move(row, first)
		p.write(command + "K")
		clear(have[first:])
	} else {
		p.move(row, last)
		p.write(command + "1K")
		clear(have[:last+1])
	}
}

// surplus is the first and the last cell that are to be empty and are not; the last one is -1, if there are none.
func surplus(have, want []api.Cell) (int, int) {
	first, last := len(want), -1
	for i, c := range want {
		if c == (api.Cell{}) && have[i] != c {
			first, last = min(first, i), i
		}
	}
	return first, last
}

// kept is how many cells show already what they are to show; empty ones lose nothing when they are emptied.
func kept(have, want []api.Cell) int {
	n := 0
	for i, c := range want {
		if c != (api.Cell{}) && have[i] == c {
			n++
		}
	}
	return n
}

// print shows a letter at the cursor.
func (p *pen) print(c api.Cell) {
	p.ink(c)
	p.write(string(rune(c.Ch)))
	cells(p.screen, p.screen.Row)[p.screen.Col] = c
	p.screen.Col++
}

// colour shows all colours that the cursor's row lacks from here on: within one picture, a byte that is no colour costs less than a way and a picture more.
func (p *pen) colour(want []api.Cell) {
	have := cells(p.screen, p.screen.Row)
	var payload []byte
	for col := p.screen.Col; col < len(want); col++ {
		b := byte(' ')
		if c := want[col]; c.Pic > 0 && have[col] != c {
			b = byte('a' + c.Pic - 1)
			have[col] = c
		}
		payload = append(payload, b)
	}
	p.write(picture + strings.TrimRight(string(payload), " ") + endPicture)
}

// ink takes that of a letter.
func (p *pen) ink(c api.Cell) {
	g := &p.screen
	if g.Ink == c.Ink && g.Bold == c.Bold {
		return
	}
	p.write(command + inkNumbers(*g, c) + "m")
	g.Ink, g.Bold = c.Ink, c.Bold
}

// inkNumbers lead from the ink of g to that of c, which is another one. What is to be gone goes by 0, which need not be written.
func inkNumbers(g api.Grid, c api.Cell) string {
	var numbers []string
	if g.Bold && !c.Bold || g.Ink > 0 && c.Ink == 0 {
		numbers = append(numbers, "")
		g.Ink, g.Bold = 0, false
	}
	if c.Bold != g.Bold {
		numbers = append(numbers, "1")
	}
	if c.Ink != g.Ink {
		numbers = append(numbers, strconv.Itoa(29+c.Ink))
	}
	return strings.Join(numbers, ";")
}

// move leads the cursor to a cell; where it already is, by no bytes. It tells row and column, whatever the way: so it hangs neither on the rows that scroll nor on being behind the last column.
func (p *pen) move(row, col int) {
	g := &p.screen
	if g.Row == row && g.Col == col {
		return
	}
	p.write(command + strconv.Itoa(row+1) + ";" + strconv.Itoa(col+1) + "H")
	g.Row, g.Col = row, col
}

// cells are those of a row, cut out of the screen's list.
func cells(g api.Grid, row int) []api.Cell {
	return g.Cells[row*g.Wide : (row+1)*g.Wide]
}
