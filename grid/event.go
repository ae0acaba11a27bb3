package grid

import "fenestra/api"

// Every function of this file is handed a good screen, may change its list of cells, and leaves the screen good.

func check(e api.Event) api.Errno {
	switch e.Kind {
	case api.Print:
		if !plain(e.B) {
			return api.ErrForm
		}
		return api.OK
	case api.Ctl, api.Csi, api.Pic, api.Reset:
		return api.OK
	}
	return api.ErrKind
}

// done is the screen behind an event that check finds nothing wrong with.
func done(g api.Grid, e api.Event) api.Grid {
	switch e.Kind {
	case api.Print:
		return printed(g, e.B)
	case api.Ctl:
		return controlled(g, e.B)
	case api.Csi:
		return commanded(g, e.B, e.Params)
	case api.Pic:
		return pictured(g, e.Payload)
	}
	return New(g.Wide, g.High)
}

func printed(g api.Grid, b int) api.Grid {
	if g.Col == g.Wide {
		g.Col = 0
		g = rowOn(g)
	}
	rows(g, g.Row, g.Row+1)[g.Col] = api.Cell{Ch: b, Ink: g.Ink, Bold: g.Bold}
	g.Col++
	return g
}

func rowOn(g api.Grid) api.Grid {
	if g.Row == g.Bottom-1 {
		goUp(rows(g, g.Top, g.Bottom), g.Wide)
	} else {
		g.Row = min(g.Row+1, g.High-1)
	}
	return g
}

// goUp moves cells towards the first one, by at most as many as there are; empty ones come behind them.
func goUp(cells []api.Cell, by int) {
	kept := copy(cells, cells[by:])
	clear(cells[kept:])
}

// goDown moves cells towards the last one, by at most as many as there are; empty ones come ahead of them.
func goDown(cells []api.Cell, by int) {
	copy(cells[by:], cells)
	clear(cells[:by])
}

func controlled(g api.Grid, b int) api.Grid {
	switch b {
	case 8:
		g.Col = max(here(g)-1, 0)
	case 9:
		g.Col = min((g.Col/8+1)*8, g.Wide-1)
	case 10:
		return rowOn(g)
	case 13:
		g.Col = 0
	}
	return g
}

func commanded(g api.Grid, letter int, params []int) api.Grid {
	first, second := number(params, 0), number(params, 1)
	n := max(first, 1)
	switch letter {
	case 'A':
		g.Row = max(g.Row-n, 0)
	case 'B':
		g.Row = min(g.Row+n, g.High-1)
	case 'C':
		g.Col = min(g.Col+n, g.Wide-1)
	case 'D':
		g.Col = max(here(g)-n, 0)
	case 'H':
		g.Row = min(n, g.High) - 1
		g.Col = within(second, 1, g.Wide) - 1
	case 'J':
		erase(g.Cells, g.Row*g.Wide+here(g), first)
	case 'K':
		erase(rows(g, g.Row, g.Row+1), here(g), first)
	case 'L':
		return pushed(g, n, goDown)
	case 'M':
		return pushed(g, n, goUp)
	case 'm':
		return inked(g, params)
	case 'r':
		return scrolling(g, n, second)
	}
	return g
}

// number is the i-th one of a command, brought to where it can be reckoned with.
func number(params []int, i int) int {
	if i >= len(params) {
		return 0
	}
	return within(params[i], 0, api.MaxNumber)
}

// erase empties the cells from a place on, up to it and with it, or all.
func erase(cells []api.Cell, place, which int) {
	switch which {
	case 0:
		clear(cells[place:])
	case 1:
		clear(cells[:place+1])
	case 2:
		clear(cells)
	}
}

// pushed is the screen with the rows from the cursor's on moved by n, if the cursor is where rows scroll.
func pushed(g api.Grid, n int, move func(cells []api.Cell, by int)) api.Grid {
	if g.Row < g.Top || g.Row >= g.Bottom {
		return g
	}
	move(rows(g, g.Row, g.Bottom), min(n, g.Bottom-g.Row)*g.Wide)
	g.Col = 0
	return g
}

func inked(g api.Grid, params []int) api.Grid {
	for _, n := range params {
		switch {
		case n == 0:
			g.Ink, g.Bold = 0, false
		case n == 1:
			g.Bold = true
		case n == 22:
			g.Bold = false
		case n >= 30 && n <= 29+api.Colours:
			g.Ink = n - 29
		case n == 39:
			g.Ink = 0
		}
	}
	return g
}

func scrolling(g api.Grid, n, bottom int) api.Grid {
	if bottom == 0 || bottom > g.High {
		bottom = g.High
	}
	if n <= bottom {
		g.Top, g.Bottom = n-1, bottom
		g.Row, g.Col = 0, 0
	}
	return g
}

// pictured leaves out what goes beyond the screen: a picture neither wraps nor scrolls.
func pictured(g api.Grid, payload string) api.Grid {
	row, col := g.Row, here(g)
	for i := range len(payload) {
		if payload[i] == '-' {
			row, col = row+1, here(g)
			continue
		}
		if colour := int(payload[i]) - 'a' + 1; colour >= 1 && colour <= api.Colours && has(g, row, col) {
			rows(g, row, row+1)[col] = api.Cell{Pic: colour}
		}
		col++
	}
	return g
}
