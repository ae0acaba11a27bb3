package server

import (
	"fenestra/api"
	"fenestra/grid"
	"fenestra/parse"
	"fenestra/tiles"
)

// mostAtOnce bounds the bytes that are told as events at one time: these take far more room than the bytes do.
const mostAtOnce = 4096

// split puts a new pane beside another one; the reply names it.
func (s *Server) split(p int, right bool) api.Reply {
	n := s.unused()
	if n == api.MaxPanes {
		return api.Reply{Code: api.ErrFull}
	}
	t, err := tiles.Split(s.view.Tiles, p, n, right)
	if err != api.OK {
		return api.Reply{Code: err}
	}
	s.view.Tiles, s.view.Focus = t, n
	s.fit()
	return api.Reply{N: n}
}

// unused is the least number of a pane that is not there; MaxPanes, if all are.
func (s *Server) unused() int {
	n := 0
	for n < api.MaxPanes && tiles.Has(s.view.Tiles, n) {
		n++
	}
	return n
}

func (s *Server) kill(p int) api.Errno {
	t, err := tiles.Kill(s.view.Tiles, p)
	if err != api.OK {
		return err
	}
	s.view.Tiles = t
	// The number may come again: nothing of this pane must be left then.
	s.view.Grids[p], s.parsers[p] = api.Grid{}, api.Parser{}
	if s.view.Focus == p {
		s.view.Focus = t.Columns[0][0]
	}
	s.fit()
	return api.OK
}

func (s *Server) output(p int, text string) api.Errno {
	if !tiles.Has(s.view.Tiles, p) {
		return api.ErrNone
	}
	for len(text) > 0 {
		n := min(len(text), mostAtOnce)
		s.tell(p, text[:n])
		text = text[n:]
	}
	return api.OK
}

// tell leaves errors aside: the parser and the screen of a pane are good, and so are the events that bytes tell.
func (s *Server) tell(p int, text string) {
	next, told, _ := parse.Feed(s.parsers[p], text)
	s.parsers[p] = next
	s.view.Grids[p], _ = grid.All(s.view.Grids[p], told)
}

func (s *Server) focus(p int) api.Errno {
	if !tiles.Has(s.view.Tiles, p) {
		return api.ErrNone
	}
	s.view.Focus = p
	return api.OK
}

func (s *Server) resize(wide, high int) api.Errno {
	if !goodSides(wide, high) {
		return api.ErrRange
	}
	s.view.Wide, s.view.High = wide, high
	s.fit()
	return api.OK
}

func goodSides(wide, high int) bool {
	return wide >= 1 && wide <= api.MaxWide && high >= 1 && high <= api.MaxHigh
}

// fit gives each pane that is there a screen of the sides of its place; if that has no room, of one cell.
func (s *Server) fit() {
	v := &s.view
	for _, column := range v.Tiles.Columns {
		for _, p := range column {
			place := tiles.Where(v.Tiles, v.Wide, v.High, p)
			v.Grids[p] = fitted(v.Grids[p], max(place.Wide, 1), max(place.High, 1))
		}
	}
}

// fitted is a screen with such sides; a new one, if there was none.
func fitted(g api.Grid, wide, high int) api.Grid {
	if g.Wide == 0 {
		return grid.New(wide, high)
	}
	// Resize forgets which rows scroll, even where the sides stay.
	if g.Wide == wide && g.High == high {
		return g
	}
	g, _ = grid.Resize(g, wide, high)
	return g
}
