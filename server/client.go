package server

import (
	"fenestra/api"
	"fenestra/draw"
	"fenestra/grid"
	"fenestra/paint"
)

// client: a nil one is not here.
type client struct {
	waiting string
	lost    bool
	shown   api.Grid // as soon as it has all that waits
}

// find is nil, if the client is not here.
func (s *Server) find(i int) *client {
	if s == nil || !isClient(i) {
		return nil
	}
	return s.clients[i]
}

func isClient(i int) bool {
	return i >= 0 && i < api.Clients
}

func (s *Server) attach(i, wide, high int) api.Errno {
	switch {
	case !isClient(i):
		return api.ErrNone
	case s.clients[i] != nil:
		return api.ErrTwice
	case !goodSides(wide, high):
		return api.ErrRange
	}
	// Nobody knows what it shows; as something was lost, the next tick shows all of it anew.
	s.clients[i] = &client{lost: true, shown: grid.New(wide, high)}
	return api.OK
}

func (s *Server) detach(i int) api.Errno {
	if s.find(i) == nil {
		return api.ErrNone
	}
	s.clients[i] = nil
	return api.OK
}

func (s *Server) drain(i, n int) api.Reply {
	c := s.find(i)
	if c == nil {
		return api.Reply{Code: api.ErrNone}
	}
	out := c.take(n)
	return api.Reply{N: len(out), Out: out}
}

// take is the first n bytes that wait, as far as there are such; they wait no longer.
func (c *client) take(n int) string {
	n = max(0, min(n, len(c.waiting)))
	out := c.waiting[:n]
	c.waiting = c.waiting[n:]
	return out
}

func (s *Server) tick() api.Errno {
	for _, c := range s.clients {
		c.show(s.view)
	}
	return api.OK
}

// show lets the bytes wait that bring a client to what it is to see.
func (c *client) show(v api.View) {
	// Behind a gap nothing can follow but all of it, and that only when what is ahead of the gap was taken.
	if c == nil || c.lost && c.waiting != "" {
		return
	}
	bytesTo := c.turn
	if c.lost {
		bytesTo = draw.Anew
	}
	// What is painted is good, its cursor at a cell, its sides the client's: no error can come.
	more, shown, _ := bytesTo(paint.Screen(v, c.shown.Wide, c.shown.High))
	if len(c.waiting)+len(more) > api.MaxQueue {
		c.lost = true
		return
	}
	c.waiting, c.shown, c.lost = c.waiting+more, shown, false
}

// turn goes on from what waits.
func (c *client) turn(to api.Grid) (string, api.Grid, api.Errno) {
	return draw.Turn(c.shown, to)
}
