// Package parse tells bytes as events: see ../../shared/doc/01-parse.md.
package parse

import (
	"slices"

	"fenestra/api"
)

// The bytes that lead a parser from one place to another.
const (
	cancel    = 24
	escape    = 27
	separator = ';'
	command   = '['
	picture   = 'P'
	reset     = 'c'
	backslash = 92
)

// Good is whether a parser is one.
func Good(p api.Parser) bool {
	return goodPlace(p.At) && goodParams(p) && goodPayload(p)
}

func goodPlace(at int) bool {
	return at >= api.Ground && at <= api.Ending
}

func goodParams(p api.Parser) bool {
	if (p.At == api.Command) != (len(p.Params) > 0) || len(p.Params) > api.MaxParams {
		return false
	}
	for _, n := range p.Params {
		if n < 0 || n > api.MaxNumber {
			return false
		}
	}
	return true
}

func goodPayload(p api.Parser) bool {
	if p.At == api.Picture || p.At == api.Ending {
		return len(p.Payload) <= api.MaxPayload
	}
	return p.Payload == "" && !p.Long
}

// Feed is the parser behind bytes, and what they tell.
func Feed(p api.Parser, s string) (api.Parser, []api.Event, api.Errno) {
	// The numbers of a command grow in place: the caller's list must not be theirs.
	p.Params = slices.Clone(p.Params)
	if !Good(p) {
		return p, nil, api.ErrRange
	}
	var told []api.Event
	for i := range len(s) {
		next, e := step(p, int(s[i]))
		p = next
		if tells(e) {
			told = append(told, e)
		}
	}
	return p, told, api.OK
}

// No kind of event is 0, so the zero event can stand for a byte that tells nothing.
func tells(e api.Event) bool {
	return e.Kind != 0
}

// step is the parser behind one byte, and the event of it, if it tells one; it may change the list of p.
func step(p api.Parser, b int) (api.Parser, api.Event) {
	switch p.At {
	case api.Escaped:
		return escaped(b)
	case api.Command:
		return inCommand(p, b)
	case api.Picture:
		return inPicture(p, b), api.Event{}
	case api.Ending:
		return ending(p, b)
	}
	return onGround(b)
}

func onGround(b int) (api.Parser, api.Event) {
	switch {
	case b == escape:
		return api.Parser{At: api.Escaped}, api.Event{}
	case plain(b):
		return api.Parser{}, api.Event{Kind: api.Print, B: b}
	case control(b):
		return api.Parser{}, api.Event{Kind: api.Ctl, B: b}
	}
	return api.Parser{}, api.Event{}
}

func escaped(b int) (api.Parser, api.Event) {
	switch b {
	case escape:
		return api.Parser{At: api.Escaped}, api.Event{}
	case command:
		return api.Parser{At: api.Command, Params: []int{0}}, api.Event{}
	case picture:
		return api.Parser{At: api.Picture}, api.Event{}
	case reset:
		return api.Parser{}, api.Event{Kind: api.Reset}
	}
	return api.Parser{}, api.Event{}
}

func inCommand(p api.Parser, b int) (api.Parser, api.Event) {
	switch {
	case digit(b):
		last := len(p.Params) - 1
		p.Params[last] = min(10*p.Params[last]+b-'0', api.MaxNumber)
		return p, api.Event{}
	case b == separator && len(p.Params) < api.MaxParams:
		p.Params = append(p.Params, 0)
		return p, api.Event{}
	case final(b):
		return api.Parser{}, api.Event{Kind: api.Csi, B: b, Params: p.Params}
	case b == escape:
		return api.Parser{At: api.Escaped}, api.Event{}
	}
	return api.Parser{}, api.Event{}
}

func inPicture(p api.Parser, b int) api.Parser {
	switch {
	case b == escape:
		p.At = api.Ending
	case b == cancel:
		return api.Parser{}
	case plain(b) && len(p.Payload) < api.MaxPayload:
		p.Payload += string(rune(b))
	case plain(b):
		p.Long = true
	}
	return p
}

func ending(p api.Parser, b int) (api.Parser, api.Event) {
	if b == backslash && !p.Long {
		return api.Parser{}, api.Event{Kind: api.Pic, Payload: p.Payload}
	}
	return api.Parser{}, api.Event{}
}

func plain(b int) bool {
	return b >= 32 && b <= 126
}

func control(b int) bool {
	return b == 8 || b == 9 || b == 10 || b == 13
}

func digit(b int) bool {
	return b >= '0' && b <= '9'
}

// final is whether a byte ends a command.
func final(b int) bool {
	return b >= 64 && b <= 126
}
