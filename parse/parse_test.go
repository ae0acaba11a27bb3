package parse

import (
	"math"
	"slices"
	"strings"
	"testing"

	"fenestra/api"
)

func sameParser(a, b api.Parser) bool {
	return a.At == b.At && slices.Equal(a.Params, b.Params) && a.Payload == b.Payload && a.Long == b.Long
}

func sameEvent(a, b api.Event) bool {
	return a.Kind == b.Kind && a.B == b.B && slices.Equal(a.Params, b.Params) && a.Payload == b.Payload
}

// check feeds s to p and holds what comes of it against what is wanted.
func check(t *testing.T, p api.Parser, s string, want api.Parser, told ...api.Event) {
	t.Helper()
	got, l, e := Feed(p, s)
	if e != api.OK || !sameParser(got, want) || !slices.EqualFunc(l, told, sameEvent) {
		t.Errorf("Feed(%+v, %q) = %+v, %+v, %d; wanted %+v, %+v, 0", p, s, got, l, e, want, told)
	}
}

func letter(b byte) api.Event { return api.Event{Kind: api.Print, B: int(b)} }

func csi(b byte, params ...int) api.Event {
	return api.Event{Kind: api.Csi, B: int(b), Params: params}
}

func pic(payload string) api.Event { return api.Event{Kind: api.Pic, Payload: payload} }

func goodParsers() []api.Parser {
	full := strings.Repeat("x", api.MaxPayload)
	return []api.Parser{
		{},
		{At: api.Ground, Params: []int{}},
		{At: api.Escaped},
		{At: api.Command, Params: []int{0}},
		{At: api.Command, Params: []int{api.MaxNumber}},
		{At: api.Command, Params: []int{0, api.MaxNumber, 1, 998}},
		{At: api.Picture},
		{At: api.Picture, Params: []int{}},
		{At: api.Picture, Payload: "ab-"},
		{At: api.Picture, Payload: full},
		{At: api.Picture, Payload: full, Long: true},
		{At: api.Picture, Payload: "ab", Long: true},
		{At: api.Picture, Payload: "\x00\x1b\xff"},
		{At: api.Ending},
		{At: api.Ending, Payload: "ab-"},
		{At: api.Ending, Payload: full},
		{At: api.Ending, Payload: full, Long: true},
		{At: api.Ending, Long: true},
	}
}

func badParsers() []api.Parser {
	over := strings.Repeat("x", api.MaxPayload+1)
	return []api.Parser{
		{At: -1},
		{At: 5},
		{At: math.MinInt},
		{At: math.MaxInt},
		{At: 5, Params: []int{1}, Payload: "x", Long: true},
		{At: api.Ground, Params: []int{0}},
		{At: api.Ground, Payload: "x"},
		{At: api.Ground, Long: true},
		{At: api.Escaped, Params: []int{0}},
		{At: api.Escaped, Payload: "x"},
		{At: api.Escaped, Long: true},
		{At: api.Command},
		{At: api.Command, Params: []int{}},
		{At: api.Command, Params: []int{0, 0, 0, 0, 0}},
		{At: api.Command, Params: []int{-1}},
		{At: api.Command, Params: []int{api.MaxNumber + 1}},
		{At: api.Command, Params: []int{0, 0, 0, -1}},
		{At: api.Command, Params: []int{1, api.MaxNumber + 1, 1}},
		{At: api.Command, Params: []int{math.MinInt}},
		{At: api.Command, Params: []int{math.MaxInt}},
		{At: api.Command, Params: []int{0}, Payload: "x"},
		{At: api.Command, Params: []int{0}, Long: true},
		{At: api.Picture, Params: []int{0}},
		{At: api.Picture, Payload: over},
		{At: api.Picture, Payload: over, Long: true},
		{At: api.Ending, Params: []int{0}},
		{At: api.Ending, Payload: over},
	}
}

// P1.1
func TestGood(t *testing.T) {
	for _, p := range goodParsers() {
		if !Good(p) {
			t.Errorf("%+v is good", p)
		}
	}
	for _, p := range badParsers() {
		if Good(p) {
			t.Errorf("%+v is not good", p)
		}
	}
}

// P1.2: with an error nothing is told, and the parser is as it was.
func TestFeedRefusesWhatIsNotGood(t *testing.T) {
	for _, p := range badParsers() {
		for _, s := range []string{"", "x", "\x1bc", "1m", "\x1b\\"} {
			got, l, e := Feed(p, s)
			if e != api.ErrRange || len(l) != 0 || !sameParser(got, p) {
				t.Errorf("Feed(%+v, %q) = %+v, %+v, %d", p, s, got, l, e)
			}
		}
	}
}

// P1.2
func TestFeedNothing(t *testing.T) {
	for _, p := range goodParsers() {
		check(t, p, "", p)
	}
}

// P1.2, the Ground: every byte.
func TestGround(t *testing.T) {
	for i := range 256 {
		b := byte(i)
		s := string([]byte{b})
		switch {
		case b == 27:
			check(t, api.Parser{}, s, api.Parser{At: api.Escaped})
		case b >= 32 && b <= 126:
			check(t, api.Parser{}, s, api.Parser{}, letter(b))
		case strings.Contains("\x08\x09\x0a\x0d", s):
			check(t, api.Parser{}, s, api.Parser{}, api.Event{Kind: api.Ctl, B: i})
		default:
			check(t, api.Parser{}, s, api.Parser{})
		}
	}
}

// P1.2, Escaped: every byte.
func TestEscaped(t *testing.T) {
	p := api.Parser{At: api.Escaped}
	for i := range 256 {
		s := string([]byte{byte(i)})
		switch i {
		case 27:
			check(t, p, s, api.Parser{At: api.Escaped})
		case '[':
			check(t, p, s, api.Parser{At: api.Command, Params: []int{0}})
		case 'P':
			check(t, p, s, api.Parser{At: api.Picture})
		case 'c':
			check(t, p, s, api.Parser{}, api.Event{Kind: api.Reset})
		default:
			check(t, p, s, api.Parser{})
		}
	}
}

// P1.2, Command: every byte, with room for a number more and without.
func TestCommand(t *testing.T) {
	for _, params := range [][]int{{7}, {1, 2, 7}, {1, 2, 3, 7}} {
		p := api.Parser{At: api.Command, Params: params}
		for i := range 256 {
			b := byte(i)
			s := string([]byte{b})
			switch {
			case b >= '0' && b <= '9':
				grown := slices.Clone(params)
				grown[len(grown)-1] = 70 + i - '0'
				check(t, p, s, api.Parser{At: api.Command, Params: grown})
			case b == ';' && len(params) < 4:
				more := append(slices.Clone(params), 0)
				check(t, p, s, api.Parser{At: api.Command, Params: more})
			case b >= 64 && b <= 126:
				check(t, p, s, api.Parser{}, csi(b, params...))
			case b == 27:
				check(t, p, s, api.Parser{At: api.Escaped})
			default:
				check(t, p, s, api.Parser{})
			}
		}
	}
}

// P1.2, Command: MaxNumber.
func TestNumberGrowsToItsBound(t *testing.T) {
	for s, want := range map[string]int{
		"":                        0,
		"0":                       0,
		"007":                     7,
		"99":                      99,
		"998":                     998,
		"999":                     999,
		"1000":                    999,
		"9990":                    999,
		strings.Repeat("9", 100):  999,
		"10000000000000000000000": 999,
	} {
		check(t, api.Parser{}, "\x1b["+s, api.Parser{At: api.Command, Params: []int{want}})
		check(t, api.Parser{}, "\x1b[5;"+s+"m", api.Parser{}, csi('m', 5, want))
	}
}

// P1.2, Command: MaxParams; the byte that is one too many leads to the Ground and is gone.
func TestParamsUpToTheirBound(t *testing.T) {
	check(t, api.Parser{}, "\x1b[;;;H", api.Parser{}, csi('H', 0, 0, 0, 0))
	check(t, api.Parser{}, "\x1b[1;22;333;4444H", api.Parser{}, csi('H', 1, 22, 333, 999))
	check(t, api.Parser{}, "\x1b[1;2;3;4;5H", api.Parser{}, letter('5'), letter('H'))
	check(t, api.Parser{}, "\x1b[;;;;", api.Parser{})
}

// P1.2, Command: what breaks off a command keeps nothing of it.
func TestCommandBrokenOff(t *testing.T) {
	check(t, api.Parser{}, "\x1b[1;2\x1b[3m", api.Parser{}, csi('m', 3))
	check(t, api.Parser{}, "\x1b[1\x18m", api.Parser{}, letter('m'))
	check(t, api.Parser{}, "\x1b[1\nm", api.Parser{}, letter('m'))
	check(t, api.Parser{}, "\x1b[?25h", api.Parser{}, letter('2'), letter('5'), letter('h'))
	check(t, api.Parser{}, "\x1b[\x1bc", api.Parser{}, api.Event{Kind: api.Reset})
}

// P1.2, Picture: every byte, with room in Payload and without.
func TestPicture(t *testing.T) {
	full := strings.Repeat("z", api.MaxPayload)
	for _, payload := range []string{"", "ab", full[1:], full} {
		for _, long := range []bool{false, true} {
			p := api.Parser{At: api.Picture, Payload: payload, Long: long}
			for i := range 256 {
				s := string([]byte{byte(i)})
				want := p
				switch {
				case i == 27:
					want.At = api.Ending
				case i == 24:
					want = api.Parser{}
				case i >= 32 && i <= 126 && len(payload) < 48:
					want.Payload += s
				case i >= 32 && i <= 126:
					want.Long = true
				}
				check(t, p, s, want)
			}
		}
	}
}

// P1.2, Ending: every byte; 27 is no way back to Escaped.
func TestEnding(t *testing.T) {
	for _, payload := range []string{"", "ab-", "\x00\xff"} {
		p := api.Parser{At: api.Ending, Payload: payload}
		long := api.Parser{At: api.Ending, Payload: payload, Long: true}
		for i := range 256 {
			s := string([]byte{byte(i)})
			check(t, long, s, api.Parser{})
			if i == 92 {
				check(t, p, s, api.Parser{}, pic(payload))
			} else {
				check(t, p, s, api.Parser{})
			}
		}
	}
}

// P1.2, Picture and Ending: MaxPayload.
func TestPictureUpToItsBound(t *testing.T) {
	full := strings.Repeat("ab-", 16)
	if len(full) != api.MaxPayload {
		t.Fatal(len(full))
	}
	check(t, api.Parser{}, "\x1bP"+full+"\x1b\\", api.Parser{}, pic(full))
	check(t, api.Parser{}, "\x1bP"+full+"\x01\x80\n\x1b\\", api.Parser{}, pic(full))
	check(t, api.Parser{}, "\x1bP"+full+"c", api.Parser{At: api.Picture, Payload: full, Long: true})
	check(t, api.Parser{}, "\x1bP"+full+"cd\x1b", api.Parser{At: api.Ending, Payload: full, Long: true})
	check(t, api.Parser{}, "\x1bP"+full+"c\x1b\\", api.Parser{})
	check(t, api.Parser{}, "\x1bP"+full+"c\x1b\\\x1bPa\x1b\\", api.Parser{}, pic("a"))
	check(t, api.Parser{}, "\x1bP"+full+"c\x18\x1bPa\x1b\\", api.Parser{}, pic("a"))
}

// P1.2: the places one behind the other.
func TestFeedOrdinary(t *testing.T) {
	check(t, api.Parser{}, "Hi\r\n\x1b[1;31m!\x1b[m\t\x08", api.Parser{},
		letter('H'), letter('i'), api.Event{Kind: api.Ctl, B: 13}, api.Event{Kind: api.Ctl, B: 10},
		csi('m', 1, 31), letter('!'), csi('m', 0), api.Event{Kind: api.Ctl, B: 9}, api.Event{Kind: api.Ctl, B: 8})
	check(t, api.Parser{}, "\x1b\x1b\x1bPab-[c;\x1b\\c", api.Parser{}, pic("ab-[c;"), letter('c'))
	check(t, api.Parser{}, "\x1bP\x1b\\", api.Parser{}, pic(""))
	check(t, api.Parser{}, "\x1bPab\x1b\x1b\\", api.Parser{}, letter('\\'))
	check(t, api.Parser{}, "\x1bPab\x1bcx", api.Parser{}, letter('x'))
	check(t, api.Parser{}, "\x1bxy\x1b]z", api.Parser{}, letter('y'), letter('z'))
	check(t, api.Parser{}, "\u00e9\xffq\x7f", api.Parser{}, letter('q'))
}

// A list that is handed in is not changed, its spare room neither, and no answer hangs on it.
func TestFeedLeavesTheListsAlone(t *testing.T) {
	for _, s := range []string{"", "7", ";8", "1;2;3m", "m", "\x1b", "\x18"} {
		room := []int{1, 2, -7, -7, -7, -7}
		p := api.Parser{At: api.Command, Params: room[:2]}
		after, told, _ := Feed(p, s)
		if !slices.Equal(room, []int{1, 2, -7, -7, -7, -7}) {
			t.Errorf("%q: %v", s, room)
		}
		wantAfter, wantTold := slices.Clone(after.Params), []int(nil)
		if len(told) > 0 {
			wantTold = slices.Clone(told[0].Params)
		}
		room[0], room[1] = 500, 600
		if !slices.Equal(after.Params, wantAfter) || len(told) > 0 && !slices.Equal(told[0].Params, wantTold) {
			t.Errorf("%q: an answer shares the list that was handed in", s)
		}
	}
	bad := api.Parser{At: api.Ground, Params: []int{1}}
	after, _, _ := Feed(bad, "x")
	bad.Params[0] = 2
	if after.Params[0] != 1 {
		t.Error("the parser that is refused shares the list that was handed in")
	}
}

// No two lists of one answer share memory, neither does what is fed on from one parser twice.
func TestFeedAnswersListsOfTheirOwn(t *testing.T) {
	p, told, _ := Feed(api.Parser{}, "\x1b[1;2m\x1b[3;4m\x1b[5;6")
	lists := [][]int{told[0].Params, told[1].Params, p.Params}
	for i, l := range lists {
		whole := l[:cap(l)]
		for k := range whole {
			whole[k] = -1 - i
		}
	}
	for i, l := range lists {
		for _, n := range l {
			if n != -1-i {
				t.Errorf("list %d has a number of another: %v", i, l)
			}
		}
	}
	p, _, _ = Feed(api.Parser{}, "\x1b[5")
	one, _, _ := Feed(p, ";1")
	two, _, _ := Feed(p, ";2")
	if !slices.Equal(one.Params, []int{5, 1}) || !slices.Equal(two.Params, []int{5, 2}) {
		t.Errorf("%v, %v", one.Params, two.Params)
	}
}

// splits holds Feed of a text against Feed of its two parts, cut wherever it may be.
func splits(t *testing.T, p api.Parser, s string) {
	t.Helper()
	whole, told, e := Feed(p, s)
	if e != api.OK || !Good(whole) {
		t.Fatalf("Feed(%+v, %q) = %+v, %d", p, s, whole, e)
	}
	for i := range len(s) + 1 {
		half, first, _ := Feed(p, s[:i])
		all, second, _ := Feed(half, s[i:])
		if !Good(half) || !sameParser(all, whole) || !slices.EqualFunc(append(first, second...), told, sameEvent) {
			t.Errorf("Feed(%+v, %q), cut at %d: %+v, then %+v; wanted %+v", p, s, i, half, all, whole)
		}
	}
}

// P1.2: byte by byte, so it is all the same in how many pieces they come.
func TestFeedInPieces(t *testing.T) {
	long := strings.Repeat("a", api.MaxPayload+2)
	texts := []string{
		"a\r\x1b[2;30mb\x1b[J\x1b[;;;;H\x1b[1\x18c\x1b\x1bc\x1bPab-\x01c\x1b\\\x1bPx\x18\x1bPx\x1bq\x07z\x1b[9999",
		"\x1bP" + long + "\x1b\\" + "\x1bPq\x1b\\",
		"12;34;56;78m" + "\x1b\\" + long,
	}
	for _, p := range goodParsers() {
		for _, s := range texts {
			splits(t, p, s)
		}
	}
}

func FuzzFeed(f *testing.F) {
	f.Add("a\x1b[1;2m\x1bPab-\x1b\\\x1bc")
	f.Add("\x1b[999999;;;;\x18\x1b[\x1b\x1bP\x1b\x1b\\")
	f.Fuzz(func(t *testing.T, s string) {
		if len(s) > 300 {
			s = s[:300]
		}
		for _, p := range goodParsers() {
			splits(t, p, s)
		}
	})
}
