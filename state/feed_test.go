package state_test

import (
	"bytes"
	"math/rand"
	"slices"
	"strings"
	"testing"

	"fenestra/api"
	"fenestra/state"
)

// piece is bytes that start and end in Ground, and their events.
type piece struct {
	text   string
	events []api.Event
}

// pieces are of all kinds.
func pieces() []piece {
	return []piece{
		{"hi", printed('h', 'i')},
		{" ~", printed(' ', '~')},
		{"\x00\x07\x08\t\n\v\f\r\x0E\x0F\x1F", []api.Event{control(0), control(7), control(8), control(9), control(10), control(11), control(12), control(13), control(14), control(15), control(31)}},
		{"\x7F", nil},
		{"é€😀", printed(0xE9, 0x20AC, 0x1F600)},
		{"\xC2\x85", nil},
		{"\xFFx", printed(0xFFFD, 'x')},
		{"\x1Bc", []api.Event{esc("", 'c')}},
		{"\x1B7\x1B8", []api.Event{esc("", '7'), esc("", '8')}},
		{"\x1B\\", []api.Event{esc("", '\\')}},
		{"\x1B\x1B\x1B=", []api.Event{esc("", '=')}},
		{"\x1B\nD", []api.Event{control(10), esc("", 'D')}},
		{"\x1B(0", []api.Event{esc("(", '0')}},
		{"\x1B#\x7F8", []api.Event{esc("#", '8')}},
		{"\x1B %G", []api.Event{esc(" %", 'G')}},
		{"\x1B !\"#G", nil},
		{"\x1B[m", []api.Event{csi(0, nil, "", 'm')}},
		{"\x1B[1;2H", []api.Event{csi(0, []api.Param{one(1), one(2)}, "", 'H')}},
		{"\x1B[;5r", []api.Event{csi(0, []api.Param{one(-1), one(5)}, "", 'r')}},
		{"\x1B[38:2::9:8:7;1m", []api.Event{csi(0, []api.Param{one(38, 2, -1, 9, 8, 7), one(1)}, "", 'm')}},
		{"\x1B[99999A", []api.Event{csi(0, []api.Param{one(9999)}, "", 'A')}},
		{"\x1B[?25h\x1B[?1049;7l", []api.Event{csi('?', []api.Param{one(25)}, "", 'h'), csi('?', []api.Param{one(1049), one(7)}, "", 'l')}},
		{"\x1B[>c", []api.Event{csi('>', nil, "", 'c')}},
		{"\x1B[4 q", []api.Event{csi(0, []api.Param{one(4)}, " ", 'q')}},
		{"\x1B[!p", []api.Event{csi(0, nil, "!", 'p')}},
		{"\x1B[?6$p", []api.Event{csi('?', []api.Param{one(6)}, "$", 'p')}},
		{"\x1B[=1 !~", []api.Event{csi('=', []api.Param{one(1)}, " !", '~')}},
		{"\x1B[1\r;\n2\t@", []api.Event{control(13), control(10), control(9), csi(0, []api.Param{one(1), one(2)}, "", '@')}},
		{"\x1B[1;2\x18", nil},
		{"\x1B[?1\x1Ax", printed('x')},
		{"\x1B[1\x1B[2J", []api.Event{csi(0, []api.Param{one(2)}, "", 'J')}},
		{"\x1B[1\xC3\xA9", printed(0xE9)},
		{"\x1B[1?2m", nil},
		{"\x1B]0;title\x07", []api.Event{osc("0;title")}},
		{"\x1B]2;é\x0A\x7F\x1B\\", []api.Event{osc("2;é")}},
		{"\x1B]\x07\x1B]\x1B\\", []api.Event{osc(""), osc("")}},
		{"\x1B]52;c;aGk=\x18", nil},
		{"\x1B]a\x1B[m", []api.Event{csi(0, nil, "", 'm')}},
		{"\x1B]a\x1B\x07\\", []api.Event{control(7), esc("", '\\')}},
		{"\x1B]" + strings.Repeat("é", 256) + "\x07", []api.Event{osc(strings.Repeat("é", 256))}},
		{"\x1B]" + strings.Repeat("é", 256) + " \x07", nil},
		{"\x1BPq\x1B\\", []api.Event{dcs(0, nil, "", 'q', "")}},
		{"\x1BP1$qm\x1B\\", []api.Event{dcs(0, []api.Param{one(1)}, "$", 'q', "m")}},
		{"\x1BP>0;1|a\x07\nb\x7F\xFF\x1B\\", []api.Event{dcs('>', []api.Param{one(0), one(1)}, "", '|', "ab\xFF")}},
		{"\x1BP\r1\n$\t@\x1B\\", []api.Event{dcs(0, []api.Param{one(1)}, "$", '@', "")}},
		{"\x1BP+qabc\x1BM", []api.Event{esc("", 'M')}},
		{"\x1BP1\x9C", printed(0xFFFD)},
		{"\x1BX\x07ab\xC3\n\x1B\\", nil},
		{"\x1B^secret\x1B7", []api.Event{esc("", '7')}},
		{"\x1B_Gq;\x1B\\\x1B_\x1A", nil},
	}
}

// join returns n random pieces one after the other.
func join(r *rand.Rand, n int) (s []byte, events []api.Event) {
	all := pieces()
	for range n {
		x := all[r.Intn(len(all))]
		s = append(s, x.text...)
		events = append(events, x.events...)
	}
	return s, events
}

func TestFeedPieces(t *testing.T) { // P6.3, each kind of text and sequence
	for _, x := range pieces() {
		expectFeed(t, api.Parse{}, x.text, api.Parse{}, x.events...)
	}
	for _, x := range pieces() {
		for _, y := range pieces() {
			expectFeed(t, api.Parse{}, x.text+y.text, api.Parse{}, append(slices.Clone(x.events), y.events...)...)
		}
	}
}

func TestFeedSplit(t *testing.T) { // P6.4, bytes in any pieces
	r := rand.New(rand.NewSource(64))
	for range 3000 {
		s, want := join(r, 1+r.Intn(12))
		p, l := api.Parse{}, []api.Event(nil)
		most := 1 + r.Intn(20)
		for rest := s; len(rest) > 0; {
			n := min(r.Intn(most+1), len(rest))
			q, more, e := state.Feed(p, rest[:n])
			if e != api.OK {
				t.Fatalf("Feed(%+v, %q) = %d", p, rest[:n], e)
			}
			p, l, rest = q, append(l, more...), rest[n:]
		}
		if !equalEvents(l, want) || !equal(p, api.Parse{}) {
			t.Fatalf("in pieces, %q = %+v, %+v, not %+v", s, p, l, want)
		}
		expectFeed(t, api.Parse{}, string(s), api.Parse{}, want...)
	}
}

func TestFeedSplitTwo(t *testing.T) { // P6.4, each piece split in each place
	for _, x := range pieces() {
		for at := range len(x.text) + 1 {
			p, l, e := state.Feed(api.Parse{}, []byte(x.text[:at]))
			q, more, f := state.Feed(p, []byte(x.text[at:]))
			if !equalEvents(append(l, more...), x.events) || !equal(q, api.Parse{}) || e != api.OK || f != api.OK {
				t.Errorf("Feed(%q) and Feed(%q) = %+v, %+v, %+v", x.text[:at], x.text[at:], q, l, more)
			}
		}
	}
}

// noise returns n bytes, most of which mean something in some state.
func noise(r *rand.Rand, n int) []byte {
	const special = "\x1B\x1B\x1B\x1B[[]PPX^_\\\x07\x18\x1A\n\x7F0123456789::;;;;<=>?  !#$(/@mq~hA\xC3\xA9\xE2\x82\xAC\xF0\x9F\x98\x80\xED\xA0\xC0\xFF"
	s := make([]byte, n)
	for i := range s {
		if s[i] = special[r.Intn(len(special))]; r.Intn(10) == 0 {
			s[i] = byte(r.Intn(256))
		}
	}
	return s
}

func TestFeedModel(t *testing.T) { // P6.3 and P6.4, random bytes from every kind of parse on, at once and step by step
	r := rand.New(rand.NewSource(63))
	valid := someValid()
	for i := range 20000 {
		p := valid[i%len(valid)]
		s := noise(r, r.Intn(80))
		m := modelOf(p)
		q, l := p, []api.Event(nil)
		for _, b := range s {
			m.take(b)
			next, more, e := state.Step(q, b)
			if e != api.OK || state.Check(next) != api.OK {
				t.Fatalf("Step(%+v, %#x) = %+v, %d", q, b, next, e)
			}
			q, l = next, append(l, more...)
		}
		if !equal(q, m.parse()) || !equalEvents(l, m.events) {
			t.Fatalf("steps from %+v through %q = %+v, %+v, not %+v, %+v", p, s, q, l, m.parse(), m.events)
		}
		expectFeed(t, p, string(s), m.parse(), m.events...)
	}
}

func TestFeedLong(t *testing.T) { // P6.3, MaxBatch bytes and one more, and which error comes first
	for _, c := range []string{"a", "\x1B", "\xC3", "\x00", "\xE2\x82\xAC\x1B]t\x07"} {
		s := strings.Repeat(c, 4096)[:4096]
		for _, p := range []api.Parse{{}, {Utf: []byte{0xC3}}, {State: state.Params, Params: full()}, {State: state.Osc, Text: "t"}, {State: state.Dcs, Bad: true}} {
			m := modelOf(p)
			for i := range len(s) {
				m.take(s[i])
			}
			expectFeed(t, p, s, m.parse(), m.events...)
			for _, n := range []int{4097, 4098, 8192, 1 << 20} {
				long := bytes.Repeat([]byte(c), n)[:n]
				if q, l, e := state.Feed(p, long); !equal(q, api.Parse{}) || len(l) != 0 || e != api.ErrLong {
					t.Errorf("Feed(%+v, %d bytes) = %+v, %d events, %d", p, n, q, len(l), e)
				}
			}
		}
	}
	for i, p := range someWrong() {
		for _, n := range []int{0, 1, 4096, 4097} {
			if i%50 != 0 && n > 1 {
				continue
			}
			if q, l, e := state.Feed(p, make([]byte, n)); !equal(q, api.Parse{}) || len(l) != 0 || e != api.ErrParse {
				t.Fatalf("Feed(%+v, %d bytes) = %+v, %+v, %d", p, n, q, l, e)
			}
		}
	}
}

func TestFeedNothing(t *testing.T) { // P6.3 and R4, no bytes
	for _, p := range someValid() {
		for _, b := range [][]byte{nil, {}, make([]byte, 0, 9)} {
			if q, l, e := state.Feed(p, b); !equal(q, p) || len(l) != 0 || e != api.OK {
				t.Errorf("Feed(%+v, none) = %+v, %+v, %d", p, q, l, e)
			}
		}
	}
}

func TestInitial(t *testing.T) { // P6.4, an escape sequence and CAN lead to the initial state from everywhere
	for _, p := range someValid() {
		for b := 0x30; b <= 0x7E; b++ {
			if strings.IndexByte("[]PX^_", byte(b)) >= 0 {
				continue
			}
			q, l, e := state.Feed(p, []byte{0x1B, byte(b)})
			if !equal(q, api.Parse{}) || !state.Same(q, api.Parse{}) || e != api.OK {
				t.Errorf("Feed(%+v, ESC %c) = %+v, %+v, %d", p, b, q, l, e)
			}
			if isAny(p, state.Osc, state.Dcs, state.Away) && b == '\\' {
				continue
			}
			if len(l) == 0 || !equalEvents(l[len(l)-1:], []api.Event{esc("", byte(b))}) {
				t.Errorf("Feed(%+v, ESC %c) = %+v", p, b, l)
			}
		}
		for _, s := range []string{"\x18", "\x1B\x18", "\x1B(0", "\x1B !G"} {
			if q, _, e := state.Feed(p, []byte(s)); !equal(q, api.Parse{}) || e != api.OK {
				t.Errorf("Feed(%+v, %q) = %+v, %d", p, s, q, e)
			}
		}
	}
	r := rand.New(rand.NewSource(640))
	for range 3000 {
		before := noise(r, r.Intn(50))
		s, want := join(r, 3)
		for _, end := range []string{"\x18", "\x1Bc"} {
			_, l, _ := state.Feed(api.Parse{}, append(append(slices.Clone(before), end...), s...))
			if len(l) < len(want) || !equalEvents(l[len(l)-len(want):], want) {
				t.Fatalf("after %q and %q, %q = %+v", before, end, s, l)
			}
		}
	}
}

func TestExamples(t *testing.T) { // the chapter's table
	for s, want := range map[string][]api.Event{
		"a\x07\xC3\xA9":              {printed('a')[0], control(7), printed(0xE9)[0]},
		"\x1B[1;2H":                  {csi(0, []api.Param{one(1), one(2)}, "", 'H')},
		"\x1B[?25h":                  {csi('?', []api.Param{one(25)}, "", 'h')},
		"\x1B(0":                     {esc("(", '0')},
		"\x1B7":                      {esc("", '7')},
		"\x1B#8":                     {esc("#", '8')},
		"\x1B]0;t\x07":               {osc("0;t")},
		"\x1B]2;u\x1B\\":             {osc("2;u")},
		"\x1B[1\rm":                  {control(13), csi(0, []api.Param{one(1)}, "", 'm')},
		"\x1B[1\x18m":                printed('m'),
		"\x1B[<1?mx":                 printed('x'),
		"\x1B[1\x18m\x1B[<1?mx":      printed('m', 'x'),
		"\x1BP1$qm\x1B\\":            {dcs(0, []api.Param{one(1)}, "$", 'q', "m")},
		"\xE2\x82\x1Bc":              {printed(0xFFFD)[0], esc("", 'c')},
		"\x1B(0\x1B7\x1B#8":          {esc("(", '0'), esc("", '7'), esc("#", '8')},
		"\x1B]0;t\x07\x1B]2;u\x1B\\": {osc("0;t"), osc("2;u")},
	} {
		expectFeed(t, api.Parse{}, s, api.Parse{}, want...)
	}
}
