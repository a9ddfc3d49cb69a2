package state_test

import (
	"slices"
	"strings"
	"testing"

	"fenestra/api"
	"fenestra/param"
	"fenestra/state"
	"fenestra/utf"
)

// span returns the bytes from low to high.
func span(low, high int) (l []byte) {
	for b := low; b <= high; b++ {
		l = append(l, byte(b))
	}
	return l
}

// isAny reports whether p has one of the states.
func isAny(p api.Parse, states ...int) bool { return slices.Contains(states, p.State) }

// controls returns the bytes below 20 that are neither CAN nor SUB nor ESC.
func controls() []byte {
	return slices.DeleteFunc(span(0, 0x1F), func(b byte) bool { return b == 0x18 || b == 0x1A || b == 0x1B })
}

func TestStepModel(t *testing.T) { // P6.2, every byte in every state with each of its fields at its limits
	for _, p := range someValid() {
		for b := range 256 {
			m := modelOf(p)
			m.take(byte(b))
			got, l, e := state.Step(p, byte(b))
			if !equal(got, m.parse()) || !equalEvents(l, m.events) || e != api.OK {
				t.Fatalf("Step(%+v, %#x) = %+v, %+v, %d, not %+v, %+v", p, b, got, l, e, m.parse(), m.events)
			}
			if state.Check(got) != api.OK {
				t.Fatalf("Step(%+v, %#x) = %+v, which is not valid", p, b, got)
			}
		}
	}
}

func TestStepWrong(t *testing.T) { // P6.2, Check's error, and nothing else
	for i, p := range someWrong() {
		for _, b := range []byte{'a', 0x07, 0x18, 0x1B, '\\', '1', 0x7F, 0x80, byte(i)} {
			got, l, e := state.Step(p, b)
			if !equal(got, api.Parse{}) || len(l) != 0 || e != api.ErrParse {
				t.Fatalf("Step(%+v, %#x) = %+v, %+v, %d", p, b, got, l, e)
			}
		}
	}
}

func TestUtf(t *testing.T) { // rule 1, sequences at the ends of each length, and wrong and broken off ones
	const no = 0xFFFD
	for s, want := range map[string][]api.Event{
		"\xC2\xA0":                 printed(0xA0),
		"\xDF\xBF":                 printed(0x7FF),
		"\xE0\xA0\x80":             printed(0x800),
		"\xED\x9F\xBF":             printed(0xD7FF),
		"\xEE\x80\x80":             printed(0xE000),
		"\xEF\xBF\xBF":             printed(0xFFFF),
		"\xF0\x90\x80\x80":         printed(0x10000),
		"\xF4\x8F\xBF\xBF":         printed(0x10FFFF),
		"\xC2\x80":                 nil,
		"\xC2\x9B":                 nil,
		"\xC2\x9F":                 nil,
		"\xC2\x9B1m":               printed('1', 'm'),
		"\x80":                     printed(no),
		"\x9B":                     printed(no),
		"\xBF":                     printed(no),
		"\xC0":                     printed(no),
		"\xC1\xBF":                 printed(no, no),
		"\xF5":                     printed(no),
		"\xFF":                     printed(no),
		"\xE0\x9F\x80":             printed(no, no, no),
		"\xED\xA0\x80":             printed(no, no, no),
		"\xF0\x8F\xBF":             printed(no, no, no),
		"\xF4\x90":                 printed(no, no),
		"\xC3A":                    printed(no, 'A'),
		"\xC3 ":                    printed(no, ' '),
		"\xC3~":                    printed(no, '~'),
		"\xC3\x7F":                 printed(no),
		"\xC3\x7Fa":                printed(no, 'a'),
		"\xC3\x00":                 append(printed(no), control(0)),
		"\xC3\x1F":                 append(printed(no), control(0x1F)),
		"\xC3\n\xA9":               append(append(printed(no), control(10)), printed(no)...),
		"\xC3\x18\xA9":             printed(no, no),
		"\xC3\x1A\xA9":             printed(no, no),
		"\xC3\xFF":                 printed(no, no),
		"\xC3\xC3\xA9":             printed(no, 0xE9),
		"\xE2\x82\xE2\x82\xAC":     printed(no, 0x20AC),
		"\xF0\x9F\x98\xF0":         printed(no),
		"\xF0\x9F\x98\xC2\x80":     printed(no),
		"\xF0\x9F\x98\xC2\xA0":     printed(no, 0xA0),
		"\xF0\x9F\x98\x1B[m":       append(printed(no), csi(0, nil, "", 'm')),
		"\xE2\x82\x1Bc":            append(printed(no), esc("", 'c')),
		"\xE2\x82\x1B]a\x07\x82":   append(append(printed(no), osc("a")), printed(no)...),
		"a\xC3\xA9b\xE2\x82\xACc":  printed('a', 0xE9, 'b', 0x20AC, 'c'),
		"\xF0\x9F\x98\x80\xCC\x81": printed(0x1F600, 0x301),
	} {
		_, l, e := state.Feed(api.Parse{}, []byte(s))
		if !equalEvents(l, want) || e != api.OK {
			t.Errorf("Feed(%q) = %+v, %d, not %+v", s, l, e, want)
		}
	}
}

func TestUtfPending(t *testing.T) { // rule 1, the rest becomes Utf, and a byte that ends it determines the parse
	for _, s := range prefixes {
		pending := api.Parse{Utf: []byte(s)}
		for at := range len(s) {
			p, l, e := state.Step(api.Parse{Utf: []byte(s[:at])}, s[at])
			if !equal(p, api.Parse{Utf: []byte(s[:at+1])}) || len(l) != 0 || e != api.OK {
				t.Errorf("Step with %q pending, and %#x = %+v, %+v, %d", s[:at], s[at], p, l, e)
			}
		}
		for _, b := range span(0x20, 0x7E) {
			expectStep(t, pending, b, api.Parse{}, printed(0xFFFD, int(b))...)
		}
		for _, b := range controls() {
			expectStep(t, pending, b, api.Parse{}, append(printed(0xFFFD), control(int(b)))...)
		}
		for _, b := range []byte{0x18, 0x1A, 0x7F, 0xC0, 0xF5, 0xFF} {
			want := printed(0xFFFD)
			if b >= 0x80 {
				want = printed(0xFFFD, 0xFFFD)
			}
			expectStep(t, pending, b, api.Parse{}, want...)
		}
		expectStep(t, pending, 0x1B, api.Parse{State: state.Escape}, printed(0xFFFD)...)
		for _, b := range span(0xC2, 0xF4) {
			expectStep(t, pending, b, api.Parse{Utf: []byte{b}}, printed(0xFFFD)...)
		}
	}
}

func TestUtfAll(t *testing.T) { // rule 1, every code point
	for cp := range 0x110000 {
		if !utf.Check(cp) || cp < 0x20 {
			continue
		}
		want := printed(cp)
		if cp >= 0x7F && cp <= 0x9F {
			want = nil
		}
		p, l, e := state.Feed(api.Parse{}, []byte(string(rune(cp))))
		if !equal(p, api.Parse{}) || !equalEvents(l, want) || e != api.OK {
			t.Fatalf("Feed of the code point %#x = %+v, %+v, %d", cp, p, l, e)
		}
	}
}

func TestCancel(t *testing.T) { // rule 2, in every state
	for _, p := range someValid() {
		var want []api.Event
		if len(p.Utf) > 0 {
			want = printed(0xFFFD)
		}
		expectStep(t, p, 0x18, api.Parse{}, want...)
		expectStep(t, p, 0x1A, api.Parse{}, want...)
	}
}

func TestEsc(t *testing.T) { // rule 3, in every state
	for _, p := range someValid() {
		want := api.Parse{State: state.Escape}
		switch p.State {
		case state.Osc:
			want = p
			want.State = state.OscEsc
		case state.Dcs:
			want = p
			want.State = state.DcsEsc
		case state.Away:
			want.State = state.AwayEsc
		}
		var events []api.Event
		if len(p.Utf) > 0 {
			events = printed(0xFFFD)
		}
		expectStep(t, p, 0x1B, want, events...)
	}
}

func TestStringEnd(t *testing.T) { // rule 4, a backslash, and every other byte as in Escape
	for _, p := range someValid() {
		if !isAny(p, state.OscEsc, state.DcsEsc, state.AwayEsc) {
			continue
		}
		var events []api.Event
		switch {
		case p.Bad || p.State == state.AwayEsc:
		case p.State == state.OscEsc:
			events = []api.Event{osc(p.Text)}
		default:
			events = []api.Event{dcs(p.Private, p.Params, p.Inter, p.Final, p.Text)}
		}
		expectStep(t, p, '\\', api.Parse{}, events...)
		for b := range 256 {
			if b != '\\' {
				want, l, e := state.Step(api.Parse{State: state.Escape}, byte(b))
				if e != api.OK {
					t.Fatalf("Step in Escape = %d", e)
				}
				expectStep(t, p, byte(b), want, l...)
			}
		}
		escape := api.Parse{State: state.Escape}
		expectStep(t, p, 0x07, escape, control(7))
		expectStep(t, p, 0x1F, escape, control(0x1F))
		expectStep(t, p, 0x7F, escape)
		expectStep(t, p, 0x1B, escape)
		expectStep(t, p, 'c', api.Parse{}, esc("", 'c'))
		expectStep(t, p, ']', api.Parse{State: state.Osc})
		expectStep(t, p, '(', api.Parse{State: state.Signs, Inter: "("})
		expectStep(t, p, 0xC3, api.Parse{Utf: []byte{0xC3}})
		expectStep(t, p, 0x80, api.Parse{}, printed(0xFFFD)...)
	}
}

func TestStringText(t *testing.T) { // rule 5, every byte, with room for it and without
	for _, p := range someValid() {
		if !isAny(p, state.Osc, state.Dcs, state.Away) {
			continue
		}
		for _, b := range append(append(span(0x20, 0x7E), span(0x80, 0xFF)...), append(controls(), 0x7F)...) {
			want, events := p, []api.Event(nil)
			switch {
			case b == 0x07 && p.State == state.Osc:
				want = api.Parse{}
				if !p.Bad {
					events = []api.Event{osc(p.Text)}
				}
			case b < 0x20 || b == 0x7F || p.State == state.Away || p.Bad:
			case len(p.Text) == 512:
				want = api.Parse{State: p.State, Bad: true}
			default:
				want.Text += string([]byte{b})
			}
			expectStep(t, p, b, want, events...)
		}
	}
}

func TestHigh(t *testing.T) { // rule 6, a byte of at least 80 within a sequence is the first of a text
	for _, p := range someValid() {
		if isAny(p, state.Ground, state.Osc, state.Dcs, state.Away) {
			continue
		}
		for _, b := range span(0x80, 0xFF) {
			if in(b, 0xC2, 0xF4) {
				expectStep(t, p, b, api.Parse{Utf: []byte{b}})
			} else {
				expectStep(t, p, b, api.Parse{}, printed(0xFFFD)...)
			}
		}
	}
}

func TestControls(t *testing.T) { // rule 7, which states report controls, and DEL in every state
	for _, p := range someValid() {
		if isAny(p, state.OscEsc, state.DcsEsc, state.AwayEsc) || len(p.Utf) > 0 {
			continue
		}
		for _, b := range controls() {
			switch {
			case p.State <= state.Inters:
				expectStep(t, p, b, p, control(int(b)))
			case p.State != state.Osc || b != 0x07:
				expectStep(t, p, b, p)
			}
		}
		expectStep(t, p, 0x7F, p)
	}
}

func TestGround(t *testing.T) { // rule 8 in Ground
	for _, b := range span(0x20, 0x7E) {
		expectStep(t, api.Parse{}, b, api.Parse{}, printed(int(b))...)
	}
}

func TestEscape(t *testing.T) { // rule 8 in Escape
	p := api.Parse{State: state.Escape}
	for _, b := range span(0x20, 0x2F) {
		expectStep(t, p, b, api.Parse{State: state.Signs, Inter: string(rune(b))})
	}
	enters := map[byte]int{'[': state.Entry, ']': state.Osc, 'P': state.DcsEntry, 'X': state.Away, '^': state.Away, '_': state.Away}
	for _, b := range span(0x30, 0x7E) {
		if n, ok := enters[b]; ok {
			expectStep(t, p, b, api.Parse{State: n})
		} else {
			expectStep(t, p, b, api.Parse{}, esc("", b))
		}
	}
}

func TestSigns(t *testing.T) { // rule 8 in Signs, MaxInter characters and one more
	for _, b := range span(0x20, 0x2F) {
		expectStep(t, api.Parse{State: state.Signs, Inter: "#"}, b, api.Parse{State: state.Signs, Inter: "#" + string(rune(b))})
		expectStep(t, api.Parse{State: state.Signs, Inter: "#("}, b, api.Parse{State: state.Signs, Bad: true})
		expectStep(t, api.Parse{State: state.Signs, Bad: true}, b, api.Parse{State: state.Signs, Bad: true})
	}
	for _, b := range span(0x30, 0x7E) {
		expectStep(t, api.Parse{State: state.Signs, Inter: "#"}, b, api.Parse{}, esc("#", b))
		expectStep(t, api.Parse{State: state.Signs, Inter: "#("}, b, api.Parse{}, esc("#(", b))
		expectStep(t, api.Parse{State: state.Signs, Bad: true}, b, api.Parse{})
	}
}

// family is the states of a CSI or DCS sequence.
type family struct{ entry, params, inters int }

var families = []family{{state.Entry, state.Params, state.Inters}, {state.DcsEntry, state.DcsParams, state.DcsInters}}

// last expects a final byte to do what it does after p.
func last(t *testing.T, p api.Parse, b byte) {
	t.Helper()
	switch {
	case p.State >= state.DcsEntry && p.Bad:
		expectStep(t, p, b, api.Parse{State: state.Dcs, Bad: true})
	case p.State >= state.DcsEntry:
		expectStep(t, p, b, api.Parse{State: state.Dcs, Private: p.Private, Params: p.Params, Inter: p.Inter, Final: b})
	case p.Bad:
		expectStep(t, p, b, api.Parse{})
	default:
		expectStep(t, p, b, api.Parse{}, csi(p.Private, p.Params, p.Inter, b))
	}
}

func TestEntry(t *testing.T) { // rule 8 in Entry and DcsEntry
	for _, f := range families {
		p := api.Parse{State: f.entry}
		for _, b := range span(0x20, 0x2F) {
			expectStep(t, p, b, api.Parse{State: f.inters, Inter: string(rune(b))})
		}
		for d := range 10 {
			expectStep(t, p, '0'+byte(d), api.Parse{State: f.params, Params: []api.Param{one(d)}})
		}
		expectStep(t, p, ':', api.Parse{State: f.params, Params: []api.Param{one(-1, -1)}})
		expectStep(t, p, ';', api.Parse{State: f.params, Params: []api.Param{one(-1), one(-1)}})
		for _, b := range span(0x3C, 0x3F) {
			expectStep(t, p, b, api.Parse{State: f.params, Private: b})
		}
		for _, b := range span(0x40, 0x7E) {
			last(t, p, b)
		}
	}
}

func TestParams(t *testing.T) { // rule 8 in Params and DcsParams, with room for more parameters and without
	for _, f := range families {
		for _, l := range append(lists(), nil) {
			for _, private := range append(privates, 0) {
				p := api.Parse{State: f.params, Private: private, Params: l}
				if private == 0 && l == nil {
					p = api.Parse{State: f.params, Bad: true}
				}
				expectParams(t, f, p)
			}
		}
	}
}

// expectParams checks each byte of rule 8 after p, whose state is f.params.
func expectParams(t *testing.T, f family, p api.Parse) {
	t.Helper()
	spoiled := api.Parse{State: f.params, Bad: true}
	for _, b := range span(0x30, 0x3B) {
		want := p
		l, e := param.Step(p.Params, b)
		switch {
		case e != api.OK || p.Bad:
			want = spoiled
		default:
			want.Params = l
		}
		expectStep(t, p, b, want)
	}
	for _, b := range span(0x3C, 0x3F) {
		expectStep(t, p, b, spoiled)
	}
	for _, b := range span(0x20, 0x2F) {
		want := p
		want.State, want.Inter = f.inters, string(rune(b))
		if p.Bad {
			want = api.Parse{State: f.inters, Bad: true}
		}
		expectStep(t, p, b, want)
	}
	for _, b := range span(0x40, 0x7E) {
		last(t, p, b)
	}
}

func TestInters(t *testing.T) { // rule 8 in Inters and DcsInters, MaxInter characters and one more
	for _, f := range families {
		spoiled := api.Parse{State: f.inters, Bad: true}
		for _, p := range []api.Parse{
			{State: f.inters, Inter: "$"},
			{State: f.inters, Inter: "$", Private: '?'},
			{State: f.inters, Inter: "$", Private: '?', Params: full()},
			{State: f.inters, Inter: "$!"},
			{State: f.inters, Inter: "$!", Private: '<', Params: []api.Param{one(5)}},
			spoiled,
		} {
			for _, b := range span(0x20, 0x2F) {
				want := p
				want.Inter += string(rune(b))
				if len(want.Inter) > 2 || p.Bad {
					want = spoiled
				}
				expectStep(t, p, b, want)
			}
			for _, b := range span(0x30, 0x3F) {
				expectStep(t, p, b, spoiled)
			}
			for _, b := range span(0x40, 0x7E) {
				last(t, p, b)
			}
		}
	}
}

func TestParamsFull(t *testing.T) { // MaxParams parameters, MaxSubs parts, and one more
	for _, x := range []struct{ start, end string }{{"\x1B[", ""}, {"\x1BP", "\x1B\\"}} {
		for _, private := range []string{"", "?"} {
			for n := range 20 {
				for c, most := range map[string]int{";": 15, ":": 5} {
					s := strings.Repeat("1"+c, n) + "2"
					_, l, e := state.Feed(api.Parse{}, []byte(x.start+private+s+"m"+x.end+"A"))
					want := 1
					if n <= most {
						want = 2
					}
					if len(l) != want || e != api.OK || l[want-1].Kind != api.EvPrint {
						t.Errorf("%d times %q: %+v, %d", n, c, l, e)
					}
					if want == 2 && !param.Same(l[0].Params, listed(s)) {
						t.Errorf("%d times %q: %+v", n, c, l[0])
					}
				}
			}
		}
	}
}

func TestTextFull(t *testing.T) { // MaxText bytes of Text and one more, with ignored bytes between them
	for _, x := range []struct {
		start string
		want  func(s string) api.Event
	}{
		{"\x1B]", osc},
		{"\x1BPq", func(s string) api.Event { return dcs(0, nil, "", 'q', s) }},
		{"\x1BP?1;2$q", func(s string) api.Event { return dcs('?', []api.Param{one(1), one(2)}, "$", 'q', s) }},
	} {
		for _, n := range []int{0, 1, 510, 511, 512, 513, 514, 1024, 3000} {
			for _, piece := range []string{"a", "\x80", "\xFF", "\\", "[", " ", "~"} {
				text := strings.Repeat(piece, n)
				want := append(printed('<'), x.want(text))
				if n > 512 {
					want = want[:1]
				}
				expectFeed(t, api.Parse{}, "<"+x.start+text+"\x1B\\>", api.Parse{}, append(want, printed('>')...)...)
				if n > 512 {
					text = text[:512]
				}
				expectFeed(t, api.Parse{}, x.start+"\x00"+text+"\x7F\x0A\x1F\x1B\\", api.Parse{}, x.want(text))
			}
		}
	}
}

func TestSpoiled(t *testing.T) { // while Bad is set only controls are reported, until the sequence has ended
	for s, want := range map[string][]api.Event{
		"\x1B[1?mA":                     printed('A'),
		"\x1B[1?2;3$!m\x1B[2mA":         append([]api.Event{csi(0, []api.Param{one(2)}, "", 'm')}, printed('A')...),
		"\x1B[1<\n2\r!0\x08mA":          append([]api.Event{control(10), control(13), control(8)}, printed('A')...),
		"\x1B[?<mA":                     printed('A'),
		"\x1B[!1mA":                     printed('A'),
		"\x1B[!?mA":                     printed('A'),
		"\x1B[!\"#mA":                   printed('A'),
		"\x1B(#!0A":                     printed('A'),
		"\x1B(#!\t0A":                   append([]api.Event{control(9)}, printed('A')...),
		"\x1BP1?qabc\x1B\\A":            printed('A'),
		"\x1BP1?2;3!q\x07abc\nd\x1B\\A": printed('A'),
		"\x1BP!0qabc\x1BcA":             append([]api.Event{esc("", 'c')}, printed('A')...),
		"\x1BP!\"#qabc\x18A":            printed('A'),
		"\x1B]" + strings.Repeat("x", 513) + "\x07A":                                    printed('A'),
		"\x1B]" + strings.Repeat("x", 600) + "\x1B\\A":                                  printed('A'),
		"\x1B]" + strings.Repeat("x", 600) + "\x1B]new\x07A":                            append([]api.Event{osc("new")}, printed('A')...),
		"\x1B[1;2;3;4;5;6;7;8;9;10;11;12;13;14;15;16;17mA":                              printed('A'),
		"\x1B[1;2;3;4;5;6;7;8;9;10;11;12;13;14;15;16;17;18;19;20;21;22:1:2:3:4:5:6:7mA": printed('A'),
		"\x1B[1:2:3:4:5:6:7mA":                                                          printed('A'),
	} {
		expectFeed(t, api.Parse{}, s, api.Parse{}, want...)
	}
}
