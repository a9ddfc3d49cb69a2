package state_test

import (
	"bytes"
	"slices"
	"strings"
	"testing"

	"fenestra/api"
	"fenestra/param"
	"fenestra/state"
)

// one returns a parameter with these parts.
func one(subs ...int) api.Param { return api.Param{Subs: subs} }

// full returns 16 parameters with 6 parts each.
func full() []api.Param {
	return slices.Repeat([]api.Param{one(9999, -1, 0, 1, 38, 9998)}, 16)
}

// prefixes are bytes that may be pending, at both ends of each length.
var prefixes = []string{"\xC2", "\xC3", "\xDF", "\xE0", "\xE0\xA0", "\xE0\xBF", "\xE2\x82", "\xED", "\xED\x9F", "\xEE\x80", "\xEF\xBF", "\xF0", "\xF0\x90", "\xF0\x90\x80", "\xF0\x9F\x98", "\xF4\x8F", "\xF4\x8F\xBF"}

// noPrefixes are bytes that may not be pending: wrong, complete, or too long.
var noPrefixes = []string{"\x00", "A", "\x1b", "\x7F", "\x80", "\xBF", "\xC0", "\xC1", "\xF5", "\xFF", "\xC3\xA9", "\xC3A", "\xC3\xC3", "\xE0\x80", "\xE0\x9F", "\xE2\x82\xAC", "\xED\xA0", "\xF0\x8F", "\xF4\x90", "\xF0\x9F\x98\x80", "\xE2\x82\xAC\xE2", "\xE2\x82\xE2\x82\xE2"}

var (
	privates   = []byte{'<', '=', '>', '?'}
	noPrivates = []byte{1, ' ', '/', '0', '9', ':', ';', '@', 'm', '~', 0x7F, 0x80, 0xBC, 0xBF, 0xFF}
	finals     = []byte{'@', 'A', 'm', '}', '~'}
	noFinals   = []byte{1, 0x1F, ' ', '/', '0', '?', 0x7F, 0x80, 0xC0, 0xED, 0xFF}
	inters     = []string{" ", "/", "(", "$", "  ", "//", " /", "/ ", "#("}
	noInters   = []string{"\x1F", "0", "\x7F", "\x80", "\xA0", "\xFF", "é", " \x1F", "\x1F ", "/0", "0/", "!~", "   ", "///", "!\"#$", strings.Repeat("!", 256), strings.Repeat("!", 258)}
	texts      = []string{"t", " ", "~", "\x80", "\xFF", "0;title", "\xC3\xA9 \xE2\x82", strings.Repeat("x", 511), strings.Repeat("y", 512), strings.Repeat("\xFF", 512)}
	noTexts    = []string{"\x00", "\x07", "\x18", "\x1A", "\x1B", "\x1F", "\x7F", "a\x1Fb", "ab\x7F", "\x0Aab", strings.Repeat("x", 511) + "\x1F", strings.Repeat("x", 513), strings.Repeat("\x80", 513), strings.Repeat("x", 1024), strings.Repeat("x", 1<<16)}
)

// lists returns valid parameters, which are not empty.
func lists() [][]api.Param {
	return [][]api.Param{
		{one(0)},
		{one(9999)},
		{one(-1), one(-1)},
		{one(-1, -1)},
		{one(38, 5, 196), one(1)},
		{one(1, 2, 3, 4, 5, 6)},
		{one(1), one(1, 2, 3, 4, 5)},
		slices.Repeat([]api.Param{one(7)}, 15),
		slices.Repeat([]api.Param{one(-1)}, 16),
		full(),
	}
}

// noLists returns parameters that are not valid.
func noLists() [][]api.Param {
	return [][]api.Param{
		{one(-1)},
		{{}},
		{{Subs: []int{}}},
		{one(1), one()},
		{one(-2)},
		{one(10000)},
		{one(1), one(1, 2, 10000)},
		{one(1, 2, 3, 4, 5, 6, 7)},
		slices.Repeat([]api.Param{one(7)}, 17),
		append(full(), one(1)),
		slices.Repeat([]api.Param{one(7)}, 272),
	}
}

// someValid returns valid parses of all states, with each field at its limits.
func someValid() (all []api.Parse) {
	all = append(all, api.Parse{}, api.Parse{Utf: []byte{}})
	for _, s := range prefixes {
		all = append(all, api.Parse{Utf: []byte(s)})
	}
	for _, n := range []int{state.Escape, state.Entry, state.DcsEntry, state.Away, state.AwayEsc} {
		all = append(all, api.Parse{State: n})
	}
	for _, s := range inters {
		all = append(all, api.Parse{State: state.Signs, Inter: s})
	}
	for _, n := range []int{state.Osc, state.OscEsc} {
		all = append(all, api.Parse{State: n})
		for _, s := range texts {
			all = append(all, api.Parse{State: n, Text: s})
		}
	}
	for _, private := range append([]byte{0}, privates...) {
		for i, l := range append(lists(), nil) {
			all = append(all, someCollected(i, private, l)...)
		}
	}
	for _, n := range []int{2, 4, 5, 6, 7, 9, 10, 11, 12} {
		all = append(all, api.Parse{State: n, Bad: true}, api.Parse{State: n, Bad: true, Utf: []byte{}, Params: []api.Param{}})
	}
	return all
}

// someCollected returns parses of CSI and DCS sequences with these values, and others that i varies.
func someCollected(i int, private byte, l []api.Param) (all []api.Parse) {
	p := api.Parse{Private: private, Params: l}
	with := func(state int) {
		p.State = state
		all = append(all, p)
	}
	if private != 0 || len(l) > 0 {
		with(state.Params)
		with(state.DcsParams)
	}
	for j, s := range append(inters, "") {
		p.Inter = s
		if s != "" {
			with(state.Inters)
			with(state.DcsInters)
		}
		p.Final = finals[(i+j)%len(finals)]
		p.Text = append(texts, "")[(i*3+j)%(len(texts)+1)]
		with(state.Dcs)
		with(state.DcsEsc)
		p.Final, p.Text = 0, ""
	}
	return all
}

// someWrong returns parses that are not valid: each valid one with a field that is wrong or has no place in its state.
func someWrong() (all []api.Parse) {
	for _, n := range []int{-1, -2, -14, -15, 15, 16, 17, 30, 255, 256, 257, 1 << 16, 1 << 31, 1 << 32, 1<<32 + 1, 1<<62 + 1, -1 << 63, 1<<63 - 1} {
		all = append(all, api.Parse{State: n}, api.Parse{State: n, Bad: true}, api.Parse{State: n, Inter: "!", Final: 'm', Text: "t"})
	}
	for i, p := range someValid() {
		for _, q := range changed(p, i) {
			if !okay(q, rightUtf(q.Utf), param.Check(q.Params) == api.OK) {
				all = append(all, q)
			}
		}
	}
	return all
}

// rightUtf reports whether b is empty or one of the prefixes.
func rightUtf(b []byte) bool { return len(b) == 0 || slices.Contains(prefixes, string(b)) }

// changed returns p with one field changed; what its value is, i decides.
func changed(p api.Parse, i int) (all []api.Parse) {
	change := func(f func(q *api.Parse)) {
		q := p
		f(&q)
		all = append(all, q)
	}
	change(func(q *api.Parse) { q.State = i % 15 })
	change(func(q *api.Parse) { q.Bad = !q.Bad })
	change(func(q *api.Parse) { q.Utf = []byte(prefixes[i%len(prefixes)]) })
	change(func(q *api.Parse) { q.Utf = []byte(noPrefixes[i%len(noPrefixes)]) })
	change(func(q *api.Parse) { q.Private = 0 })
	change(func(q *api.Parse) { q.Private = privates[i%len(privates)] })
	change(func(q *api.Parse) { q.Private = noPrivates[i%len(noPrivates)] })
	change(func(q *api.Parse) { q.Final = 0 })
	change(func(q *api.Parse) { q.Final = finals[i%len(finals)] })
	change(func(q *api.Parse) { q.Final = noFinals[i%len(noFinals)] })
	change(func(q *api.Parse) { q.Params = nil })
	change(func(q *api.Parse) { q.Params = lists()[i%len(lists())] })
	change(func(q *api.Parse) { q.Params = noLists()[i%len(noLists())] })
	change(func(q *api.Parse) { q.Inter = "" })
	change(func(q *api.Parse) { q.Inter = inters[i%len(inters)] })
	change(func(q *api.Parse) { q.Inter = noInters[i%len(noInters)] })
	change(func(q *api.Parse) { q.Text = "" })
	change(func(q *api.Parse) { q.Text = texts[i%len(texts)] })
	change(func(q *api.Parse) { q.Text = noTexts[i%len(noTexts)] })
	return all
}

// copied returns l in memory of its own, without spare capacity.
func copied(l []api.Param) []api.Param {
	all := make([]api.Param, len(l))
	for i, p := range l {
		all[i].Subs = append(make([]int, 0, len(p.Subs)), p.Subs...)
	}
	return all
}

// equal compares parses field by field.
func equal(a, b api.Parse) bool {
	return a.State == b.State && bytes.Equal(a.Utf, b.Utf) && a.Private == b.Private && a.Final == b.Final &&
		param.Same(a.Params, b.Params) && a.Inter == b.Inter && a.Text == b.Text && a.Bad == b.Bad
}

// equalEvents compares events field by field.
func equalEvents(a, b []api.Event) bool {
	return slices.EqualFunc(a, b, func(x, y api.Event) bool {
		return x.Kind == y.Kind && x.Code == y.Code && x.Private == y.Private && x.Final == y.Final &&
			param.Same(x.Params, y.Params) && x.Inter == y.Inter && x.Text == y.Text
	})
}

// The events, in short.
func printed(codes ...int) (l []api.Event) {
	for _, c := range codes {
		l = append(l, api.Event{Kind: api.EvPrint, Code: c})
	}
	return l
}

func control(code int) api.Event { return api.Event{Kind: api.EvControl, Code: code} }
func esc(inter string, final byte) api.Event {
	return api.Event{Kind: api.EvEsc, Inter: inter, Final: final}
}
func osc(text string) api.Event { return api.Event{Kind: api.EvOsc, Text: text} }

func csi(private byte, l []api.Param, inter string, final byte) api.Event {
	return api.Event{Kind: api.EvCsi, Private: private, Params: l, Inter: inter, Final: final}
}

func dcs(private byte, l []api.Param, inter string, final byte, text string) api.Event {
	return api.Event{Kind: api.EvDcs, Private: private, Params: l, Inter: inter, Final: final, Text: text}
}

// expectStep checks what Step returns.
func expectStep(t *testing.T, p api.Parse, b byte, want api.Parse, events ...api.Event) {
	t.Helper()
	if got, l, e := state.Step(p, b); !equal(got, want) || !equalEvents(l, events) || e != api.OK {
		t.Errorf("Step(%+v, %#x) = %+v, %+v, %d, not %+v, %+v", p, b, got, l, e, want, events)
	}
}

// expectFeed checks what Feed returns.
func expectFeed(t *testing.T, p api.Parse, s string, want api.Parse, events ...api.Event) {
	t.Helper()
	if got, l, e := state.Feed(p, []byte(s)); !equal(got, want) || !equalEvents(l, events) || e != api.OK {
		t.Errorf("Feed(%+v, %q) = %+v, %+v, %d, not %+v, %+v", p, s, got, l, e, want, events)
	}
}
