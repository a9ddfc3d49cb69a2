package state_test

import (
	"bytes"
	"math/rand"
	"slices"
	"testing"

	"fenestra/api"
	"fenestra/state"
)

// These tests are about R3 and R5: no call writes to its arguments, to spare capacity, or to earlier results.

// spared returns l with room behind it that is filled with mark, and a function that tells whether all of that is as it was.
func spared[T any](l []T, mark T, same func(a, b T) bool) (with []T, kept func() bool) {
	memory := append(slices.Clone(l), slices.Repeat([]T{mark}, 20)...)
	before := slices.Clone(memory)
	return memory[:len(l)], func() bool { return slices.EqualFunc(memory, before, same) }
}

func sameInt(a, b int) bool   { return a == b }
func sameByte(a, b byte) bool { return a == b }

// sameParam reports whether a and b are one slice in one memory.
func sameParam(a, b api.Param) bool {
	return len(a.Subs) == len(b.Subs) && cap(a.Subs) == cap(b.Subs) && (len(a.Subs) == 0 || &a.Subs[0] == &b.Subs[0])
}

// guarded returns p with spare capacity in all its slices, and a function that tells whether any of the memory has changed.
func guarded(p api.Parse) (same api.Parse, kept func() bool) {
	var all []func() bool
	utf, keptUtf := spared(p.Utf, 0xC2, sameByte)
	params := slices.Clone(p.Params)
	for i := range params {
		subs, keptSubs := spared(params[i].Subs, 123, sameInt)
		params[i].Subs = subs
		all = append(all, keptSubs)
	}
	params, keptParams := spared(params, one(77), sameParam)
	all = append(all, keptUtf, keptParams)
	p.Utf, p.Params = utf, params
	return p, func() bool {
		for _, f := range all {
			if !f() {
				return false
			}
		}
		return true
	}
}

// copiedEvents returns l in memory of its own.
func copiedEvents(l []api.Event) []api.Event {
	l = slices.Clone(l)
	for i := range l {
		l[i].Params = copied(l[i].Params)
	}
	return l
}

// copiedParse returns p in memory of its own.
func copiedParse(p api.Parse) api.Parse {
	p.Utf, p.Params = slices.Clone(p.Utf), copied(p.Params)
	return p
}

func TestArgumentsKept(t *testing.T) { // R3, every byte after every kind of parse
	all := someValid()
	for i, p := range someWrong() {
		if i%20 == 0 {
			all = append(all, p)
		}
	}
	for i, p := range all {
		g, kept := guarded(p)
		for b := range 256 {
			state.Step(g, byte(b))
		}
		if !kept() {
			t.Fatalf("Step(%+v) wrote to its argument", p)
		}
		s, keptBytes := spared(noise(rand.New(rand.NewSource(int64(i))), 60), 'x', sameByte)
		state.Feed(g, s)
		if !kept() || !keptBytes() {
			t.Fatalf("Feed(%+v, %q) wrote to its arguments", p, s)
		}
		h, keptToo := guarded(p)
		state.Check(g)
		state.Same(g, h)
		if !kept() || !keptToo() {
			t.Fatalf("Check or Same of %+v wrote to its arguments", p)
		}
		x, y := api.Event{Params: g.Params}, api.Event{Params: h.Params}
		if state.Alike(x, y); !kept() || !keptToo() {
			t.Fatalf("Alike of %+v wrote to its arguments", p)
		}
	}
}

// result is what a call has returned, and what that was then.
type result struct {
	parse, parseThen   api.Parse
	events, eventsThen []api.Event
}

// fed returns the result of feeding s.
func fed(t *testing.T, p api.Parse, s string) result {
	t.Helper()
	q, l, e := state.Feed(p, []byte(s))
	if e != api.OK {
		t.Fatalf("Feed(%+v, %q) = %d", p, s, e)
	}
	return result{q, copiedParse(q), l, copiedEvents(l)}
}

func TestResultsKept(t *testing.T) { // R3 and R5, calls that go on from one result leave it and each other's results alone
	for _, start := range []string{"", "\xE2", "\xF0\x9F", "\x1B[", "\x1B[1", "\x1B[1;2:3", "\x1B[;;;", "\x1BP?1;2", "\x1BP1;2$", "\x1BP1:2;3qab", "\x1B]ab", "\x1B(", "\x1B[1;2!", "a\x1B[1;2mb\x1B[3"} {
		all := []result{fed(t, api.Parse{}, start)}
		level := all
		for range 3 {
			var next []result
			for _, x := range level {
				for _, s := range []string{"1", ";", ":5", "\x9F", "!", "m", "\x1B\\", "\x1B[7;8"} {
					next = append(next, fed(t, x.parse, s))
				}
			}
			all, level = append(all, next...), next
		}
		for _, x := range all {
			if !equal(x.parse, x.parseThen) || !equalEvents(x.events, x.eventsThen) {
				t.Fatalf("after %q: results became %+v, %+v, not %+v, %+v", start, x.parse, x.events, x.parseThen, x.eventsThen)
			}
		}
	}
}

func TestSpareKept(t *testing.T) { // R3, the spare capacity of results is written to by no later call
	for _, start := range []string{"\xE2", "\xF0\x9F", "\x1B[1;2", "\x1B[;;;;;", "\x1B[1:2:3", "\x1BP1;2:3", "\x1BP1;2$qt"} {
		p, _, _ := state.Feed(api.Parse{}, []byte(start))
		utf, params := p.Utf[:cap(p.Utf)], p.Params[:cap(p.Params)]
		for i := len(p.Utf); i < len(utf); i++ {
			utf[i] = 0xEE
		}
		for i := len(p.Params); i < len(params); i++ {
			params[i] = one(55)
		}
		var subs [][]int
		for i := range p.Params {
			s := p.Params[i].Subs
			room := s[:cap(s)]
			for j := len(s); j < len(room); j++ {
				room[j] = 66
			}
			subs = append(subs, room)
		}
		utfThen, paramsThen := bytes.Clone(utf), slices.Clone(params)
		var subsThen [][]int
		for _, s := range subs {
			subsThen = append(subsThen, slices.Clone(s))
		}
		for b := range 256 {
			state.Feed(p, []byte{byte(b), ';', '5', ':', '6', 'm', 0x1B, '\\'})
		}
		if !bytes.Equal(utf, utfThen) || !slices.EqualFunc(params, paramsThen, sameParam) {
			t.Errorf("after %q: the spare capacity was written to", start)
		}
		for i := range subs {
			if !slices.Equal(subs[i], subsThen[i]) {
				t.Errorf("after %q: the spare capacity of parts was written to", start)
			}
		}
	}
}

func TestBytesNotHeld(t *testing.T) { // R5, results don't change when the bytes that were fed do
	for _, x := range pieces() {
		for at := range len(x.text) {
			b := []byte(x.text[:at+1])
			p, l, _ := state.Feed(api.Parse{}, b)
			then, events := copiedParse(p), copiedEvents(l)
			for i := range b {
				b[i] = 'Z'
			}
			if !equal(p, then) || !equalEvents(l, events) {
				t.Errorf("Feed(%q) holds its bytes", x.text[:at+1])
			}
		}
	}
}
