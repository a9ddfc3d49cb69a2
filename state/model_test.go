package state_test

import (
	"strconv"
	"strings"
	"unicode/utf8"

	"fenestra/api"
)

// The model is a second reading of the chapter that the tests hold the package against. It names states by the
// chapter's numbers, keeps parameters as their text, and leaves UTF-8 to the library.

// model is a parse and the events so far. Its params are text: "1;2:3".
type model struct {
	state          int
	utf            []byte
	private, final byte
	params         string
	inter, text    string
	bad            bool
	events         []api.Event
}

// modelOf returns the model of a valid parse.
func modelOf(p api.Parse) *model {
	return &model{state: p.State, utf: append([]byte(nil), p.Utf...), private: p.Private, final: p.Final, params: written(p.Params), inter: p.Inter, text: p.Text, bad: p.Bad}
}

// parse returns what the model has collected.
func (m *model) parse() api.Parse {
	return api.Parse{State: m.state, Utf: m.utf, Private: m.private, Final: m.final, Params: listed(m.params), Inter: m.inter, Text: m.text, Bad: m.bad}
}

// written returns the text of parameters.
func written(l []api.Param) string {
	var all []string
	for _, p := range l {
		var parts []string
		for _, n := range p.Subs {
			parts = append(parts, strings.Replace(strconv.Itoa(n), "-1", "", 1))
		}
		all = append(all, strings.Join(parts, ":"))
	}
	return strings.Join(all, ";")
}

// listed returns the parameters of a text of at most 9 digits in a row.
func listed(s string) (l []api.Param) {
	if s == "" {
		return nil
	}
	for _, p := range strings.Split(s, ";") {
		var subs []int
		for _, part := range strings.Split(p, ":") {
			n, err := strconv.Atoi(part)
			if err != nil {
				n = -1
			}
			subs = append(subs, min(n, 9999))
		}
		l = append(l, api.Param{Subs: subs})
	}
	return l
}

// in reports whether b is from low to high.
func in(b byte, low, high int) bool { return low <= int(b) && int(b) <= high }

func (m *model) tell(e api.Event) { m.events = append(m.events, e) }
func (m *model) enter(state int)  { *m = model{state: state, events: m.events} }
func (m *model) spoil()           { *m = model{state: m.state, bad: true, events: m.events} }
func (m *model) among(l ...int) bool {
	for _, s := range l {
		if s == m.state {
			return true
		}
	}
	return false
}

// dispatch reports the event and returns to Ground.
func (m *model) dispatch(e api.Event) {
	if !m.bad {
		m.tell(e)
	}
	m.enter(0)
}

// take applies the chapter's rules to b, one after the other.
func (m *model) take(b byte) {
	switch {
	case m.state == 0 && (len(m.utf) > 0 || b >= 0x80): // rule 1
		m.takeUtf(b)
	case b == 0x18 || b == 0x1A: // rule 2
		m.enter(0)
	case b == 0x1B && m.among(6, 11, 13): // rule 3
		m.state++
	case b == 0x1B:
		m.enter(1)
	case m.among(7, 12, 14): // rule 4
		switch {
		case b != '\\':
			m.enter(1)
			m.take(b)
		case m.state == 7:
			m.dispatch(api.Event{Kind: api.EvOsc, Text: m.text})
		case m.state == 12:
			m.dispatch(api.Event{Kind: api.EvDcs, Private: m.private, Final: m.final, Params: listed(m.params), Inter: m.inter, Text: m.text})
		default:
			m.enter(0)
		}
	case m.state == 6 && b == 7: // rule 5
		m.dispatch(api.Event{Kind: api.EvOsc, Text: m.text})
	case m.among(6, 11, 13):
		switch {
		case b < 0x20 || b == 0x7F || m.state == 13 || m.bad:
		case len(m.text) >= 512:
			m.spoil()
		default:
			m.text = string(append([]byte(m.text), b))
		}
	case b >= 0x80: // rule 6
		m.enter(0)
		m.takeUtf(b)
	case b < 0x20: // rule 7
		if m.among(0, 1, 2, 3, 4, 5) {
			m.tell(api.Event{Kind: api.EvControl, Code: int(b)})
		}
	case b != 0x7F:
		m.takePrintable(b)
	}
}

// takeUtf is rule 1.
func (m *model) takeUtf(b byte) {
	head := append(append([]byte(nil), m.utf...), b)
	m.utf = nil
	switch {
	case !utf8.FullRune(head):
		m.utf = head
	case utf8.Valid(head):
		code, _ := utf8.DecodeRune(head)
		m.takeCode(int(code))
	default:
		m.takeCode(0xFFFD)
		switch {
		case len(head) == 1:
		case b < 0x80:
			m.takeCode(int(b))
		default:
			m.takeUtf(b)
		}
	}
}

// takeCode is the second half of rule 1.
func (m *model) takeCode(code int) {
	switch {
	case code < 0x20 || code == 0x7F:
		m.take(byte(code))
	case code < 0x80 || code >= 0xA0:
		m.tell(api.Event{Kind: api.EvPrint, Code: code})
	}
}

// takePrintable is rule 8.
func (m *model) takePrintable(b byte) {
	switch m.state {
	case 0:
		m.tell(api.Event{Kind: api.EvPrint, Code: int(b)})
	case 1:
		switch b {
		case '[':
			m.enter(3)
		case ']':
			m.enter(6)
		case 'P':
			m.enter(8)
		case 'X', '^', '_':
			m.enter(13)
		default:
			if in(b, 0x20, 0x2F) {
				m.enter(2)
				m.inter = string(rune(b))
				return
			}
			m.dispatch(api.Event{Kind: api.EvEsc, Final: b})
		}
	case 2:
		if in(b, 0x20, 0x2F) {
			m.addInter(b)
			return
		}
		m.dispatch(api.Event{Kind: api.EvEsc, Inter: m.inter, Final: b})
	case 3, 8:
		switch {
		case in(b, 0x3C, 0x3F):
			m.enter(m.state + 1)
			m.private = b
		case in(b, 0x30, 0x3B):
			m.enter(m.state + 1)
			m.addParam(b)
		case in(b, 0x20, 0x2F):
			m.enter(m.state + 2)
			m.inter = string(rune(b))
		default:
			m.last(b)
		}
	case 4, 9:
		switch {
		case in(b, 0x30, 0x3B):
			m.addParam(b)
		case in(b, 0x3C, 0x3F):
			m.spoil()
		case in(b, 0x20, 0x2F):
			m.state++
			m.addInter(b)
		default:
			m.last(b)
		}
	case 5, 10:
		switch {
		case in(b, 0x20, 0x2F):
			m.addInter(b)
		case in(b, 0x30, 0x3F):
			m.spoil()
		default:
			m.last(b)
		}
	}
}

// last takes a final byte.
func (m *model) last(b byte) {
	switch {
	case m.among(3, 4, 5):
		m.dispatch(api.Event{Kind: api.EvCsi, Private: m.private, Final: b, Params: listed(m.params), Inter: m.inter})
	case m.bad:
		m.state = 11
	default:
		m.state, m.final = 11, b
	}
}

// addInter collects an intermediate character.
func (m *model) addInter(b byte) {
	switch {
	case m.bad:
	case len(m.inter) >= 2:
		m.spoil()
	default:
		m.inter += string(rune(b))
	}
}

// addParam collects a character of parameters.
func (m *model) addParam(b byte) {
	last := m.params[strings.LastIndexByte(m.params, ';')+1:]
	switch {
	case m.bad:
	case b == ';' && strings.Count(m.params, ";") >= 15, b == ':' && strings.Count(last, ":") >= 5:
		m.spoil()
	default:
		// Written anew, so that digits beyond MaxParam don't pile up.
		m.params = written(listed(m.params + string(rune(b))))
	}
}

// allowed tells what each state's fields may be, in the words of the chapter's table: u Utf, v Private, p Params, i Inter, f Final, t Text, b Bad.
var allowed = []string{"u", "", "ib", "", "vpb", "vpib", "tb", "tb", "", "vpb", "vpib", "vpiftb", "vpiftb", "", ""}

// okay reports whether p is valid, given whether its Utf is Right and its Params are valid.
func okay(p api.Parse, utfRight, paramsRight bool) bool {
	if p.State < 0 || p.State > 14 {
		return false
	}
	may := func(c string) bool { return strings.Contains(allowed[p.State], c) }
	if p.Bad {
		return may("b") && len(p.Utf) == 0 && p.Private == 0 && len(p.Params) == 0 && p.Inter == "" && p.Final == 0 && p.Text == ""
	}
	switch {
	case !utfRight || len(p.Utf) > 0 && !may("u"):
		return false
	case p.Private != 0 && (!may("v") || !in(p.Private, 0x3C, 0x3F)):
		return false
	case !paramsRight || len(p.Params) > 0 && !may("p"):
		return false
	case (p.State == 4 || p.State == 9) && p.Private == 0 && len(p.Params) == 0:
		return false
	case len(p.Inter) > 2 || p.Inter != "" && !may("i"):
		return false
	case p.Inter == "" && (p.State == 2 || p.State == 5 || p.State == 10):
		return false
	case p.Final != 0 && (!may("f") || !in(p.Final, 0x40, 0x7E)):
		return false
	case p.Final == 0 && (p.State == 11 || p.State == 12):
		return false
	case len(p.Text) > 512 || p.Text != "" && !may("t"):
		return false
	}
	for _, b := range []byte(p.Inter) {
		if !in(b, 0x20, 0x2F) {
			return false
		}
	}
	for _, b := range []byte(p.Text) {
		if b < 0x20 || b == 0x7F {
			return false
		}
	}
	return true
}
