package state

import (
	"fenestra/api"
	"fenestra/param"
	"fenestra/utf"
)

// The bytes that have rules of their own, and the first one that is not ASCII.
const (
	bel  = 0x07
	can  = 0x18
	sub  = 0x1A
	esc  = 0x1B
	del  = 0x7F
	high = 0x80
)

// maxHidden is the last of the code points from high on that are controls, which are not shown.
const maxHidden = 0x9F

// decoder is a valid parse that takes bytes, and the events that these have brought about.
type decoder struct {
	api.Parse
	events []api.Event
}

// rules returns what a byte does, by the state: in a string and after an ESC in it any byte but CAN, SUB and ESC, elsewhere a byte from 20 to 7E.
func rules() [States]func(d *decoder, b byte) {
	return [States]func(d *decoder, b byte){
		Ground:    (*decoder).print,
		Escape:    (*decoder).escaped,
		Signs:     (*decoder).sign,
		Entry:     (*decoder).entry,
		Params:    (*decoder).param,
		Inters:    (*decoder).inter,
		Osc:       (*decoder).osc,
		OscEsc:    (*decoder).end,
		DcsEntry:  (*decoder).entry,
		DcsParams: (*decoder).param,
		DcsInters: (*decoder).inter,
		Dcs:       (*decoder).text,
		DcsEsc:    (*decoder).end,
		Away:      (*decoder).ignore,
		AwayEsc:   (*decoder).end,
	}
}

// take applies the first of the chapter's rules that fits b.
func (d *decoder) take(b byte) {
	switch {
	case len(d.Utf) > 0: // in Ground only
		d.decode(b)
	case b == can || b == sub:
		d.enter(Ground)
	case b == esc:
		d.escape()
	case d.inString() || isPrintable(b):
		rules()[d.State](d, b)
	case b >= high:
		d.enter(Ground)
		d.decode(b)
	case b != del && d.State <= Inters:
		d.report(api.Event{Kind: api.EvControl, Code: int(b)})
	}
	if d.Bad {
		// What a rule has set in a spoiled sequence is not kept.
		d.spoil()
	}
}

// decode takes b in Ground as a byte of UTF-8.
func (d *decoder) decode(b byte) {
	rest, codes := utf.Step(d.Utf, b)
	d.Utf = rest
	for _, code := range codes {
		switch {
		case code < ' ' || code == del:
			d.take(byte(code))
		case code < high || code > maxHidden:
			d.report(api.Event{Kind: api.EvPrint, Code: code})
		}
	}
}

// escape takes an ESC, which in a string may begin its end.
func (d *decoder) escape() {
	switch d.State {
	case Osc, Dcs, Away:
		d.State++ // each of them is followed by its state after an ESC
	default:
		d.enter(Escape)
	}
}

// print takes b in Ground.
func (d *decoder) print(b byte) {
	d.report(api.Event{Kind: api.EvPrint, Code: int(b)})
}

// escaped takes b in Escape.
func (d *decoder) escaped(b byte) {
	switch {
	case isSign(b):
		d.enter(Signs)
		d.addInter(b)
	case b == '[':
		d.enter(Entry)
	case b == ']':
		d.enter(Osc)
	case b == 'P':
		d.enter(DcsEntry)
	case b == 'X' || b == '^' || b == '_':
		d.enter(Away)
	default:
		d.dispatch(api.EvEsc, b)
	}
}

// sign takes b in Signs.
func (d *decoder) sign(b byte) {
	if isSign(b) {
		d.addInter(b)
	} else {
		d.dispatch(api.EvEsc, b)
	}
}

// entry takes b in Entry and DcsEntry, where only a private marker is not as in the state that follows.
func (d *decoder) entry(b byte) {
	d.State += Params - Entry // in the same order for CSI and DCS, as in param
	if isPrivate(b) {
		d.Private = b
	} else {
		d.param(b)
	}
}

// param takes b in Params and DcsParams.
func (d *decoder) param(b byte) {
	switch {
	case isSign(b):
		d.State += Inters - Params
		d.addInter(b)
	case isPrivate(b):
		d.spoil()
	case isFinal(b):
		d.final(b)
	default:
		d.addParam(b)
	}
}

// inter takes b in Inters and DcsInters.
func (d *decoder) inter(b byte) {
	switch {
	case isSign(b):
		d.addInter(b)
	case isFinal(b):
		d.final(b)
	default:
		d.spoil()
	}
}

// final takes the final byte b of a CSI or DCS sequence.
func (d *decoder) final(b byte) {
	if d.State <= Inters {
		d.dispatch(api.EvCsi, b)
		return
	}
	d.State = Dcs
	d.Final = b
}

// osc takes b in Osc.
func (d *decoder) osc(b byte) {
	if b == bel {
		d.dispatch(api.EvOsc, 0)
	} else {
		d.text(b)
	}
}

// text takes b in Dcs, and in Osc if it does not end the string.
func (d *decoder) text(b byte) {
	switch {
	case !isText(b):
	case len(d.Text) == api.MaxText:
		d.spoil()
	default:
		d.Text += string([]byte{b}) // string(b) would be the encoding of the code point b
	}
}

// ignore takes b in Away.
func (d *decoder) ignore(b byte) {}

// end takes b after an ESC in a string.
func (d *decoder) end(b byte) {
	if b != '\\' {
		d.enter(Escape)
		d.take(b)
		return
	}
	switch d.State {
	case OscEsc:
		d.dispatch(api.EvOsc, 0)
	case DcsEsc:
		d.dispatch(api.EvDcs, d.Final)
	default:
		d.enter(Ground)
	}
}

// inString reports whether the bytes up to an ESC \ belong to a string.
func (d *decoder) inString() bool {
	switch d.State {
	case Osc, OscEsc, Dcs, DcsEsc, Away, AwayEsc:
		return true
	}
	return false
}

// addInter appends b to Inter, if there is room.
func (d *decoder) addInter(b byte) {
	if len(d.Inter) == api.MaxInter {
		d.spoil()
		return
	}
	d.Inter += string([]byte{b})
}

// addParam appends b to Params, if there is room.
func (d *decoder) addParam(b byte) {
	l, e := param.Step(d.Params, b)
	if e != api.OK {
		d.spoil()
		return
	}
	d.Params = l
}

// dispatch reports what has been collected, with its final byte, and returns to Ground.
func (d *decoder) dispatch(kind int, final byte) {
	if !d.Bad {
		d.report(api.Event{Kind: kind, Private: d.Private, Final: final, Params: d.Params, Inter: d.Inter, Text: d.Text})
	}
	d.enter(Ground)
}

// report adds e to the events.
func (d *decoder) report(e api.Event) {
	d.events = append(d.events, e)
}

// enter changes the state, and drops all that has been collected.
func (d *decoder) enter(state int) {
	d.Parse = api.Parse{State: state}
}

// spoil drops all that has been collected, and all that will be until the sequence ends.
func (d *decoder) spoil() {
	d.Parse = api.Parse{State: d.State, Bad: true}
}

// isPrintable reports whether b is from 20 to 7E.
func isPrintable(b byte) bool { return ' ' <= b && b < del }

// isSign reports whether b is an intermediate character.
func isSign(b byte) bool { return ' ' <= b && b <= '/' }

// isPrivate reports whether b is a private marker.
func isPrivate(b byte) bool { return '<' <= b && b <= '?' }

// isFinal reports whether b is the final byte of a CSI or DCS sequence.
func isFinal(b byte) bool { return '@' <= b && b < del }

// isText reports whether b can be in a string.
func isText(b byte) bool { return b >= ' ' && b != del }
