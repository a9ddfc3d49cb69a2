package action

import (
	"fenestra/api"
	"fenestra/osc"
	"fenestra/param"
	"fenestra/sgr"
)

// sequence is what an escape or a control sequence is known by.
type sequence struct {
	private byte
	inter   string
	final   byte
}

// meant returns the actions that the table has for e, also those that are not valid.
func meant(e api.Event) []api.Action {
	switch e.Kind {
	case api.EvPrint:
		return []api.Action{plain(api.AcPrint, e.Code, 0)}
	case api.EvControl:
		return control(e.Code)
	case api.EvEsc:
		// An escape has no private marker, so what stands there is not asked.
		if a, is := escapes()[sequence{0, e.Inter, e.Final}]; is {
			return []api.Action{a}
		}
	case api.EvCsi:
		if read, is := controls(e.Params)[sequence{e.Private, e.Inter, e.Final}]; is {
			return read()
		}
	case api.EvOsc:
		if a, is := osc.Parse(e.Text); is {
			return []api.Action{a}
		}
	}
	return nil
}

// control returns the action of a control byte.
func control(code int) []api.Action {
	one := func(kind, n int) []api.Action { return []api.Action{plain(kind, n, 0)} }
	switch code {
	case 7:
		return one(api.AcBell, 0)
	case 8:
		return one(api.AcBack, 0)
	case 9:
		return one(api.AcTab, 0)
	case 10, 11, 12:
		return one(api.AcFeed, 0)
	case 13:
		return one(api.AcReturn, 0)
	case 14:
		return one(api.AcLock, 1)
	case 15:
		return one(api.AcLock, 0)
	}
	return nil
}

// escapes returns the actions of the escapes.
func escapes() map[sequence]api.Action {
	return map[sequence]api.Action{
		{0, "", 'D'}: plain(api.AcIndex, 0, 0),
		{0, "", 'E'}: plain(api.AcNext, 0, 0),
		{0, "", 'H'}: plain(api.AcSetTab, 0, 0),
		{0, "", 'M'}: plain(api.AcReverse, 0, 0),
		{0, "", 'N'}: plain(api.AcSingle, 2, 0), {0, "", 'O'}: plain(api.AcSingle, 3, 0),
		{0, "", '7'}: plain(api.AcSave, 0, 0), {0, "", '8'}: plain(api.AcRestore, 0, 0),
		{0, "", '='}: plain(api.AcKeypad, 1, 0), {0, "", '>'}: plain(api.AcKeypad, 0, 0),
		{0, "", 'c'}:  plain(api.AcReset, 0, 0),
		{0, "#", '8'}: plain(api.AcAlign, 0, 0),
		{0, "(", 'B'}: plain(api.AcSet, 0, api.SetAscii), {0, "(", '0'}: plain(api.AcSet, 0, api.SetLines),
		{0, ")", 'B'}: plain(api.AcSet, 1, api.SetAscii), {0, ")", '0'}: plain(api.AcSet, 1, api.SetLines),
		{0, "*", 'B'}: plain(api.AcSet, 2, api.SetAscii), {0, "*", '0'}: plain(api.AcSet, 2, api.SetLines),
		{0, "+", 'B'}: plain(api.AcSet, 3, api.SetAscii), {0, "+", '0'}: plain(api.AcSet, 3, api.SetLines),
	}
}

// controls returns what reads the actions of the control sequences that have the parameters l.
func controls(l []api.Param) map[sequence]func() []api.Action {
	p1, p2 := param.Value(l, 0, 0), param.Value(l, 1, 0)
	c1, c2 := max(p1, 1), max(p2, 1)
	one := func(kind, n, m int) func() []api.Action {
		return func() []api.Action { return []api.Action{plain(kind, n, m)} }
	}
	each := func(kind, m int) func() []api.Action {
		return func() []api.Action { return modes(l, kind, m) }
	}
	pens := func() []api.Action {
		all, _ := sgr.Pens(l)
		return all
	}
	all := map[sequence]func() []api.Action{
		{0, "", 'H'}: one(api.AcCursor, c1, c2), {0, "", 'f'}: one(api.AcCursor, c1, c2),
		{0, "", 'A'}: one(api.AcMove, 0, c1), {0, "", 'B'}: one(api.AcMove, 1, c1),
		{0, "", 'C'}: one(api.AcMove, 2, c1), {0, "", 'D'}: one(api.AcMove, 3, c1),
		{0, "", 'E'}: one(api.AcLine, 0, c1), {0, "", 'F'}: one(api.AcLine, 1, c1),
		{0, "", 'G'}: one(api.AcColumn, c1, 0), {0, "", '`'}: one(api.AcColumn, c1, 0),
		{0, "", 'd'}: one(api.AcRow, c1, 0),
		{0, "", 'I'}: one(api.AcTabs, c1, 0), {0, "", 'Z'}: one(api.AcBackTabs, c1, 0),
		{0, "", 'J'}: one(api.AcErase, p1, 0), {0, "", 'K'}: one(api.AcEraseLine, p1, 0),
		{0, "", '@'}: one(api.AcInsert, c1, 0), {0, "", 'P'}: one(api.AcDelete, c1, 0),
		{0, "", 'X'}: one(api.AcBlank, c1, 0), {0, "", 'b'}: one(api.AcRepeat, c1, 0),
		{0, "", 'L'}: one(api.AcInsertLines, c1, 0), {0, "", 'M'}: one(api.AcDeleteLines, c1, 0),
		{0, "", 'S'}: one(api.AcScroll, 0, c1), {0, "", 'T'}: one(api.AcScroll, 1, c1),
		{0, "", 'g'}: one(api.AcClearTab, p1, 0),
		{0, "", 'h'}: each(api.AcMode, 1), {0, "", 'l'}: each(api.AcMode, 0),
		{'?', "", 'h'}: each(api.AcDec, 1), {'?', "", 'l'}: each(api.AcDec, 0),
		{0, "", 'r'}: one(api.AcMargins, p1, p2),
		{0, "", 'm'}: pens,
		{0, "", 'n'}: one(api.AcReport, p1, 0),
		{0, "", 's'}: one(api.AcSave, 0, 0), {0, "", 'u'}: one(api.AcRestore, 0, 0),
		{0, " ", 'q'}: one(api.AcShape, p1, 0),
		{0, "!", 'p'}: one(api.AcReset, 0, 0),
		{0, "$", 'p'}: one(api.AcAskMode, p1, 0), {'?', "$", 'p'}: one(api.AcAskMode, p1, 1),
	}
	// With another parameter these two ask for nothing.
	if p1 == 0 {
		all[sequence{0, "", 'c'}] = one(api.AcAsk, 0, 0)
		all[sequence{'>', "", 'c'}] = one(api.AcAsk, 1, 0)
	}
	return all
}

// modes returns an action of the mode that each parameter of l names. No parameters name the mode 0.
func modes(l []api.Param, kind, m int) (all []api.Action) {
	for i := range max(len(l), 1) {
		all = append(all, plain(kind, param.Value(l, i, 0), m))
	}
	return all
}
