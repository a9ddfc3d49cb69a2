package emit

import (
	"fenestra/api"
	"fenestra/osc"
	"fenestra/utf"
)

// encoder returns the bytes of a valid action of one kind.
type encoder func(a api.Action) string

// encoders returns, by kind, what encodes actions; pens are not among them, since those share sequences.
func encoders() map[int]encoder {
	return map[int]encoder{
		api.AcPrint:       func(a api.Action) string { return utf.Put(a.N) },
		api.AcBell:        always("\a"),
		api.AcBack:        always("\b"),
		api.AcTab:         always("\t"),
		api.AcFeed:        always("\n"),
		api.AcReturn:      always("\r"),
		api.AcLock:        either("\x0f", "\x0e"),
		api.AcIndex:       always(esc + "D"),
		api.AcNext:        always(esc + "E"),
		api.AcSetTab:      always(esc + "H"),
		api.AcReverse:     always(esc + "M"),
		api.AcSave:        always(esc + "7"),
		api.AcRestore:     always(esc + "8"),
		api.AcKeypad:      either(esc+">", esc+"="),
		api.AcReset:       always(esc + "c"),
		api.AcAlign:       always(esc + "#8"),
		api.AcSet:         func(a api.Action) string { return esc + letter("()*+", a.N) + letter("B0", a.M) },
		api.AcSingle:      func(a api.Action) string { return esc + letter("NO", a.N-2) },
		api.AcCursor:      func(a api.Action) string { return control("", "H", count(a.N), count(a.M)) },
		api.AcMove:        directed("ABCD"),
		api.AcLine:        directed("EF"),
		api.AcColumn:      counted("G"),
		api.AcRow:         counted("d"),
		api.AcTabs:        counted("I"),
		api.AcBackTabs:    counted("Z"),
		api.AcErase:       chosen("J"),
		api.AcEraseLine:   chosen("K"),
		api.AcInsert:      counted("@"),
		api.AcDelete:      counted("P"),
		api.AcBlank:       counted("X"),
		api.AcInsertLines: counted("L"),
		api.AcDeleteLines: counted("M"),
		api.AcScroll:      directed("ST"),
		api.AcRepeat:      counted("b"),
		api.AcClearTab:    chosen("g"),
		api.AcMode:        switched(""),
		api.AcDec:         switched("?"),
		api.AcMargins:     func(a api.Action) string { return control("", "r", choice(a.N), choice(a.M)) },
		api.AcShape:       chosen(" q"),
		api.AcReport:      func(a api.Action) string { return control("", "n", a.N) },
		api.AcAsk:         either(csi+"c", csi+">c"),
		api.AcAskMode:     func(a api.Action) string { return control([]string{"", "?"}[a.M], "$p", a.N) },
		api.AcTitle:       written,
		api.AcPalette:     written,
		api.AcClip:        written,
	}
}

// always returns the encoder of actions that all have the same bytes.
func always(text string) encoder { return func(api.Action) string { return text } }

// either returns the encoder of actions whose N, 0 or 1, tells which bytes they have.
func either(texts ...string) encoder { return func(a api.Action) string { return texts[a.N] } }

// counted returns the encoder of actions with a count.
func counted(end string) encoder {
	return func(a api.Action) string { return control("", end, count(a.N)) }
}

// directed returns the encoder of actions with a direction, which selects one of the final bytes, and a count.
func directed(finals string) encoder {
	return func(a api.Action) string { return control("", letter(finals, a.N), count(a.M)) }
}

// chosen returns the encoder of actions with a choice.
func chosen(end string) encoder {
	return func(a api.Action) string { return control("", end, choice(a.N)) }
}

// switched returns the encoder of actions that switch a mode on or off.
func switched(private string) encoder {
	return func(a api.Action) string { return control(private, letter("lh", a.M), a.N) }
}

// written encodes an action that has a text.
func written(a api.Action) string {
	text, _ := osc.Print(a)
	return open + text + shut
}

// letter returns the letter of letters with the index i.
func letter(letters string, i int) string { return letters[i : i+1] }
