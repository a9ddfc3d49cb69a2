package action_test

import (
	"slices"
	"strconv"
	"strings"

	"fenestra/api"
	"fenestra/osc"
	"fenestra/sgr"
)

// eventRow is a row of eventRows for one code or one final byte: what is at its end are its actions, with i replaced.
type eventRow struct {
	kind, code     int
	private, final byte
	inter          string
	act            []string
}

// rowsByEnd are all rows, by their code or final byte.
var rowsByEnd = readRows()

func readRows() map[int][]eventRow {
	all := map[int][]eventRow{}
	for _, line := range strings.Split(strings.TrimSpace(eventRows), "\n") {
		f := strings.Fields(line)
		if f[0] == "control" {
			code, _ := strconv.Atoi(f[3])
			all[code] = append(all[code], eventRow{kind: api.EvControl, code: code, act: f[4:]})
			continue
		}
		r := eventRow{kind: map[string]int{"esc": api.EvEsc, "csi": api.EvCsi}[f[0]]}
		if f[1] != "~" {
			r.private = f[1][0]
		}
		r.inter = strings.NewReplacer("~", "", "_", " ").Replace(f[2])
		// The one final byte that the table can't show in its own form is the grave accent.
		for i, final := range []byte(strings.Replace(f[3], "~", "\x60", 1)) {
			r.final = final
			r.act = slices.Clone(f[4:])
			for j := range r.act {
				if r.act[j] == "i" {
					r.act[j] = strconv.Itoa(i)
				}
			}
			all[int(final)] = append(all[int(final)], r)
		}
	}
	return all
}

// matches tells whether the row is that of e.
func (r eventRow) matches(e api.Event) bool {
	switch {
	case r.kind != e.Kind:
		return false
	case r.kind == api.EvControl:
		return r.code == e.Code
	case r.kind == api.EvEsc:
		return r.final == e.Final && r.inter == e.Inter
	}
	return r.final == e.Final && r.inter == e.Inter && r.private == e.Private
}

// valueAt returns the first number of the parameter i, or 0.
func valueAt(l []api.Param, i int) int {
	if i >= len(l) || l[i].Subs[0] == -1 {
		return 0
	}
	return l[i].Subs[0]
}

// numberOf returns the number that a word of a row stands for.
func numberOf(word string, l []api.Param) int {
	if word[0] != 'p' && word[0] != 'c' {
		n, _ := strconv.Atoi(word)
		return n
	}
	n := valueAt(l, int(word[1]-'1'))
	if word[0] == 'c' && n == 0 {
		return 1
	}
	return n
}

// actions returns what the row makes of valid parameters, whether it is valid or not.
func (r eventRow) actions(l []api.Param) (all []api.Action) {
	kind := kinds[r.act[0]]
	words := r.act[1:]
	switch {
	case len(words) > 0 && words[0] == "asked":
		if valueAt(l, 0) == 0 {
			all = append(all, act(kind, numberOf(words[1], l)))
		}
	case len(words) > 0 && words[0] == "v":
		all = append(all, act(kind, valueAt(l, 0), numberOf(words[1], l)))
		for i := 1; i < len(l); i++ {
			all = append(all, act(kind, valueAt(l, i), numberOf(words[1], l)))
		}
	default:
		var n []int
		for _, word := range words {
			n = append(n, numberOf(word, l))
		}
		all = append(all, act(kind, n...))
	}
	return all
}

// wanted returns the actions of the valid event e.
func wanted(e api.Event) (all []api.Action) {
	end := int(e.Final)
	switch {
	case e.Kind == api.EvPrint:
		all = append(all, act(api.AcPrint, e.Code))
	case e.Kind == api.EvOsc:
		a, _ := osc.Parse(e.Text)
		all = append(all, a)
	case e.Kind == api.EvCsi && e.Final == 'm' && e.Private == 0 && e.Inter == "":
		all, _ = sgr.Pens(e.Params)
	case e.Kind == api.EvControl:
		end = e.Code
	}
	for _, r := range rowsByEnd[end] {
		if r.matches(e) {
			all = append(all, r.actions(e.Params)...)
		}
	}
	return slices.DeleteFunc(all, func(a api.Action) bool { return !allowed(a) })
}
