package state_test

import (
	"math"
	"math/rand"
	"slices"
	"strings"
	"testing"

	"fenestra/api"
	"fenestra/param"
	"fenestra/state"
)

func TestLimits(t *testing.T) { // the numbers that the tests write out are those of api and of the chapter
	if api.MaxText != 512 || api.MaxInter != 2 || api.MaxParams != 16 || api.MaxSubs != 6 || api.MaxBatch != 4096 || api.ErrLong != 3 || api.ErrParse != 160 {
		t.Error("limits or errors differ")
	}
	states := []int{state.Ground, state.Escape, state.Signs, state.Entry, state.Params, state.Inters, state.Osc, state.OscEsc, state.DcsEntry, state.DcsParams, state.DcsInters, state.Dcs, state.DcsEsc, state.Away, state.AwayEsc, state.States}
	for i, n := range states {
		if i != n {
			t.Errorf("state %d has the number %d", i, n)
		}
	}
}

func TestCheck(t *testing.T) { // P6.1, every state with each of its fields at its limits
	for _, p := range someValid() {
		if got := state.Check(p); got != api.OK {
			t.Errorf("Check(%+v) = %d", p, got)
		}
	}
}

func TestCheckWrong(t *testing.T) { // P6.1, every state with each field wrong, missing, or where it has no place
	for _, p := range someWrong() {
		if got := state.Check(p); got != api.ErrParse {
			t.Errorf("Check(%+v) = %d", p, got)
		}
	}
}

func TestCheckTable(t *testing.T) { // P6.1, the rows of the table and the sentences below it, one by one
	l := []api.Param{one(1)}
	for _, x := range []struct {
		p    api.Parse
		want api.Errno
	}{
		{api.Parse{}, api.OK},
		{api.Parse{Utf: []byte{0xC3}}, api.OK},
		{api.Parse{Utf: []byte{0xC3, 0xA9}}, api.ErrParse},
		{api.Parse{Utf: []byte("a")}, api.ErrParse},
		{api.Parse{Bad: true}, api.ErrParse},
		{api.Parse{Text: "t"}, api.ErrParse},
		{api.Parse{State: state.Escape}, api.OK},
		{api.Parse{State: state.Escape, Utf: []byte{0xC3}}, api.ErrParse},
		{api.Parse{State: state.Escape, Inter: "("}, api.ErrParse},
		{api.Parse{State: state.Escape, Bad: true}, api.ErrParse},
		{api.Parse{State: state.Signs}, api.ErrParse},
		{api.Parse{State: state.Signs, Inter: "("}, api.OK},
		{api.Parse{State: state.Signs, Inter: "(#"}, api.OK},
		{api.Parse{State: state.Signs, Inter: "(#!"}, api.ErrParse},
		{api.Parse{State: state.Signs, Bad: true}, api.OK},
		{api.Parse{State: state.Signs, Inter: "(", Bad: true}, api.ErrParse},
		{api.Parse{State: state.Entry}, api.OK},
		{api.Parse{State: state.Entry, Private: '?'}, api.ErrParse},
		{api.Parse{State: state.Entry, Params: l}, api.ErrParse},
		{api.Parse{State: state.Entry, Bad: true}, api.ErrParse},
		{api.Parse{State: state.Params}, api.ErrParse},
		{api.Parse{State: state.Params, Params: []api.Param{}}, api.ErrParse},
		{api.Parse{State: state.Params, Private: '?'}, api.OK},
		{api.Parse{State: state.Params, Params: l}, api.OK},
		{api.Parse{State: state.Params, Private: '?', Params: l}, api.OK},
		{api.Parse{State: state.Params, Private: '?', Params: []api.Param{one(-1)}}, api.ErrParse},
		{api.Parse{State: state.Params, Params: l, Inter: "!"}, api.ErrParse},
		{api.Parse{State: state.Params, Bad: true}, api.OK},
		{api.Parse{State: state.Params, Params: l, Bad: true}, api.ErrParse},
		{api.Parse{State: state.Params, Private: '?', Bad: true}, api.ErrParse},
		{api.Parse{State: state.Inters}, api.ErrParse},
		{api.Parse{State: state.Inters, Private: '?', Params: l}, api.ErrParse},
		{api.Parse{State: state.Inters, Inter: "!"}, api.OK},
		{api.Parse{State: state.Inters, Inter: "!", Private: '?'}, api.OK},
		{api.Parse{State: state.Inters, Inter: "!", Params: l}, api.OK},
		{api.Parse{State: state.Inters, Inter: "!", Final: 'm'}, api.ErrParse},
		{api.Parse{State: state.Inters, Bad: true}, api.OK},
		{api.Parse{State: state.Osc}, api.OK},
		{api.Parse{State: state.Osc, Text: "t\xFF"}, api.OK},
		{api.Parse{State: state.Osc, Text: "t\x07"}, api.ErrParse},
		{api.Parse{State: state.Osc, Text: strings.Repeat("t", 512)}, api.OK},
		{api.Parse{State: state.Osc, Text: strings.Repeat("t", 513)}, api.ErrParse},
		{api.Parse{State: state.Osc, Final: 'm'}, api.ErrParse},
		{api.Parse{State: state.OscEsc, Text: "t", Bad: true}, api.ErrParse},
		{api.Parse{State: state.OscEsc, Bad: true}, api.OK},
		{api.Parse{State: state.DcsEntry}, api.OK},
		{api.Parse{State: state.DcsEntry, Private: '?'}, api.ErrParse},
		{api.Parse{State: state.DcsEntry, Bad: true}, api.ErrParse},
		{api.Parse{State: state.DcsParams}, api.ErrParse},
		{api.Parse{State: state.DcsParams, Private: '>'}, api.OK},
		{api.Parse{State: state.DcsInters, Inter: "$"}, api.OK},
		{api.Parse{State: state.DcsInters, Private: '>'}, api.ErrParse},
		{api.Parse{State: state.Dcs}, api.ErrParse},
		{api.Parse{State: state.Dcs, Final: 'q'}, api.OK},
		{api.Parse{State: state.Dcs, Final: 'q', Private: '?', Params: l, Inter: "$!", Text: "t"}, api.OK},
		{api.Parse{State: state.Dcs, Final: 'q', Private: '0'}, api.ErrParse},
		{api.Parse{State: state.Dcs, Private: '?', Params: l, Inter: "$", Text: "t"}, api.ErrParse},
		{api.Parse{State: state.Dcs, Final: '?'}, api.ErrParse},
		{api.Parse{State: state.Dcs, Final: 0x7F}, api.ErrParse},
		{api.Parse{State: state.Dcs, Bad: true}, api.OK},
		{api.Parse{State: state.Dcs, Final: 'q', Bad: true}, api.ErrParse},
		{api.Parse{State: state.DcsEsc, Final: '~'}, api.OK},
		{api.Parse{State: state.DcsEsc, Bad: true}, api.OK},
		{api.Parse{State: state.Away}, api.OK},
		{api.Parse{State: state.Away, Text: "t"}, api.ErrParse},
		{api.Parse{State: state.Away, Bad: true}, api.ErrParse},
		{api.Parse{State: state.AwayEsc}, api.OK},
		{api.Parse{State: state.AwayEsc, Bad: true}, api.ErrParse},
		{api.Parse{State: state.States}, api.ErrParse},
		{api.Parse{State: -1}, api.ErrParse},
	} {
		if got := state.Check(x.p); got != x.want {
			t.Errorf("Check(%+v) = %d, not %d", x.p, got, x.want)
		}
	}
}

func TestCheckBytes(t *testing.T) { // P6.1, every byte in every field
	for b := range 256 {
		c := byte(b)
		s := string([]byte{c})
		for n := range 15 {
			for _, p := range []api.Parse{
				{State: n, Utf: []byte{c}},
				{State: n, Private: c},
				{State: n, Private: c, Inter: "!", Final: 'q'},
				{State: n, Private: c, Inter: "!"},
				{State: n, Final: c},
				{State: n, Inter: s},
				{State: n, Inter: s + "!"},
				{State: n, Inter: "!" + s},
				{State: n, Inter: "!" + s, Final: 'q'},
				{State: n, Text: s},
				{State: n, Text: "a" + s + "b", Final: 'q'},
			} {
				want := api.ErrParse
				if okay(p, len(p.Utf) == 0 || in(c, 0xC2, 0xF4), true) {
					want = api.OK
				}
				if got := state.Check(p); got != want {
					t.Errorf("Check(%+v) = %d, not %d", p, got, want)
				}
			}
		}
	}
}

func TestCheckProduct(t *testing.T) { // P6.1, right and wrong values of all fields together
	r := rand.New(rand.NewSource(61))
	utfs := append(append(slices.Repeat([]string{""}, 80), prefixes...), noPrefixes[:4]...)
	someInters := append(append(slices.Repeat([]string{""}, 12), inters...), noInters[:4]...)
	someTexts := append(append(slices.Repeat([]string{""}, 20), texts...), noTexts[:4]...)
	somePrivates := append(append(make([]byte, 6), privates...), noPrivates[:3]...)
	someFinals := append(append(make([]byte, 6), finals...), noFinals[:3]...)
	someLists := append(append(make([][]api.Param, 12), lists()...), noLists()[:4]...)
	found := map[bool]int{}
	for range 300000 {
		p := api.Parse{
			State:   r.Intn(17) - 1,
			Utf:     []byte(utfs[r.Intn(len(utfs))]),
			Private: somePrivates[r.Intn(len(somePrivates))],
			Final:   someFinals[r.Intn(len(someFinals))],
			Params:  someLists[r.Intn(len(someLists))],
			Inter:   someInters[r.Intn(len(someInters))],
			Text:    someTexts[r.Intn(len(someTexts))],
			Bad:     r.Intn(8) == 0,
		}
		want := okay(p, rightUtf(p.Utf), param.Check(p.Params) == api.OK)
		found[want]++
		if got := state.Check(p); (got == api.OK) != want || got != api.OK && got != api.ErrParse {
			t.Fatalf("Check(%+v) = %d", p, got)
		}
	}
	if found[true] < 10000 || found[false] < 10000 {
		t.Errorf("the test has made %d valid parses and %d others", found[true], found[false])
	}
}

func TestSame(t *testing.T) { // P6.1, arbitrary parses, of which one field differs
	base := api.Parse{State: 99, Utf: []byte("ab"), Private: 1, Final: 2, Params: []api.Param{one(1, 2), {}, one(10000)}, Inter: "abc", Text: "\x00", Bad: true}
	all := []api.Parse{
		{}, base,
		{State: 99}, {State: -99}, {State: 99 + 1<<32}, {State: math.MinInt},
		{Utf: []byte("ab")}, {Utf: []byte("a")}, {Utf: []byte("ba")}, {Utf: []byte{0}},
		{Private: 1}, {Private: 2}, {Private: 0xFF}, {Final: 1}, {Final: 2},
		{Params: base.Params}, {Params: base.Params[:2]}, {Params: []api.Param{one(1), one(2)}}, {Params: []api.Param{one(1, 2)}}, {Params: []api.Param{one(-1)}}, {Params: []api.Param{{}}},
		{Inter: "abc"}, {Inter: "ab"}, {Inter: "abd"}, {Text: "abc"}, {Text: "\x00"}, {Text: " "},
		{Bad: true},
	}
	for i := range 8 {
		p := base
		switch i {
		case 0:
			p.State = 98
		case 1:
			p.Utf = []byte("ac")
		case 2:
			p.Private = 3
		case 3:
			p.Final = 3
		case 4:
			p.Params = []api.Param{one(1, 2), {}, one(10001)}
		case 5:
			p.Inter = "abC"
		case 6:
			p.Text = "\x01"
		case 7:
			p.Bad = false
		}
		all = append(all, p)
	}
	for i, a := range all {
		for j, b := range all {
			b.Utf = slices.Clone(b.Utf)
			b.Params = copied(b.Params)
			if got := state.Same(a, b); got != (i == j) {
				t.Errorf("Same(%+v, %+v) = %t", a, b, got)
			}
		}
	}
	valid := someValid()[2:]
	for i, a := range valid {
		for j := max(0, i-40); j < min(len(valid), i+40); j++ {
			if got := state.Same(a, valid[j]); got != equal(a, valid[j]) {
				t.Errorf("Same(%+v, %+v) = %t", a, valid[j], got)
			}
		}
	}
}

func TestAlike(t *testing.T) { // P6.1, arbitrary events, of which one field differs
	base := api.Event{Kind: 99, Code: -5, Private: 1, Final: 2, Params: []api.Param{one(1, 2), {}, one(10000)}, Inter: "abc", Text: "\x00"}
	all := []api.Event{
		{}, base,
		{Kind: 99}, {Kind: -99}, {Kind: 99 + 1<<32}, {Kind: math.MaxInt},
		{Code: -5}, {Code: 5}, {Code: 99}, {Code: 99 + 1<<32}, {Code: math.MinInt},
		{Private: 1}, {Private: 2}, {Private: 0xFF}, {Final: 1}, {Final: 2},
		{Params: base.Params}, {Params: base.Params[:2]}, {Params: []api.Param{one(1), one(2)}}, {Params: []api.Param{one(1, 2)}}, {Params: []api.Param{one(-1)}}, {Params: []api.Param{{}}},
		{Inter: "abc"}, {Inter: "ab"}, {Inter: "abd"}, {Text: "abc"}, {Text: "\x00"}, {Text: " "},
	}
	for i := range 7 {
		e := base
		switch i {
		case 0:
			e.Kind = 98
		case 1:
			e.Code = -6
		case 2:
			e.Private = 3
		case 3:
			e.Final = 3
		case 4:
			e.Params = []api.Param{one(1, 2), {}, one(10001)}
		case 5:
			e.Inter = "abC"
		case 6:
			e.Text = "\x01"
		}
		all = append(all, e)
	}
	for i, a := range all {
		for j, b := range all {
			b.Params = copied(b.Params)
			if got := state.Alike(a, b); got != (i == j) {
				t.Errorf("Alike(%+v, %+v) = %t", a, b, got)
			}
		}
	}
}

func TestSameEmpty(t *testing.T) { // P6.1 and R4, a nil slice equals an empty one
	empty := api.Parse{Utf: []byte{}, Params: []api.Param{}}
	hollow := []api.Param{{Subs: []int{}}}
	if !state.Same(empty, api.Parse{}) || !state.Same(api.Parse{}, empty) || !state.Same(empty, empty) {
		t.Error("an empty parse is not the zero one")
	}
	if !state.Same(api.Parse{Params: hollow}, api.Parse{Params: []api.Param{{}}}) || state.Same(api.Parse{Params: hollow}, empty) {
		t.Error("parameters without parts are compared wrongly in parses")
	}
	if !state.Alike(api.Event{Params: []api.Param{}}, api.Event{}) || !state.Alike(api.Event{}, api.Event{Params: []api.Param{}}) {
		t.Error("an empty event is not the zero one")
	}
	if !state.Alike(api.Event{Params: hollow}, api.Event{Params: []api.Param{{}}}) || state.Alike(api.Event{Params: hollow}, api.Event{}) {
		t.Error("parameters without parts are compared wrongly in events")
	}
}
