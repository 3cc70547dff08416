package tests

import (
	"math"
	"slices"
	"testing"

	"loop.example/g03016/impl"
)

func TestLimitsOfPlans(t *testing.T) {
	got := []int{
		impl.MaxSlots, impl.MaxActions, impl.MaxDepth, impl.MaxPlan,
		impl.PlanMake, impl.PlanWrap, impl.PlanUnwrap, impl.PlanCopy, impl.PlanDrop, impl.PlanAsk, impl.PlanCall, impl.PlanIf, impl.PlanLoop, impl.PlanTry,
		impl.EndOK, impl.EndAssert, impl.EndEmpty, impl.EndBad,
	}
	if !slices.Equal(got, []int{3, 14, 3, 600, 1, 2, 3, 4, 5, 6, 7, 8, 9, 10, 0, 1, 2, 3}) {
		t.Error(got)
	}
}

// drops are as many actions, of which each is told from the others by its Other, where they are not valid for it.
func drops(size int) []impl.Action {
	l := []impl.Action{}
	for i := range size {
		l = append(l, impl.Action{Op: impl.PlanDrop, Other: i})
	}
	return l
}

func loopOf(l ...impl.Action) impl.Action {
	return impl.Action{Op: impl.PlanLoop, A: l}
}

func ifOf(a, b []impl.Action) impl.Action {
	return impl.Action{Op: impl.PlanIf, A: a, B: b}
}

func tryOf(a, b []impl.Action) impl.Action {
	return impl.Action{Op: impl.PlanTry, A: a, B: b}
}

// checkSize holds size, depth and all places of a list against the model.
func checkSize(t *testing.T, l []impl.Action) {
	t.Helper()
	all := allActions(l)
	if size, depth := impl.PlanSize(l), impl.PlanDepth(l); size != len(all) || depth != depthOfPlan(l) {
		t.Errorf("%s: size %d and depth %d, not %d and %d", brief(l), size, depth, len(all), depthOfPlan(l))
	}
	for place, want := range all {
		if got, ok := impl.ActionAt(l, place); !ok || !sameAction(got, want) {
			t.Errorf("%s: in place %d is %s, %t, not %s", brief(l), place, brief(got), ok, brief(want))
		}
	}
	for _, place := range []int{-1, -2, -len(all), len(all), len(all) + 1, math.MinInt, math.MaxInt} {
		if got, ok := impl.ActionAt(l, place); (ok || !sameAction(got, impl.Action{})) && (place < 0 || place >= len(all)) {
			t.Errorf("%s: in place %d is %s, %t", brief(l), place, brief(got), ok)
		}
	}
}

func TestSizesOfFixedPlans(t *testing.T) {
	for _, c := range []struct {
		text        string
		size, depth int
	}{
		{"nothing", 0, 0},
		{"drop 0", 1, 1},
		{"drop 0; drop 1; drop 2", 3, 1},
		{"loop { }", 1, 1},
		{"if { } else { }", 1, 1},
		{"try { } else { }; loop { }", 2, 1},
		{"loop { drop 0 }", 2, 2},
		{"if { } else { drop 0 }", 2, 2},
		{"try { drop 0 } else { }; drop 1", 3, 2},
		{"if { drop 0 } else { drop 1; drop 2 }", 4, 2},
		{"if { loop { } } else { try { } else { drop 2 } }", 4, 3},
		{"drop 0; loop { if { drop 0 } else { drop 1 }; drop 2 }; drop 1", 7, 3},
		{"make 0 drawer; if { wrap 0 counts } else { }; try { ask 0 tell } else { make 1 lamp }; loop { wrap 0 keeps }; call 0 Put k 3", 9, 2},
	} {
		l := planOf(t, c.text)
		if size, depth := impl.PlanSize(l), impl.PlanDepth(l); size != c.size || depth != c.depth {
			t.Errorf("%q: size %d, depth %d", c.text, size, depth)
		}
		checkSize(t, l)
	}
}

func TestPlacesOfFixedActions(t *testing.T) {
	l := planOf(t, "make 0 lamp; if { drop 0; loop { drop 1 }; ask 0 run } else { drop 2; copy 0 from 1 }; try { ask 1 run } else { }; unwrap 2")
	texts := []string{
		"make 0 lamp", "if { drop 0; loop { drop 1 }; ask 0 run } else { drop 2; copy 0 from 1 }", "drop 0", "loop { drop 1 }", "drop 1", "ask 0 run", "drop 2", "copy 0 from 1",
		"try { ask 1 run } else { }", "ask 1 run", "unwrap 2",
	}
	for place, text := range texts {
		a, ok := impl.ActionAt(l, place)
		if !ok || textOfAction(a) != text {
			t.Errorf("in place %d is %s, %t, not %q", place, brief(a), ok, text)
		}
	}
	for _, place := range []int{-1, len(texts), len(texts) + 1, math.MinInt, math.MaxInt} {
		if a, ok := impl.ActionAt(l, place); ok || !sameAction(a, impl.Action{}) {
			t.Errorf("in place %d is %s, %t", place, brief(a), ok)
		}
	}
	for _, none := range [][]impl.Action{nil, {}} {
		for _, place := range []int{0, 1, -1, math.MinInt, math.MaxInt} {
			if a, ok := impl.ActionAt(none, place); ok || !sameAction(a, impl.Action{}) {
				t.Errorf("in place %d of nothing is %s, %t", place, brief(a), ok)
			}
		}
		checkSize(t, none)
	}
}

// All actions are counted, valid or not: those in A and B of an Op that names none, too.
func TestSizesOfPlansThatAreNotValid(t *testing.T) {
	call := impl.Call{Method: "Fly", Key: "?", Value: -1, Text: "x"}
	for _, l := range [][]impl.Action{
		{{}},
		{{Op: -1, Slot: -1, Other: 99, Word: "none", Call: call, Face: -1}},
		{{A: drops(2), B: drops(3)}, {Op: impl.PlanLoop, B: drops(1)}},
		{{Op: impl.PlanMake, A: drops(1)}, {Op: 99, B: []impl.Action{{A: drops(4)}}}},
		{loopOf(loopOf(loopOf(loopOf(drops(1)...))), drops(3)[2])},
		{ifOf([]impl.Action{ifOf([]impl.Action{ifOf(drops(2), drops(3))}, drops(1))}, []impl.Action{ifOf(drops(1), []impl.Action{ifOf(drops(2), drops(3))})})},
		{loopOf(drops(2)...), tryOf(drops(5), drops(6)), ifOf(drops(7), drops(8))},
		drops(15),
		drops(500),
		{ifOf(nil, []impl.Action{}), ifOf([]impl.Action{}, nil), loopOf()},
	} {
		checkSize(t, l)
	}
}

// The same list may lie in many actions: it is counted wherever it lies.
func TestSizesOfListsThatLieInSeveralActions(t *testing.T) {
	shared := drops(2)
	for range 5 {
		shared = []impl.Action{{Op: impl.PlanIf, A: shared, B: shared}, {Op: impl.PlanLoop, A: shared[:1]}}
		checkSize(t, shared)
	}
	doubled := drops(1)
	for range 40 {
		doubled = []impl.Action{ifOf(doubled, doubled)}
	}
	if size, depth := impl.PlanSize(doubled), impl.PlanDepth(doubled); size != 1<<41-1 || depth != 41 {
		t.Errorf("size %d and depth %d", size, depth)
	}
	if a, ok := impl.ActionAt(doubled, 40); !ok || !sameAction(a, drops(1)[0]) {
		t.Error(brief(a), ok)
	}
	for _, place := range []int{-1, 1<<41 - 1, math.MinInt, math.MaxInt} {
		if a, ok := impl.ActionAt(doubled, place); ok || !sameAction(a, impl.Action{}) {
			t.Errorf("in place %d is %s", place, brief(a))
		}
	}
	if impl.IsPlan(doubled) || impl.IsPlainPlan(doubled) || impl.FormatPlan(doubled) != "" {
		t.Error("a plan of very many actions is told to be one")
	}
}

func TestSizesOfVeryDeepPlans(t *testing.T) {
	const depth = 1 << 17
	inA, inB := drops(1), drops(1)
	for range depth - 1 {
		inA, inB = []impl.Action{loopOf(inA...)}, []impl.Action{{B: inB}}
	}
	for _, l := range [][]impl.Action{inA, inB} {
		if impl.PlanSize(l) != depth || impl.PlanDepth(l) != depth {
			t.Error(impl.PlanSize(l), impl.PlanDepth(l))
		}
		if a, ok := impl.ActionAt(l, depth-1); !ok || !sameAction(a, drops(1)[0]) {
			t.Error(brief(a), ok)
		}
		first, ok := impl.ActionAt(l, 0)
		if !ok || impl.PlanSize([]impl.Action{first}) != depth {
			t.Error(ok)
		}
		checkNoPlan(t, l)
	}
}

func TestSizesOfVeryLongPlans(t *testing.T) {
	l := drops(1 << 17)
	if impl.PlanSize(l) != 1<<17 || impl.PlanDepth(l) != 1 {
		t.Error(impl.PlanSize(l), impl.PlanDepth(l))
	}
	if a, ok := impl.ActionAt(l, 1<<17-1); !ok || a.Other != 1<<17-1 {
		t.Error(brief(a), ok)
	}
	checkNoPlan(t, l)
}

// endlessPlans lie in themselves. No number is their size, but each function returns.
func endlessPlans() [][]impl.Action {
	self := []impl.Action{{Op: impl.PlanLoop}}
	self[0].A = self
	inB := drops(3)
	inB[2] = impl.Action{Op: impl.PlanIf, B: inB}
	part := []impl.Action{{Op: impl.PlanDrop}, {Op: impl.PlanTry}}
	part[1].B = part[1:]
	both := []impl.Action{{Op: impl.PlanIf}}
	both[0].A, both[0].B = both, both
	// Two lists that lie in each other.
	one, two := []impl.Action{{Op: impl.PlanLoop}}, []impl.Action{{Op: impl.PlanLoop}}
	one[0].A, two[0].A = two, one
	return [][]impl.Action{self, inB, part, both, one, two, {loopOf(self...)}, {loopOf(drops(2)...), tryOf(nil, part)}}
}

func TestPlansThatLieInThemselves(t *testing.T) {
	for _, l := range endlessPlans() {
		if size, depth := impl.PlanSize(l), impl.PlanDepth(l); size != math.MaxInt || depth != math.MaxInt {
			t.Errorf("size %d, depth %d", size, depth)
		}
		for _, place := range []int{0, 1, 5, -1, math.MaxInt} {
			if a, ok := impl.ActionAt(l, place); ok || !sameAction(a, impl.Action{}) {
				t.Errorf("in place %d is one with the Op %d", place, a.Op)
			}
		}
		checkNoPlan(t, l)
	}
}

// checkNoPlan tells all that is told of a list that is no plan. The list may be too deep, or without an end, for the model.
func checkNoPlan(t *testing.T, l []impl.Action) {
	t.Helper()
	if impl.IsPlan(l) || impl.IsPlainPlan(l) {
		t.Error("a list that is no plan is told to be one")
	}
	if text := impl.FormatPlan(l); text != "" {
		t.Errorf("a list that is no plan is written as %q", text)
	}
	slots := slotsOf(t, "drawer counts||lamp")
	end, after, taken := impl.RunPlan(slots, l, []int{1, 2, 3})
	if end != (impl.End{Code: impl.EndBad}) || taken != 0 || !sameSlots(after, slots) {
		t.Errorf("a list that is no plan ends with %s, %s, %d taken", textOfEnd(end), textOfSlots(after), taken)
	}
}

// nested gives plans of all forms of up to size actions in which A and B are full or empty.
func nested(size int) [][]impl.Action {
	plans := [][]impl.Action{nil}
	if size == 0 {
		return plans
	}
	for first := range size {
		for _, inside := range nested(first) {
			for _, behind := range nested(size - 1 - first) {
				if len(allActions(inside)) != first {
					continue
				}
				plans = append(plans, append([]impl.Action{loopOf(inside...)}, behind...))
				plans = append(plans, append([]impl.Action{tryOf(nil, inside)}, behind...))
			}
		}
	}
	return plans
}

func TestSizesOfAllFormsOfPlans(t *testing.T) {
	plans := nested(6)
	for _, l := range plans {
		checkSize(t, l)
		if impl.IsPlan(l) != (depthOfPlan(l) <= 3) || impl.IsPlan(l) != isValidPlan(l) {
			t.Errorf("%q is a plan: %t", textOfPlan(l), impl.IsPlan(l))
		}
	}
	if len(plans) < 1000 {
		t.Error(len(plans))
	}
}

func TestActionsInPlacesAreCopies(t *testing.T) {
	text := "if { wrap 0 counts; loop { make 1 lamp; call 1 Load a=1 } } else { try { ask 0 run } else { drop 1 } }; copy 1 from 2"
	for place := range 9 {
		l := planOf(t, text)
		a, _ := impl.ActionAt(l, place)
		want := textOfAction(a)
		spoilActions([]impl.Action{a})
		if textOfPlan(l) != text {
			t.Fatalf("the argument has become %s", brief(l))
		}
		b, ok := impl.ActionAt(l, place)
		spoilActions(l)
		if !ok || textOfAction(b) != want {
			t.Errorf("in place %d is %s", place, brief(b))
		}
	}
}

// What lies in several actions of the argument lies in each of them alone in the result.
func TestListsInOneActionAreApart(t *testing.T) {
	shared := append(drops(2), spareAction)[:2]
	l := []impl.Action{ifOf(shared, shared), ifOf([]impl.Action{loopOf(shared...)}, shared[:1])}
	for _, c := range []struct {
		place       int
		spoilt, not func(a impl.Action) []impl.Action
	}{
		{0, func(a impl.Action) []impl.Action { return a.A }, func(a impl.Action) []impl.Action { return a.B }},
		{0, func(a impl.Action) []impl.Action { return a.B }, func(a impl.Action) []impl.Action { return a.A }},
		{5, func(a impl.Action) []impl.Action { return a.A[0].A }, func(a impl.Action) []impl.Action { return a.B }},
		{5, func(a impl.Action) []impl.Action { return a.B }, func(a impl.Action) []impl.Action { return a.A }},
	} {
		a, _ := impl.ActionAt(l, c.place)
		want := cloneActions(c.not(a))
		spoilActions(c.spoilt(a))
		if !sameActions(c.not(a), want) || len(want) == 0 {
			t.Errorf("in place %d: lists are shared: %s", c.place, brief(a))
		}
		if !sameActions(shared, drops(2)) || !sameAction(shared[:3][2], spareAction) {
			t.Fatalf("the argument has become %s", brief(shared[:3]))
		}
	}
}
