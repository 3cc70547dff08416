package tests

import (
	"math"
	"slices"
	"strings"
	"testing"

	"loop.example/g03016/impl"
)

// checkIsPlan also holds what the other functions tell of no plan.
func checkIsPlan(t *testing.T, l []impl.Action, want bool) {
	t.Helper()
	if got := impl.IsPlan(l); got != want || isValidPlan(l) != want {
		t.Errorf("IsPlan(%s) = %t, not %t", brief(l), got, want)
	}
	plain := want && !hasOp(l, 3, 10)
	if got := impl.IsPlainPlan(l); got != plain {
		t.Errorf("IsPlainPlan(%s) = %t", brief(l), got)
	}
	if text := impl.FormatPlan(l); (text != "") != want || want && text != textOfPlan(l) {
		t.Errorf("%s is written as %.200q", brief(l), text)
	}
	if !want {
		checkNoPlan(t, l)
	}
}

// eachOp has a valid action of each Op.
func eachOp() []impl.Action {
	return []impl.Action{
		{Op: 1, Slot: 1, Word: "vault"}, {Op: 2, Slot: 2, Word: "counts"}, {Op: 3, Slot: 1}, {Op: 4, Slot: 1, Other: 2}, {Op: 5, Slot: 2}, {Op: 6, Slot: 1, Face: 5},
		{Op: 7, Slot: 1, Call: impl.Call{Method: "Put", Key: "k", Value: 3}}, ifOf(drops(1)[:1], drops(1)), loopOf(drops(1)...), tryOf(drops(1), drops(1)),
	}
}

func TestPlansOfEachAction(t *testing.T) {
	for _, a := range eachOp() {
		checkIsPlan(t, []impl.Action{a}, true)
	}
	checkIsPlan(t, nil, true)
	checkIsPlan(t, []impl.Action{}, true)
	for slot := range 3 {
		for _, k := range kinds {
			checkIsPlan(t, []impl.Action{{Op: impl.PlanMake, Slot: slot, Word: k.name}}, true)
		}
		for _, a := range adapters {
			checkIsPlan(t, []impl.Action{{Op: impl.PlanWrap, Slot: slot, Word: a.name}}, true)
		}
		for face := range 64 {
			checkIsPlan(t, []impl.Action{{Op: impl.PlanAsk, Slot: slot, Face: face}}, true)
		}
		for other := range 3 {
			checkIsPlan(t, []impl.Action{{Op: impl.PlanCopy, Slot: slot, Other: other}}, slot != other)
		}
		for _, op := range []int{impl.PlanUnwrap, impl.PlanDrop} {
			checkIsPlan(t, []impl.Action{{Op: op, Slot: slot, A: []impl.Action{}, B: []impl.Action{}}}, true)
		}
		for _, method := range allMethods {
			for _, x := range callsOf(method) {
				_, cells := cellsOfText(x.Text)
				checkIsPlan(t, []impl.Action{{Op: impl.PlanCall, Slot: slot, Call: x}}, cells || x.Text == "")
			}
		}
	}
	for _, l := range [][]impl.Action{nil, {}, eachOp()[:5]} {
		checkIsPlan(t, []impl.Action{ifOf(l, nil), ifOf(nil, l)}, true)
		checkIsPlan(t, []impl.Action{tryOf(l, []impl.Action{}), tryOf(nil, l)}, true)
		checkIsPlan(t, []impl.Action{loopOf(l...)}, true)
	}
}

// invalidActions are wrong in one field each.
func invalidActions() []impl.Action {
	l := []impl.Action{{}, {Word: "lamp"}, {A: drops(1)}, {Face: 1}}
	change := func(a impl.Action, changes ...func(a *impl.Action)) {
		for _, c := range changes {
			b := a
			c(&b)
			l = append(l, b)
		}
	}
	for _, a := range eachOp() {
		for _, op := range []int{0, 11, 12, -1, -6, 1<<32 + a.Op, math.MinInt, math.MaxInt} {
			change(a, func(a *impl.Action) { a.Op = op })
		}
		for _, slot := range []int{-1, 3, 4, 1 << 32, math.MinInt, math.MaxInt} {
			change(a, func(a *impl.Action) { a.Slot = slot }, func(a *impl.Action) { a.Other = slot })
		}
		named := strings.Fields(fieldsOfOp[a.Op])
		for field, c := range map[string]func(a *impl.Action){
			"Slot": func(a *impl.Action) { a.Slot = 1 }, "Other": func(a *impl.Action) { a.Other = 1 }, "Word": func(a *impl.Action) { a.Word = "lamp" }, "Face": func(a *impl.Action) { a.Face = 1 },
			"Call": func(a *impl.Action) { a.Call = impl.Call{Method: "Start"} }, "A": func(a *impl.Action) { a.A = drops(1) }, "B": func(a *impl.Action) { a.B = drops(1) },
		} {
			if !slices.Contains(named, field) {
				change(a, c)
			}
		}
		if !slices.Contains(named, "Word") {
			change(a, func(a *impl.Action) { a.Word = " " }, func(a *impl.Action) { a.Word = "plain" }, func(a *impl.Action) { a.Word = "none" })
		}
		if !slices.Contains(named, "Face") {
			change(a, func(a *impl.Action) { a.Face = 63 }, func(a *impl.Action) { a.Face = -1 })
		}
		if a.Op != impl.PlanCall {
			change(a, func(a *impl.Action) { a.Call.Key = "k" }, func(a *impl.Action) { a.Call.Value = 1 }, func(a *impl.Action) { a.Call.Text = "-" }, func(a *impl.Action) { a.Call.Method = " " })
		}
	}
	return append(l, invalidInNamedFields()...)
}

func invalidInNamedFields() []impl.Action {
	l := []impl.Action{}
	for slot := range 3 {
		l = append(l, impl.Action{Op: impl.PlanCopy, Slot: slot, Other: slot})
		for _, word := range append(notKinds, adapterNames()...) {
			l = append(l, impl.Action{Op: impl.PlanMake, Slot: slot, Word: word})
		}
		for _, word := range append(notAdapters, "stone", "lamp", "shelf", "meter", "drawer", "horn", "vault", "robot") {
			l = append(l, impl.Action{Op: impl.PlanWrap, Slot: slot, Word: word})
		}
		for _, face := range notFaces {
			l = append(l, impl.Action{Op: impl.PlanAsk, Slot: slot, Face: face})
		}
		for _, x := range notCalls() {
			l = append(l, impl.Action{Op: impl.PlanCall, Slot: slot, Call: x})
		}
		for _, text := range loadTexts {
			if _, ok := cellsOfText(text); !ok && text != "" {
				l = append(l, impl.Action{Op: impl.PlanCall, Slot: slot, Call: impl.Call{Method: "Load", Text: text}})
			}
		}
	}
	return l
}

func TestActionsThatAreNotValid(t *testing.T) {
	all := invalidActions()
	if len(all) < 600 {
		t.Error(len(all))
	}
	for i, a := range all {
		checkIsPlan(t, []impl.Action{a}, false)
		switch i % 8 {
		case 0:
			checkIsPlan(t, []impl.Action{drops(1)[0], a, drops(1)[0]}, false)
		case 1:
			checkIsPlan(t, []impl.Action{loopOf(a)}, false)
		case 2:
			checkIsPlan(t, []impl.Action{ifOf([]impl.Action{a}, nil)}, false)
		case 3:
			checkIsPlan(t, []impl.Action{ifOf(nil, []impl.Action{a}), drops(1)[0]}, false)
		case 4:
			checkIsPlan(t, []impl.Action{tryOf([]impl.Action{a}, drops(1))}, false)
		case 5:
			checkIsPlan(t, []impl.Action{tryOf(drops(1), []impl.Action{a})}, false)
		case 6:
			checkIsPlan(t, []impl.Action{tryOf(nil, []impl.Action{loopOf(drops(1)[0], a)})}, false)
		case 7:
			checkIsPlan(t, []impl.Action{loopOf(), ifOf([]impl.Action{tryOf(nil, []impl.Action{a})}, nil)}, false)
		}
	}
}

// manyDrops are as many actions that are valid.
func manyDrops(size int) []impl.Action {
	return slices.Repeat(drops(1), size)
}

func TestPlansAtTheLimitOfTheirSize(t *testing.T) {
	for size := range 30 {
		checkIsPlan(t, manyDrops(size), size <= 14)
		if size == 0 {
			continue
		}
		checkIsPlan(t, []impl.Action{loopOf(manyDrops(size - 1)...)}, size <= 14)
		for inA := range size {
			a, b := manyDrops(inA), manyDrops(size-1-inA)
			checkIsPlan(t, []impl.Action{ifOf(a, b)}, size <= 14)
			checkIsPlan(t, []impl.Action{tryOf(a, b)}, size <= 14)
			checkIsPlan(t, append([]impl.Action{loopOf(a...)}, b...), size <= 14)
			checkIsPlan(t, append(b, tryOf(nil, a)), size <= 14)
		}
	}
	checkIsPlan(t, []impl.Action{loopOf(loopOf(manyDrops(12)...))}, true)
	checkIsPlan(t, []impl.Action{loopOf(loopOf(manyDrops(13)...))}, false)
	checkIsPlan(t, []impl.Action{ifOf([]impl.Action{tryOf(manyDrops(4), manyDrops(4))}, []impl.Action{loopOf(manyDrops(3)...)})}, true)
	checkIsPlan(t, []impl.Action{ifOf([]impl.Action{tryOf(manyDrops(4), manyDrops(4))}, []impl.Action{loopOf(manyDrops(4)...)})}, false)
	checkIsPlan(t, []impl.Action{ifOf([]impl.Action{tryOf(manyDrops(4), manyDrops(5))}, []impl.Action{loopOf(manyDrops(3)...)})}, false)
	checkIsPlan(t, slices.Repeat([]impl.Action{loopOf()}, 14), true)
	checkIsPlan(t, slices.Repeat([]impl.Action{loopOf()}, 15), false)
}

func TestPlansAtTheLimitOfTheirDepth(t *testing.T) {
	for _, inside := range [][]impl.Action{nil, drops(1), {loopOf()}} {
		wraps := []func(l []impl.Action) []impl.Action{
			func(l []impl.Action) []impl.Action { return []impl.Action{loopOf(l...)} },
			func(l []impl.Action) []impl.Action { return []impl.Action{ifOf(l, nil)} },
			func(l []impl.Action) []impl.Action { return []impl.Action{drops(1)[0], ifOf(nil, l)} },
			func(l []impl.Action) []impl.Action { return []impl.Action{tryOf(l, drops(1))} },
			func(l []impl.Action) []impl.Action { return []impl.Action{tryOf(drops(1), l), loopOf()} },
		}
		level := [][]impl.Action{inside}
		for range 3 {
			next := [][]impl.Action{}
			for _, l := range level {
				for _, wrap := range wraps {
					next = append(next, wrap(l))
				}
			}
			level = next
			for _, l := range level {
				checkIsPlan(t, l, depthOfPlan(l) <= 3)
			}
		}
	}
	checkIsPlan(t, []impl.Action{loopOf(loopOf(loopOf()))}, true)
	checkIsPlan(t, []impl.Action{loopOf(loopOf(loopOf(loopOf())))}, false)
	checkIsPlan(t, []impl.Action{loopOf(loopOf(drops(1)...))}, true)
	checkIsPlan(t, []impl.Action{loopOf(loopOf(loopOf(drops(1)...)))}, false)
}

func TestPlainPlans(t *testing.T) {
	for text, want := range map[string]bool{
		"nothing": true,
		"make 0 lamp; wrap 0 runs; copy 1 from 0; drop 0; ask 1 run; call 1 Start; if { } else { }; loop { }": true,
		"loop { if { drop 0 } else { drop 1 } }":           true,
		"unwrap 0":                                         false,
		"try { } else { }":                                 false,
		"drop 0; drop 1; unwrap 2":                         false,
		"loop { unwrap 0 }":                                false,
		"loop { drop 1; try { } else { } }":                false,
		"if { drop 0 } else { loop { unwrap 0 } }; drop 0": false,
		"if { if { } else { unwrap 1 } } else { }":         false,
		"if { if { unwrap 1 } else { } } else { }":         false,
		"loop { loop { try { } else { } } }":               false,
		"if { drop 0 } else { try { } else { drop 1 } }":   false,
	} {
		l := planOf(t, text)
		if got := impl.IsPlainPlan(l); got != want {
			t.Errorf("IsPlainPlan(%q) = %t", text, got)
		}
		checkIsPlan(t, l, true)
	}
	for _, l := range [][]impl.Action{manyDrops(15), {loopOf(loopOf(loopOf(loopOf())))}, {{}}, {{Op: impl.PlanDrop, Slot: 3}}} {
		checkIsPlan(t, l, false)
	}
}
