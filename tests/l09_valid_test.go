package tests

import (
	"slices"
	"testing"

	"loop.example/g03016/impl"
)

// checkNoChecks holds what is told of a list that is no plan. The list may be too deep, or without an end, for the model; what TrimPlan returns is returned.
func checkNoChecks(t *testing.T, l []impl.Action) []impl.Action {
	t.Helper()
	for _, shapes := range [][]string{{"", "", ""}, {"lamp", "drawer counts", ""}} {
		after, failures, empties := impl.AfterPlan(l, shapes), impl.FailuresOf(l, shapes), impl.EmptiesOf(l, shapes)
		if len(after) > 0 || len(failures) > 0 || len(empties) > 0 {
			t.Errorf("a list that is no plan ends with %q, %v, %v", after, failures, empties)
		}
	}
	if impl.IsSafe(l) || impl.CheckLine(l) != "no plan" || len(impl.SureOf(l)) > 0 {
		t.Errorf("a list that is no plan is told to be %q", impl.CheckLine(l))
	}
	if input, ok := impl.Witness(l); ok || len(input) > 0 {
		t.Errorf("a list that is no plan has the witness %v, %t", input, ok)
	}
	for place := -1; place < 4; place++ {
		if input, ok := impl.WitnessAt(l, place); ok || len(input) > 0 {
			t.Errorf("a list that is no plan has the witness %v, %t", input, ok)
		}
	}
	if faces, ok := impl.WantsOf(l); ok || len(faces) > 0 {
		t.Errorf("a list that is no plan wants %v, %t", faces, ok)
	}
	return impl.TrimPlan(l)
}

func checkNoChecksAndTrim(t *testing.T, l []impl.Action) {
	t.Helper()
	if got := checkNoChecks(t, l); !sameActions(got, l) {
		t.Errorf("%s is trimmed to %s", brief(l), brief(got))
	}
}

func TestChecksOfActionsThatAreNotValid(t *testing.T) {
	lamp := planOf(t, "make 0 lamp; ask 0 run; ask 0 keep")
	for i, a := range invalidActions() {
		checkNoChecksAndTrim(t, []impl.Action{a})
		b := slices.Concat(lamp, []impl.Action{a})
		switch i % 6 {
		case 0:
			checkNoChecksAndTrim(t, b)
		case 1:
			checkNoChecksAndTrim(t, append([]impl.Action{a}, lamp...))
		case 2:
			checkNoChecksAndTrim(t, []impl.Action{loopOf(b...)})
		case 3:
			checkNoChecksAndTrim(t, []impl.Action{ifOf(lamp, b)})
		case 4:
			checkNoChecksAndTrim(t, []impl.Action{tryOf(b, lamp)})
		case 5:
			checkNoChecksAndTrim(t, []impl.Action{tryOf(nil, []impl.Action{ifOf(b, nil)})})
		}
	}
}

func TestChecksBeyondTheLimits(t *testing.T) {
	lamp := planOf(t, "make 0 lamp; ask 0 keep")
	for _, l := range [][]impl.Action{
		manyDrops(15), manyDrops(16), append(lamp, manyDrops(13)...), {ifOf(lamp, manyDrops(12))}, {loopOf(manyDrops(14)...)}, {loopOf(loopOf(manyDrops(13)...))},
		{tryOf(manyDrops(7), manyDrops(7))}, {loopOf(loopOf(loopOf(loopOf())))}, {loopOf(loopOf(loopOf(lamp...)))}, {ifOf(nil, []impl.Action{tryOf(nil, []impl.Action{ifOf(nil, lamp)})})},
		{tryOf([]impl.Action{loopOf(ifOf(lamp, nil))}, nil)}, slices.Repeat(lamp, 500), slices.Repeat([]impl.Action{loopOf()}, 15),
	} {
		checkNoChecksAndTrim(t, l)
	}
	// At the limits.
	for _, l := range [][]impl.Action{
		append(lamp, manyDrops(12)...), {ifOf(lamp, manyDrops(11))}, {loopOf(loopOf(manyDrops(12)...))}, {loopOf(loopOf(loopOf()))}, {loopOf(loopOf(lamp...))},
		{tryOf([]impl.Action{ifOf(lamp, nil)}, manyDrops(10))}, slices.Repeat(lamp, 7), {ifOf(nil, []impl.Action{tryOf(nil, lamp)})},
	} {
		checkPlan(t, l, [3]string{"robot", "", "lamp"})
		if impl.CheckLine(l) == "no plan" {
			t.Errorf("%q is told to be no plan", textOfPlan(l))
		}
	}
}

// Each function returns for lists that are very long or deep, that lie in others very often, or in themselves.
func TestChecksOfListsOfAnySize(t *testing.T) {
	const size = 1 << 17
	deep := drops(1)
	for range size - 1 {
		deep = []impl.Action{loopOf(deep...)}
	}
	for _, l := range [][]impl.Action{deep, drops(size)} {
		if got := checkNoChecks(t, l); impl.PlanSize(got) != size || impl.PlanDepth(got) != impl.PlanDepth(l) {
			t.Errorf("trimmed to the size %d", impl.PlanSize(got))
		}
	}
	doubled := drops(1)
	for range 70 {
		doubled = []impl.Action{ifOf(doubled, doubled)}
	}
	for _, l := range append(endlessPlans(), doubled, append(drops(20), doubled...)) {
		// There is no copy of these.
		if got := checkNoChecks(t, l); len(got) > 0 {
			t.Errorf("trimmed to the size %d", impl.PlanSize(got))
		}
	}
}

func TestChecksOfShapesThatAreNotValid(t *testing.T) {
	plans := [][]impl.Action{nil}
	for _, text := range []string{"make 0 lamp", "ask 0 run", "make 1 lamp; ask 1 keep; ask 2 run", "if { drop 0 } else { ask 1 keep }; loop { wrap 2 runs }"} {
		plans = append(plans, planOf(t, text))
	}
	for _, shapes := range notShapesOfSlots() {
		for _, l := range plans {
			after, failures, empties := impl.AfterPlan(l, shapes), impl.FailuresOf(l, shapes), impl.EmptiesOf(l, shapes)
			if len(after) > 0 || len(failures) > 0 || len(empties) > 0 {
				t.Errorf("%q from %.200q ends with %q, %v, %v", textOfPlan(l), shapes, after, failures, empties)
			}
		}
	}
	// Neither the plan nor the shapes.
	if l := manyDrops(15); len(impl.AfterPlan(l, nil)) > 0 || len(impl.FailuresOf(l, []string{"lamp"})) > 0 || len(impl.EmptiesOf(l, []string{" ", "", ""})) > 0 {
		t.Error("ends of what is no plan")
	}
}
