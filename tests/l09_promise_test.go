package tests

import (
	"math"
	"math/rand"
	"slices"
	"testing"

	"loop.example/g03016/impl"
)

// checkedPlan draws a plan of at most 14 actions that makes something first, so that most runs do not end soon.
func (d draw) checkedPlan() []impl.Action {
	if d.Intn(4) == 0 {
		return d.plan(14, 3)
	}
	l := []impl.Action{}
	for slot := range 1 + d.Intn(3) {
		l = append(l, impl.Action{Op: impl.PlanMake, Slot: slot, Word: d.word("robot|vault|drawer|robot|lamp")})
	}
	return append(l, d.checkedActions(14-len(l), 1+d.Intn(3))...)
}

// checkedActions draws actions of which those that may fail are in blocks, but for the last one.
func (d draw) checkedActions(size, depth int) []impl.Action {
	l := []impl.Action{}
	for size > 2 && depth > 1 && d.Intn(8) > 0 {
		a := impl.Action{Op: []int{impl.PlanIf, impl.PlanLoop, impl.PlanTry}[d.Intn(3)]}
		a.A = d.checkedActions(1+d.Intn(min(size-1, 4)), depth-1)
		size -= 1 + len(allActions(a.A))
		if a.Op != impl.PlanLoop && size > 0 {
			a.B = d.checkedActions(d.Intn(min(size, 3)+1), depth-1)
			size -= len(allActions(a.B))
		}
		l = append(l, a)
	}
	for size > 0 && (len(l) == 0 || d.Intn(3) == 0) {
		l = append(l, d.checkedAction())
		size--
	}
	return l
}

// checkedAction draws an action that fails for some parts, and for others not.
func (d draw) checkedAction() impl.Action {
	a := impl.Action{Op: d.Intn(12), Slot: []int{0, 0, 0, 1, 1, 2}[d.Intn(6)]}
	switch a.Op {
	case impl.PlanMake:
		a.Word = d.word("lamp|drawer|robot|shelf")
	case impl.PlanCopy:
		a.Other = (a.Slot + 1 + d.Intn(2)) % 3
	case impl.PlanCall:
		a.Call = impl.Call{Method: d.word("Start|Tell|Stop|Save")}
	case impl.PlanUnwrap, impl.PlanDrop:
	case 8, 9:
		a.Op, a.Face = impl.PlanAsk, []int{0, 1, 2, 3, 2}[d.Intn(5)]
	default:
		a.Op, a.Word = impl.PlanWrap, d.word("runs|keeps|lazy|counts|heals|plain")
	}
	return a
}

func TestChecksOfManyPlans(t *testing.T) {
	d := draw{rand.New(rand.NewSource(9))}
	counts := map[string]int{}
	for range 3000 {
		l, recipes := d.checkedPlan(), d.recipes()
		if checkPlan(t, l, [3]string(recipes)) {
			counts["by runs"]++
		}
		countChecks(l, counts)
		witness, fails := impl.Witness(l)
		checkPromiseOfWitness(t, l, witness, fails, func(place int) bool { return true })
		if !fails {
			checkPromiseOfSafety(t, l)
		}
		checkPromiseOfTrim(t, l)
		all := [][3]string{}
		for range 30 {
			all = append(all, [3]string{kinds[d.Intn(8)].name, kinds[d.Intn(8)].name, kinds[d.Intn(8)].name})
		}
		checkPromiseOfWants(t, l, all)
		if t.Failed() {
			t.Fatalf("%q from %q", textOfPlan(l), recipes)
		}
	}
	for _, what := range []string{"by runs", "safe", "fails", "long", "several", "several in one place", "empty", "sure", "sure in a block", "wants", "no wants", "not plain", "caught"} {
		if counts[what] < 40 {
			t.Errorf("%q has come %d times only", what, counts[what])
		}
	}
}

// countChecks counts what sorts of plans have come.
func countChecks(l []impl.Action, counts map[string]int) {
	failures, sure := impl.FailuresOf(l, make([]string, 3)), impl.SureOf(l)
	input, fails := impl.Witness(l)
	wants, ok := impl.WantsOf(l)
	plain := impl.IsPlainPlan(l)
	places := []int{}
	for _, f := range failures {
		places = append(places, f.Place)
	}
	for what, is := range map[string]bool{
		"safe":                 !fails,
		"fails":                fails,
		"long":                 len(input) > 2,
		"several":              len(failures) > 1,
		"several in one place": len(slices.Compact(places)) < len(failures),
		"empty":                len(impl.EmptiesOf(l, make([]string, 3))) > 0,
		"sure":                 len(sure) > 0,
		"sure in a block":      impl.PlanSize(l)-len(l) > impl.PlanSize(impl.TrimPlan(l))-len(impl.TrimPlan(l)),
		"wants":                ok && !slices.Equal(wants, make([]int, 3)),
		"no wants":             plain && !ok,
		"not plain":            !plain,
		"caught":               hasOp(l, impl.PlanTry) && !slices.Equal(failures, impl.FailuresOf(untried(l), make([]string, 3))),
	} {
		if is {
			counts[what]++
		}
	}
}

// untried returns the actions with a PlanIf for each PlanTry.
func untried(l []impl.Action) []impl.Action {
	l = slices.Clone(l)
	for i, a := range l {
		l[i].A, l[i].B = untried(a.A), untried(a.B)
		if a.Op == impl.PlanTry {
			l[i].Op = impl.PlanIf
		}
	}
	return l
}

// checkPromiseOfSafety runs a safe plan for all short inputs, and for some of other numbers.
func checkPromiseOfSafety(t *testing.T, l []impl.Action) {
	t.Helper()
	inputs := [][]int{{-1, 7, math.MinInt, math.MaxInt, 1002}, {math.MaxInt, -2, -3, 5, 9}}
	for input := []int{}; len(input) < 4; input = nextInput(input) {
		inputs = append(inputs, input, slices.Concat(input, []int{1, 3, 2, 3, 1}))
	}
	for _, input := range inputs {
		if end, _, _ := impl.RunPlan(impl.EmptySlots(), l, input); end.Code == impl.EndAssert {
			t.Errorf("%q is told to be safe, and ends with %s for %v", textOfPlan(l), textOfEnd(end), input)
		}
	}
}

// Plans of two actions, each one of these or a block of them: all that begin with one without a block, and one in 97 of the others.
func TestChecksOfShortPlans(t *testing.T) {
	simple := planOf(t, "make 0 drawer; make 1 lamp; wrap 0 counts; wrap 1 runs; unwrap 0; copy 1 from 0; drop 0; ask 0 tell; ask 1 run; call 0 Put k 1; call 1 Start")
	all := slices.Clone(simple)
	for _, a := range simple {
		for _, b := range simple {
			one, two := []impl.Action{a}, []impl.Action{b}
			all = append(all, ifOf(one, two), tryOf(one, two), loopOf(a, b), tryOf([]impl.Action{a, b}, drops(1)), ifOf([]impl.Action{tryOf(one, two)}, []impl.Action{loopOf(b)}))
		}
	}
	for i, a := range all {
		for k, b := range all {
			if i >= len(simple) && (i+k)%97 > 0 {
				continue
			}
			l := []impl.Action{a, b}
			for _, shapes := range [][3]string{{"shelf", "vault counts", ""}, {}} {
				checkEnds(t, l, shapes, searched(l, shapes))
			}
			checkWants(t, l)
		}
		if t.Failed() {
			return
		}
	}
}

// What a plan fails with depends on the shapes alone, not on the states of the parts.
func TestChecksHoldForSlotsInAllStates(t *testing.T) {
	d := draw{rand.New(rand.NewSource(99))}
	for range 300 {
		l, recipes := d.checkedPlan(), d.recipes()
		failures, after, empties := impl.FailuresOf(l, recipes), impl.AfterPlan(l, recipes), impl.EmptiesOf(l, recipes)
		for range 20 {
			end, slots, _ := impl.RunPlan(d.slots(t, recipes, true), l, d.input())
			told := false
			switch end.Code {
			case impl.EndOK:
				told = slices.ContainsFunc(after, func(shapes []string) bool { return slices.Equal(shapes, impl.ShapesOf(slots)) })
			case impl.EndAssert:
				told = slices.Contains(failures, impl.Failure{Place: end.Place, Want: end.Want, Had: end.Had})
			case impl.EndEmpty:
				told = slices.Contains(empties, end.Place)
			}
			if !told {
				t.Fatalf("%q from %q ends with %s, %q, which is not told", textOfPlan(l), recipes, textOfEnd(end), impl.ShapesOf(slots))
			}
		}
	}
}

func TestChecksAreTheSameEachTime(t *testing.T) {
	d := draw{rand.New(rand.NewSource(999))}
	for range 60 {
		l, recipes := d.checkedPlan(), d.recipes()
		first := brief(allChecks(l, recipes))
		for range 5 {
			if again := brief(allChecks(l, recipes)); again != first {
				t.Errorf("%q: %s, then %s", textOfPlan(l), first, again)
			}
		}
	}
}

// allChecks tells all that chapter 9 tells of a plan.
func allChecks(l []impl.Action, shapes []string) []any {
	witness, fails := impl.Witness(l)
	wants, ok := impl.WantsOf(l)
	all := []any{impl.CheckLine(l), impl.IsSafe(l), witness, fails, wants, ok, impl.SureOf(l), impl.EmptiesOf(l, shapes), impl.FailuresOf(l, shapes), textOfPlan(impl.TrimPlan(l))}
	for place := range 14 {
		input, at := impl.WitnessAt(l, place)
		all = append(all, input, at)
	}
	return append(all, impl.AfterPlan(l, shapes))
}
