package tests

import (
	"math"
	"math/rand"
	"slices"
	"strings"
	"testing"

	"loop.example/g03016/impl"
)

const drawnShapes = "||stone|lamp|shelf|meter|drawer|horn|vault|robot|robot|drawer lazy|vault counts|shelf counts twice|lamp heals|robot lazy keeps counts|robot plain|drawer keeps reads|robot hears runs"

// slots draws slots of these recipes, in states of all sorts, or as they are made.
func (d draw) slots(t *testing.T, recipes []string, used bool) []impl.Slot {
	t.Helper()
	slots := slotsOf(t, strings.Join(recipes, "|"))
	for i, s := range slots {
		if s.Full && used {
			states := partsOf(s.Part)
			slots[i].Part = states[d.Intn(len(states))]
		}
	}
	return slots
}

// plan draws a list of up to size actions, which is a valid plan if depth is at most 3.
func (d draw) plan(size, depth int) []impl.Action {
	l := []impl.Action{}
	for size > 0 && d.Intn(9) > 0 {
		a := d.action()
		size--
		if a.Op >= impl.PlanIf && depth == 1 {
			a = impl.Action{Op: a.Op}
		} else if a.Op >= impl.PlanIf {
			a.A = d.plan(d.Intn(size+1), depth-1)
			size -= len(allActions(a.A))
			if a.Op != impl.PlanLoop {
				a.B = d.plan(d.Intn(size+1), depth-1)
				size -= len(allActions(a.B))
			}
		}
		l = append(l, a)
	}
	return l
}

// action draws a valid action; A and B are left to plan.
func (d draw) action() impl.Action {
	a := impl.Action{Op: []int{1, 1, 1, 2, 2, 3, 4, 5, 6, 6, 7, 7, 7, 8, 8, 9, 9, 10, 10, 10}[d.Intn(20)], Slot: d.Intn(3)}
	switch a.Op {
	case impl.PlanMake:
		a.Word = d.word("stone|lamp|shelf|meter|drawer|horn|vault|robot|robot|drawer")
	case impl.PlanWrap:
		a.Word = adapterNames()[d.Intn(9)]
	case impl.PlanCopy:
		a.Other = (a.Slot + 1 + d.Intn(2)) % 3
	case impl.PlanAsk:
		a.Face = []int{0, 1, 2, 3, 1, 2, 4, d.Intn(64)}[d.Intn(8)]
	case impl.PlanCall:
		calls := slices.DeleteFunc(fewCalls(), func(x impl.Call) bool { return x.Text == "bad" })
		a.Call = calls[d.Intn(len(calls))]
	case impl.PlanIf, impl.PlanLoop, impl.PlanTry:
		a.Slot = 0
	}
	return a
}

func (d draw) input() []int {
	l := []int{}
	for range d.Intn(9) {
		l = append(l, []int{0, 1, 2, 3, 1, 2, 3, -1, -2, 7, 1002, math.MinInt, math.MaxInt}[d.Intn(13)])
	}
	return l
}

func (d draw) recipes() []string {
	words := strings.Split(drawnShapes, "|")
	return []string{words[d.Intn(len(words))], words[d.Intn(len(words))], words[d.Intn(len(words))]}
}

// behind returns the numbers of an input that are left when some are taken.
func behind(input []int, taken int) []int {
	return input[min(taken, len(input)):]
}

// The plans are drawn from fixed seeds, and are held against the model and against the promise.
func TestManyRuns(t *testing.T) {
	d := draw{rand.New(rand.NewSource(8))}
	counts := map[string]int{}
	for range 10000 {
		l, recipes, input := d.plan(1+d.Intn(14), 1+d.Intn(3)), d.recipes(), d.input()
		slots := d.slots(t, recipes, true)
		end, after, taken := checkRun(t, slots, l, input)
		counts[[]string{"ok", "failed", "empty", "bad"}[end.Code]]++
		if !impl.IsPlan(l) || !impl.IsSlots(after) {
			t.Errorf("%s, %s", brief(l), brief(after))
		}
		checkShapesAndInputAlone(t, d, recipes, l, input)
		checkHalves(t, slots, l, input)
		checkNumbersAlone(t, slots, l, input)
		checkPlanText(t, textOfPlan(l))
		if a, ok := impl.ActionAt(l, end.Place); end.Code != impl.EndOK && (!ok || a.Op < impl.PlanWrap || a.Op > impl.PlanCall) {
			t.Errorf("%q ends at %d, where there is %s", textOfPlan(l), end.Place, brief(a))
		}
		if taken < len(input) && end.Code == impl.EndOK {
			counts["left"]++
		}
		if hasOp(l, impl.PlanTry) {
			checkCatching(t, slots, l, input, counts)
		}
		if t.Failed() {
			return
		}
	}
	for _, what := range []string{"ok", "failed", "empty", "left", "caught", "not caught", "empty in a try"} {
		if counts[what] < 40 {
			t.Errorf("%q has come %d times only", what, counts[what])
		}
	}
}

// checkShapesAndInputAlone runs a plan from several slots of the same shapes.
func checkShapesAndInputAlone(t *testing.T, d draw, recipes []string, l []impl.Action, input []int) {
	t.Helper()
	end, after, taken := impl.RunPlan(d.slots(t, recipes, false), l, input)
	for range 3 {
		slots := d.slots(t, recipes, true)
		otherEnd, otherAfter, otherTaken := impl.RunPlan(slots, l, input)
		if otherEnd != end || otherTaken != taken || !slices.Equal(impl.ShapesOf(otherAfter), impl.ShapesOf(after)) {
			t.Errorf("%q for %v ends with %s, %q from new slots, but with %s, %q from %s", textOfPlan(l), input,
				textOfEnd(end), impl.ShapesOf(after), textOfEnd(otherEnd), impl.ShapesOf(otherAfter), textOfSlots(slots))
		}
	}
}

// checkHalves runs a plan in two halves, divided behind each of its actions.
func checkHalves(t *testing.T, slots []impl.Slot, l []impl.Action, input []int) {
	t.Helper()
	end, after, taken := impl.RunPlan(slots, l, input)
	for at := range len(l) + 1 {
		halfEnd, half, first := impl.RunPlan(slots, l[:at], input)
		second := 0
		if halfEnd.Code == impl.EndOK {
			halfEnd, half, second = impl.RunPlan(half, l[at:], behind(input, first))
			if halfEnd.Code != impl.EndOK {
				halfEnd.Place += impl.PlanSize(l[:at])
			}
		}
		if halfEnd != end || !impl.SameSlots(half, after) || first+second != taken {
			t.Errorf("%q for %v ends with %s, but with %s in two halves", textOfPlan(l), input, textOfEnd(end), textOfEnd(halfEnd))
		}
	}
}

// checkNumbersAlone changes what does not count of an input.
func checkNumbersAlone(t *testing.T, slots []impl.Slot, l []impl.Action, input []int) {
	t.Helper()
	end, after, taken := impl.RunPlan(slots, l, input)
	small := []int{}
	for _, n := range input {
		small = append(small, n&3)
	}
	used := input[:min(taken, len(input))]
	for _, other := range [][]int{small, used, append(slices.Clone(used), make([]int, taken)...), append(append(slices.Clone(used), make([]int, taken-len(used))...), 3, 2, 1)} {
		otherEnd, otherAfter, otherTaken := impl.RunPlan(slots, l, other)
		if otherEnd != end || otherTaken != taken || !impl.SameSlots(otherAfter, after) {
			t.Errorf("%q ends with %s for %v, but with %s for %v", textOfPlan(l), textOfEnd(end), input, textOfEnd(otherEnd), other)
		}
	}
}

// checkCatching performs the first action of a plan that is a PlanTry by A and B, each as a plan of its own.
func checkCatching(t *testing.T, slots []impl.Slot, l []impl.Action, input []int, counts map[string]int) {
	t.Helper()
	at := slices.IndexFunc(l, func(a impl.Action) bool { return a.Op == impl.PlanTry })
	if at < 0 {
		return
	}
	first, before, skipped := impl.RunPlan(slots, l[:at], input)
	if first.Code != impl.EndOK {
		return
	}
	rest, a := behind(input, skipped), l[at]
	want, half, taken := impl.RunPlan(before, a.A, rest)
	place, what := 1, map[int]string{impl.EndEmpty: "empty in a try"}[want.Code]
	if want.Code == impl.EndAssert {
		more := 0
		want, half, more = impl.RunPlan(half, a.B, behind(rest, taken))
		place, taken = 1+impl.PlanSize(a.A), taken+more
		what = map[bool]string{true: "not caught", false: "caught"}[want.Code == impl.EndAssert]
	}
	counts[what]++
	if want.Code != impl.EndOK {
		want.Place += place
	}
	end, after, all := impl.RunPlan(before, l[at:at+1], rest)
	if end != want || !impl.SameSlots(after, half) || all != taken {
		t.Errorf("%q ends with %s, %s, %d taken\nnot %s, %s, %d taken", textOfAction(a), textOfEnd(end), textOfSlots(after), all, textOfEnd(want), textOfSlots(half), taken)
	}
}

// All plans of two of these actions, in a row or in each other, for all short inputs.
func TestAllShortPlans(t *testing.T) {
	simple := planOf(t, "make 0 drawer; make 1 lamp; wrap 0 counts; wrap 1 runs; unwrap 0; copy 1 from 0; drop 0; ask 0 tell; ask 1 run; call 0 Put k 1; call 1 Start")
	all := slices.Clone(simple)
	for _, a := range simple {
		for _, b := range simple {
			one, two := []impl.Action{a}, []impl.Action{b}
			all = append(all, ifOf(one, two), tryOf(one, two), loopOf(a, b), tryOf([]impl.Action{a, b}, drops(1)), ifOf([]impl.Action{tryOf(one, two)}, []impl.Action{loopOf(b)}))
		}
	}
	for i, a := range all {
		for k, b := range all {
			if i >= len(simple) && (i+k)%23 > 0 {
				continue
			}
			for _, input := range [][]int{{}, {1}, {2, 1}, {3, 3}} {
				checkRun(t, slotsOf(t, "shelf|vault counts|"), []impl.Action{a, b}, input)
			}
		}
		if t.Failed() {
			return
		}
	}
}

func TestRunsAreTheSameEachTime(t *testing.T) {
	d := draw{rand.New(rand.NewSource(88))}
	for range 50 {
		l, slots, input := d.plan(14, 3), d.slots(t, d.recipes(), true), d.input()
		end, after, taken := impl.RunPlan(slots, l, input)
		for range 5 {
			again, others, number := impl.RunPlan(slots, l, input)
			if again != end || number != taken || !impl.SameSlots(others, after) {
				t.Errorf("%q: %s, then %s", textOfPlan(l), textOfEnd(end), textOfEnd(again))
			}
		}
	}
}
