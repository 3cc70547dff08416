package tests

import (
	"slices"
	"strings"
	"testing"

	"loop.example/g03016/impl"
)

// plansForChecks end in ways of all sorts; the last ones are not valid.
func plansForChecks(t *testing.T) [][]impl.Action {
	t.Helper()
	l := plansOfAllSorts(t)
	for _, text := range []string{
		"make 0 lamp; if { ask 0 run; ask 0 keep } else { try { ask 0 keep } else { ask 0 run; wrap 0 hears } }; loop { ask 0 run; wrap 0 runs }; ask 1 keep",
		"ask 0 run; if { make 0 vault; wrap 0 counts } else { copy 1 from 2; drop 2 }; if { ask 0 save } else { call 1 Put k 3 }",
		"make 1 robot; ask 1 run; loop { wrap 1 keeps }; loop { if { ask 1 keep } else { ask 1 run } }; unwrap 1; try { ask 1 tell } else { ask 1 keep }",
	} {
		l = append([][]impl.Action{planOf(t, text)}, l...)
	}
	return l
}

func shapesForChecks() [][]string {
	return [][]string{{"", "", ""}, {"lamp", "drawer counts", ""}, {"robot lazy", "robot lazy keeps reads", "vault"}, {"lamp", "lamp ", ""}, {"robot"}}
}

func TestPlansAreNotChangedByChecks(t *testing.T) {
	for _, l := range plansForChecks(t) {
		for _, shapes := range shapesForChecks() {
			givenPlan, givenShapes := roomyActions(l), roomy(shapes...)
			impl.IsShapes(givenShapes)
			for _, list := range impl.AfterPlan(givenPlan, givenShapes) {
				spoilTexts(list)
			}
			spoilFailures(impl.FailuresOf(givenPlan, givenShapes))
			spoilNumbers(impl.EmptiesOf(givenPlan, givenShapes))
			checkRoomy(t, givenShapes, shapes...)
			useChecks(givenPlan)
			checkRoomyActions(t, givenPlan, l)
		}
	}
	a, b := append([]int{1, 2}, 77)[:2], append([]int{1, 2, 3}, 77)[:3]
	impl.CompareInputs(a, b)
	impl.CompareInputs(b, a)
	impl.CompareInputs(b, b)
	if !slices.Equal(a[:3], []int{1, 2, 77}) || !slices.Equal(b[:4], []int{1, 2, 3, 77}) {
		t.Error(a, b)
	}
}

func spoilFailures(l []impl.Failure) {
	l = l[:cap(l)]
	for i := range l {
		l[i] = impl.Failure{Place: -1, Want: -1, Had: -1}
	}
}

func spoilNumbers(l []int) {
	l = l[:cap(l)]
	for i := range l {
		l[i] = -1
	}
}

// useChecks gives a plan to each function of chapter 9 that takes nothing else, and spoils the results.
func useChecks(l []impl.Action) {
	impl.IsSafe(l)
	impl.CheckLine(l)
	input, _ := impl.Witness(l)
	spoilNumbers(input)
	for place := range 8 {
		input, _ := impl.WitnessAt(l, place)
		spoilNumbers(input)
	}
	faces, _ := impl.WantsOf(l)
	spoilNumbers(faces)
	spoilNumbers(impl.SureOf(l))
	spoilActions(impl.TrimPlan(l))
}

func TestResultsOfChecksAreNewEachTime(t *testing.T) {
	for _, l := range plansForChecks(t) {
		for _, shapes := range shapesForChecks() {
			first, second := impl.AfterPlan(l, shapes), impl.AfterPlan(l, shapes)
			for i, list := range second {
				want := slices.Clone(list)
				// What is written over in one list, its spare capacity included, is not seen in another one.
				spoilTexts(first[i])
				for k := i + 1; k < len(first); k++ {
					if !slices.Equal(first[k], second[k]) {
						t.Errorf("%q: the lists %d and %d share memory", brief(l), i, k)
					}
				}
				if !slices.Equal(second[i], want) {
					t.Errorf("%q: the results share memory", brief(l))
				}
			}
		}
		useChecks(l)
		if isValidPlan(l) {
			checkPlan(t, l, [3]string{"robot", "lamp runs", ""})
		}
	}
}

// Each list of a trimmed plan is apart from the others, and from those of the argument.
func TestTrimmedPlansAreApart(t *testing.T) {
	text := "make 0 robot; ask 0 run; if { ask 0 keep; drop 1; loop { drop 2; ask 0 run } } else { try { ask 0 run } else { ask 0 run; drop 1 } }; ask 0 keep; drop 2"
	left := "make 0 robot; if { drop 1; loop { drop 2 } } else { try { ask 0 run } else { drop 1 } }; drop 2"
	for _, spoiler := range []func(l []impl.Action){
		spoilActions,
		func(l []impl.Action) { spoilActions(l[1].A) }, func(l []impl.Action) { spoilActions(l[1].B) }, func(l []impl.Action) { spoilActions(l[1].A[1].A) },
		func(l []impl.Action) { spoilActions(l[1].B[0].A) }, func(l []impl.Action) { spoilActions(l[1].B[0].B) },
	} {
		l := planOf(t, text)
		first, second := impl.TrimPlan(l), impl.TrimPlan(l)
		spoiler(first)
		if textOfPlan(second) != left || textOfPlan(l) != text {
			t.Errorf("%q has become %s, and its trimmed plan %s", text, brief(l), brief(second))
		}
	}
	// What lies in several actions of the argument lies in each of them alone.
	shared := append(planOf(t, "drop 1; ask 0 run"), spareAction)[:2]
	for _, l := range [][]impl.Action{
		{{Op: impl.PlanMake, Word: "lamp"}, ifOf(shared, shared), loopOf(shared...)},
		{{Op: impl.PlanDrop}, ifOf(shared, shared), loopOf(shared...)},
		{{}, ifOf(shared, shared), loopOf(shared...)},
	} {
		got := impl.TrimPlan(l)
		inB, inLoop := cloneActions(got[1].B), cloneActions(got[2].A)
		spoilActions(got[1].A)
		if !sameActions(got[1].B, inB) || !sameActions(got[2].A, inLoop) || len(inB) == 0 || len(inLoop) == 0 {
			t.Errorf("lists are shared: %s", brief(got))
		}
		if textOfPlan(shared) != "drop 1; ask 0 run" || !sameAction(shared[:3][2], spareAction) {
			t.Fatalf("the argument has become %s", brief(shared[:3]))
		}
	}
}

func TestTextsOfChecksAreNewMemory(t *testing.T) {
	for _, given := range plansForChecks(t) {
		l := clonedActions(given)
		checkNewTexts(t, textsOfActions(l), append(textsOfActions(impl.TrimPlan(l)), impl.CheckLine(l)))
		for _, list := range shapesForChecks() {
			shapes := slices.Clone(list)
			cloneTexts(shapes)
			texts := slices.Concat(impl.AfterPlan(l, shapes)...)
			checkNewTexts(t, append(textsOfActions(l), shapes...), texts)
			for i := range texts {
				checkNewTexts(t, texts[:i], texts[i:i+1])
			}
		}
	}
	// A shape that no action changes.
	shapes := []string{strings.Clone("robot lazy counts"), strings.Clone("vault"), strings.Clone("lamp runs")}
	checkNewTexts(t, shapes, impl.AfterPlan(nil, shapes)[0])
	checkNewTexts(t, shapes, impl.AfterPlan(planOf(t, "unwrap 0; copy 1 from 2"), shapes)[0])
}
