package tests

import (
	"slices"
	"strings"
	"testing"

	"loop.example/g03016/impl"
)

var (
	spareAction = impl.Action{Op: 77, Word: "spare"}
	spareSlot   = impl.Slot{Full: true, Part: impl.Part{Core: impl.Core{Kind: "spare"}}}
)

// spoilActions writes over all that a list of actions reaches.
func spoilActions(l []impl.Action) {
	l = l[:cap(l)]
	for i, a := range l {
		spoilActions(a.A)
		spoilActions(a.B)
		l[i] = impl.Action{Op: -1, Word: "spoiled"}
	}
}

func spoilSlots(l []impl.Slot) {
	l = l[:cap(l)]
	for i, s := range l {
		spoilPart(s.Part)
		l[i] = impl.Slot{Part: impl.Part{Core: impl.Core{Kind: "spoiled"}}}
	}
}

// roomyActions returns the actions with marked ones in the spare capacity of all lists.
func roomyActions(l []impl.Action) []impl.Action {
	c := append(slices.Clone(l), spareAction)[:len(l)]
	for i, a := range c {
		c[i].A, c[i].B = roomyActions(a.A), roomyActions(a.B)
	}
	return c
}

func checkRoomyActions(t *testing.T, got, want []impl.Action) {
	t.Helper()
	if !sameActions(got, want) {
		t.Fatalf("the argument %s has become %s", brief(want), brief(got))
	}
	for i, a := range want {
		checkRoomyActions(t, got[i].A, a.A)
		checkRoomyActions(t, got[i].B, a.B)
	}
	if spare := got[:len(got)+1][len(got)]; !sameAction(spare, spareAction) {
		t.Errorf("the spare capacity holds %s", brief(spare))
	}
}

func roomySlots(l []impl.Slot) []impl.Slot {
	c := append(slices.Clone(l), spareSlot)[:len(l)]
	for i, s := range c {
		c[i].Part = roomyPart(s.Part)
	}
	return c
}

func checkRoomySlots(t *testing.T, got, want []impl.Slot) {
	t.Helper()
	if !sameSlots(got, want) {
		t.Fatalf("the argument %s has become %s", brief(want), brief(got))
	}
	for i, s := range want {
		checkRoomyPart(t, got[i].Part, s.Part)
	}
	if spare := got[:len(got)+1][len(got)]; !sameSlots([]impl.Slot{spare}, []impl.Slot{spareSlot}) {
		t.Errorf("the spare capacity holds %s", brief(spare))
	}
}

// slotsOfAllSorts are full and empty, in states of all sorts; the last ones are not valid.
func slotsOfAllSorts(t *testing.T) [][]impl.Slot {
	t.Helper()
	l := [][]impl.Slot{slotsOf(t, "||"), slotsOf(t, "drawer counts||lamp"), slotsOf(t, "robot|shelf counts twice|vault lazy keeps reads")}
	used := slotsOf(t, "robot counts|shelf|robot hears")
	used[0].Part.Core.Cells, used[0].Part.Core.On, used[0].Part.Layers[0].Count = []impl.Cell{{Key: "a", Value: 1}, {Key: "k", Value: 2}}, true, 9
	used[1].Part.Core.Cells, used[1].Part.Core.Count = []impl.Cell{{Key: "b", Value: 3}, {Key: "c", Value: 4}, {Key: "d", Value: 5}, {Key: "e", Value: 6}}, 999
	used[2].Part.Core.Broken, used[2].Part.Layers[0].Count = true, 999
	return append(append(l, used), invalidSlots(t)...)
}

// plansOfAllSorts do each thing; the last ones are not valid.
func plansOfAllSorts(t *testing.T) [][]impl.Action {
	t.Helper()
	l := [][]impl.Action{}
	for _, text := range []string{
		"nothing", "drop 0", "copy 1 from 0; drop 0", "copy 0 from 1; copy 1 from 2; copy 2 from 0", "call 0 Put k 3; call 1 Put a 1; call 2 Hear 7", "unwrap 0; unwrap 1; unwrap 2",
		"call 0 Load a=1,b=2; copy 1 from 0; call 1 Put a 3", "make 0 vault; call 0 Start; call 0 Put key 1; copy 2 from 0; call 2 Put key 2; wrap 2 counts; call 2 Get key",
		"wrap 0 plain; wrap 1 keeps; ask 1 run", "try { call 1 Put z 1; wrap 0 counts; ask 0 save } else { copy 2 from 0; call 2 Put y 2 }; call 0 Get y",
		"loop { copy 1 from 0; wrap 1 keeps; if { call 1 Put q 1 } else { call 0 Start } }", "ask 0 keep; ask 0 heal", "call 0 Start; call 0 Start; call 0 Tell",
	} {
		l = append(l, planOf(t, text))
	}
	return append(l, []impl.Action{{}}, []impl.Action{{Op: impl.PlanMake, Word: "lamp", A: drops(1)}}, drops(2), []impl.Action{loopOf(loopOf(loopOf(loopOf())))}, slices.Repeat(drops(1), 15))
}

func TestPlansAndSlotsAreNotChanged(t *testing.T) {
	spareNumber := 77
	for _, slots := range slotsOfAllSorts(t) {
		for _, l := range plansOfAllSorts(t) {
			for _, input := range [][]int{nil, {1, 3}, {3, 1, 2, 3}} {
				givenSlots, givenPlan := roomySlots(slots), roomyActions(l)
				givenInput := append(slices.Clone(input), spareNumber)[:len(input)]
				_, after, _ := impl.RunPlan(givenSlots, givenPlan, givenInput)
				spoilSlots(after)
				usePlan(givenPlan)
				impl.IsSlots(givenSlots)
				impl.SameSlots(givenSlots, givenSlots)
				spoilTexts(impl.ShapesOf(givenSlots))
				checkRoomySlots(t, givenSlots, slots)
				checkRoomyActions(t, givenPlan, l)
				if !slices.Equal(givenInput, input) || givenInput[:len(input)+1][len(input)] != spareNumber {
					t.Error(givenInput)
				}
			}
		}
	}
}

// usePlan gives a list to each function of chapter 8 that takes one, and spoils the results.
func usePlan(l []impl.Action) {
	impl.PlanSize(l)
	impl.PlanDepth(l)
	impl.IsPlan(l)
	impl.IsPlainPlan(l)
	impl.FormatPlan(l)
	for place := range 8 {
		a, _ := impl.ActionAt(l, place)
		spoilActions([]impl.Action{a})
	}
}

func TestSlotsAreNewEachTime(t *testing.T) {
	for _, slots := range slotsOfAllSorts(t) {
		for _, l := range plansOfAllSorts(t) {
			_, first, _ := impl.RunPlan(slots, l, []int{1, 1})
			_, second, _ := impl.RunPlan(slots, l, []int{1, 1})
			spoilSlots(first)
			if _, want, _ := ran(slots, l, []int{1, 1}); !sameSlots(second, want) {
				t.Errorf("%s of %s: %s", brief(l), brief(slots), brief(second))
			}
		}
	}
	spoilSlots(impl.EmptySlots())
	if l := impl.EmptySlots(); !sameSlots(l, make([]impl.Slot, 3)) {
		t.Error(l)
	}
	recipes := [][]string{roomy("vault", "counts"), roomy(), roomy("robot", "hears", "runs")}
	first, _ := impl.FillSlots(recipes)
	second, _ := impl.FillSlots(recipes)
	spoilSlots(first)
	if textOfSlots(second) != "vault counts: off - 0 [0]||robot hears runs: off - 0 [0 0]" {
		t.Error(textOfSlots(second))
	}
	checkRoomy(t, recipes[0], "vault", "counts")
	checkRoomy(t, recipes[1])
	checkRoomy(t, recipes[2], "robot", "hears", "runs")
}

// What is written over in one slot, its spare capacity included, is not seen in another one.
func TestSlotsOfOneResultAreApart(t *testing.T) {
	shared := roomyPart(impl.Part{Core: impl.Core{Kind: "robot", On: true, Cells: []impl.Cell{{Key: "k", Value: 1}}}, Layers: []impl.Layer{{Name: "counts", Count: 3}}})
	same := []impl.Slot{{Full: true, Part: shared}, {Full: true, Part: shared}, {Full: true, Part: shared}}
	for _, slots := range append(slotsOfAllSorts(t), same, append(same, same...)) {
		for _, l := range plansOfAllSorts(t) {
			_, want, _ := ran(slots, l, nil)
			for i := range slots {
				_, after, _ := impl.RunPlan(slots, l, nil)
				spoilPart(after[i].Part)
				for k := range after {
					if k != i && !sameSlots(after[k:k+1], want[k:k+1]) {
						t.Errorf("%s of %s: the slots %d and %d share memory", brief(l), brief(slots), i, k)
					}
				}
			}
		}
	}
}

func TestParsedPlansAreNewEachTime(t *testing.T) {
	text := "make 0 vault; loop { wrap 0 counts; if { call 0 Load a=1 } else { drop 1 } }; try { ask 0 run } else { unwrap 0 }"
	first, _ := impl.ParsePlan(text)
	second, _ := impl.ParsePlan(text)
	spoilActions(first)
	if textOfPlan(second) != text {
		t.Error(brief(second))
	}
	for _, spoiler := range []func(l []impl.Action){
		func(l []impl.Action) { spoilActions(l[1].A[1].A) }, func(l []impl.Action) { spoilActions(l[1].A[1].B) }, func(l []impl.Action) { spoilActions(l[2].A) },
	} {
		l, _ := impl.ParsePlan(text)
		spoiler(l)
		if got := strings.Count(brief(l), "spoiled"); got > 2 || textOfAction(l[0]) != "make 0 vault" || len(allActions(l)) != len(allActions(second)) {
			t.Error(brief(l))
		}
	}
}

func textsOfSlots(l []impl.Slot) []string {
	texts := []string{}
	for _, s := range l {
		texts = append(texts, recipeOfPart(s.Part)...)
		for _, cell := range s.Part.Core.Cells {
			texts = append(texts, cell.Key)
		}
	}
	return texts
}

func textsOfActions(l []impl.Action) []string {
	texts := []string{}
	for _, a := range allActions(l) {
		texts = append(texts, a.Word, a.Call.Method, a.Call.Key, a.Call.Text)
	}
	return texts
}

// clonedSlots and clonedActions have each of their texts in memory of its own, so that none of them is a constant of the tests or of the program.
func clonedSlots(l []impl.Slot) []impl.Slot {
	l = cloneSlots(l)
	for i := range l {
		p := &l[i].Part
		p.Core.Kind = strings.Clone(p.Core.Kind)
		for k := range p.Core.Cells {
			p.Core.Cells[k].Key = strings.Clone(p.Core.Cells[k].Key)
		}
		for k := range p.Layers {
			p.Layers[k].Name = strings.Clone(p.Layers[k].Name)
		}
	}
	return l
}

func clonedActions(l []impl.Action) []impl.Action {
	l = cloneActions(l)
	for i, a := range l {
		l[i].Word = strings.Clone(a.Word)
		l[i].Call = clonedEvent(impl.Event{Call: a.Call}).Call
		l[i].A, l[i].B = clonedActions(a.A), clonedActions(a.B)
	}
	return l
}

func TestTextsOfPlansAreNewMemory(t *testing.T) {
	for _, given := range slotsOfAllSorts(t) {
		slots := clonedSlots(given)
		checkNewTexts(t, textsOfSlots(slots), impl.ShapesOf(slots))
		for _, givenPlan := range plansOfAllSorts(t) {
			l := clonedActions(givenPlan)
			_, after, _ := impl.RunPlan(slots, l, []int{1, 1, 1})
			checkNewTexts(t, append(textsOfSlots(slots), textsOfActions(l)...), textsOfSlots(after))
			for place := range allActions(l) {
				a, _ := impl.ActionAt(l, place)
				checkNewTexts(t, textsOfActions(l), append(textsOfActions([]impl.Action{a}), impl.FormatPlan(l)))
			}
		}
	}
	recipe := []string{strings.Clone("robot"), strings.Clone("counts"), strings.Clone("twice")}
	slots, _ := impl.FillSlots([][]string{recipe, recipe[:1], recipe[:2]})
	checkNewTexts(t, recipe, textsOfSlots(slots))
	for _, text := range []string{"make 0 robot; wrap 0 counts", "loop { call 0 Put key 3; call 0 Load abc=1,b=2 }; call 1 Get abcdefgh"} {
		text = strings.Clone(text)
		l, _ := impl.ParsePlan(text)
		checkNewTexts(t, []string{text}, append(textsOfActions(l), impl.FormatPlan(l)))
	}
}
