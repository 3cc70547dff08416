package tests

import (
	"slices"
	"testing"

	"loop.example/g03016/impl"
)

// wanted is a plan, and the faces that it wants, as `keep|none|run`; `no wants` if there are none.
type wanted struct{ plan, faces string }

func textOfWants(l []int, ok bool) string {
	if !ok {
		return "no wants"
	}
	text := ""
	for i, face := range l {
		text += []string{"", "|"}[min(i, 1)] + textOfFace(face)
	}
	return text
}

func checkWanted(t *testing.T, plans []wanted) {
	t.Helper()
	for _, c := range plans {
		l := planOf(t, c.plan)
		if got := textOfWants(impl.WantsOf(l)); got != c.faces {
			t.Errorf("%q wants %s, not %s", c.plan, got, c.faces)
		}
		checkWants(t, l)
		checkPromiseOfWants(t, l, allKindsOfSlots())
	}
}

// allKindsOfSlots are all shapes of which each is a kind.
func allKindsOfSlots() [][3]string {
	all := [][3]string{}
	for _, a := range kinds {
		for _, b := range kinds {
			for _, c := range kinds {
				all = append(all, [3]string{a.name, b.name, c.name})
			}
		}
	}
	return all
}

// checkPromiseOfWants holds what is wanted of a plain plan against what fails from the shapes.
func checkPromiseOfWants(t *testing.T, l []impl.Action, all [][3]string) {
	t.Helper()
	if hasOp(l, impl.PlanUnwrap, impl.PlanTry) {
		return
	}
	wants, ok := impl.WantsOf(l)
	for _, shapes := range all {
		enough := ok
		for slot, kind := range shapes {
			face, _ := faceOfKind(kind)
			enough = enough && setOf(face).offers(setOf(wants[slot]))
		}
		if fails := len(impl.FailuresOf(l, shapes[:])) > 0; fails == enough {
			t.Errorf("%q from %q fails: %t; it wants %s", textOfPlan(l), shapes, fails, textOfWants(wants, ok))
		}
	}
}

func TestWantsOfGivenParts(t *testing.T) {
	checkWanted(t, []wanted{
		{"nothing", "none|none|none"},
		{"ask 0 none; drop 1; make 2 lamp", "none|none|none"},
		{"ask 1 keep", "none|keep|none"},
		{"ask 1 keep; call 1 Tell; ask 1 run+save; call 2 Hear 1", "none|run+keep+tell+save|hear"},
		{"call 0 Start; call 0 Put k 1; call 1 Get k; call 1 Load a=1; call 2 Heal; call 2 Tell", "run+keep|keep+save|tell+heal"},
		{"wrap 0 lazy; wrap 1 plain; wrap 2 twice", "run+keep|none|tell"},
		{"ask 0 run+keep+tell+hear+save+heal", "run+keep+tell+hear+save+heal|none|none"},
		{"if { ask 0 run } else { ask 0 keep }; loop { ask 2 tell }", "run+keep|none|tell"},
		{"if { ask 0 run } else { }; if { } else { ask 1 keep }", "run|keep|none"},
		{"loop { loop { ask 0 save } }; loop { if { call 1 Start } else { call 2 Stop } }", "save|run|run"},
		// Only in a round behind the first one.
		{"loop { ask 0 run; copy 0 from 1; copy 1 from 2 }", "run|run|run"},
		{"loop { ask 0 run; copy 0 from 1; make 1 robot }", "run|run|none"},
		{"loop { loop { ask 0 run; copy 0 from 1; copy 1 from 2; make 2 stone } }", "no wants"},
		{"loop { ask 0 run; copy 0 from 1; copy 1 from 2; make 2 stone }", "run|run|run"},
	})
}

func TestWantsOfCopies(t *testing.T) {
	checkWanted(t, []wanted{
		{"copy 1 from 0; ask 1 tell", "tell|none|none"},
		{"copy 1 from 0; ask 1 tell; ask 0 run", "run+tell|none|none"},
		{"copy 1 from 0; copy 2 from 1; drop 0; drop 1; call 2 Save", "save|none|none"},
		{"copy 0 from 1; copy 1 from 2; copy 2 from 0; ask 0 run; ask 1 keep; ask 2 tell", "none|run+tell|keep"},
		{"if { copy 0 from 1 } else { copy 0 from 2 }; ask 0 hear", "none|hear|hear"},
		{"if { copy 0 from 1 } else { }; ask 0 hear", "hear|hear|none"},
		// What is wanted of the copy is not wanted of what was in its slot.
		{"ask 1 keep; copy 1 from 0; ask 1 tell", "tell|keep|none"},
		{"copy 1 from 0; wrap 1 counts; ask 1 keep+tell; ask 0 run", "run+keep|none|none"},
		{"copy 1 from 0; wrap 0 runs; ask 1 tell; ask 0 run; copy 2 from 0; ask 2 run", "run+tell|none|none"},
		{"copy 1 from 0; wrap 0 runs; copy 2 from 0; ask 2 keep", "no wants"},
	})
}

func TestWantsOfKnownParts(t *testing.T) {
	checkWanted(t, []wanted{
		// Dropped or made anew, and then asked.
		{"drop 0; ask 0 keep", "none|none|none"},
		{"drop 0; ask 0 keep; ask 1 run", "none|none|none"},
		{"ask 0 keep; drop 0; make 0 lamp; ask 0 run", "keep|none|none"},
		{"make 0 lamp; ask 0 run; ask 1 run", "none|run|none"},
		{"make 0 lamp; ask 0 keep", "no wants"},
		{"if { make 0 drawer } else { }; ask 0 keep", "keep|none|none"},
		{"if { make 0 drawer } else { drop 0 }; ask 0 keep", "none|none|none"},
		{"drop 1; copy 0 from 1; ask 0 keep; ask 2 run", "none|none|none"},
		// Wrapped.
		{"wrap 0 counts; ask 0 keep+tell; wrap 0 twice; call 0 Tell", "keep|none|none"},
		{"wrap 0 counts; ask 0 run", "no wants"},
		{"wrap 0 plain; ask 0 none", "none|none|none"},
		{"wrap 0 plain; ask 0 run", "no wants"},
		{"wrap 0 heals; call 0 Heal; call 0 Start", "run|none|none"},
		{"wrap 0 runs; wrap 0 keeps", "no wants"},
		{"wrap 0 runs; wrap 0 runs; wrap 0 runs; wrap 0 keeps; ask 0 run", "run|none|none"},
		{"wrap 0 runs; wrap 0 runs; wrap 0 hears; wrap 0 keeps; ask 0 keep", "no wants"},
		{"loop { wrap 0 hears }; loop { wrap 0 runs }; loop { wrap 0 runs }; ask 0 run", "run|none|none"},
		{"loop { wrap 0 hears; wrap 0 plain }", "no wants"},
		{"loop { wrap 0 hears; ask 0 run+hear }; loop { wrap 0 runs }", "run|none|none"},
		{"wrap 0 keeps; call 0 Put k 1; call 0 Get k; wrap 1 reads; call 1 Put k 1", "keep|keep|none"},
		{"make 1 meter; wrap 1 counts", "no wants"},
	})
}

func TestWantsOfBranchesThatFail(t *testing.T) {
	checkWanted(t, []wanted{
		{"if { make 0 lamp } else { make 0 shelf }; ask 0 run", "no wants"},
		{"if { make 0 shelf } else { make 0 lamp }; ask 0 run", "no wants"},
		{"ask 1 run; if { make 0 lamp; ask 0 keep } else { }", "no wants"},
		{"ask 1 run; if { } else { make 0 lamp; ask 0 keep }", "no wants"},
		{"loop { wrap 0 lazy; ask 0 run }; loop { wrap 1 keeps; ask 1 run }", "no wants"},
		{"make 0 drawer; loop { ask 0 run; wrap 0 keeps }", "no wants"},
		// The run ends at an empty slot before it comes to what fails.
		{"make 0 lamp; drop 1; ask 1 run; ask 0 keep", "none|none|none"},
		{"make 0 lamp; if { drop 1 } else { }; ask 1 run; ask 0 keep", "no wants"},
		{"if { drop 1; make 0 lamp } else { }; ask 1 run; ask 0 keep", "keep|run|none"},
		{"ask 0 tell; drop 0; if { ask 0 run } else { ask 0 keep }; make 1 lamp; ask 1 keep", "tell|none|none"},
		{"make 0 lamp; loop { drop 1; call 1 Start; ask 0 keep }", "none|none|none"},
		// What it comes to behind an assertion on a given part counts as if it had not failed.
		{"ask 0 run+keep+tell+hear+save+heal; make 1 lamp; ask 1 keep", "no wants"},
		{"ask 0 heal; if { ask 0 tell } else { ask 1 save }; ask 2 hear", "tell+heal|save|hear"},
	})
}

func TestWantsOfPlansThatAreNotPlain(t *testing.T) {
	checkWanted(t, []wanted{
		{"unwrap 0", "no wants"},
		{"try { } else { }", "no wants"},
		{"ask 0 run; try { ask 1 run } else { }", "no wants"},
		{"make 0 lamp; loop { if { unwrap 0 } else { } }", "no wants"},
		{"loop { loop { try { } else { } } }", "no wants"},
		{"if { } else { unwrap 2 }", "no wants"},
	})
}

func TestWantsOfEachAction(t *testing.T) {
	for slot := range 3 {
		for _, a := range adapters {
			want := make([]int, 3)
			want[slot] = a.needs
			if got, ok := impl.WantsOf([]impl.Action{{Op: impl.PlanWrap, Slot: slot, Word: a.name}}); !ok || !slices.Equal(got, want) {
				t.Errorf("wrap %d %s wants %v, %t", slot, a.name, got, ok)
			}
			// Behind it, the part offers what the adapter gives, and nothing else.
			for face := range 64 {
				l := []impl.Action{{Op: impl.PlanWrap, Slot: slot, Word: a.name}, {Op: impl.PlanAsk, Slot: slot, Face: face}}
				if _, ok := impl.WantsOf(l); ok != setOf(a.gives).offers(setOf(face)) {
					t.Errorf("%q: %t", textOfPlan(l), ok)
				}
			}
		}
		for face := range 64 {
			want := make([]int, 3)
			want[slot] = face
			if got, ok := impl.WantsOf([]impl.Action{{Op: impl.PlanAsk, Slot: slot, Face: face}}); !ok || !slices.Equal(got, want) {
				t.Errorf("ask %d %s wants %v, %t", slot, textOfFace(face), got, ok)
			}
		}
		for _, method := range allMethods {
			for _, x := range callsOf(method) {
				want := make([]int, 3)
				want[slot] = wants[method]
				l := []impl.Action{{Op: impl.PlanCall, Slot: slot, Call: x}}
				if got, ok := impl.WantsOf(l); isValidPlan(l) && (!ok || !slices.Equal(got, want)) {
					t.Errorf("%q wants %v, %t", textOfPlan(l), got, ok)
				}
			}
		}
	}
}
