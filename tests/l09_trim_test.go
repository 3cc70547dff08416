package tests

import (
	"slices"
	"testing"

	"loop.example/g03016/impl"
)

// trimmed is a plan, its sure places, and what is left of it.
type trimmed struct{ plan, sure, left string }

func checkTrimmed(t *testing.T, plans []trimmed) {
	t.Helper()
	for _, c := range plans {
		l := planOf(t, c.plan)
		sure, left := textOfNumbers(impl.SureOf(l)), impl.TrimPlan(l)
		if sure != c.sure || textOfPlan(left) != c.left {
			t.Errorf("%q: %q, %q, not %q, %q", c.plan, sure, textOfPlan(left), c.sure, c.left)
		}
		checkPlan(t, l, [3]string{})
		checkPromiseOfTrim(t, l)
	}
}

// checkPromiseOfTrim runs a plan before and after it is trimmed, for all inputs if they are not too many.
func checkPromiseOfTrim(t *testing.T, l []impl.Action) {
	t.Helper()
	sure, left := impl.SureOf(l), impl.TrimPlan(l)
	if !impl.IsPlan(left) {
		t.Errorf("%q is trimmed to %s, which is no plan", textOfPlan(l), brief(left))
	}
	// The places that the actions have had.
	places := []int{}
	for place := range allActions(l) {
		if !slices.Contains(sure, place) {
			places = append(places, place)
		}
	}
	if len(allActions(left)) != len(places) {
		t.Fatalf("%q is trimmed to %q, and %v are sure", textOfPlan(l), textOfPlan(left), sure)
	}
	eachRun(impl.EmptySlots(), l, 300, func(input []int, end impl.End, after []impl.Slot) {
		got, slots, taken := impl.RunPlan(impl.EmptySlots(), left, input)
		if got.Code == impl.EndAssert || got.Code == impl.EndEmpty {
			got.Place = places[got.Place]
		}
		if got != end || !sameSlots(slots, after) || taken != len(input) {
			t.Errorf("%q for %v ends with %s, %s; %q with %s, %s", textOfPlan(l), input, textOfEnd(end), textOfSlots(after), textOfPlan(left), textOfEnd(got), textOfSlots(slots))
		}
	})
}

func TestSureActions(t *testing.T) {
	checkTrimmed(t, []trimmed{
		{"nothing", "", "nothing"},
		{"make 0 lamp; drop 1", "", "make 0 lamp; drop 1"},
		{"make 0 lamp; ask 0 run", "1", "make 0 lamp"},
		{"make 0 lamp; ask 0 keep", "", "make 0 lamp; ask 0 keep"},
		// With the face 0; an empty slot ends the run all the same.
		{"make 0 stone; ask 0 none", "1", "make 0 stone"},
		{"make 0 stone; ask 1 none", "", "make 0 stone; ask 1 none"},
		{"ask 0 run", "", "ask 0 run"},
		{"make 0 robot; ask 0 run; ask 0 keep+tell; make 1 lamp; ask 1 run; ask 0 save", "1 2 4 5", "make 0 robot; make 1 lamp"},
		// Sure behind one like it that is not.
		{"make 0 lamp; if { ask 0 run } else { drop 0 }; ask 0 run; ask 0 run", "2 5", "make 0 lamp; if { } else { drop 0 }; ask 0 run"},
		{"if { make 0 lamp } else { make 0 shelf }; ask 0 run; ask 0 run; ask 0 keep", "4", "if { make 0 lamp } else { make 0 shelf }; ask 0 run; ask 0 keep"},
		// Other actions that cannot fail stay.
		{"make 0 lamp; wrap 0 runs; call 0 Start; unwrap 0; ask 0 run", "4", "make 0 lamp; wrap 0 runs; call 0 Start; unwrap 0"},
		// In a place that no run comes to.
		{"unwrap 0; ask 0 run", "1", "unwrap 0"},
		{"make 0 lamp; ask 0 keep; ask 0 tell; ask 1 save", "2 3", "make 0 lamp; ask 0 keep"},
		{"make 0 lamp; try { ask 0 run } else { ask 0 keep; loop { ask 1 tell } }", "3 5", "make 0 lamp; try { ask 0 run } else { loop { } }"},
	})
}

func TestSureActionsInBlocks(t *testing.T) {
	checkTrimmed(t, []trimmed{
		{"make 0 lamp; if { ask 0 run } else { ask 0 keep }", "2", "make 0 lamp; if { } else { ask 0 keep }"},
		{"make 0 lamp; if { ask 0 keep } else { ask 0 run }", "3", "make 0 lamp; if { ask 0 keep } else { }"},
		{"make 0 lamp; if { ask 0 run; drop 1 } else { drop 2; ask 0 run; ask 0 run }", "2 5 6", "make 0 lamp; if { drop 1 } else { drop 2 }"},
		{"make 0 lamp; loop { ask 0 run }", "2", "make 0 lamp; loop { }"},
		{"make 0 drawer; loop { ask 0 keep; ask 0 run; wrap 0 keeps }", "2", "make 0 drawer; loop { ask 0 run; wrap 0 keeps }"},
		{"make 0 drawer; loop { ask 0 run; drop 1; ask 0 keep; loop { ask 0 none; drop 2; ask 0 run+keep } }; ask 0 run", "2 4 6 8 9", "make 0 drawer; loop { drop 1; loop { drop 2 } }"},
		// In A of a PlanTry never, also where it cannot fail; in B as elsewhere.
		{"make 0 lamp; try { ask 0 run } else { }", "", "make 0 lamp; try { ask 0 run } else { }"},
		{"make 0 lamp; try { ask 0 none; ask 0 keep } else { ask 0 run; ask 0 tell; ask 0 none }; ask 0 run", "4 6 7", "make 0 lamp; try { ask 0 none; ask 0 keep } else { ask 0 tell }"},
		{"make 0 lamp; try { if { ask 0 run } else { ask 0 run } } else { if { ask 0 run } else { ask 0 run } }", "6 7", "make 0 lamp; try { if { ask 0 run } else { ask 0 run } } else { if { } else { } }"},
		{"make 0 lamp; try { loop { ask 0 run } } else { loop { ask 0 run } }", "5", "make 0 lamp; try { loop { ask 0 run } } else { loop { } }"},
		// In B of a PlanTry that is in A of another one, and in A of one that is in B.
		{"make 0 lamp; try { try { ask 0 keep } else { ask 0 run } } else { ask 0 run }", "5", "make 0 lamp; try { try { ask 0 keep } else { ask 0 run } } else { }"},
		{"make 0 lamp; try { ask 0 keep } else { try { ask 0 run } else { ask 0 run } }", "5", "make 0 lamp; try { ask 0 keep } else { try { ask 0 run } else { } }"},
		{"make 0 lamp; loop { try { ask 0 run } else { ask 0 run } }; if { try { ask 0 run } else { } } else { ask 0 run }", "4 8", "make 0 lamp; loop { try { ask 0 run } else { } }; if { try { ask 0 run } else { } } else { }"},
		// B begins with what A has done.
		{"make 0 drawer; try { wrap 0 keeps; ask 0 run } else { ask 0 keep; ask 0 run }", "4", "make 0 drawer; try { wrap 0 keeps; ask 0 run } else { ask 0 run }"},
		// The block of sure ones alone stays, empty, and takes its number.
		{"make 0 robot; if { ask 0 run; ask 0 keep } else { ask 0 tell }; if { ask 0 heal } else { }; loop { ask 0 save }; if { drop 0 } else { }; ask 0 run", "2 3 4 6 8", "make 0 robot; if { } else { }; if { } else { }; loop { }; if { drop 0 } else { }; ask 0 run"},
		{"make 0 robot; loop { if { ask 0 run } else { ask 0 run } }", "3 4", "make 0 robot; loop { if { } else { } }"},
		{"make 0 robot; loop { loop { ask 0 run } }", "3", "make 0 robot; loop { loop { } }"},
	})
}

// What is left may have more that is sure: only the places of the plan itself count.
func TestTrimmedTwice(t *testing.T) {
	for _, text := range []string{
		"make 0 robot; ask 0 run; loop { ask 0 keep; wrap 0 keeps }; ask 0 run",
		"make 0 lamp; try { ask 0 run } else { ask 0 run }",
		"ask 0 run; ask 0 run; if { ask 1 run } else { make 0 lamp; ask 0 run }",
	} {
		once := impl.TrimPlan(planOf(t, text))
		if twice := impl.TrimPlan(once); !sameActions(once, twice) || len(impl.SureOf(once)) > 0 {
			t.Errorf("%q is trimmed to %q, and that to %q", text, textOfPlan(once), textOfPlan(twice))
		}
	}
}

func TestCheckLines(t *testing.T) {
	for text, want := range map[string]string{
		"nothing":                    "safe",
		"make 0 lamp; ask 0 keep":    "place 1 wants keep of run",
		"make 0 stone; call 0 Start": "place 1 wants run of none",
		"make 0 meter; if { ask 0 run+keep } else { }":                           "place 2 wants run+keep of run+tell for 1",
		"make 0 meter; if { } else { ask 0 keep }":                               "place 2 wants keep of run+tell for 0",
		"make 0 vault; loop { loop { wrap 0 reads; call 0 Start } }; ask 0 save": "place 4 wants run of keep for 1 1",
		"ask 0 run; make 0 lamp; ask 0 keep":                                     "safe",
		"loop { ask 0 run }; make 0 lamp; ask 0 keep":                            "place 3 wants keep of run for 0",
	} {
		if got := impl.CheckLine(planOf(t, text)); got != want {
			t.Errorf("%q is told as %q, not %q", text, got, want)
		}
	}
	if impl.CheckLine(nil) != "safe" || impl.CheckLine([]impl.Action{}) != "safe" || !impl.IsSafe(nil) {
		t.Error("an empty plan is not safe")
	}
}
