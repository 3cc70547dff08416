package tests

import (
	"math"
	"slices"
	"strconv"
	"strings"
	"testing"

	"loop.example/g03016/impl"
)

// witnessed is a plan, its line, and the witnesses of the places that have one, as `3: 1 0, 5:`.
type witnessed struct {
	plan, line, places string
}

func checkWitnessed(t *testing.T, plans []witnessed) {
	t.Helper()
	for _, c := range plans {
		l := planOf(t, c.plan)
		texts := []string{}
		for place := range 20 {
			if input, ok := impl.WitnessAt(l, place); ok {
				texts = append(texts, strings.TrimSpace(strconv.Itoa(place)+": "+textOfNumbers(input)))
			}
		}
		line, places := impl.CheckLine(l), strings.Join(texts, ", ")
		if line != c.line || places != c.places {
			t.Errorf("%q: %q, %q\nnot %q, %q", c.plan, line, places, c.line, c.places)
		}
		witness, ok := impl.Witness(l)
		_, numbers, _ := strings.Cut(c.line, " for ")
		if ok != (c.line != "safe") || textOfNumbers(witness) != numbers || impl.IsSafe(l) == ok {
			t.Errorf("%q: the witness is %v, %t", c.plan, witness, ok)
		}
		checkPlan(t, l, [3]string{})
		checkPromiseOfWitness(t, l, witness, ok, func(place int) bool { return true })
		for place := range 16 {
			witness, ok := impl.WitnessAt(l, place)
			checkPromiseOfWitness(t, l, witness, ok, func(at int) bool { return at == place })
		}
	}
}

// checkPromiseOfWitness runs a plan for the witness, and for all lesser inputs, if they are not too many.
func checkPromiseOfWitness(t *testing.T, l []impl.Action, witness []int, ok bool, counts func(place int) bool) {
	t.Helper()
	fails := func(input []int) bool {
		end, _, taken := impl.RunPlan(impl.EmptySlots(), l, input)
		return end.Code == impl.EndAssert && taken == len(input) && counts(end.Place)
	}
	if ok && !fails(witness) {
		t.Errorf("%q does not fail for its witness %v", textOfPlan(l), witness)
	}
	size := len(witness)
	if !ok {
		size = 4
	}
	if slices.ContainsFunc(witness, func(n int) bool { return n < 0 || n > 3 }) || !ok && len(witness) > 0 {
		t.Errorf("the witness of %q is %v, %t", textOfPlan(l), witness, ok)
	}
	if size > 5 {
		return
	}
	for input := []int{}; len(input) <= size && (!ok || isLess(input, witness)); input = nextInput(input) {
		if fails(input) {
			t.Errorf("%q fails for %v, and its witness is %v, %t", textOfPlan(l), input, witness, ok)
		}
	}
}

// nextInput returns the least input of numbers from 0 to 3 that is greater.
func nextInput(input []int) []int {
	next := slices.Clone(input)
	for at := len(next) - 1; at >= 0; at-- {
		next[at]++
		if next[at] < 4 {
			return next
		}
		next[at] = 0
	}
	return append(next, 0)
}

func TestWitnesses(t *testing.T) {
	checkWitnessed(t, []witnessed{
		{"nothing", "safe", ""},
		{"make 0 lamp; ask 0 run", "safe", ""},
		{"ask 0 run", "safe", ""},
		// The empty input.
		{"make 0 lamp; ask 0 keep", "place 1 wants keep of run", "1:"},
		{"make 0 stone; wrap 0 runs; loop { ask 0 keep }", "place 1 wants run of none", "1:"},
		{"make 1 lamp; try { call 1 Tell } else { call 1 Put k 3 }; if { } else { }", "place 3 wants keep of run", "3:"},
		{"make 0 meter; wrap 0 counts", "place 1 wants keep of run+tell", "1:"},
		{"make 0 drawer; wrap 0 keeps; wrap 0 lazy", "place 2 wants run+keep of keep", "2:"},
		{"make 2 robot; wrap 2 plain; ask 2 run+keep+tell+hear+save+heal", "place 2 wants run+keep+tell+hear+save+heal of none", "2:"},
		// One branch, the other, both.
		{"make 0 drawer; if { wrap 0 runs } else { wrap 0 keeps }; ask 0 keep", "place 4 wants keep of run for 1", "4: 1"},
		{"make 0 drawer; if { wrap 0 keeps } else { wrap 0 runs }; ask 0 keep", "place 4 wants keep of run for 0", "4: 0"},
		{"make 0 lamp; if { } else { }; ask 0 keep", "place 2 wants keep of run for 0", "2: 0"},
		{"make 0 lamp; if { ask 0 keep } else { ask 0 tell }; ask 0 save", "place 3 wants tell of run for 0", "2: 1, 3: 0"},
		{"make 0 lamp; if { ask 0 keep } else { }; ask 0 save", "place 3 wants save of run for 0", "2: 1, 3: 0"},
		// The rounds of loops.
		{"make 0 lamp; loop { ask 0 keep }", "place 2 wants keep of run for 1", "2: 1"},
		{"make 0 drawer; loop { ask 0 run; wrap 0 keeps }", "place 2 wants run of keep for 2", "2: 2"},
		{"make 0 robot; make 1 robot; make 2 lamp; loop { ask 0 keep; copy 0 from 1; copy 1 from 2 }", "place 4 wants keep of run for 3", "4: 3"},
		{"make 0 robot; make 1 drawer; loop { ask 0 keep; copy 0 from 1; copy 1 from 2; make 2 lamp }", "safe", ""},
		{"make 0 drawer; loop { wrap 0 keeps }; ask 0 run", "place 3 wants run of keep for 1", "3: 1"},
		{"make 0 lamp; loop { }; ask 0 keep", "place 2 wants keep of run for 0", "2: 0"},
		{"make 0 robot; loop { wrap 0 plain }; loop { wrap 0 runs }", "place 4 wants run of none for 1 1", "4: 1 1"},
	})
}

func TestWitnessesOfOneLength(t *testing.T) {
	checkWitnessed(t, []witnessed{
		// They differ in a later number only.
		{"make 0 lamp; if { } else { }; if { } else { }; ask 0 keep", "place 3 wants keep of run for 0 0", "3: 0 0"},
		{"make 0 robot; if { } else { }; if { make 0 lamp } else { }; ask 0 keep", "place 4 wants keep of run for 0 1", "4: 0 1"},
		{"make 0 robot; if { } else { }; if { } else { }; if { } else { make 0 lamp }; ask 0 keep", "place 5 wants keep of run for 0 0 0", "5: 0 0 0"},
		{"make 0 robot; if { drop 2 } else { make 0 shelf }; loop { wrap 0 keeps }; if { ask 0 run } else { }; ask 0 keep", "place 7 wants run of keep for 0 0 1", "7: 0 0 1"},
		// Several branches leave the lamp: by 0 1, by 1 0 and by 1 1.
		{"make 0 robot; if { make 0 lamp } else { drop 1 }; if { make 0 lamp } else { }; if { ask 0 keep } else { }", "place 7 wants keep of run for 0 1 1", "7: 0 1 1"},
		{"make 0 robot; if { make 0 lamp } else { }; if { } else { make 0 lamp }; loop { ask 0 keep }", "place 6 wants keep of run for 0 0 1", "6: 0 0 1"},
		{"make 0 robot; loop { make 0 lamp }; loop { make 0 lamp }; ask 0 keep", "place 5 wants keep of run for 0 1", "5: 0 1"},
		{"make 0 robot; loop { if { make 0 lamp } else { } }; ask 0 keep", "place 4 wants keep of run for 1 1", "4: 1 1"},
		// The first branch is the greater one, but the least input to the same shapes is shorter.
		{"make 0 robot; if { make 0 lamp } else { if { make 0 lamp } else { } }; ask 0 keep", "place 5 wants keep of run for 1", "5: 1"},
		{"make 0 robot; if { if { make 0 lamp } else { } } else { make 0 lamp }; if { ask 0 keep } else { }", "place 6 wants keep of run for 0 1", "6: 0 1"},
		{"make 0 robot; if { loop { }; make 0 lamp } else { if { } else { }; if { } else { }; make 0 lamp }; ask 0 keep", "place 7 wants keep of run for 1 0", "7: 1 0"},
		// Of two places, the one with the lesser input; that of the other one is told of it.
		{"make 0 lamp; if { if { ask 0 keep } else { ask 0 tell } } else { loop { ask 0 save } }; ask 0 heal", "place 7 wants heal of run for 0 0", "3: 1 1, 4: 1 0, 6: 0 1, 7: 0 0"},
	})
}

func TestWitnessesOfLoopsInLoops(t *testing.T) {
	checkWitnessed(t, []witnessed{
		{"make 0 drawer; loop { loop { ask 0 run; wrap 0 keeps } }", "place 3 wants run of keep for 1 2", "3: 1 2"},
		{"make 0 lamp; loop { loop { ask 0 keep } }", "place 3 wants keep of run for 1 1", "3: 1 1"},
		{"make 0 lamp; loop { loop { } }; ask 0 keep", "place 3 wants keep of run for 0", "3: 0"},
		// Each round takes numbers of its own: 4 rounds need two of the outer loop, and one number more.
		{"make 0 robot; make 1 robot; make 2 drawer; loop { loop { ask 0 keep; copy 0 from 1; copy 1 from 2; make 2 lamp } }", "place 5 wants keep of run for 2 1 3", "5: 2 1 3"},
		{"make 0 robot; make 1 robot; make 2 lamp; loop { if { copy 0 from 1; copy 1 from 2 } else { } }; ask 0 keep", "place 7 wants keep of run for 2 1 1", "7: 2 1 1"},
		{"make 0 robot; make 1 robot; make 2 drawer; loop { if { ask 0 keep; copy 0 from 1; copy 1 from 2; make 2 lamp } else { } }", "safe", ""},
		{"make 0 robot; make 1 robot; make 2 lamp; loop { if { ask 0 keep; copy 0 from 1; copy 1 from 2 } else { } }", "place 5 wants keep of run for 3 1 1 1", "5: 3 1 1 1"},
		{"make 0 robot; loop { if { wrap 0 runs } else { wrap 0 keeps } }", "place 3 wants run of keep for 2 0 1", "3: 2 0 1, 4: 2 1 0"},
		{"make 0 robot; loop { if { wrap 0 runs } else { wrap 0 keeps } }; ask 0 run+keep", "place 5 wants run+keep of keep for 1 0", "3: 2 0 1, 4: 2 1 0, 5: 1 0"},
	})
}

func TestWitnessesOfTries(t *testing.T) {
	checkWitnessed(t, []witnessed{
		{"make 0 lamp; try { ask 0 keep } else { }", "safe", ""},
		{"make 0 lamp; try { loop { ask 0 keep } } else { }; ask 0 tell", "place 4 wants tell of run for 0", "4: 0"},
		{"make 0 lamp; try { loop { ask 0 keep } } else { loop { ask 0 tell } }", "place 5 wants tell of run for 1 1", "5: 1 1"},
		{"make 0 drawer; try { if { wrap 0 keeps; ask 0 run } else { ask 0 tell } } else { if { ask 0 run } else { ask 0 keep } }", "place 7 wants run of keep for 1 1", "7: 1 1"},
		// Numbers that were taken before a failure stay taken.
		{"make 0 robot; try { if { make 0 lamp } else { make 0 shelf }; if { } else { }; ask 0 keep } else { loop { } }; ask 0 tell", "place 8 wants tell of keep for 0 0", "8: 0 0"},
		{"make 0 robot; try { if { make 0 lamp } else { }; if { } else { }; ask 0 keep } else { loop { } }; ask 0 keep", "place 7 wants keep of run for 1 0 0", "7: 1 0 0"},
		// Caught in several places with the same shapes: the least of their inputs counts further on.
		{"make 0 lamp; try { loop { if { } else { } }; ask 0 keep } else { make 0 horn }; ask 0 keep", "place 6 wants keep of run+hear for 0", "6: 0"},
		{"make 0 lamp; try { if { if { } else { }; ask 0 keep } else { loop { }; loop { }; ask 0 tell } } else { make 0 horn; ask 0 keep }", "place 9 wants keep of run+hear for 1 0", "9: 1 0"},
		{"make 0 lamp; try { if { ask 0 keep } else { loop { }; ask 0 tell } } else { make 0 horn; ask 0 keep }", "place 7 wants keep of run+hear for 1", "7: 1"},
		// With and without a failure to the same shapes.
		{"make 0 lamp; try { if { ask 0 keep } else { make 0 horn } } else { make 0 horn }; ask 0 keep", "place 6 wants keep of run+hear for 0", "6: 0"},
		{"make 0 lamp; try { if { make 0 horn } else { ask 0 keep } } else { make 0 horn }; ask 0 keep", "place 6 wants keep of run+hear for 0", "6: 0"},
		{"make 0 lamp; try { if { make 0 horn } else { loop { }; ask 0 keep } } else { make 0 horn }; ask 0 keep", "place 7 wants keep of run+hear for 1", "7: 1"},
		// The inner one, the outer one, and none.
		{"make 0 lamp; try { try { ask 0 keep } else { loop { }; ask 0 tell } } else { ask 0 save }", "place 6 wants save of run for 0", "6: 0"},
		{"make 0 lamp; try { ask 0 keep } else { try { ask 0 tell } else { loop { }; ask 0 save } }", "place 6 wants save of run for 0", "6: 0"},
		// An empty slot is not caught.
		{"try { ask 0 run } else { make 0 lamp; ask 0 keep }", "safe", ""},
		{"make 0 lamp; try { if { drop 0 } else { }; ask 0 keep } else { ask 0 tell }", "place 5 wants tell of run for 0", "5: 0"},
	})
}

func TestWitnessesOfPlacesOutside(t *testing.T) {
	l := planOf(t, "make 0 lamp; if { ask 0 keep } else { call 0 Tell }; ask 0 save")
	for _, place := range []int{-1, -2, -3, 0, 1, 4, 5, 6, 100, 1 << 32, 1<<32 + 2, math.MinInt, math.MaxInt} {
		if input, ok := impl.WitnessAt(l, place); ok || len(input) > 0 {
			t.Errorf("the witness at %d is %v, %t", place, input, ok)
		}
	}
	for _, place := range []int{-1, 0, 1, math.MinInt, math.MaxInt} {
		if input, ok := impl.WitnessAt(nil, place); ok || len(input) > 0 {
			t.Errorf("the witness of nothing at %d is %v, %t", place, input, ok)
		}
	}
}
