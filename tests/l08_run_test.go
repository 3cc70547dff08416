package tests

import (
	"math"
	"slices"
	"strconv"
	"strings"
	"testing"

	"loop.example/g03016/impl"
)

// planRun is a plan that is run from slots of the recipes `from`, how it ends, the slots then, and how many numbers it takes.
type planRun struct {
	from, plan, input string
	end, slots        string
	taken             int
}

func numbersOf(t *testing.T, text string) []int {
	t.Helper()
	l := []int{}
	for _, word := range strings.Fields(text) {
		n, err := strconv.Atoi(word)
		if err != nil {
			t.Fatal(err)
		}
		l = append(l, n)
	}
	return l
}

// checkRuns compares slots by their shapes, or by all that is in them where the wanted text tells it.
func checkRuns(t *testing.T, runs []planRun) {
	t.Helper()
	for _, c := range runs {
		end, after, taken := checkRun(t, slotsOf(t, c.from), planOf(t, c.plan), numbersOf(t, c.input))
		slots := shapeOfSlots(after)
		if strings.Contains(c.slots, ":") {
			slots = textOfSlots(after)
		}
		if textOfEnd(end) != c.end || slots != c.slots || taken != c.taken {
			t.Errorf("%q from %q for %q ends with %s, %s, %d taken\nnot %s, %s, %d taken", c.plan, c.from, c.input, textOfEnd(end), slots, taken, c.end, c.slots, c.taken)
		}
		if !impl.IsSlots(after) {
			t.Errorf("%q from %q for %q ends with slots that are not valid: %s", c.plan, c.from, c.input, brief(after))
		}
	}
}

func TestRunsOfOneAction(t *testing.T) {
	checkRuns(t, []planRun{
		{"||", "nothing", "", "ok", "||", 0},
		{"||", "nothing", "1 2 3", "ok", "||", 0},
		{"lamp||robot counts", "nothing", "", "ok", "lamp: off - 0 []||robot counts: off - 0 [0]", 0},
		{"||", "make 0 lamp", "", "ok", "lamp: off - 0 []||", 0},
		{"||", "make 1 stone", "3", "ok", "|stone|", 0},
		{"||", "make 2 vault", "", "ok", "||vault", 0},
		{"robot counts||", "make 0 lamp", "", "ok", "lamp: off - 0 []||", 0},
		{"lamp|meter|robot", "drop 1", "", "ok", "lamp||robot", 0},
		{"lamp||robot", "drop 1", "", "ok", "lamp||robot", 0},
		{"lamp runs|meter|", "copy 2 from 0", "", "ok", "lamp runs|meter|lamp runs", 0},
		{"lamp runs|meter|", "copy 1 from 0", "", "ok", "lamp runs|lamp runs|", 0},
		{"lamp runs|meter|", "copy 1 from 2", "", "ok", "lamp runs||", 0},
		{"lamp runs|meter|", "copy 0 from 1", "", "ok", "meter|meter|", 0},
		{"||", "copy 0 from 1", "", "ok", "||", 0},
		{"shelf||", "wrap 0 counts", "", "ok", "shelf counts: off - 0 [0]||", 0},
		{"|shelf counts|", "wrap 1 twice", "", "ok", "|shelf counts twice|", 0},
		{"|shelf counts twice|", "unwrap 1", "", "ok", "|shelf counts|", 0},
		{"|shelf counts|", "unwrap 1", "", "ok", "|shelf|", 0},
		{"|shelf|", "unwrap 1", "", "ok", "|shelf|", 0},
		{"||drawer", "ask 2 run+keep", "", "ok", "||drawer", 0},
		{"||drawer", "ask 2 keep", "", "ok", "||drawer", 0},
		{"stone||", "ask 0 none", "", "ok", "stone||", 0},
		{"robot plain||", "ask 0 none", "", "ok", "robot plain||", 0},
		{"robot||", "ask 0 run+keep+tell+hear+save+heal", "", "ok", "robot||", 0},
		{"lamp||", "call 0 Start", "", "ok", "lamp: on - 1 []||", 0},
		{"|shelf|", "call 1 Put k 3", "", "ok", "|shelf: off k=3 1 []|", 0},
		{"||vault", "call 2 Load a=1,b=2", "", "ok", "||vault: off a=1,b=2 0 []", 0},
	})
}

func TestFailuresOfOneAction(t *testing.T) {
	checkRuns(t, []planRun{
		{"lamp||", "wrap 0 counts", "", "place 0 wants keep of run", "lamp||", 0},
		{"shelf||", "wrap 0 lazy", "", "place 0 wants run+keep of keep", "shelf||", 0},
		{"robot plain||", "wrap 0 hears", "", "place 0 wants run of none", "robot plain||", 0},
		{"drawer keeps||", "wrap 0 runs", "", "place 0 wants run of keep", "drawer keeps||", 0},
		{"lamp||", "ask 0 run+keep", "", "place 0 wants run+keep of run", "lamp||", 0},
		{"|stone|", "ask 1 heal", "", "place 0 wants heal of none", "|stone|", 0},
		{"||vault", "ask 2 run+keep+tell+hear+save+heal", "", "place 0 wants run+keep+tell+hear+save+heal of run+keep+save", "||vault", 0},
		{"robot counts||", "ask 0 run", "", "place 0 wants run of keep+tell", "robot counts||", 0},
		{"lamp||", "call 0 Get k", "", "place 0 wants keep of run", "lamp: off - 0 []||", 0},
		{"shelf||", "call 0 Start", "", "place 0 wants run of keep", "shelf: off - 0 []||", 0},
		{"|shelf counts|", "call 1 Load a=1", "", "place 0 wants save of keep+tell", "|shelf counts|", 0},
		{"||robot hears", "call 2 Heal", "", "place 0 wants heal of run+hear", "||robot hears", 0},
		{"||", "wrap 0 plain", "", "place 0 empty", "||", 0},
		{"lamp||", "unwrap 1", "", "place 0 empty", "lamp||", 0},
		{"lamp||", "ask 2 none", "", "place 0 empty", "lamp||", 0},
		{"lamp||", "call 1 Start", "", "place 0 empty", "lamp||", 0},
	})
}

// Each part is asked for each face, and each is wrapped and called, while the other slots hold other parts.
func TestAllAssertionsOfAllParts(t *testing.T) {
	for i, k := range kinds {
		for _, shape := range shapesOf(k.name, 3) {
			slots := slotsOf(t, "stone||robot runs")
			slots[i%3] = impl.Slot{Full: true, Part: shape}
			if len(shape.Layers) < 2 {
				for face := range 64 {
					checkRun(t, slots, []impl.Action{{Op: impl.PlanAsk, Slot: i % 3, Face: face}}, nil)
				}
			}
			for _, name := range adapterNames() {
				checkRun(t, slots, []impl.Action{{Op: impl.PlanWrap, Slot: i % 3, Word: name}}, nil)
			}
			for _, x := range fewCalls() {
				if x.Text != "bad" {
					checkRun(t, slots, []impl.Action{{Op: impl.PlanCall, Slot: i % 3, Call: x}}, nil)
				}
			}
			checkRun(t, slots, []impl.Action{{Op: impl.PlanUnwrap, Slot: i % 3}}, nil)
		}
	}
}

// A part that has all its layers is not wrapped, and not asked for what the adapter needs.
func TestWrapsAtTheLimitAndUnwrapsOfNothing(t *testing.T) {
	checkRuns(t, []planRun{
		{"robot plain plain plain||", "wrap 0 plain", "", "ok", "robot plain plain plain||", 0},
		{"robot plain plain plain||", "wrap 0 runs; wrap 0 lazy; wrap 0 twice; drop 1", "", "ok", "robot plain plain plain||", 0},
		{"|drawer lazy keeps counts|", "wrap 1 hears; wrap 1 twice; call 1 Put k 1", "", "ok", "|drawer lazy keeps counts: on k=1 2 [0 0 1]|", 0},
		{"robot runs runs||", "wrap 0 runs; wrap 0 runs; wrap 0 keeps", "", "ok", "robot runs runs runs||", 0},
		{"robot runs runs||", "wrap 0 keeps", "", "place 0 wants keep of run", "robot runs runs||", 0},
		{"robot runs runs runs||", "unwrap 0; wrap 0 keeps", "", "place 1 wants keep of run", "robot runs runs||", 0},
		{"shelf||", "loop { wrap 0 keeps }; loop { wrap 0 keeps }", "3 3", "ok", "shelf keeps keeps keeps||", 2},
		{"shelf counts||", "loop { unwrap 0 }; wrap 0 reads", "3", "ok", "shelf reads||", 1},
		{"robot||", "unwrap 0; unwrap 0; unwrap 0", "", "ok", "robot||", 0},
		{"robot plain plain plain||", "drop 0; wrap 0 plain", "", "place 1 empty", "||", 0},
		{"robot||", "drop 0; unwrap 0", "", "place 1 empty", "||", 0},
	})
	for _, kind := range kinds {
		for _, shape := range shapesOf(kind.name, 3) {
			if len(shape.Layers) < 3 {
				continue
			}
			for _, p := range partsOf(shape)[:1] {
				slots := []impl.Slot{{}, {Full: true, Part: p}, {}}
				for _, name := range adapterNames() {
					end, after, _ := checkRun(t, slots, []impl.Action{{Op: impl.PlanWrap, Slot: 1, Word: name}}, nil)
					if end != (impl.End{}) || !sameSlots(after, slots) {
						t.Errorf("%s around %s: %s", name, brief(p), textOfEnd(end))
					}
				}
			}
		}
	}
}

func TestCopiesAreApart(t *testing.T) {
	checkRuns(t, []planRun{
		{"drawer counts||", "copy 1 from 0; call 0 Get k; wrap 0 twice; call 1 Get k; call 1 Get k", "", "ok", "drawer counts twice: off - 0 [1 0]|drawer counts: off - 0 [2]|", 0},
		{"shelf||", "call 0 Put a 1; copy 2 from 0; call 0 Put a 2; call 2 Put b 3", "", "ok", "shelf: off a=2 2 []||shelf: off a=1,b=3 2 []", 0},
		{"shelf||", "call 0 Put a 1; copy 2 from 0; call 2 Put a 2", "", "ok", "shelf: off a=1 1 []||shelf: off a=2 2 []", 0},
		{"lamp runs||", "copy 1 from 0; unwrap 0; call 1 Start", "", "ok", "lamp: off - 0 []|lamp runs: on - 1 [0]|", 0},
		{"lamp runs||", "copy 1 from 0; drop 0", "", "ok", "|lamp runs|", 0},
		{"lamp runs||", "copy 1 from 0; drop 1", "", "ok", "lamp runs||", 0},
		{"lamp runs||", "copy 0 from 1; make 1 horn", "", "ok", "|horn|", 0},
		{"lamp|horn|", "copy 2 from 0; copy 0 from 1; copy 1 from 2", "", "ok", "horn|lamp|lamp", 0},
		{"lamp|horn|", "copy 0 from 2; call 1 Start; ask 0 none", "", "place 2 empty", "|horn: on - 1 []|", 0},
	})
}

// A reply that is no failed assertion does not end a run.
func TestRepliesThatDoNotEndARun(t *testing.T) {
	checkRuns(t, []planRun{
		{"drawer||", "call 0 Get k; call 0 Put k 1; call 0 Stop; make 1 lamp", "", "ok", "drawer: off - 0 []|lamp: off - 0 []|", 0},
		{"lamp||", "call 0 Start; call 0 Start; call 0 Start; call 0 Stop; make 1 lamp", "", "ok", "lamp: broken - 1 []|lamp: off - 0 []|", 0},
		{"drawer||", "call 0 Start; call 0 Start; call 0 Put k 1; call 0 Get k; make 1 lamp", "", "ok", "drawer: broken - 1 []|lamp: off - 0 []|", 0},
		{"shelf||", "call 0 Get k; call 0 Get k; make 1 lamp", "", "ok", "shelf: off - 0 []|lamp: off - 0 []|", 0},
		{"shelf||", "call 0 Put a 1; call 0 Put b 2; call 0 Put c 3; call 0 Put d 4; call 0 Put e 5; call 0 Put a 9; make 1 lamp", "", "ok", "shelf: off a=9,b=2,c=3,d=4 5 []|lamp: off - 0 []|", 0},
		{"shelf reads||", "call 0 Put a 1; make 1 lamp", "", "ok", "shelf reads: off - 0 [0]|lamp: off - 0 []|", 0},
		{"vault||", "call 0 Load a=1; call 0 Load ; make 1 lamp", "", "ok", "vault: off a=1 0 []|lamp: off - 0 []|", 0},
		{"vault||", "call 0 Load a=1; call 0 Load -; make 1 lamp", "", "ok", "vault: off - 0 []|lamp: off - 0 []|", 0},
		{"||", "make 0 shelf; try { call 0 Get k; make 1 horn } else { make 2 stone }", "", "ok", "shelf|horn|", 0},
		{"drawer||", "try { call 0 Get k; call 0 Start; call 0 Start; call 0 Start } else { make 2 stone }; make 1 horn", "", "ok", "drawer: broken - 1 []|horn: off - 0 []|", 0},
	})
}

func TestRunsWithBranches(t *testing.T) {
	const branch = "if { make 0 lamp } else { make 0 shelf }"
	checkRuns(t, []planRun{
		{"||", branch, "0", "ok", "shelf||", 1},
		{"||", branch, "1", "ok", "lamp||", 1},
		{"||", branch, "2", "ok", "shelf||", 1},
		{"||", branch, "3", "ok", "lamp||", 1},
		{"||", branch, "", "ok", "shelf||", 1},
		{"||", branch + "; if { } else { make 1 horn }", "1", "ok", "lamp|horn|", 2},
		{"||", branch + "; if { } else { make 1 horn }", "0 1", "ok", "shelf||", 2},
		{"||", branch + "; if { } else { make 1 horn }", "1 0 5 5 5", "ok", "lamp|horn|", 2},
		{"||", "if { if { make 0 lamp } else { make 0 shelf } } else { make 1 horn; if { make 2 robot } else { } }", "1 0", "ok", "shelf||", 2},
		{"||", "if { if { make 0 lamp } else { make 0 shelf } } else { make 1 horn; if { make 2 robot } else { } }", "0 3", "ok", "|horn|robot", 2},
		{"lamp||", "if { ask 0 keep } else { ask 0 tell }", "1", "place 1 wants keep of run", "lamp||", 1},
		{"lamp||", "if { ask 0 keep } else { ask 0 tell }", "0", "place 2 wants tell of run", "lamp||", 1},
		{"lamp||", "if { drop 1; ask 0 keep; drop 0 } else { drop 1; loop { drop 2; ask 0 tell }; drop 0 }; drop 0", "2 1", "place 7 wants tell of run", "lamp||", 2},
		{"lamp||", "if { unwrap 1 } else { loop { }; unwrap 2 }", "1", "place 1 empty", "lamp||", 1},
		{"lamp||", "if { unwrap 1 } else { loop { }; unwrap 2 }", "2 3", "place 3 empty", "lamp||", 2},
	})
}

// Each number counts as its remainder by 4 that is not negative.
func TestNumbersOfTheInput(t *testing.T) {
	loop := planOf(t, "make 0 shelf; loop { call 0 Put k 1 }")
	branch := planOf(t, "if { make 0 lamp } else { make 0 shelf }")
	for n, counts := range map[int]int{
		0: 0, 1: 1, 2: 2, 3: 3, 4: 0, 5: 1, 6: 2, 7: 3, 8: 0, 1000: 0, 1001: 1, -1: 3, -2: 2, -3: 1, -4: 0, -5: 3, -6: 2, -7: 1, -8: 0, -1001: 3,
		math.MaxInt: 3, math.MaxInt - 1: 2, math.MaxInt - 3: 0, math.MinInt: 0, math.MinInt + 1: 1, math.MinInt + 2: 2, math.MinInt + 3: 3,
	} {
		_, after, taken := checkRun(t, impl.EmptySlots(), loop, []int{n, 77})
		if after[0].Part.Core.Count != counts || taken != 1 {
			t.Errorf("%d counts as %d, and %d are taken", n, after[0].Part.Core.Count, taken)
		}
		want := "shelf||"
		if counts == 1 || counts == 3 {
			want = "lamp||"
		}
		if _, after, _ := checkRun(t, impl.EmptySlots(), branch, []int{n}); shapeOfSlots(after) != want {
			t.Errorf("for %d there is %s", n, shapeOfSlots(after))
		}
	}
}

func TestRunsWithLoops(t *testing.T) {
	const inner = "make 0 shelf; loop { if { call 0 Put a 1 } else { call 0 Put b 1 } }"
	const twice = "make 0 shelf; loop { loop { call 0 Put a 1 }; call 0 Put b 1 }; if { make 1 lamp } else { make 1 horn }"
	checkRuns(t, []planRun{
		{"shelf||", "loop { call 0 Put a 1 }", "", "ok", "shelf: off - 0 []||", 1},
		{"shelf||", "loop { call 0 Put a 1 }", "0 3", "ok", "shelf: off - 0 []||", 1},
		{"shelf||", "loop { call 0 Put a 1 }", "1 3", "ok", "shelf: off a=1 1 []||", 1},
		{"shelf||", "loop { call 0 Put a 1 }", "2 3", "ok", "shelf: off a=1 2 []||", 1},
		{"shelf||", "loop { call 0 Put a 1 }", "3 3", "ok", "shelf: off a=1 3 []||", 1},
		{"shelf||", "loop { }; loop { }", "3", "ok", "shelf||", 2},
		{"||", inner, "0 1 1", "ok", "shelf: off - 0 []||", 1},
		{"||", inner, "1 1", "ok", "shelf: off a=1 1 []||", 2},
		{"||", inner, "2 0 0 1", "ok", "shelf: off b=1 2 []||", 3},
		{"||", inner, "3 1 0 1 0", "ok", "shelf: off a=1,b=1 3 []||", 4},
		{"||", inner, "3 1", "ok", "shelf: off a=1,b=1 3 []||", 4},
		{"||", inner, "3", "ok", "shelf: off b=1 3 []||", 4},
		{"||", twice, "3 3 1 2 1", "ok", "shelf: off a=1,b=1 9 []|lamp: off - 0 []|", 5},
		{"||", twice, "2 0 3 1", "ok", "shelf: off a=1,b=1 5 []|lamp: off - 0 []|", 4},
		{"||", twice, "2 3", "ok", "shelf: off a=1,b=1 5 []|horn: off - 0 []|", 4},
		{"||", twice, "0 1", "ok", "shelf: off - 0 []|lamp: off - 0 []|", 2},
		{"shelf||", "loop { loop { loop { } }; call 0 Put a 1 }", "3 3 3 3 3 3 3 3 3 3 3 3 3 3", "ok", "shelf: off a=1 3 []||", 13},
		{"lamp||", "loop { ask 0 run; drop 0 }", "1", "ok", "||", 1},
		{"lamp||", "loop { ask 0 run; drop 0 }", "2", "place 1 empty", "||", 1},
		{"robot||", "loop { wrap 0 runs; wrap 0 hears }", "1", "ok", "robot runs hears||", 1},
		{"robot||", "loop { ask 0 keep; if { wrap 0 lazy } else { wrap 0 runs } }; make 1 lamp", "3 1 0 1", "place 1 wants keep of run", "robot lazy runs||", 3},
		{"robot||", "loop { ask 0 keep; if { wrap 0 lazy } else { wrap 0 runs } }; make 1 lamp", "2 1 0 1", "ok", "robot lazy runs|lamp|", 3},
	})
}

func TestInputsThatAreTooShortAndTooLong(t *testing.T) {
	l := planOf(t, "make 0 shelf; if { call 0 Put a 1 } else { call 0 Put b 1 }; loop { call 0 Put c 1 }; if { } else { call 0 Put d 1 }")
	for _, c := range []struct {
		input []int
		state string
	}{
		{nil, "off b=1,d=1 2 []"}, {[]int{}, "off b=1,d=1 2 []"}, {[]int{1}, "off a=1,d=1 2 []"}, {[]int{1, 1}, "off a=1,c=1,d=1 3 []"}, {[]int{0, 3, 0}, "off b=1,c=1,d=1 5 []"},
		{[]int{1, 2, 1}, "off a=1,c=1 3 []"}, {[]int{1, 2, 1, 0, 3}, "off a=1,c=1 3 []"}, {slices.Repeat([]int{1}, 1<<16), "off a=1,c=1 2 []"},
	} {
		end, after, taken := checkRun(t, impl.EmptySlots(), l, c.input)
		if end != (impl.End{}) || taken != 3 || textOfState(after[0].Part) != c.state {
			t.Errorf("%v: %s, %s, %d taken", brief(c.input), textOfEnd(end), textOfSlots(after), taken)
		}
	}
	// What is behind a failure is not taken.
	end, _, taken := checkRun(t, impl.EmptySlots(), planOf(t, "loop { if { ask 0 none } else { } }; loop { }"), []int{3, 0, 1, 1})
	if end != (impl.End{Code: impl.EndEmpty, Place: 2}) || taken != 3 {
		t.Error(textOfEnd(end), taken)
	}
}

func TestRunsThatAreBad(t *testing.T) {
	valid := planOf(t, "make 0 lamp; if { } else { ask 1 run }")
	for _, slots := range invalidSlots(t) {
		for _, l := range [][]impl.Action{nil, valid, manyDrops(15)} {
			end, after, taken := checkRun(t, slots, l, []int{1, 2})
			if end != (impl.End{Code: impl.EndBad}) || taken != 0 || !sameSlots(after, slots) {
				t.Errorf("%s of %s: %s, %d taken", brief(l), brief(slots), textOfEnd(end), taken)
			}
		}
	}
	for i, a := range invalidActions() {
		slots := slotsOf(t, "robot counts|drawer|")
		for _, l := range [][]impl.Action{{a}, {drops(1)[0], loopOf(a)}, {{Op: impl.PlanMake, Word: "lamp"}, a}}[i%3 : i%3+1] {
			end, after, taken := checkRun(t, slots, l, []int{1, 2})
			if end != (impl.End{Code: impl.EndBad}) || taken != 0 || !sameSlots(after, slots) {
				t.Errorf("%s of %s: %s, %d taken", brief(l), brief(slots), textOfEnd(end), taken)
			}
		}
	}
}
