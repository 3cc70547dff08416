package tests

import (
	"testing"

	"loop.example/g03016/impl"
)

func TestFailuresThatAreCaught(t *testing.T) {
	checkRuns(t, []planRun{
		{"lamp||", "try { ask 0 keep } else { make 1 horn }", "", "ok", "lamp|horn|", 0},
		{"lamp||", "try { ask 0 run } else { make 1 horn }", "", "ok", "lamp||", 0},
		{"lamp||", "try { wrap 0 counts } else { make 1 horn }; make 2 stone", "", "ok", "lamp|horn|stone", 0},
		{"lamp||", "try { call 0 Get k } else { make 1 horn }; make 2 stone", "", "ok", "lamp|horn|stone", 0},
		{"lamp||", "try { ask 0 keep } else { }", "", "ok", "lamp||", 0},
		{"lamp||", "try { } else { make 1 horn }", "", "ok", "lamp||", 0},
		{"lamp||", "try { ask 0 keep; make 1 horn } else { }; make 2 stone", "", "ok", "lamp||stone", 0},
		{"lamp||", "make 1 lamp; try { ask 0 keep } else { drop 0 }; ask 1 keep", "", "place 4 wants keep of run", "|lamp|", 0},
	})
}

// What was done before the failure stays done.
func TestSlotsAfterACaughtFailure(t *testing.T) {
	checkRuns(t, []planRun{
		{"shelf||", "try { call 0 Put a 1; wrap 0 counts; call 0 Get a; ask 0 run } else { call 0 Get a; copy 1 from 0 }", "", "ok", "shelf counts: off a=1 1 [2]|shelf counts: off a=1 1 [2]|", 0},
		{"shelf||", "try { call 0 Put a 1; wrap 0 counts; ask 0 run } else { unwrap 0; wrap 0 reads }; call 0 Put b 2", "", "ok", "shelf reads: off a=1 1 [0]||", 0},
		{"lamp|shelf|", "try { drop 0; make 2 robot; copy 0 from 1; ask 0 run } else { call 0 Put z 9 }", "", "ok", "shelf: off z=9 1 []|shelf: off - 0 []|robot: off - 0 []", 0},
		{"lamp||", "try { call 0 Start; call 0 Start; wrap 0 keeps } else { call 0 Start }", "", "ok", "lamp: broken - 1 []||", 0},
		{"drawer||", "try { wrap 0 lazy; call 0 Put k 1; wrap 0 keeps; wrap 0 hears } else { wrap 0 counts }; call 0 Put j 2", "", "ok", "drawer lazy keeps counts: on j=2,k=1 3 [0 0 1]||", 0},
		// The call that fails has changed nothing.
		{"shelf counts||", "call 0 Get a; try { call 0 Start } else { }; try { call 0 Save } else { }", "", "ok", "shelf counts: off - 0 [1]||", 0},
	})
}

func TestFailuresInLoopsThatAreCaught(t *testing.T) {
	const rounds = "try { loop { ask 0 keep; call 0 Put a 1; copy 0 from 1; copy 1 from 2 } } else { make 2 horn }"
	const drawn = "loop { if { ask 0 keep } else { call 1 Put a 1 } }"
	checkRuns(t, []planRun{
		{"lamp|shelf|", rounds, "0 1", "ok", "lamp|shelf|", 1},
		{"shelf|lamp|", rounds, "1", "ok", "lamp||", 1},
		// In the first round, in the second, in the third: the rounds that are left are not performed.
		{"lamp|shelf|shelf", rounds, "3", "ok", "lamp: off - 0 []|shelf: off - 0 []|horn: off - 0 []", 1},
		{"shelf|lamp|shelf", rounds, "3", "ok", "lamp: off - 0 []|shelf: off - 0 []|horn: off - 0 []", 1},
		{"shelf|shelf|lamp", rounds, "3", "ok", "lamp: off - 0 []|lamp: off - 0 []|horn: off - 0 []", 1},
		{"shelf|shelf|shelf", rounds, "3", "ok", "shelf|shelf|shelf", 1},
		// The same failures, not caught.
		{"lamp|shelf|", drawn, "3 0 1 0", "place 2 wants keep of run", "lamp: off - 0 []|shelf: off a=1 1 []|", 3},
		{"lamp|shelf|", drawn, "3 0 0 1", "place 2 wants keep of run", "lamp: off - 0 []|shelf: off a=1 2 []|", 4},
		{"robot||", "try { loop { wrap 0 lazy; ask 0 run+keep; wrap 0 runs } } else { unwrap 0 }; call 0 Put k 1", "3", "ok", "robot lazy: on k=1 2 [0]||", 1},
		{"robot||", "try { loop { ask 0 save; wrap 0 lazy } } else { }; make 1 horn", "3", "ok", "robot lazy|horn|", 1},
		// A try in a loop catches in each round.
		{"lamp|shelf|", "loop { try { call 1 Put a 1; ask 0 keep } else { call 1 Put b 1 } }", "3", "ok", "lamp: off - 0 []|shelf: off a=1,b=1 6 []|", 1},
		{"lamp|shelf|shelf", "loop { try { call 2 Put a 1; ask 0 keep } else { call 2 Put b 1 }; copy 0 from 1 }", "3", "ok", "shelf: off - 0 []|shelf: off - 0 []|shelf: off a=1,b=1 4 []", 1},
	})
}

func TestFailuresInTriesInTries(t *testing.T) {
	checkRuns(t, []planRun{
		// The inner one catches, and the outer one has nothing to catch.
		{"lamp||", "try { try { ask 0 keep } else { make 1 horn }; make 2 stone } else { drop 0 }", "", "ok", "lamp|horn|stone", 0},
		{"lamp||", "try { try { ask 0 keep } else { } } else { drop 0 }", "", "ok", "lamp||", 0},
		// What fails in B of the inner one is caught by the outer one, and so is what fails behind it.
		{"lamp||", "try { try { ask 0 keep } else { make 1 horn; ask 0 tell; drop 1 }; make 2 stone } else { drop 0 }; make 2 robot", "", "ok", "|horn|robot", 0},
		{"lamp||", "try { try { ask 0 keep } else { make 1 horn }; ask 0 tell; make 2 stone } else { drop 0 }", "", "ok", "|horn|", 0},
		{"lamp||", "try { try { } else { make 1 horn }; ask 0 tell } else { drop 0 }", "", "ok", "||", 0},
		// A try in B of another one.
		{"lamp||", "try { ask 0 keep } else { try { make 1 horn; ask 0 tell } else { make 2 stone } }", "", "ok", "lamp|horn|stone", 0},
		{"lamp||", "try { ask 0 keep } else { try { ask 0 tell } else { ask 0 save } }", "", "place 4 wants save of run", "lamp||", 0},
	})
}

func TestFailuresThatAreNotCaught(t *testing.T) {
	checkRuns(t, []planRun{
		{"lamp||", "try { ask 0 keep } else { ask 0 tell }", "", "place 2 wants tell of run", "lamp||", 0},
		{"lamp||", "make 1 shelf; try { drop 2; ask 0 keep; drop 0 } else { make 2 stone; wrap 1 runs; drop 0 }; drop 0", "", "place 6 wants run of keep", "lamp|shelf|stone", 0},
		{"lamp||", "try { ask 0 keep } else { loop { make 1 horn; call 0 Heal } }", "2", "place 4 wants heal of run", "lamp|horn|", 1},
		{"lamp||", "ask 0 keep; try { drop 0 } else { drop 0 }", "", "place 0 wants keep of run", "lamp||", 0},
		{"lamp||", "try { drop 1 } else { drop 0 }; ask 0 keep", "", "place 3 wants keep of run", "lamp||", 0},
		{"lamp||", "try { ask 0 keep } else { }; ask 0 tell", "", "place 2 wants tell of run", "lamp||", 0},
	})
}

// An empty slot is no failed assertion.
func TestEmptySlotsInTries(t *testing.T) {
	checkRuns(t, []planRun{
		{"lamp||", "try { ask 1 none } else { make 1 horn }", "", "place 1 empty", "lamp||", 0},
		{"lamp||", "try { wrap 1 plain } else { make 1 horn }; drop 0", "", "place 1 empty", "lamp||", 0},
		{"lamp||", "try { make 2 stone; unwrap 1 } else { make 1 horn }", "", "place 2 empty", "lamp||stone", 0},
		{"lamp||", "try { loop { drop 0; call 0 Start } } else { make 1 horn }", "3", "place 3 empty", "||", 1},
		{"lamp||", "try { try { ask 1 run } else { make 1 horn } } else { make 2 stone }", "", "place 2 empty", "lamp||", 0},
		{"lamp||", "try { try { ask 0 keep } else { ask 1 run } } else { make 2 stone }", "", "place 3 empty", "lamp||", 0},
		{"lamp||", "try { ask 0 keep } else { unwrap 1 }; drop 0", "", "place 2 empty", "lamp||", 0},
		{"lamp||", "try { ask 0 keep } else { try { drop 0; ask 0 keep } else { make 1 horn } }", "", "place 4 empty", "||", 0},
	})
}

func TestFailuresInBothBranchesInATry(t *testing.T) {
	const branches = "try { if { make 1 horn; ask 0 keep } else { make 1 shelf; ask 0 tell; drop 0 }; drop 0 } else { copy 2 from 1 }"
	const uncaught = "if { try { ask 0 keep } else { make 1 horn; ask 0 save } } else { try { ask 0 run } else { drop 0 }; ask 0 heal }"
	checkRuns(t, []planRun{
		{"lamp||", branches, "1", "ok", "lamp|horn|horn", 1},
		{"lamp||", branches, "3", "ok", "lamp|horn|horn", 1},
		{"lamp||", branches, "0", "ok", "lamp|shelf|shelf", 1},
		{"lamp||", branches, "2", "ok", "lamp|shelf|shelf", 1},
		{"meter||", branches, "0", "ok", "|shelf|", 1},
		{"meter||", branches, "1", "ok", "meter|horn|horn", 1},
		{"lamp||", uncaught, "1", "place 4 wants save of run", "lamp|horn|", 1},
		{"lamp||", uncaught, "0", "place 8 wants heal of run", "lamp||", 1},
	})
}

// Numbers that were taken before a failure stay taken.
func TestNumbersTakenBeforeACaughtFailure(t *testing.T) {
	const l = "try { if { loop { }; ask 0 keep } else { }; loop { } } else { if { make 1 horn } else { make 1 shelf } }; loop { call 1 Tell }"
	checkRuns(t, []planRun{
		{"lamp||", l, "1 3 1 0", "ok", "lamp|horn|", 4},
		{"lamp||", l, "1 1 0 0", "ok", "lamp|shelf|", 4},
		{"lamp||", l, "1 1 0 1", "place 9 wants tell of keep", "lamp|shelf|", 4},
		{"lamp||", l, "1", "ok", "lamp|shelf|", 4},
		{"lamp||", l, "0 3 1", "place 9 empty", "lamp||", 3},
		{"lamp||", l, "0 1 0", "ok", "lamp||", 3},
	})
}

// Every beginning of an A that fails in its last action leaves the slots of the beginning.
func TestCaughtFailuresBehindEachAction(t *testing.T) {
	all := planOf(t, "make 1 vault; call 1 Load a=1,b=2; call 1 Start; call 1 Put k 3; wrap 1 counts; call 1 Get k; copy 2 from 1; unwrap 2; call 2 Stop; drop 0")
	fail := impl.Action{Op: impl.PlanAsk, Slot: 1, Face: 32}
	for size := range len(all) {
		if size == 0 {
			continue
		}
		slots := slotsOf(t, "robot||horn")
		_, want, _ := checkRun(t, slots, all[:size], nil)
		for _, l := range [][]impl.Action{
			{tryOf(append(cloneActions(all[:size]), fail), nil)},
			{tryOf(append(cloneActions(all[:size]), fail, drops(1)[0], loopOf()), nil)},
			{tryOf(append(cloneActions(all[:size]), loopOf(fail)), nil)},
			{tryOf([]impl.Action{tryOf(cloneActions(all[:size]), nil), fail}, nil)},
		} {
			end, after, _ := checkRun(t, slots, l, []int{3})
			if end != (impl.End{}) || !sameSlots(after, want) {
				t.Errorf("%s: %s, %s", textOfPlan(l), textOfEnd(end), textOfSlots(after))
			}
		}
	}
}
