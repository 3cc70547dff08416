package tests

import (
	"strconv"
	"strings"
	"testing"

	"loop.example/g03016/impl"
)

// endsOfPlan are all ends of a plan from some shapes: those that it leaves, with ` / ` between them, its failures, and the places in which it comes to empty slots.
type endsOfPlan struct {
	from, plan               string
	after, failures, empties string
}

func textOfAfter(l [][]string) string {
	texts := []string{}
	for _, shapes := range l {
		texts = append(texts, strings.Join(shapes, "|"))
	}
	return strings.Join(texts, " / ")
}

func textOfFailures(l []impl.Failure) string {
	texts := []string{}
	for _, f := range l {
		texts = append(texts, strconv.Itoa(f.Place)+" "+textOfFace(f.Want)+" of "+textOfFace(f.Had))
	}
	return strings.Join(texts, ", ")
}

func textOfNumbers(l []int) string {
	texts := []string{}
	for _, n := range l {
		texts = append(texts, strconv.Itoa(n))
	}
	return strings.Join(texts, " ")
}

func checkEndsOfPlans(t *testing.T, plans []endsOfPlan) {
	t.Helper()
	for _, c := range plans {
		l, shapes := planOf(t, c.plan), strings.Split(c.from, "|")
		after, failures, empties := textOfAfter(impl.AfterPlan(l, shapes)), textOfFailures(impl.FailuresOf(l, shapes)), textOfNumbers(impl.EmptiesOf(l, shapes))
		if after != c.after || failures != c.failures || empties != c.empties {
			t.Errorf("%q from %q ends with\n%q; %q; %q, not\n%q; %q; %q", c.plan, c.from, after, failures, empties, c.after, c.failures, c.empties)
		}
		checkPlan(t, l, [3]string(shapes))
	}
}

func TestEndsOfPlansWithoutBlocks(t *testing.T) {
	checkEndsOfPlans(t, []endsOfPlan{
		{"||", "nothing", "||", "", ""},
		{"lamp|robot plain|", "nothing", "lamp|robot plain|", "", ""},
		{"||", "make 1 lamp", "|lamp|", "", ""},
		{"||shelf counts", "make 2 lamp", "||lamp", "", ""},
		{"lamp|shelf|horn", "drop 1", "lamp||horn", "", ""},
		{"lamp|shelf counts|horn", "copy 2 from 1", "lamp|shelf counts|shelf counts", "", ""},
		{"lamp||horn", "copy 0 from 1; copy 1 from 2", "|horn|horn", "", ""},
		{"lamp||", "wrap 0 runs; wrap 0 hears; wrap 0 plain", "lamp runs hears plain||", "", ""},
		{"lamp||", "wrap 0 keeps", "", "0 keep of run", ""},
		{"robot runs||", "wrap 0 lazy", "", "0 run+keep of run", ""},
		{"shelf keeps||", "wrap 0 lazy", "", "0 run+keep of keep", ""},
		{"stone plain||", "wrap 0 plain", "stone plain plain||", "", ""},
		{"|lamp runs hears|", "unwrap 1; unwrap 1", "|lamp|", "", ""},
		{"|lamp|", "unwrap 1; ask 1 run", "|lamp|", "", ""},
		{"meter||", "ask 0 run+tell", "meter||", "", ""},
		{"meter||", "ask 0 run+keep+tell+hear", "", "0 run+keep+tell+hear of run+tell", ""},
		{"stone||", "ask 0 none", "stone||", "", ""},
		{"drawer counts||", "call 0 Tell", "drawer counts||", "", ""},
		{"drawer counts||", "call 0 Start", "", "0 run of keep+tell", ""},
		{"shelf||", "call 0 Load a=1", "", "0 save of keep", ""},
		{"vault||", "call 0 Load -; call 0 Save; call 0 Put k 3; call 0 Get k; call 0 Stop", "vault||", "", ""},
		{"robot reads||", "call 0 Heal", "", "0 heal of keep", ""},
		{"lamp heals||", "call 0 Heal; call 0 Hear 1", "", "1 hear of run+heal", ""},
	})
}

func TestEndsOfPlansAtEmptySlots(t *testing.T) {
	checkEndsOfPlans(t, []endsOfPlan{
		{"|lamp|", "ask 0 none", "", "", "0"},
		{"|lamp|", "wrap 0 plain", "", "", "0"},
		{"|lamp|", "unwrap 0", "", "", "0"},
		{"|lamp|", "call 0 Start", "", "", "0"},
		{"|lamp|", "drop 0; copy 2 from 0", "|lamp|", "", ""},
		{"lamp||", "copy 0 from 1; ask 0 run", "", "", "1"},
		{"lamp||", "drop 0; make 1 lamp; unwrap 0; ask 1 keep", "", "", "2"},
		// An empty slot is no failure: no PlanTry catches it.
		{"||", "try { ask 0 run } else { make 0 lamp }; make 1 lamp", "", "", "1"},
		{"lamp||", "try { loop { ask 0 run; drop 0 } } else { make 0 horn }", "|| / lamp||", "", "2"},
		{"lamp||", "try { ask 0 keep } else { ask 1 run }", "", "", "2"},
		{"lamp||", "try { try { ask 0 keep } else { unwrap 2 } } else { make 2 stone }", "", "", "3"},
		{"lamp||", "if { drop 0 } else { }; wrap 0 plain; if { ask 1 none } else { }; if { call 2 Start } else { ask 0 run }", "", "7 run of none", "2 4 6"},
	})
}

func TestEndsBehindBranches(t *testing.T) {
	checkEndsOfPlans(t, []endsOfPlan{
		{"drawer||", "if { wrap 0 runs } else { wrap 0 keeps }; ask 0 keep", "drawer keeps||", "3 keep of run", ""},
		{"drawer||", "if { wrap 0 keeps } else { wrap 0 runs }; ask 0 keep", "drawer keeps||", "3 keep of run", ""},
		{"drawer||", "if { wrap 0 counts } else { }; ask 0 tell", "drawer counts||", "2 tell of run+keep", ""},
		{"drawer||", "if { } else { wrap 0 counts }; ask 0 tell", "drawer counts||", "2 tell of run+keep", ""},
		// Several branches leave the same shapes, which are told once.
		{"||", "if { make 0 lamp } else { make 0 lamp }", "lamp||", "", ""},
		{"||", "if { make 0 lamp } else { if { make 0 horn } else { make 0 lamp } }", "horn|| / lamp||", "", ""},
		{"||", "if { make 0 lamp } else { }; if { make 0 lamp } else { }; loop { make 0 lamp }", "|| / lamp||", "", ""},
		{"lamp||", "if { ask 0 keep } else { ask 0 keep }", "", "1 keep of run, 2 keep of run", ""},
		// The order of lists of texts, not of the texts joined.
		{"lamp||", "if { wrap 0 runs } else { make 1 lamp }", "lamp|lamp| / lamp runs||", "", ""},
		{"||", "if { make 2 vault } else { if { make 1 stone; make 2 horn } else { make 0 drawer } }", "||vault / |stone|horn / drawer||", "", ""},
		{"|lamp|", "if { wrap 1 hears } else { }; if { make 2 shelf } else { }; if { make 2 horn } else { }", "|lamp| / |lamp|horn / |lamp|shelf / |lamp hears| / |lamp hears|horn / |lamp hears|shelf", "", ""},
		// The failures of one place, in the order of what was had.
		{"||", "loop { if { make 0 vault } else { make 0 horn } }; if { make 0 stone } else { make 1 lamp }; ask 0 tell", "", "7 tell of none, 7 tell of run+hear, 7 tell of run+keep+save", "7"},
		{"||", "loop { make 0 stone }; if { make 1 lamp } else { make 1 shelf }; wrap 1 lazy", "", "5 run+keep of run, 5 run+keep of keep", ""},
		{"lamp|shelf|", "if { if { ask 0 keep } else { ask 1 run } } else { if { call 0 Tell } else { wrap 1 twice } }", "", "2 keep of run, 3 run of keep, 5 tell of run, 6 tell of keep", ""},
	})
}

func TestEndsOfLoops(t *testing.T) {
	checkEndsOfPlans(t, []endsOfPlan{
		{"||", "loop { }", "||", "", ""},
		{"||", "loop { make 0 lamp }", "|| / lamp||", "", ""},
		{"lamp||", "loop { wrap 0 runs }", "lamp|| / lamp runs|| / lamp runs runs|| / lamp runs runs runs||", "", ""},
		{"lamp||", "loop { loop { wrap 0 runs } }; ask 0 run", "lamp|| / lamp runs|| / lamp runs runs|| / lamp runs runs runs||", "", ""},
		{"lamp|shelf|horn", "loop { copy 0 from 1; copy 1 from 2 }", "horn|horn|horn / lamp|shelf|horn / shelf|horn|horn", "", ""},
		// In the first round, the second, the third.
		{"lamp|robot|robot", "loop { ask 0 keep; copy 0 from 1; copy 1 from 2; copy 2 from 0 }", "lamp|robot|robot", "1 keep of run", ""},
		{"drawer||", "loop { ask 0 run; wrap 0 keeps }", "drawer|| / drawer keeps||", "1 run of keep", ""},
		{"robot|robot|lamp", "loop { ask 0 keep; copy 0 from 1; copy 1 from 2 }", "lamp|lamp|lamp / robot|lamp|lamp / robot|robot|lamp", "1 keep of run", ""},
		// Never, since there is no fourth round.
		{"robot|robot|drawer", "loop { ask 0 keep; copy 0 from 1; copy 1 from 2; make 2 lamp }", "drawer|lamp|lamp / lamp|lamp|lamp / robot|drawer|lamp / robot|robot|drawer", "", ""},
		// In the fourth round that two loops make together.
		{"robot|robot|drawer", "loop { loop { ask 0 keep; copy 0 from 1; copy 1 from 2; make 2 lamp } }", "drawer|lamp|lamp / lamp|lamp|lamp / robot|drawer|lamp / robot|robot|drawer", "2 keep of run", ""},
		{"robot||", "loop { if { wrap 0 runs } else { wrap 0 keeps } }", "robot|| / robot keeps|| / robot keeps keeps|| / robot keeps keeps keeps|| / robot runs|| / robot runs runs|| / robot runs runs runs||", "2 run of keep, 3 keep of run", ""},
		{"lamp||", "loop { ask 0 run; drop 0 }", "|| / lamp||", "", "1"},
	})
}

func TestEndsOfTries(t *testing.T) {
	checkEndsOfPlans(t, []endsOfPlan{
		{"lamp||", "try { ask 0 keep } else { make 1 horn }", "lamp|horn|", "", ""},
		{"lamp||", "try { ask 0 run } else { make 1 horn }", "lamp||", "", ""},
		{"lamp||", "try { } else { ask 0 keep }", "lamp||", "", ""},
		// B begins with what A has done before it failed.
		{"drawer||", "try { wrap 0 keeps; ask 0 run } else { ask 0 run }", "", "3 run of keep", ""},
		{"lamp|shelf|", "try { copy 0 from 1; make 1 horn; call 0 Start; drop 0 } else { wrap 1 hears }; ask 0 keep", "shelf|horn hears|", "", ""},
		{"drawer||", "try { if { wrap 0 runs } else { wrap 0 keeps }; ask 0 keep; drop 0 } else { copy 1 from 0 }", "|| / drawer runs|drawer runs|", "", ""},
		// From several places, and several rounds.
		{"robot||", "try { loop { wrap 0 lazy; ask 0 run+keep; wrap 0 runs } } else { copy 1 from 0; unwrap 0 }", "robot|| / robot lazy|robot lazy runs| / robot lazy runs||", "", ""},
		{"lamp||", "try { if { ask 0 keep } else { wrap 0 runs; ask 0 tell } } else { copy 1 from 0; unwrap 0 }", "lamp|lamp| / lamp|lamp runs|", "", ""},
		{"lamp||", "loop { try { ask 0 keep } else { make 0 shelf; ask 0 keep }; ask 0 keep }", "lamp|| / shelf||", "", ""},
		{"lamp||", "loop { try { ask 0 keep } else { wrap 0 runs }; wrap 0 hears }", "lamp|| / lamp runs hears|| / lamp runs hears runs||", "", ""},
		// A PlanTry in A of another one: what its B fails with is caught by the outer one.
		{"lamp||", "try { try { make 1 horn; ask 0 keep } else { make 2 stone; ask 1 tell; drop 1 }; drop 0 } else { ask 2 none }", "lamp|horn|stone", "", ""},
		{"lamp||", "try { try { ask 0 keep } else { ask 0 tell } } else { ask 0 save }", "", "4 save of run", ""},
		{"lamp||", "try { try { ask 0 keep } else { }; ask 0 tell } else { ask 0 save }", "", "4 save of run", ""},
		// A PlanTry in B of another one.
		{"lamp||", "try { ask 0 keep } else { try { ask 0 tell } else { ask 0 save } }", "", "4 save of run", ""},
		{"lamp||", "try { ask 0 keep } else { try { ask 0 run } else { ask 0 save }; drop 0 }", "||", "", ""},
		// Not caught: in B of the PlanTry, and behind it.
		{"lamp||", "try { ask 0 keep } else { ask 0 tell }", "", "2 tell of run", ""},
		{"lamp||", "try { ask 0 keep } else { }; ask 0 tell", "", "2 tell of run", ""},
		{"lamp||", "try { ask 0 run } else { }; ask 0 tell", "", "2 tell of run", ""},
		{"lamp||", "try { loop { ask 0 keep } } else { loop { ask 0 tell } }", "lamp||", "4 tell of run", ""},
		// What fails and what does not come to the same shapes.
		{"lamp||", "try { if { ask 0 keep } else { make 1 horn } } else { make 1 horn }; call 1 Tell", "", "5 tell of run+hear", ""},
	})
}

func TestEndsAtTheLimitOfLayers(t *testing.T) {
	checkEndsOfPlans(t, []endsOfPlan{
		{"robot plain plain plain||", "wrap 0 runs; wrap 0 plain; ask 0 none", "robot plain plain plain||", "", ""},
		{"robot plain plain||", "wrap 0 runs", "", "0 run of none", ""},
		{"robot runs runs||", "wrap 0 hears; wrap 0 keeps; wrap 0 heals", "robot runs runs hears||", "", ""},
		{"robot runs runs runs||", "wrap 0 keeps; unwrap 0; wrap 0 keeps", "", "2 keep of run", ""},
		{"robot runs runs runs||", "unwrap 0; wrap 0 heals; call 0 Heal", "robot runs runs heals||", "", ""},
		{"lamp||", "unwrap 0; unwrap 0; wrap 0 hears; unwrap 0; call 0 Start", "lamp||", "", ""},
		{"drawer||", "loop { wrap 0 plain }; loop { wrap 0 plain }; wrap 0 runs", "drawer plain plain plain|| / drawer runs||", "4 run of none", ""},
	})
}
