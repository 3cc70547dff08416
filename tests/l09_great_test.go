package tests

import (
	"math/rand"
	"slices"
	"strings"
	"testing"

	"loop.example/g03016/impl"
)

// The plans of these tests have so many inputs that they cannot be run for each of them.

func TestChecksOfManyNumbers(t *testing.T) {
	branches := strings.Repeat("; if { } else { }", 12)[2:]
	for _, text := range []string{
		"loop { loop { " + branches + " } }",
		"loop { " + branches + "; loop { } }",
		"loop { " + strings.ReplaceAll(branches, "if { } else { }", "loop { }") + " }",
		"try { loop { " + branches + " } } else { }",
		strings.ReplaceAll(branches, "if { } else { }", "loop { }") + "; loop { }; loop { }",
	} {
		l := planOf(t, text)
		checkPlan(t, l, [3]string{"robot", "", "lamp"})
		if after := impl.AfterPlan(l, []string{"robot", "", "lamp"}); textOfAfter(after) != "robot||lamp" || !impl.IsSafe(l) || impl.CheckLine(l) != "safe" {
			t.Errorf("%q leaves %q: %s", text, after, impl.CheckLine(l))
		}
	}
}

func TestLongWitnesses(t *testing.T) {
	const start = "make 0 robot; make 1 robot; make 2 drawer; "
	const shift = "copy 0 from 1; copy 1 from 2"
	branches := func(n int) string { return strings.Repeat("if { } else { }; ", n) }
	for _, c := range []struct{ plan, line string }{
		{"make 0 lamp; " + branches(12) + "ask 0 keep", "place 13 wants keep of run for " + zeros(12)},
		{"make 0 lamp; " + strings.ReplaceAll(branches(12), "if { } else { }", "loop { }") + "ask 0 keep", "place 13 wants keep of run for " + zeros(12)},
		{"make 0 lamp; loop { loop { " + branches(9) + "drop 1 } }; ask 0 keep", "place 13 wants keep of run for 0"},
		{"make 0 lamp; loop { loop { " + branches(10) + "ask 0 keep } }", "place 13 wants keep of run for 1 1 " + zeros(10)},
		// The fourth round, in which only the lesser numbers of the outer loop are enough.
		{start + "loop { loop { " + branches(5) + "ask 0 keep; " + shift + "; make 2 lamp } }", "place 10 wants keep of run for 2 1 " + zeros(5) + " 3 " + zeros(15)},
		{start + "loop { " + branches(6) + "ask 0 save; " + shift + " }", "place 10 wants save of run+keep for 3 " + zeros(18)},
		{start + "loop { if { " + shift + " } else { }; " + branches(3) + "ask 0 tell }", "place 10 wants tell of run+keep for 2 1 " + zeros(3) + " 1 " + zeros(3)},
		{start + "loop { " + branches(3) + "if { ask 0 tell; " + shift + " } else { } }", "place 8 wants tell of run+keep for 3 " + zeros(3) + " 1 " + zeros(3) + " 1 " + zeros(3) + " 1"},
	} {
		l := planOf(t, c.plan)
		if got := impl.CheckLine(l); got != c.line {
			t.Errorf("%q is told as\n%q, not\n%q", c.plan, got, c.line)
		}
		checkPlan(t, l, [3]string{"lamp", "robot lazy", "shelf"})
	}
}

func zeros(n int) string {
	return strings.TrimSpace(strings.Repeat("0 ", n))
}

// greatPlan draws a plan of 13 or 14 actions, most of them in loops in loops.
func (d draw) greatPlan() []impl.Action {
	l := []impl.Action{}
	for slot := range d.Intn(3) {
		l = append(l, impl.Action{Op: impl.PlanMake, Slot: slot, Word: d.word("robot|vault|drawer|robot")})
	}
	body := []impl.Action{}
	for left := 12 - len(l); left > 0; {
		a := impl.Action{Op: []int{impl.PlanLoop, impl.PlanLoop, impl.PlanLoop, impl.PlanIf, impl.PlanTry, 0}[d.Intn(6)]}
		if left < 4 || a.Op == 0 {
			a = d.greatAction()
			left--
		} else {
			a.A = []impl.Action{d.greatAction()}
			left -= 2
			if a.Op != impl.PlanLoop {
				a.B = []impl.Action{d.greatAction()}
				left--
			}
		}
		body = append(body, a)
	}
	return append(l, loopOf(body...))
}

// greatAction draws an action that leaves many different shapes, and seldom fails.
func (d draw) greatAction() impl.Action {
	slot := d.Intn(3)
	switch d.Intn(20) {
	case 0:
		return impl.Action{Op: impl.PlanCopy, Slot: slot, Other: (slot + 1 + d.Intn(2)) % 3}
	case 1:
		return impl.Action{Op: impl.PlanUnwrap, Slot: slot}
	case 2:
		return impl.Action{Op: impl.PlanMake, Slot: slot, Word: d.word("robot|vault|drawer")}
	case 3:
		return impl.Action{Op: impl.PlanAsk, Slot: slot, Face: []int{0, 1, 2, 3}[d.Intn(4)]}
	}
	return impl.Action{Op: impl.PlanWrap, Slot: slot, Word: d.word([]string{"runs|hears|heals", "keeps|reads|counts", "lazy|lazy|runs"}[slot])}
}

// checkGreat holds what is told of a plan against the model alone, and returns how many shapes it leaves.
func checkGreat(t *testing.T, l []impl.Action, shapes [3]string) int {
	t.Helper()
	f := searched(l, shapes)
	checkEnds(t, l, shapes, f)
	checkWitnesses(t, l, searched(l, [3]string{}))
	checkWants(t, l)
	return len(f.after)
}

func TestChecksOfGreatPlans(t *testing.T) {
	d := draw{rand.New(rand.NewSource(1999))}
	most := 0
	for range 200 {
		most = max(most, checkGreat(t, d.greatPlan(), [3]string{"robot", "vault lazy", "drawer"}))
		if t.Failed() {
			return
		}
	}
	if most < 500 {
		t.Errorf("no plan leaves more than %d shapes", most)
	}
}

func TestChecksOfManyShapes(t *testing.T) {
	for _, c := range []struct {
		plan string
		size int
	}{
		// Two adapters in any order, at most three, in each of the first two slots; lazy does not go around hears.
		{"loop { loop { wrap 0 runs }; loop { wrap 0 heals }; loop { wrap 1 keeps }; loop { wrap 1 reads }; loop { wrap 2 lazy }; loop { wrap 2 hears }; ask 2 run }", 15 * 15 * 10},
		{"make 0 robot; loop { copy 2 from 1; copy 1 from 0; if { ask 2 tell } else { }; make 0 robot; loop { wrap 0 lazy }; loop { wrap 0 hears }; loop { wrap 0 heals } }", 0},
		{"make 0 vault; loop { copy 2 from 1; copy 1 from 0; try { ask 2 save; wrap 2 plain } else { ask 2 run }; loop { wrap 0 lazy }; loop { wrap 0 hears }; loop { unwrap 0 } }", 0},
	} {
		l := planOf(t, c.plan)
		if got := checkGreat(t, l, [3]string{"robot", "robot", "robot"}); c.size > 0 && got != c.size || got < 200 {
			t.Errorf("%q leaves %d shapes", c.plan, got)
		}
	}
}

// A slot comes to have one of two kinds, in adapters of four sorts in the order of the loops, at most three: 2 * 35 shapes. The other slots have what it had a round and two rounds before.
func TestChecksOfVeryManyShapes(t *testing.T) {
	l := planOf(t, "loop { copy 2 from 1; copy 1 from 0; if { make 0 vault } else { make 0 robot }; loop { wrap 0 lazy }; loop { wrap 0 hears }; loop { wrap 0 heals }; loop { wrap 0 runs } }")
	after := impl.AfterPlan(l, []string{"robot", "robot", "robot"})
	if len(after) != 70*70*70 || !slices.IsSortedFunc(after, func(a, b []string) int { return slices.Compare(a, b) }) {
		t.Errorf("%d shapes", len(after))
	}
	if line := impl.CheckLine(l); line != "safe" {
		t.Error(line)
	}
	if wants, ok := impl.WantsOf(l); !ok || !slices.Equal(wants, []int{0, 0, 0}) {
		t.Error(wants, ok)
	}
	m := planOf(t, "loop { copy 2 from 1; copy 1 from 0; if { make 0 vault } else { make 0 robot }; loop { wrap 0 lazy }; loop { wrap 0 hears }; loop { wrap 0 heals }; try { ask 2 save } else { } }")
	if len(impl.SureOf(m)) > 0 || !sameActions(impl.TrimPlan(m), m) {
		t.Errorf("%q is trimmed to %q", textOfPlan(m), textOfPlan(impl.TrimPlan(m)))
	}
	checkPlan(t, m, [3]string{"", "robot", ""})
}
