package tests

import (
	"slices"
	"strings"
	"testing"

	"loop.example/g03016/impl"
)

func checkIsDesk(t *testing.T, d impl.Desk, want bool) {
	t.Helper()
	if got := impl.IsDesk(d); got != want || isValidDesk(d) != want {
		t.Errorf("IsDesk(%s) = %t, not %t", brief(d), got, want)
	}
}

func TestLimitsOfDesks(t *testing.T) {
	if impl.MaxLines != 40 || impl.MaxText != 4000 {
		t.Error(impl.MaxLines, impl.MaxText)
	}
}

func TestNewDesks(t *testing.T) {
	d := impl.NewDesk()
	if !sameDesks(d, impl.Desk{}) || d.Open {
		t.Error(brief(d))
	}
	checkIsDesk(t, d, true)
	d.Entries = append(d.Entries, stonesNamed("a")...)
	if again := impl.NewDesk(); !sameDesks(again, impl.Desk{}) {
		t.Error(brief(again))
	}
}

func TestDesksOfAllSorts(t *testing.T) {
	for _, d := range desksOfAllSorts(t) {
		checkIsDesk(t, d, true)
	}
	// The Entries of an open desk need not be those of its host.
	host := hostFor(t, threeEntries, "start a")
	for _, entries := range [][]impl.Entry{nil, host.Entries, host.Entries[:1], stonesNamed("x"), stonesNamed("a", "b", "c"), sixEntries(t)} {
		checkIsDesk(t, impl.Desk{Entries: entries, Open: true, Host: host}, true)
		checkIsDesk(t, impl.Desk{Entries: entries, Open: true}, true)
		checkIsDesk(t, impl.Desk{Entries: entries}, true)
		checkIsDesk(t, impl.Desk{Entries: entries, Host: host}, false)
	}
	// Entries may be stuck, also on an open desk.
	checkIsDesk(t, impl.Desk{Entries: registryOf(t, "a: lamp; 1.0; keep of b 1.0"), Open: true, Host: host}, true)
	for _, l := range plansOfAllSorts(t) {
		checkIsDesk(t, impl.Desk{Plan: l}, isValidPlan(l))
		checkIsDesk(t, impl.Desk{Plan: l, Open: true, Host: host, Entries: host.Entries}, isValidPlan(l))
	}
}

// hostsOfOneField are not the zero value in one field each; some of them are valid hosts.
func hostsOfOneField(t *testing.T) []impl.Host {
	t.Helper()
	h := hostFor(t, threeEntries, "start c; call b Put k 3; call b Start")
	return []impl.Host{
		{Entries: h.Entries}, {Entries: stonesNamed("a")}, {Entries: make([]impl.Entry, 1)}, {Parts: h.Parts}, {Parts: make([]impl.Part, 1)}, {Up: []string{"a"}}, {Up: []string{""}},
		{Shut: []string{"b"}}, {Shut: []string{""}}, {Log: h.Log}, {Log: h.Log[:1]}, {Log: make([]impl.Event, 1)}, h,
	}
}

func TestHostsOfClosedDesks(t *testing.T) {
	for _, h := range hostsOfOneField(t) {
		checkIsDesk(t, impl.Desk{Host: h}, false)
		checkIsDesk(t, impl.Desk{Host: h, Open: true}, isValidHost(h))
		checkIsDesk(t, impl.Desk{Host: h, Entries: h.Entries}, false)
	}
	for _, h := range hostsOfAllSorts(t) {
		zero := sameHosts(h, impl.Host{})
		checkIsDesk(t, impl.Desk{Host: h}, zero)
		checkIsDesk(t, impl.Desk{Host: h, Open: true}, isValidHost(h))
	}
}

// invalidDesks are wrong in one field each, but for some at the end that are wrong in several.
func invalidDesks(t *testing.T) []impl.Desk {
	t.Helper()
	host := hostFor(t, threeEntries, "start c; call b Put k 3")
	plan := planOf(t, "make 0 lamp; ask 0 keep")
	closed := impl.Desk{Entries: host.Entries, Plan: plan}
	open := impl.Desk{Entries: host.Entries, Open: true, Host: host, Plan: plan}
	l := []impl.Desk{}
	change := func(base impl.Desk, c func(d *impl.Desk)) {
		d := cloneDesk(base)
		c(&d)
		l = append(l, d)
	}
	for _, entries := range notRegistries(t) {
		change(closed, func(d *impl.Desk) { d.Entries = entries })
		change(open, func(d *impl.Desk) { d.Entries = entries })
	}
	for _, h := range hostsOfOneField(t) {
		change(closed, func(d *impl.Desk) { d.Host = h })
	}
	change(closed, func(d *impl.Desk) { d.Open, d.Host = true, hostsOfOneField(t)[0] })
	change(open, func(d *impl.Desk) { d.Open = false })
	for i, h := range invalidHosts(t) {
		change(open, func(d *impl.Desk) { d.Host = h })
		if i%8 == 0 {
			change(closed, func(d *impl.Desk) { d.Host = h })
		}
	}
	for i, a := range invalidActions() {
		change([]impl.Desk{closed, open}[i%2], func(d *impl.Desk) { d.Plan = [][]impl.Action{{a}, append(plan, a), {loopOf(a)}}[i%3] })
	}
	for _, actions := range [][]impl.Action{manyDrops(15), {loopOf(loopOf(loopOf(loopOf())))}, {{Op: impl.PlanIf, Slot: 1}}} {
		change(closed, func(d *impl.Desk) { d.Plan = actions })
		change(open, func(d *impl.Desk) { d.Plan = actions })
	}
	worst := impl.Desk{Entries: notRegistries(t)[0], Host: invalidHosts(t)[0], Plan: manyDrops(15)}
	return append(l, worst, impl.Desk{Entries: worst.Entries, Open: true, Host: worst.Host, Plan: worst.Plan})
}

func TestDesksThatAreNotValid(t *testing.T) {
	all := invalidDesks(t)
	for _, d := range all {
		checkIsDesk(t, d, false)
	}
	if len(all) < 1000 {
		t.Error(len(all))
	}
}

// Nothing is done to a desk that is not valid, and nothing is told of it.
func TestLinesOfDesksThatAreNotValid(t *testing.T) {
	for i, d := range invalidDesks(t) {
		for k, line := range append([]string{"", "#", "what", "entry y: lamp; 1.0", "swap b robot", "plan make 1 robot; ask 1 run"}, commandsOfAllSorts...) {
			if (i+k)%7 > 0 {
				continue
			}
			if after, answer := impl.DeskLine(d, line); answer != "" || !sameDesks(after, d) {
				t.Errorf("%q of %s is answered %q, and leaves %s", line, brief(d), answer, brief(after))
			}
		}
	}
	for _, d := range []impl.Desk{{Plan: manyDrops(15)}, {Host: impl.Host{Up: []string{"a"}}}, {Entries: stonesNamed("b", "a")}, {Open: true, Host: impl.Host{Parts: make([]impl.Part, 1)}}} {
		for _, line := range commandsOfAllSorts {
			checkDeskLine(t, d, line)
		}
	}
}

// Each function returns for desks whose plan is very long or deep, lies in others very often, or in itself.
func TestDesksWithPlansOfAnySize(t *testing.T) {
	const size = 1 << 17
	deep := drops(1)
	for range size - 1 {
		deep = []impl.Action{loopOf(deep...)}
	}
	doubled := drops(1)
	for range 70 {
		doubled = []impl.Action{ifOf(doubled, doubled)}
	}
	// The last two have a copy; of the others there is none.
	lists := append(endlessPlans(), doubled, deep, manyDrops(size))
	for i, l := range lists {
		left := 0
		if i >= len(lists)-2 {
			left = size
		}
		d := deskFor(t, "entry a: lamp; 1.0\nopen\nstart a")
		d.Plan = l
		if impl.IsDesk(d) {
			t.Errorf("the desk %d is told to be valid", i)
		}
		for _, line := range []string{"", "check", "run 1", "stop a", "plan drop 0", "order"} {
			after, answer := impl.DeskLine(d, line)
			if answer != "" || !sameHosts(after.Host, d.Host) || !sameRegistries(after.Entries, d.Entries) || !after.Open {
				t.Errorf("%q of the desk %d is answered %q, and leaves %s", line, i, answer, brief(after.Host))
			}
			if got := impl.PlanSize(after.Plan); got != left || left > 0 && impl.PlanDepth(after.Plan) != impl.PlanDepth(l) {
				t.Errorf("%q of the desk %d leaves a plan of %d actions", line, i, got)
			}
		}
	}
}

func TestDesksWithListsOfAnySize(t *testing.T) {
	many := slices.Repeat([]string{"a"}, 1<<16)
	for _, d := range []impl.Desk{
		{Entries: stonesNamed(many...)}, {Open: true, Host: impl.Host{Entries: stonesNamed(many...)}}, {Open: true, Host: impl.Host{Up: many}}, {Host: impl.Host{Shut: many}},
		{Entries: []impl.Entry{{Name: strings.Repeat("a", 1<<20), Recipe: many}}}, {Host: impl.Host{Log: make([]impl.Event, 1<<16)}}, {Open: true, Host: impl.Host{Parts: make([]impl.Part, 1<<16)}},
	} {
		checkIsDesk(t, d, false)
		for _, line := range []string{"order", "open", "start a", "line a", "log"} {
			if after, answer := impl.DeskLine(d, line); answer != "" || !sameDesks(after, d) {
				t.Errorf("%q of %s is answered %q, and leaves %s", line, brief(d), answer, brief(after))
			}
		}
	}
}
