package tests

import (
	"math/rand"
	"slices"
	"strconv"
	"strings"
	"testing"

	"loop.example/g03016/impl"
)

// deskLine draws a line that is more often one of the table than not, and fits the desk.
func (d draw) deskLine(desk impl.Desk) string {
	switch d.Intn(12) {
	case 0:
		return "plan " + textOfPlan(d.checkedPlan())
	case 1:
		return d.word("order|stuck|links|log|open|log")
	case 2, 3:
		return d.word("check|check|after|wants|trim|run")
	case 4, 5:
		return d.runLine()
	case 6:
		return "line " + d.word("a|a1|b|c|d1|zz|none|")
	case 7:
		if d.Intn(5) == 0 {
			return "#" + strings.Repeat("x", d.Intn(3000))
		}
		return d.word("||#|# a|what|plan|plan |plan make 3 lamp|entry a|entry e: stone; 1.0|run |line|open |trim |wants 1|call a|start A|swap a|checks|LOG| log|nothing")
	}
	return textOfEvent(d.event(desk.Host))
}

func (d draw) runLine() string {
	line := "run"
	for range d.Intn(7) {
		line += " " + d.word("0|1|2|3|1|2|3|4|7|998|999")
	}
	return line
}

// deskLines draws a text of at most MaxLines lines: entries in any order, some of them twice, and what the desk can do then.
func (d draw) deskLines(t *testing.T) []string {
	t.Helper()
	lines := []string{}
	for _, e := range d.registry(t, d.Intn(7)) {
		lines = append(lines, "entry "+textOfEntry(e))
	}
	for range d.Intn(3) {
		lines = append(lines, d.word("entry a: lamp; 1.0|entry b: vault; 1.0; keep 1.0|entry c|order|stuck|links|entry z9: stone; 0.0; heal of zz 1.0|open|log|start a"))
	}
	d.Shuffle(len(lines), func(i, k int) { lines[i], lines[k] = lines[k], lines[i] })
	if d.Intn(8) > 0 {
		lines = append(lines, "open")
	}
	desk := impl.Desk{}
	for _, line := range lines {
		desk, _ = answered(desk, line)
	}
	for most := len(lines) + d.Intn(41-len(lines)); len(lines) < most; {
		line := d.deskLine(desk)
		desk, _ = answered(desk, line)
		lines = append(lines, line)
	}
	return lines
}

func TestManyTextsOfCommands(t *testing.T) {
	d := draw{rand.New(rand.NewSource(10))}
	counts := map[string]int{}
	for range 1500 {
		lines := d.deskLines(t)
		desk, answers := impl.NewDesk(), []string{}
		for _, line := range lines {
			after, answer := checkDeskLine(t, desk, line)
			desk, answers = after, append(answers, answer)
			countAnswer(counts, line, answer)
		}
		checkBeginnings(t, lines, answers, counts)
		checkPromiseOfLog(t, desk, counts)
		checkPromiseOfCheck(t, d, desk, counts)
		checkToldOfPlan(t, desk)
		checkToldOfWiring(t, desk)
		if t.Failed() {
			t.Fatalf("%q", lines)
		}
	}
	for _, what := range strings.Split("entry ok,entry no,open ok,open no,open open,order none,order,stuck none,stuck,links none,links,start ok,start no,stop ok,stop no,swap ok,swap no,call ok,call assert,call off,call broken,call bad,"+
		"heal ok,heal refused,heal bad,line,line no,log none,log closed,log empty,log,plan,plan no,check safe,check place,run ok,run place,after,wants,wants no,trim,what,nothing,whole,too long,safe,fails,fails for", ",") {
		if counts[what] < 20 {
			t.Errorf("%q has come %d times only", what, counts[what])
		}
	}
}

// countAnswer counts by the word of the line and the first word of the answer, or by the first of both if the answer is some text.
func countAnswer(counts map[string]int, line, answer string) {
	word, _, _ := strings.Cut(line, " ")
	said, _, _ := strings.Cut(strings.TrimSuffix(answer, ":"), " ")
	said = strings.TrimSuffix(said, ":")
	switch {
	case answer == "" || answer == "what":
		counts[map[string]string{"": "nothing", "what": "what"}[answer]]++
	case slices.Contains(strings.Fields("ok no open none safe place assert off broken bad refused"), said):
		counts[word+" "+said]++
	default:
		counts[word]++
	}
}

// checkBeginnings holds the answers of a text, and of its first lines, against those of the lines one by one.
func checkBeginnings(t *testing.T, lines, answers []string, counts map[string]int) {
	t.Helper()
	for most := 1; most <= len(lines); most++ {
		if most < len(lines) && most%5 > 0 {
			continue
		}
		text, want, what := strings.Join(lines[:most], "\n"), answers[:most], "whole"
		if len(text) > 4000 {
			want, what = nil, "too long"
		}
		if got := impl.DeskText(text); !slices.Equal(got, want) {
			t.Errorf("%q\nis answered %q\nnot %q", text, got, want)
		}
		counts[what]++
	}
}

// say asks a desk, and holds that it stays as it was.
func say(t *testing.T, desk impl.Desk, line string) string {
	t.Helper()
	after, answer := impl.DeskLine(desk, line)
	if !sameDesks(after, desk) {
		t.Errorf("%q makes of %s\n%s", line, brief(desk), brief(after))
	}
	return answer
}

// checkPromiseOfLog reads what a desk answers to `log`, and does these events again. No text in the drawn calls has a `; ` in it.
func checkPromiseOfLog(t *testing.T, desk impl.Desk, counts map[string]int) {
	t.Helper()
	answer := say(t, desk, "log")
	if !desk.Open {
		counts["log closed"]++
		if answer != "none" {
			t.Errorf("the log of a closed desk is %q", answer)
		}
		return
	}
	if len(desk.Host.Log) == 0 {
		counts["log empty"]++
	}
	events := []impl.Event{}
	for _, text := range strings.Split(answer, "; ") {
		x, ok := impl.ParseEvent(text)
		if !ok && answer != "none" {
			t.Errorf("%q of the log is no event", text)
		}
		if ok {
			events = append(events, x)
		}
	}
	if !slices.EqualFunc(events, desk.Host.Log, sameEvents) {
		t.Errorf("the log is %q, but the host's is %s", answer, brief(desk.Host.Log))
	}
	again, ok := impl.ReplayHost(desk.Entries, events)
	if !ok || !impl.SameHost(again, desk.Host) {
		t.Errorf("%q of %s\ngives  %s, %t\nnot %s", answer, brief(desk.Entries), brief(again), ok, brief(desk.Host))
	}
	for _, e := range desk.Host.Entries {
		if line := say(t, desk, "line "+e.Name); line != impl.HostLine(desk.Host, e.Name) || line == "" {
			t.Errorf("the line of %q is %q", e.Name, line)
		}
	}
}

// checkPromiseOfCheck runs a plan with the numbers of which `check` tells that it fails, or with any if it is told to be safe.
func checkPromiseOfCheck(t *testing.T, d draw, desk impl.Desk, counts map[string]int) {
	t.Helper()
	answer := say(t, desk, "check")
	if answer != impl.CheckLine(desk.Plan) {
		t.Errorf("the check of %q is %q", textOfPlan(desk.Plan), answer)
	}
	if answer == "safe" {
		counts["safe"]++
		for range 12 {
			line := d.runLine()
			if end := say(t, desk, line); strings.HasPrefix(end, "place ") && strings.Contains(end, " wants ") || end == "what" {
				t.Errorf("%q is safe, and %q is answered %q", textOfPlan(desk.Plan), line, end)
			}
		}
		return
	}
	failure, numbers, long := strings.Cut(answer, " for ")
	line := "run"
	if long {
		line += " " + numbers
		counts["fails for"]++
	}
	counts["fails"]++
	for _, more := range []string{"", " 3", " 0 999"} {
		if end := say(t, desk, line+more); !strings.HasPrefix(end, failure+": ") {
			t.Errorf("%q of %q is answered %q, not %q", line+more, textOfPlan(desk.Plan), end, failure)
		}
	}
}

func checkToldOfPlan(t *testing.T, desk impl.Desk) {
	t.Helper()
	wants := "no wants"
	if faces, ok := impl.WantsOf(desk.Plan); ok {
		wants = impl.FormatFace(faces[0]) + "; " + impl.FormatFace(faces[1]) + "; " + impl.FormatFace(faces[2])
	}
	for line, want := range map[string]string{
		"after": strconv.Itoa(len(impl.AfterPlan(desk.Plan, []string{"", "", ""}))), "wants": wants, "trim": impl.FormatPlan(impl.TrimPlan(desk.Plan)),
	} {
		if got := say(t, desk, line); got != want {
			t.Errorf("%q of %q is answered %q, not %q", line, textOfPlan(desk.Plan), got, want)
		}
	}
	trimmed, size := impl.DeskLine(desk, "plan "+say(t, desk, "trim"))
	if size != strconv.Itoa(impl.PlanSize(impl.TrimPlan(desk.Plan))) || say(t, trimmed, "check") == "safe" != (say(t, desk, "check") == "safe") {
		t.Errorf("%q is trimmed to %q, and this plan is answered %q", textOfPlan(desk.Plan), textOfPlan(trimmed.Plan), size)
	}
}

func checkToldOfWiring(t *testing.T, desk impl.Desk) {
	t.Helper()
	l := registryOfDesk(desk)
	links := []string{}
	for _, link := range impl.LinksOf(l) {
		links = append(links, link.From+" needs "+impl.FormatFace(link.Face)+" of "+link.To)
	}
	for line, want := range map[string][]string{"order": impl.StartOrder(l), "stuck": impl.StuckOf(l), "links": links} {
		if got := say(t, desk, line); got != listLine(want) {
			t.Errorf("%q of %s is answered %q, not %q", line, brief(l), got, want)
		}
	}
	stuck := say(t, desk, "stuck")
	if _, answer := impl.DeskLine(desk, "open"); !desk.Open && (answer == "ok") != (stuck == "none") || desk.Open && answer != "open" {
		t.Errorf("%s is opened with %q, and stuck are %q", brief(l), answer, stuck)
	}
}

// Open desks need not come from a text: any valid host, and any Entries, are as good.
func TestDesksOfHostsInAllStates(t *testing.T) {
	d := draw{rand.New(rand.NewSource(1010))}
	opened := 0
	for i := range 400 {
		desk := impl.Desk{Entries: d.registry(t, i%7), Open: true, Host: d.host(t, 1+i%6), Plan: d.plan(8, 3)}
		if !isValidHost(desk.Host) {
			checkIsDesk(t, desk, false)
			continue
		}
		opened++
		checkIsDesk(t, desk, true)
		checkToldOfWiring(t, desk)
		for range 12 {
			checkDeskLine(t, desk, d.deskLine(desk))
		}
		if t.Failed() {
			return
		}
	}
	if opened < 200 {
		t.Error(opened)
	}
}

// What is done to a desk in between two questions of one half does not show in the answers to those of the other half.
func TestPlansAndHostsOfDesksAreApart(t *testing.T) {
	d := draw{rand.New(rand.NewSource(101010))}
	for range 60 {
		lines := d.deskLines(t)
		ofPlan := slices.DeleteFunc(slices.Clone(lines), func(line string) bool { return !isOfPlan(line) })
		others := slices.DeleteFunc(slices.Clone(lines), isOfPlan)
		whole, plans, hosts := afterLines(lines), afterLines(ofPlan), afterLines(others)
		if !sameActions(whole.Plan, plans.Plan) || !sameHosts(whole.Host, hosts.Host) || !sameRegistries(whole.Entries, hosts.Entries) || len(hosts.Plan) > 0 || plans.Open {
			t.Errorf("%q leaves %s,\nits lines of plans %s,\nthe others %s", lines, brief(whole), brief(plans), brief(hosts))
		}
	}
}

func isOfPlan(line string) bool {
	word, _, _ := strings.Cut(line, " ")
	return slices.Contains(strings.Fields("plan check run after wants trim"), word)
}

func afterLines(lines []string) impl.Desk {
	desk := impl.NewDesk()
	for _, line := range lines {
		desk, _ = impl.DeskLine(desk, line)
	}
	return desk
}
