package tests

import (
	"regexp"
	"slices"
	"strconv"
	"strings"
	"testing"

	"loop.example/g03016/impl"
)

var runForm = regexp.MustCompile(`^run(?: (?:0|[1-9][0-9]{0,2}))*$`)

func isValidDesk(d impl.Desk) bool {
	fits := sameHosts(d.Host, impl.Host{})
	if d.Open {
		fits = isValidHost(d.Host)
	}
	return fits && isValidRegistry(d.Entries) && isValidPlan(d.Plan)
}

func sameDesks(a, b impl.Desk) bool {
	return a.Open == b.Open && sameRegistries(a.Entries, b.Entries) && sameHosts(a.Host, b.Host) && sameActions(a.Plan, b.Plan)
}

// cloneDesk shares only texts with the desk.
func cloneDesk(d impl.Desk) impl.Desk {
	entries := cloneHost(impl.Host{Entries: d.Entries}).Entries
	return impl.Desk{Entries: entries, Open: d.Open, Host: cloneHost(d.Host), Plan: cloneActions(d.Plan)}
}

func registryOfDesk(d impl.Desk) []impl.Entry {
	if d.Open {
		return d.Host.Entries
	}
	return d.Entries
}

func listLine(l []string) string {
	if len(l) == 0 {
		return "none"
	}
	return strings.Join(l, "; ")
}

// textOfReply writes a reply without the help of the program.
func textOfReply(r impl.Reply) string {
	switch r.Code {
	case 0:
		return strings.TrimSuffix("ok "+strconv.Itoa(r.Value)+" "+r.Text, " ")
	case 1:
		return "assert " + textOfFace(r.Want) + " of " + textOfFace(r.Had)
	}
	return []string{"off", "broken", "none", "full", "refused", "bad"}[r.Code-2]
}

func endLineOf(end impl.End, slots []impl.Slot) string {
	shapes := []string{}
	for _, s := range slots {
		shape := shapeOfSlot(s)
		if shape == "" {
			shape = "-"
		}
		shapes = append(shapes, shape)
	}
	return textOfEnd(end) + ": " + strings.Join(shapes, ", ")
}

// answered tells the desk behind a line and the answer, as the document's table has them.
func answered(d impl.Desk, line string) (impl.Desk, string) {
	after := cloneDesk(d)
	if !isValidDesk(d) || line == "" || line[0] == '#' {
		return after, ""
	}
	if x, ok := eventOfText(line); ok {
		return answeredEvent(after, x)
	}
	if line == "open" {
		return answeredOpen(after)
	}
	for word, use := range map[string]func(d impl.Desk, text string) (impl.Desk, string){"entry ": answeredEntry, "line ": answeredLine, "plan ": answeredPlan} {
		if text, ok := strings.CutPrefix(line, word); ok {
			return use(after, text)
		}
	}
	return after, toldBy(d, line)
}

func answeredEvent(d impl.Desk, x impl.Event) (impl.Desk, string) {
	if !d.Open {
		return d, "no host"
	}
	h, r, ok := done(d.Host, x)
	d.Host = h
	if x.Kind == impl.HostCall || x.Kind == impl.HostHeal {
		return d, textOfReply(r)
	}
	return d, map[bool]string{true: "ok", false: "no"}[ok]
}

func answeredOpen(d impl.Desk) (impl.Desk, string) {
	if d.Open {
		return d, "open"
	}
	if !hasNoStuck(d.Entries) {
		return d, "no host"
	}
	d.Open, d.Host = true, hostOfRegistry(d.Entries)
	return d, "ok"
}

func answeredEntry(d impl.Desk, text string) (impl.Desk, string) {
	e, ok := entryOfText(text)
	switch {
	case d.Open:
		return d, "open"
	case !ok || placeOf(d.Entries, e.Name) >= 0 || len(d.Entries) == 6:
		return d, "no entry"
	}
	d.Entries = append(d.Entries, e)
	slices.SortFunc(d.Entries, func(a, b impl.Entry) int { return strings.Compare(a.Name, b.Name) })
	return d, "ok"
}

func answeredLine(d impl.Desk, name string) (impl.Desk, string) {
	if !d.Open {
		return d, "no host"
	}
	if line := lineOfHost(d.Host, name); line != "" {
		return d, line
	}
	return d, "no entry"
}

func answeredPlan(d impl.Desk, text string) (impl.Desk, string) {
	l, ok := planOfText(text)
	if !ok {
		return d, "no plan"
	}
	d.Plan = l
	return d, strconv.Itoa(len(allActions(l)))
}

// toldBy answers a question, or a line that is none of the table.
func toldBy(d impl.Desk, line string) string {
	if runForm.MatchString(line) {
		input := []int{}
		for _, word := range strings.Fields(line)[1:] {
			n, _ := strconv.Atoi(word)
			input = append(input, n)
		}
		end, slots, _ := ran(make([]impl.Slot, 3), d.Plan, input)
		return endLineOf(end, slots)
	}
	w := wiringOf(registryOfDesk(d))
	switch line {
	case "order":
		return listLine(w.order())
	case "stuck":
		return listLine(w.namesIn(w.stuck()))
	case "links":
		return linksLine(w.links)
	case "log":
		return logLine(d)
	case "check", "after", "wants", "trim":
		return toldOfPlan(d.Plan, line)
	}
	return "what"
}

func linksLine(l []impl.Link) string {
	texts := []string{}
	for _, link := range l {
		texts = append(texts, link.From+" needs "+textOfFace(link.Face)+" of "+link.To)
	}
	return listLine(texts)
}

func logLine(d impl.Desk) string {
	if !d.Open {
		return "none"
	}
	texts := []string{}
	for _, x := range d.Host.Log {
		texts = append(texts, textOfEvent(x))
	}
	return listLine(texts)
}

func toldOfPlan(l []impl.Action, line string) string {
	if line == "wants" {
		return wantsLine(l)
	}
	f := searched(l, [3]string{})
	switch line {
	case "check":
		return lineOfPlan(l, f)
	case "after":
		return strconv.Itoa(len(f.after))
	}
	return textOfPlan(leftOf(l, sureOf(l, f)))
}

func wantsLine(l []impl.Action) string {
	f := searched(l, [3]string{"?0", "?1", "?2"})
	if len(f.failures) > 0 || hasOp(l, impl.PlanUnwrap, impl.PlanTry) {
		return "no wants"
	}
	texts := []string{}
	for _, face := range f.wants {
		texts = append(texts, textOfFace(face))
	}
	return listLine(texts)
}

// isQuestion tells the lines after which a desk is as it was, without looking at the answer.
func isQuestion(line string) bool {
	_, isEvent := eventOfText(line)
	return !isEvent && line != "open" && !strings.HasPrefix(line, "entry ") && !strings.HasPrefix(line, "plan ")
}

// checkDeskLine holds what a line does against the model, and returns the desk then.
func checkDeskLine(t *testing.T, d impl.Desk, line string) (impl.Desk, string) {
	t.Helper()
	before := cloneDesk(d)
	want, wanted := answered(d, line)
	after, answer := impl.DeskLine(d, line)
	if answer != wanted {
		t.Errorf("%.200q of %s\nis answered %q, not %q", line, brief(d), answer, wanted)
	}
	if !sameDesks(after, want) {
		t.Errorf("%.200q of %s\nleaves %+v\nnot %+v", line, brief(d), after, want)
	}
	if isQuestion(line) && !sameDesks(after, before) {
		t.Errorf("%.200q asks only, and makes of %+v\n%+v", line, before, after)
	}
	if !sameDesks(d, before) {
		t.Errorf("%.200q has changed %+v\nto %+v", line, before, d)
	}
	if valid := isValidDesk(before); impl.IsDesk(after) != valid {
		t.Errorf("%.200q makes of %s, valid: %t,\n%s, valid: %t", line, brief(before), valid, brief(after), !valid)
	}
	return after, answer
}

// linePair is a line, and what is answered to it.
type linePair struct{ line, answer string }

// linesOf reads a script of lines, each with ` => ` and its answer behind it.
func linesOf(t *testing.T, script string) []linePair {
	t.Helper()
	l := []linePair{}
	for _, text := range strings.Split(script, "\n") {
		text = strings.TrimLeft(text, "\t")
		if text == "" {
			continue
		}
		line, answer, ok := strings.Cut(text, " =>")
		if !ok {
			t.Fatalf("%q is no line with an answer", text)
		}
		l = append(l, linePair{line, strings.TrimPrefix(answer, " ")})
	}
	return l
}

// talk lets a new desk do the lines of a script, and holds each answer against the script and the model, and all of them against DeskText.
func talk(t *testing.T, script string) impl.Desk {
	t.Helper()
	d := impl.NewDesk()
	lines, answers := []string{}, []string{}
	for _, pair := range linesOf(t, script) {
		after, answer := checkDeskLine(t, d, pair.line)
		if answer != pair.answer {
			t.Errorf("%q is answered %q, not %q", pair.line, answer, pair.answer)
		}
		d = after
		lines, answers = append(lines, pair.line), append(answers, pair.answer)
	}
	text := strings.Join(lines, "\n")
	if got := impl.DeskText(text); len(lines) <= 40 && len(text) <= 4000 && !slices.Equal(got, answers) {
		t.Errorf("%q\nis answered %q\nnot %q", text, got, answers)
	}
	return d
}

// deskFor is the desk after the lines of a text that the model does, without the help of the program.
func deskFor(t *testing.T, text string) impl.Desk {
	t.Helper()
	d := impl.Desk{}
	for _, line := range strings.Split(text, "\n") {
		after, answer := answered(d, strings.TrimLeft(line, "\t"))
		if slices.Contains([]string{"what", "no", "no entry", "no host", "no plan"}, answer) {
			t.Fatalf("%q is answered %q", line, answer)
		}
		d = after
	}
	return d
}
