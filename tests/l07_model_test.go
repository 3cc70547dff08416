package tests

import (
	"regexp"
	"slices"
	"strconv"
	"strings"
	"testing"

	"loop.example/g03016/impl"
)

var (
	eventForm   = regexp.MustCompile(`(?s)^(start|stop|call|heal|swap) ([a-z][a-z0-9]{0,7})(?: (.*))?$`)
	wordOfEvent = []string{"", "start", "stop", "call", "heal", "swap"}
)

func isValidEvent(x impl.Event) bool {
	noCall, noRecipe := x.Call == impl.Call{}, len(x.Recipe) == 0
	_, made := faceOfRecipe(x.Recipe)
	switch x.Kind {
	case 1, 2, 4:
		return nameForm.MatchString(x.Name) && noCall && noRecipe
	case 3:
		return nameForm.MatchString(x.Name) && isValidCall(x.Call) && noRecipe
	case 5:
		return nameForm.MatchString(x.Name) && noCall && made
	}
	return false
}

func hasNoStuck(l []impl.Entry) bool {
	return isValidRegistry(l) && wiringOf(l).stuck() == [6]bool{}
}

func recipeOfPart(p impl.Part) []string {
	recipe := []string{p.Core.Kind}
	for _, layer := range p.Layers {
		recipe = append(recipe, layer.Name)
	}
	return recipe
}

func placeOf(l []impl.Entry, name string) int {
	return slices.IndexFunc(l, func(e impl.Entry) bool { return e.Name == name })
}

func isValidHost(h impl.Host) bool {
	if !hasNoStuck(h.Entries) || len(h.Parts) != len(h.Entries) || len(h.Log) > 24 || !slices.IsSorted(h.Shut) {
		return false
	}
	for i, p := range h.Parts {
		if !isValidPart(p) || !slices.Equal(recipeOfPart(p), h.Entries[i].Recipe) {
			return false
		}
	}
	seen := map[string]bool{}
	w := wiringOf(h.Entries)
	for _, name := range h.Up {
		at := placeOf(h.Entries, name)
		if at < 0 || seen[name] {
			return false
		}
		for to, other := range w.names {
			if w.needs[at][to] && !seen[other] {
				return false
			}
		}
		seen[name] = true
	}
	for _, name := range h.Shut {
		if placeOf(h.Entries, name) < 0 || seen[name] {
			return false
		}
		seen[name] = true
	}
	return !slices.ContainsFunc(h.Log, func(x impl.Event) bool { return !isValidEvent(x) })
}

// cloneHost shares only texts with the host.
func cloneHost(h impl.Host) impl.Host {
	c := impl.Host{Up: slices.Clone(h.Up), Shut: slices.Clone(h.Shut)}
	for _, e := range h.Entries {
		e.Recipe, e.Needs = slices.Clone(e.Recipe), slices.Clone(e.Needs)
		c.Entries = append(c.Entries, e)
	}
	for _, p := range h.Parts {
		p.Core.Cells, p.Layers = slices.Clone(p.Core.Cells), slices.Clone(p.Layers)
		c.Parts = append(c.Parts, p)
	}
	for _, x := range h.Log {
		x.Recipe = slices.Clone(x.Recipe)
		c.Log = append(c.Log, x)
	}
	return c
}

// hostOfRegistry tells what NewHost returns for a registry without stuck entries.
func hostOfRegistry(l []impl.Entry) impl.Host {
	h := impl.Host{}
	for _, e := range l {
		p, _ := made(e.Recipe)
		h.Entries, h.Parts = append(h.Entries, e), append(h.Parts, p)
	}
	return cloneHost(h)
}

// give lets the part in that place have a call if it offers it, and tells the reply.
func give(h *impl.Host, at int, x impl.Call) impl.Reply {
	p, r := answerOfPart(h.Parts[at], x)
	h.Parts[at] = p
	return r
}

func without(l []string, name string) []string {
	return slices.DeleteFunc(slices.Clone(l), func(s string) bool { return s == name })
}

// takenDown is the document's sentence: all that reach the entry, and the entry, from the end of Up.
func takenDown(h *impl.Host, at int) {
	w := wiringOf(h.Entries)
	reach := w.reaches()
	for _, name := range slices.Backward(slices.Clone(h.Up)) {
		if from := placeOf(h.Entries, name); from == at || reach[from][at] {
			h.Up = without(h.Up, name)
			give(h, from, impl.Call{Method: "Stop"})
		}
	}
}

// done tells the host after an event, the reply of a call or of a healing, and whether the event has been put into the Log.
func done(h impl.Host, x impl.Event) (impl.Host, impl.Reply, bool) {
	after := cloneHost(h)
	at := placeOf(h.Entries, x.Name)
	if at < 0 || len(h.Log) >= 24 || !isValidHost(h) {
		return after, impl.Reply{Code: 7}, false
	}
	r, ok := impl.Reply{}, false
	switch x.Kind {
	case 1:
		ok = doneStart(&after, at)
	case 2:
		ok = slices.Contains(h.Up, x.Name)
		if ok {
			takenDown(&after, at)
		}
	case 3:
		r, ok = doneCall(&after, at, x.Call)
	case 4:
		r, ok = doneHeal(&after, at)
	case 5:
		ok = doneSwap(&after, at, x.Recipe)
	}
	if !ok {
		return cloneHost(h), r, false
	}
	x.Recipe = slices.Clone(x.Recipe)
	after.Log = append(after.Log, x)
	return after, r, true
}

func doneStart(h *impl.Host, at int) bool {
	w := wiringOf(h.Entries)
	concerned := append(w.reachOf(at), w.names[at])
	if slices.Contains(h.Up, w.names[at]) || slices.ContainsFunc(h.Shut, func(name string) bool { return slices.Contains(concerned, name) }) {
		return false
	}
	for _, name := range w.order() {
		if slices.Contains(concerned, name) && !slices.Contains(h.Up, name) {
			h.Up = append(h.Up, name)
			give(h, placeOf(h.Entries, name), impl.Call{Method: "Start"})
		}
	}
	return true
}

func doneCall(h *impl.Host, at int, x impl.Call) (impl.Reply, bool) {
	name := h.Entries[at].Name
	switch {
	case !isValidCall(x):
		return impl.Reply{Code: 7}, false
	case !slices.Contains(h.Up, name):
		return impl.Reply{Code: 2}, false
	}
	r := give(h, at, x)
	if r.Code == 3 {
		takenDown(h, at)
		h.Shut = slices.Sorted(slices.Values(append(h.Shut, name)))
	}
	return r, r.Code != 1
}

func doneHeal(h *impl.Host, at int) (impl.Reply, bool) {
	name := h.Entries[at].Name
	if !slices.Contains(h.Shut, name) {
		return impl.Reply{Code: 6}, false
	}
	r := impl.Reply{}
	if give(h, at, impl.Call{Method: "Heal"}).Code == 0 {
		r.Value = 1
	} else {
		h.Parts[at], _ = made(h.Entries[at].Recipe)
	}
	give(h, at, impl.Call{Method: "Stop"})
	h.Shut = without(h.Shut, name)
	return r, true
}

func doneSwap(h *impl.Host, at int, recipe []string) bool {
	name := h.Entries[at].Name
	p, r := made(recipe)
	if r.Code != 0 || slices.Contains(h.Shut, name) {
		return false
	}
	links, old := wiringOf(h.Entries).links, h.Entries[at].Recipe
	h.Entries[at].Recipe = slices.Clone(recipe)
	if !hasNoStuck(h.Entries) || !slices.Equal(wiringOf(h.Entries).links, links) {
		return false
	}
	if keepsOfKind(old[0]) && keepsOfKind(recipe[0]) {
		p.Core.Cells = slices.Clone(h.Parts[at].Core.Cells)
	}
	h.Parts[at] = p
	if slices.Contains(h.Up, name) {
		give(h, at, impl.Call{Method: "Start"})
	}
	return true
}

func keepsOfKind(kind string) bool {
	face, _ := faceOfKind(kind)
	return face/2%2 == 1
}

// replayed tells what ReplayHost returns.
func replayed(l []impl.Entry, log []impl.Event) (impl.Host, bool) {
	if !hasNoStuck(l) {
		return impl.Host{}, false
	}
	h := hostOfRegistry(l)
	for _, x := range log {
		after, _, ok := done(h, x)
		if !ok || !isValidEvent(x) {
			return impl.Host{}, false
		}
		h = after
	}
	return h, true
}

func sameEvents(a, b impl.Event) bool {
	return a.Kind == b.Kind && a.Name == b.Name && a.Call == b.Call && slices.Equal(a.Recipe, b.Recipe)
}

func sameHosts(a, b impl.Host) bool {
	fixed := sameRegistries(a.Entries, b.Entries) && slices.EqualFunc(a.Parts, b.Parts, sameParts)
	return fixed && slices.Equal(a.Up, b.Up) && slices.Equal(a.Shut, b.Shut) && slices.EqualFunc(a.Log, b.Log, sameEvents)
}

func lineOfHost(h impl.Host, name string) string {
	at := placeOf(h.Entries, name)
	if at < 0 || !isValidHost(h) {
		return ""
	}
	core := h.Parts[at].Core
	words := []string{name, "down", "off", textOfCells(core.Cells)}
	if slices.Contains(h.Up, name) {
		words[1] = "up"
	}
	if slices.Contains(h.Shut, name) {
		words[1] = "shut"
	}
	if core.On {
		words[2] = "on"
	}
	if core.Broken {
		words[2] = "broken"
	}
	return strings.Join(words, " ")
}

// textOfEvent writes a valid event without the help of the program.
func textOfEvent(x impl.Event) string {
	text := wordOfEvent[x.Kind] + " " + x.Name
	if x.Kind == 3 {
		return text + " " + textOfCall(x.Call)
	}
	return strings.Join(append([]string{text}, x.Recipe...), " ")
}

// callOfText reads a text by its form.
func callOfText(s string) (impl.Call, bool) {
	if !callForm.MatchString(s) {
		return impl.Call{}, false
	}
	method, rest, _ := strings.Cut(s, " ")
	x := impl.Call{Method: method}
	switch method {
	case "Get":
		x.Key = rest
	case "Put":
		key, number, _ := strings.Cut(rest, " ")
		x.Key = key
		x.Value, _ = strconv.Atoi(number)
	case "Hear":
		x.Value, _ = strconv.Atoi(rest)
	case "Load":
		x.Text = rest
	}
	return x, isValidCall(x)
}

// eventOfText reads a text by its form, and refuses what is not a valid event then.
func eventOfText(s string) (impl.Event, bool) {
	m := eventForm.FindStringSubmatch(s)
	if m == nil {
		return impl.Event{}, false
	}
	x := impl.Event{Kind: slices.Index(wordOfEvent, m[1]), Name: m[2]}
	rest, ok := strings.CutPrefix(s, m[1]+" "+m[2]+" ")
	switch x.Kind {
	case 3:
		x.Call, ok = callOfText(rest)
	case 5:
		x.Recipe = strings.Split(rest, " ")
	default:
		ok = !ok
	}
	if !ok || !isValidEvent(x) {
		return impl.Event{}, false
	}
	return x, true
}

// eventOf reads the text of a valid event without the help of the program.
func eventOf(t *testing.T, text string) impl.Event {
	t.Helper()
	x, ok := eventOfText(text)
	if !ok {
		t.Fatalf("%q is no text of an event", text)
	}
	return x
}

// eventsOf reads the texts of events, which are divided by `; `.
func eventsOf(t *testing.T, text string) []impl.Event {
	t.Helper()
	l := []impl.Event{}
	for _, part := range strings.Split(text, "; ") {
		if part != "" {
			l = append(l, eventOf(t, part))
		}
	}
	return l
}
