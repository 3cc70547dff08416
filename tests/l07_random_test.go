package tests

import (
	"math/rand"
	"slices"
	"strings"
	"testing"

	"loop.example/g03016/impl"
)

const (
	drawnRecipes = "lamp|shelf|meter|drawer|drawer|horn|vault|vault|robot|robot|drawer lazy|vault counts|robot hears|shelf counts twice|lamp heals|robot lazy|meter runs heals|drawer keeps|robot plain|stone"
	drawnNeeds   = "run|run|keep|keep|tell|hear|heal|run+keep|keep+tell|save"
)

// draw takes things from a fixed seed, so that a run of the tests is like each other one.
type draw struct{ *rand.Rand }

func (d draw) word(text string) string {
	words := strings.Split(text, "|")
	return words[d.Intn(len(words))]
}

// registry draws until nobody is stuck.
func (d draw) registry(t *testing.T, size int) []impl.Entry {
	t.Helper()
	for {
		lines := []string{}
		for _, name := range strings.Fields("a a1 b c d1 zz")[:size] {
			line := name + ": " + d.word(drawnRecipes) + "; " + d.word("1.0|1.0|1.1")
			needs := []string{}
			for range d.Intn(3) {
				from := d.word("||||of a |of b |of zz ")
				if from == "of "+name+" " {
					from = ""
				}
				needs = append(needs, d.word(drawnNeeds)+" "+from+d.word("1.0|1.0|1.0|1.1"))
			}
			if len(needs) > 0 {
				line += "; " + strings.Join(needs, ", ")
			}
			lines = append(lines, line)
		}
		if l := registryOf(t, strings.Join(lines, "\n")); hasNoStuck(l) {
			return l
		}
	}
}

// event draws an event that is more often done than refused.
func (d draw) event(h impl.Host) impl.Event {
	x := impl.Event{Kind: []int{1, 1, 1, 2, 3, 3, 3, 3, 3, 3, 4, 4, 5, 5}[d.Intn(14)], Name: "a"}
	names := []string{"none", "a"}
	for _, e := range h.Entries {
		names = append(names, e.Name)
	}
	likely := map[int][]string{2: h.Up, 3: h.Up, 4: h.Shut}[x.Kind]
	if len(likely) > 0 && d.Intn(8) > 0 {
		names = likely
	}
	x.Name = names[d.Intn(len(names))]
	switch x.Kind {
	case impl.HostCall:
		x.Call = d.call(h, x.Name)
	case impl.HostSwap:
		x.Recipe = strings.Fields(d.word(drawnRecipes))
	}
	return x
}

// call draws a call that the part offers, or any one.
func (d draw) call(h impl.Host, name string) impl.Call {
	calls := fewCalls()
	if at := placeOf(h.Entries, name); at >= 0 && d.Intn(6) > 0 {
		calls = slices.DeleteFunc(calls, func(x impl.Call) bool { return faceOfPart(h.Parts[at])/wants[x.Method]%2 == 0 })
	}
	if len(calls) == 0 {
		return impl.Call{Method: "Start"}
	}
	return calls[d.Intn(len(calls))]
}

// The events that are done and those that are refused follow each other as they are drawn, up to a full log and a bit further.
func TestManyHosts(t *testing.T) {
	d := draw{rand.New(rand.NewSource(7))}
	counts := map[string]int{}
	for i := range 400 {
		registry := d.registry(t, i%7)
		h, ok := impl.NewHost(registry)
		if !ok || !sameHosts(h, hostOfRegistry(registry)) {
			t.Fatalf("NewHost(%s) = %s, %t", brief(registry), brief(h), ok)
		}
		for range 45 {
			x := d.event(h)
			after, said := checkDone(t, h, x)
			word, _, _ := strings.Cut(said, " ")
			counts[wordOfEvent[x.Kind]+" "+word]++
			if !sameHosts(after, h) {
				checkPromise7(t, registry, after)
				checkLines(t, after)
			}
			h = after
		}
		if t.Failed() {
			return
		}
	}
	for _, answer := range strings.Split("start ok,start no,stop ok,stop no,call ok,call assert,call off,call broken,call none,call full,call refused,call bad,heal ok,heal refused,heal bad,swap ok,swap no", ",") {
		if counts[answer] < 20 && answer != "call full" {
			t.Errorf("%q has come %d times only", answer, counts[answer])
		}
	}
}

func checkLines(t *testing.T, h impl.Host) {
	t.Helper()
	for _, e := range append(slices.Clone(h.Entries), impl.Entry{Name: "none"}) {
		if got := impl.HostLine(h, e.Name); got != lineOfHost(h, e.Name) {
			t.Errorf("the line of %s in %s is %q", e.Name, brief(h), got)
		}
	}
}

// Hosts need not come from a log: any parts, and any Up behind its needs, are as good.
func TestManyHostsOfAllStates(t *testing.T) {
	d := draw{rand.New(rand.NewSource(77))}
	for i := range 1500 {
		h := d.host(t, 1+i%6)
		checkIsHost(t, h, isValidHost(h))
		checkLines(t, h)
		for range 6 {
			checkDone(t, h, d.event(h))
		}
		if t.Failed() {
			return
		}
	}
}

// host draws a host that is valid, but for an Up that may not be.
func (d draw) host(t *testing.T, size int) impl.Host {
	t.Helper()
	h := hostOfRegistry(d.registry(t, size))
	for i, p := range h.Parts {
		states := partsOf(p)
		h.Parts[i] = states[d.Intn(len(states))]
	}
	order := wiringOf(h.Entries).order()
	if d.Intn(4) == 0 {
		d.Shuffle(len(order), func(i, k int) { order[i], order[k] = order[k], order[i] })
	}
	h.Up = order[:d.Intn(len(order)+1)]
	for _, e := range h.Entries {
		if !slices.Contains(h.Up, e.Name) && d.Intn(3) == 0 {
			h.Shut = append(h.Shut, e.Name)
		}
	}
	return h
}
