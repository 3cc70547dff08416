package tests

import (
	"slices"
	"strings"
	"testing"

	"loop.example/g03016/impl"
)

var spareEvent = impl.Event{Kind: 77, Name: "spare"}

func roomyEvents(l []impl.Event) []impl.Event {
	events := []impl.Event{}
	for _, x := range l {
		x.Recipe = roomy(x.Recipe...)
		events = append(events, x)
	}
	return append(events, spareEvent)[:len(l)]
}

func checkRoomyEvents(t *testing.T, got, want []impl.Event) {
	t.Helper()
	if !slices.EqualFunc(got, want, sameEvents) {
		t.Errorf("the argument %s has become %s", brief(want), brief(got))
	}
	for i := range want {
		checkRoomy(t, got[i].Recipe, want[i].Recipe...)
	}
	if spare := got[:len(got)+1][len(got)]; !sameEvents(spare, spareEvent) {
		t.Errorf("the spare capacity holds %v", spare)
	}
}

// roomyHost returns the host with marks in the spare capacity of its lists and of the lists in these.
func roomyHost(h impl.Host) impl.Host {
	parts := []impl.Part{}
	for _, p := range h.Parts {
		parts = append(parts, roomyPart(p))
	}
	parts = append(parts, impl.Part{Layers: []impl.Layer{spareLayer}})[:len(h.Parts)]
	return impl.Host{Entries: roomyEntries(h.Entries), Parts: parts, Up: roomy(h.Up...), Shut: roomy(h.Shut...), Log: roomyEvents(h.Log)}
}

func checkRoomyHost(t *testing.T, got, want impl.Host) {
	t.Helper()
	if !sameHosts(got, want) {
		t.Fatalf("the argument %+v has become %+v", want, got)
	}
	checkRoomyEntries(t, got.Entries, want.Entries)
	for i := range want.Parts {
		checkRoomyPart(t, got.Parts[i], want.Parts[i])
	}
	if spare := got.Parts[:len(got.Parts)+1][len(got.Parts)]; len(spare.Layers) != 1 || spare.Layers[0] != spareLayer {
		t.Errorf("the spare capacity holds %v", spare)
	}
	checkRoomy(t, got.Up, want.Up...)
	checkRoomy(t, got.Shut, want.Shut...)
	checkRoomyEvents(t, got.Log, want.Log)
}

func spoilEvents(l []impl.Event) {
	l = l[:cap(l)]
	for i, x := range l {
		spoilTexts(x.Recipe)
		l[i] = impl.Event{Kind: -1, Name: "spoiled"}
	}
}

// spoilHost writes over all that a host reaches.
func spoilHost(h impl.Host) {
	spoilEntries(h.Entries)
	parts := h.Parts[:cap(h.Parts)]
	for i, p := range parts {
		spoilPart(p)
		parts[i] = impl.Part{Core: impl.Core{Kind: "spoiled"}}
	}
	spoilTexts(h.Up)
	spoilTexts(h.Shut)
	spoilEvents(h.Log)
}

// eventsFor are events of each sort: for a host with the entries a to c some are done, some are refused, and some are not valid.
func eventsFor(t *testing.T) []impl.Event {
	t.Helper()
	l := []impl.Event{{}, {Kind: impl.HostSwap, Name: "a"}, {Kind: impl.HostCall, Name: "b"}, {Kind: impl.HostCall, Name: "b", Call: impl.Call{Method: "Put"}}}
	for _, text := range strings.Split("start N; stop N; heal N; call N Put j 3; call N Start; call N Tell; call N Load x=1; call N Heal; swap N drawer; swap N drawer counts; swap N robot; swap N stone", "; ") {
		for _, name := range strings.Fields("a b c d") {
			l = append(l, eventOf(t, strings.ReplaceAll(text, "N", name)))
		}
	}
	return l
}

// hostsOfAllSorts have the entries a to c; the last ones are not valid.
func hostsOfAllSorts(t *testing.T) []impl.Host {
	t.Helper()
	l := []impl.Host{{}}
	for _, events := range []string{"", "start b", "start c; call b Put k 3; call a Put k 4", "start c; call b Put k 3; call b Start; swap c meter", "start c; swap a vault counts; call c Start"} {
		h := hostFor(t, threeEntries, events)
		l = append(l, h, filled(t, h, 23), filled(t, h, 24))
	}
	h := l[len(l)-3]
	for _, change := range []func(h *impl.Host){
		func(h *impl.Host) { h.Entries[0].Name = "z" },
		func(h *impl.Host) { h.Parts[1].Core.Count = -1 },
		func(h *impl.Host) { h.Up = append(h.Up, "c", "d") },
		func(h *impl.Host) { h.Shut = append(h.Shut, "b") },
		func(h *impl.Host) { h.Log = append(h.Log, impl.Event{}) },
		func(h *impl.Host) { h.Parts = h.Parts[:2] },
	} {
		l = append(l, changedHost(h, change))
	}
	return l
}

func TestHostsAreNotChanged(t *testing.T) {
	for _, h := range hostsOfAllSorts(t) {
		for _, x := range eventsFor(t) {
			host, events := roomyHost(h), roomyEvents([]impl.Event{x})
			impl.IsHost(host)
			impl.SameHost(host, host)
			impl.HostLine(host, x.Name)
			impl.IsEvent(events[0])
			impl.FormatEvent(events[0])
			after, _, _ := perform(host, events[0])
			spoilHost(after)
			checkRoomyHost(t, host, h)
			checkRoomyEvents(t, events, []impl.Event{x})
		}
		entries, log := roomyEntries(h.Entries), roomyEvents(h.Log)
		fresh, _ := impl.NewHost(entries)
		again, _ := impl.ReplayHost(entries, log)
		spoilHost(fresh)
		spoilHost(again)
		checkRoomyEntries(t, entries, h.Entries)
		checkRoomyEvents(t, log, h.Log)
	}
}

func TestHostsAreNewEachTime(t *testing.T) {
	for _, h := range hostsOfAllSorts(t) {
		for _, x := range eventsFor(t) {
			first, _, _ := perform(h, x)
			second, _, _ := perform(h, x)
			spoilHost(first)
			if want, _, _ := done(h, x); !sameHosts(second, want) {
				t.Errorf("%s of %s: %s", brief(x), brief(h), brief(second))
			}
		}
	}
	registry := registryOf(t, threeEntries)
	log := eventsOf(t, "start c; swap a vault counts; call b Put k 3")
	first, _ := impl.ReplayHost(registry, log)
	second, _ := impl.ReplayHost(registry, log)
	spoilHost(first)
	if want, _ := replayed(registry, log); !sameHosts(second, want) {
		t.Error(second)
	}
	one, _ := impl.ParseEvent("swap a vault counts")
	two, _ := impl.ParseEvent("swap a vault counts")
	spoilTexts(one.Recipe)
	if textOfEvent(two) != "swap a vault counts" {
		t.Error(two)
	}
}

// What is written over in one list of a host, its spare capacity included, is not seen in another one.
func TestListsOfOneHostAreApart(t *testing.T) {
	for _, h := range hostsOfAllSorts(t) {
		// The lists that come in are the same ones in several places.
		h.Shut = h.Up
		for i := 1; i < len(h.Entries) && i < len(h.Parts); i++ {
			h.Entries[i].Recipe, h.Entries[i].Needs = h.Entries[0].Recipe, h.Entries[0].Needs
			h.Parts[i] = h.Parts[0]
		}
		checkApart(t, h, impl.Event{Kind: impl.HostStart, Name: "a"})
	}
	for _, h := range hostsOfAllSorts(t) {
		for _, x := range eventsFor(t) {
			checkApart(t, h, x)
		}
	}
}

// checkApart writes over each list of the host after an event, one after the other, each in a host of its own.
func checkApart(t *testing.T, h impl.Host, x impl.Event) {
	t.Helper()
	want, _, _ := done(h, x)
	spoilers := []func(h *impl.Host){
		func(h *impl.Host) { spoilTexts(h.Up); h.Up = want.Up },
		func(h *impl.Host) { spoilTexts(h.Shut); h.Shut = want.Shut },
		func(h *impl.Host) { spoilEvents(h.Log); h.Log = want.Log },
		func(h *impl.Host) { spoilEntries(h.Entries); h.Entries = want.Entries },
	}
	for i := range want.Parts {
		spoilers = append(spoilers, func(h *impl.Host) { spoilPart(h.Parts[i]); h.Parts[i] = want.Parts[i] })
	}
	for i := range want.Log {
		spoilers = append(spoilers, func(h *impl.Host) { spoilTexts(h.Log[i].Recipe); h.Log[i] = want.Log[i] })
	}
	for i, spoiler := range spoilers {
		after, _, _ := perform(h, x)
		spoiler(&after)
		if !sameHosts(after, want) {
			t.Errorf("%s of %s: the list %d is shared", brief(x), brief(h), i)
		}
	}
}

func textsOfHost(h impl.Host) []string {
	texts := slices.Concat(textsOfEntries(h.Entries), h.Up, h.Shut)
	for _, p := range h.Parts {
		texts = append(texts, recipeOfPart(p)...)
		for _, cell := range p.Core.Cells {
			texts = append(texts, cell.Key)
		}
	}
	for _, x := range h.Log {
		texts = append(append(texts, x.Name, x.Call.Method, x.Call.Key, x.Call.Text), x.Recipe...)
	}
	return texts
}

// clonedHost has each of its texts in memory of its own, so that none of them is a constant of the tests or of the program.
func clonedHost(h impl.Host) impl.Host {
	h = cloneHost(h)
	for i, e := range h.Entries {
		h.Entries[i].Name = strings.Clone(e.Name)
		cloneTexts(e.Recipe)
		for k, n := range e.Needs {
			e.Needs[k].From = strings.Clone(n.From)
		}
	}
	for i, p := range h.Parts {
		h.Parts[i].Core.Kind = strings.Clone(p.Core.Kind)
		for k, cell := range p.Core.Cells {
			p.Core.Cells[k].Key = strings.Clone(cell.Key)
		}
		for k, layer := range p.Layers {
			p.Layers[k].Name = strings.Clone(layer.Name)
		}
	}
	cloneTexts(h.Up)
	cloneTexts(h.Shut)
	for i, x := range h.Log {
		h.Log[i] = clonedEvent(x)
	}
	return h
}

func clonedEvent(x impl.Event) impl.Event {
	call := impl.Call{Method: strings.Clone(x.Call.Method), Key: strings.Clone(x.Call.Key), Value: x.Call.Value, Text: strings.Clone(x.Call.Text)}
	recipe := slices.Clone(x.Recipe)
	cloneTexts(recipe)
	return impl.Event{Kind: x.Kind, Name: strings.Clone(x.Name), Call: call, Recipe: recipe}
}

func cloneTexts(l []string) {
	for i, s := range l {
		l[i] = strings.Clone(s)
	}
}

func TestTextsOfHostsAreNewMemory(t *testing.T) {
	for _, host := range hostsOfAllSorts(t) {
		h := clonedHost(host)
		for _, event := range eventsFor(t) {
			x := clonedEvent(event)
			given := slices.Concat(textsOfHost(h), []string{x.Name, x.Call.Method, x.Call.Key, x.Call.Text}, x.Recipe)
			after, _, _ := perform(h, x)
			checkNewTexts(t, given, append(textsOfHost(after), impl.HostLine(h, x.Name), impl.FormatEvent(x)))
		}
		fresh, _ := impl.NewHost(h.Entries)
		again, _ := impl.ReplayHost(h.Entries, h.Log)
		checkNewTexts(t, textsOfHost(h), append(textsOfHost(fresh), textsOfHost(again)...))
	}
	for _, text := range []string{"start abcdefgh", "call a Put key 3", "call a Load some text", "call a Get key", "swap a vault counts"} {
		text = strings.Clone(text)
		x, _ := impl.ParseEvent(text)
		checkNewTexts(t, []string{text, text}, append([]string{x.Name, x.Call.Method, x.Call.Key, x.Call.Text}, x.Recipe...))
	}
}

func checkNewTexts(t *testing.T, given, results []string) {
	t.Helper()
	for _, s := range results {
		if slices.ContainsFunc(given, func(other string) bool { return within(s, other) }) {
			t.Errorf("%.40q is a part of an argument", s)
		}
	}
}
