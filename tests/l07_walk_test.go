package tests

import (
	"slices"
	"strings"
	"testing"

	"loop.example/g03016/impl"
)

// perform lets the program do an event, and tells the host, the reply, and what the operation says: `ok` or `no`, or the reply as a text.
func perform(h impl.Host, x impl.Event) (impl.Host, impl.Reply, string) {
	said := map[bool]string{true: "ok", false: "no"}
	switch x.Kind {
	case impl.HostStart:
		after, ok := impl.StartPart(h, x.Name)
		return after, impl.Reply{}, said[ok]
	case impl.HostStop:
		after, ok := impl.StopPart(h, x.Name)
		return after, impl.Reply{}, said[ok]
	case impl.HostSwap:
		after, ok := impl.SwapPart(h, x.Name, x.Recipe)
		return after, impl.Reply{}, said[ok]
	case impl.HostHeal:
		after, r := impl.HealPart(h, x.Name)
		return after, r, impl.FormatReply(r)
	}
	after, r := impl.CallHost(h, x.Name, x.Call)
	return after, r, impl.FormatReply(r)
}

// checkDone holds what the program makes of an event against the model, and returns the host then.
func checkDone(t *testing.T, h impl.Host, x impl.Event) (impl.Host, string) {
	t.Helper()
	before := cloneHost(h)
	want, wantReply, ok := done(h, x)
	after, r, said := perform(h, x)
	if x.Kind == impl.HostCall || x.Kind == impl.HostHeal {
		if r != wantReply {
			t.Errorf("%s of %s\nis answered %+v, not %+v", brief(x), brief(h), r, wantReply)
		}
	} else if (said == "ok") != ok {
		t.Errorf("%s of %s\nis answered %q", brief(x), brief(h), said)
	}
	if !sameHosts(after, want) {
		t.Errorf("%s of %s\nis  %+v\nnot %+v", brief(x), brief(h), after, want)
	}
	if !sameHosts(h, before) {
		t.Errorf("%s has changed %+v to %+v", brief(x), before, h)
	}
	return after, said
}

// checkPromise7 needs no model: what a host that was made of the registry tells must fit together as the promise says.
func checkPromise7(t *testing.T, registry []impl.Entry, h impl.Host) {
	t.Helper()
	if !impl.IsHost(h) {
		t.Errorf("%s is told to be no host", brief(h))
	}
	for i, name := range h.Up {
		for _, reached := range impl.ReachOf(h.Entries, name) {
			if !slices.Contains(h.Up[:i], reached) {
				t.Errorf("%s: %q is up, but not behind %q", brief(h), name, reached)
			}
		}
	}
	for _, link := range impl.LinksOf(h.Entries) {
		if slices.Contains(h.Up, link.From) {
			checkWiredCalls(t, h, link)
		}
	}
	again, ok := impl.ReplayHost(registry, h.Log)
	if !ok || !impl.SameHost(again, h) || !sameHosts(again, h) {
		t.Errorf("the log of %+v\ngives  %+v, %t", h, again, ok)
	}
}

// checkWiredCalls makes all sorts of calls that the face of a link offers.
func checkWiredCalls(t *testing.T, h impl.Host, link impl.Link) {
	t.Helper()
	for _, x := range fewCalls() {
		if link.Face/wants[x.Method]%2 == 0 {
			continue
		}
		after, r := impl.CallHost(h, link.To, x)
		if r.Code == impl.ReplyAssert || r.Code == impl.ReplyOff && !slices.Contains(h.Up, link.To) {
			t.Errorf("%s: %v over %v is answered %v", brief(h), x, link, r)
		}
		if full := len(h.Log) == 24; (r.Code == impl.ReplyBad) != full || len(after.Log) != min(len(h.Log)+1, 24) {
			t.Errorf("%s: %v over %v is answered %v, and the log has %d events", brief(h), x, link, r, len(after.Log))
		}
	}
}

// hostFor makes a host of the texts of entries that are divided by line feeds, and lets it do the events that are divided by `; `.
func hostFor(t *testing.T, entries, events string) impl.Host {
	t.Helper()
	h := hostOfRegistry(registryOf(t, entries))
	for _, x := range eventsOf(t, events) {
		after, _, ok := done(h, x)
		if !ok {
			t.Fatalf("%q is refused by %s", textOfEvent(x), brief(h))
		}
		h = after
	}
	return h
}

// hostStep is an event, what is answered, and Up, Shut and lines of entries then; the lines are divided by `; `.
type hostStep struct{ event, answer, up, shut, lines string }

// walkHost lets the program do the steps, one after the other, and holds each host against what the step tells, the model and the promise.
func walkHost(t *testing.T, entries string, steps []hostStep) impl.Host {
	t.Helper()
	registry := registryOf(t, entries)
	h, ok := impl.NewHost(registry)
	if !ok || !sameHosts(h, hostOfRegistry(registry)) {
		t.Fatalf("NewHost(%s) = %s, %t", brief(registry), brief(h), ok)
	}
	for _, step := range steps {
		after, said := checkDone(t, h, eventOf(t, step.event))
		if said != step.answer {
			t.Errorf("%s: %q, not %q", step.event, said, step.answer)
		}
		if up, shut := strings.Join(after.Up, " "), strings.Join(after.Shut, " "); up != step.up || shut != step.shut {
			t.Errorf("%s: up are %q, shut are %q, not %q and %q", step.event, up, shut, step.up, step.shut)
		}
		for _, line := range strings.Split(step.lines, "; ") {
			name, _, _ := strings.Cut(line, " ")
			if got := impl.HostLine(after, name); got != line {
				t.Errorf("%s: %q, not %q", step.event, got, line)
			}
		}
		checkPromise7(t, registry, after)
		h = after
	}
	return h
}

// filled returns the host with that many events in its Log, done or not.
func filled(t *testing.T, h impl.Host, size int) impl.Host {
	t.Helper()
	h = cloneHost(h)
	events := eventsOf(t, "start a; stop other; call b Put k 3; heal a; swap c vault counts; call a Load x; ")
	for i := len(h.Log); i < size; i++ {
		h.Log = append(h.Log, events[i%len(events)])
	}
	return h
}
