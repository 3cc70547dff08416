package tests

import (
	"strings"
	"testing"

	"loop.example/g03016/impl"
)

// checkRefused lets the program do an event that must be refused.
func checkRefused(t *testing.T, h impl.Host, event string, answer string) {
	t.Helper()
	after, said := checkDone(t, h, eventOf(t, event))
	if said != answer || !sameHosts(after, h) {
		t.Errorf("%s of %s: %q, not %q", event, brief(h), said, answer)
	}
}

func TestStartsAndStopsOfOneEntry(t *testing.T) {
	walkHost(t, "a: lamp; 1.0", []hostStep{
		{"stop a", "no", "", "", "a down off -"},
		{"start a", "ok", "a", "", "a up on -"},
		{"start a", "no", "a", "", "a up on -"},
		{"stop a", "ok", "", "", "a down off -"},
		{"stop a", "no", "", "", "a down off -"},
		{"start a", "ok", "a", "", "a up on -"},
		{"start b", "no", "a", "", "a up on -"},
	})
	h := hostFor(t, "a: meter; 1.0", "start a; stop a; start a")
	if _, r := impl.CallHost(h, "a", impl.Call{Method: "Tell"}); r != (impl.Reply{Value: 2}) {
		t.Error(r)
	}
}

// What an entry reaches comes up first, in the order of starting, which is d, b, a, f, c, e.
func TestStartsOfEntriesThatReachOthers(t *testing.T) {
	for _, c := range []struct{ events, up string }{
		{"start e", "d b a f c e"},
		{"start a", "d b a"},
		{"start c", "f c"},
		{"start f", "f"},
		{"start b", "d b"},
		{"start d; start b; start a; start f; start c; start e", "d b a f c e"},
		// Some are up already, and stay where they are.
		{"start f; start e", "f d b a c e"},
		{"start c; start e", "f c d b a e"},
		{"start b; start c; start e", "d b f c a e"},
		{"start f; start b; start e", "f d b a c e"},
		{"start c; start a", "f c d b a"},
		{"start a; start c; start e", "d b a f c e"},
		{"start e; stop e; start e", "d b a f c e"},
		{"start e; stop c; start e", "d b a f c e"},
		{"start e; stop d; start c; start e", "f c d b a e"},
		{"start e; stop f; start f; start e", "d b a f c e"},
	} {
		h := hostFor(t, sixWired, "")
		for _, x := range eventsOf(t, c.events) {
			after, said := checkDone(t, h, x)
			if said != "ok" && said != "no" || said == "no" && x.Kind != impl.HostStart {
				t.Errorf("%q: %q", c.events, said)
			}
			h = after
			checkPromise7(t, registryOf(t, sixWired), h)
		}
		if got := strings.Join(h.Up, " "); got != c.up {
			t.Errorf("%q: up are %q, not %q", c.events, got, c.up)
		}
	}
}

// From the end of Up, exactly those go down that reach the entry, directly or through others.
func TestStopsOfEntriesThatOthersReach(t *testing.T) {
	for _, c := range []struct{ starts, stop, up string }{
		{"start e", "e", "d b a f c"},
		{"start e", "a", "d b f c"},
		{"start e", "b", "d f c"},
		{"start e", "d", "f c"},
		{"start e", "c", "d b a f"},
		{"start e", "f", "d b a"},
		{"start c; start a", "d", "f c"},
		{"start c; start a", "f", "d b a"},
		{"start c; start e", "b", "f c d"},
		{"start f; start d; start a; start c", "b", "f d c"},
		{"start a", "d", ""},
		{"start a", "a", "d b"},
	} {
		before := hostFor(t, sixWired, c.starts)
		after, said := checkDone(t, before, impl.Event{Kind: impl.HostStop, Name: c.stop})
		if got := strings.Join(after.Up, " "); said != "ok" || got != c.up {
			t.Errorf("%q, stop %s: %q, up are %q, not %q", c.starts, c.stop, said, got, c.up)
		}
		checkPromise7(t, registryOf(t, sixWired), after)
		for i, e := range before.Entries {
			gone := strings.Contains(" "+strings.Join(before.Up, " ")+" ", " "+e.Name+" ") && !strings.Contains(" "+c.up+" ", " "+e.Name+" ")
			if !gone && !sameParts(before.Parts[i], after.Parts[i]) {
				t.Errorf("%q, stop %s: the part of %s has become %+v", c.starts, c.stop, e.Name, after.Parts[i])
			}
			if gone && after.Parts[i].Core.On && impl.Offers(impl.FaceOf(after.Parts[i]), 1) {
				t.Errorf("%q, stop %s: the part of %s is still on", c.starts, c.stop, e.Name)
			}
		}
	}
}

// A part that does not offer run gets no call when it comes up and goes down, also if its core runs.
func TestPartsThatDoNotRun(t *testing.T) {
	walkHost(t, "a: stone; 1.0\nb: shelf; 1.0\nc: drawer keeps; 1.0\nd: robot lazy counts; 1.0\ne: lamp plain; 1.0\nf: drawer lazy keeps; 1.0", []hostStep{
		{"start a", "ok", "a", "", "a up off -"},
		{"start b", "ok", "a b", "", "b up off -"},
		{"start c", "ok", "a b c", "", "c up off -"},
		{"call c Get k", "off", "a b c", "", "c up off -"},
		{"start d", "ok", "a b c d", "", "d up off -"},
		{"call d Put k 1", "ok 1", "a b c d", "", "d up on k=1"},
		{"stop d", "ok", "a b c", "", "d down on k=1"},
		{"start d", "ok", "a b c d", "", "d up on k=1"},
		{"start e", "ok", "a b c d e", "", "e up off -"},
		{"start f", "ok", "a b c d e f", "", "f up off -"},
		{"call b Put k 3", "ok 1", "a b c d e f", "", "b up off k=3"},
		{"call f Get k", "none", "a b c d e f", "", "f up on -"},
		{"stop b", "ok", "a c d e f", "", "b down off k=3"},
		{"stop f", "ok", "a c d e", "", "f down on -"},
		{"stop a", "ok", "c d e", "", "a down off -"},
		{"stop e", "ok", "c d", "", "e down off -"},
	})
}

// The reply to Start does not count: a part that is on already breaks, and is up all the same.
func TestStartsOfPartsThatAreOnOrBroken(t *testing.T) {
	h := hostFor(t, threeEntries, "")
	h.Parts[1].Core.On = true
	h.Parts[2].Core.Broken = true
	after, said := checkDone(t, h, eventOf(t, "start c"))
	if said != "ok" || impl.HostLine(after, "b") != "b up broken -" || impl.HostLine(after, "c") != "c up broken -" || len(after.Shut) > 0 {
		t.Errorf("%q: %+v", said, after)
	}
	after, said = checkDone(t, after, eventOf(t, "stop b"))
	if said != "ok" || impl.HostLine(after, "b") != "b down broken -" || impl.HostLine(after, "c") != "c down broken -" {
		t.Errorf("%q: %+v", said, after)
	}
}

func TestStartsThatAreRefused(t *testing.T) {
	broken := hostFor(t, sixWired, "start e; call d Start")
	if strings.Join(broken.Up, " ") != "f c" || strings.Join(broken.Shut, " ") != "d" {
		t.Fatal(broken)
	}
	for _, name := range []string{"a", "b", "d", "e", "f", "c", "g", "aa"} {
		checkRefused(t, broken, "start "+name, "no")
	}
	for _, name := range append([]string{""}, notNames...) {
		for kind := impl.HostStart; kind <= impl.HostStop; kind++ {
			if after, said := checkDone(t, broken, impl.Event{Kind: kind, Name: name}); said != "no" || !sameHosts(after, broken) {
				t.Errorf("%q is not refused", name)
			}
		}
	}
	// What is shut, but not reached, does not matter, nor does what reaches the entry.
	h := hostFor(t, sixWired, "start f; call f Start")
	checkRefused(t, h, "start e", "no")
	checkRefused(t, h, "start c", "no")
	checkRefused(t, h, "start f", "no")
	for _, name := range []string{"a", "b", "d"} {
		if after, said := checkDone(t, h, impl.Event{Kind: impl.HostStart, Name: name}); said != "ok" || strings.Join(after.Shut, " ") != "f" {
			t.Errorf("start %s: %q, %+v", name, said, after)
		}
	}
	h = cloneHost(hostFor(t, sixWired, ""))
	h.Shut = strings.Fields("a c e")
	for name, answer := range map[string]string{"a": "no", "b": "ok", "c": "no", "d": "ok", "e": "no", "f": "ok"} {
		if _, said := checkDone(t, h, impl.Event{Kind: impl.HostStart, Name: name}); said != answer {
			t.Errorf("start %s: %q", name, said)
		}
	}
}

func TestStopsThatAreRefused(t *testing.T) {
	h := hostFor(t, sixWired, "start c; call c Put k 1; start a; call d Start")
	for _, name := range []string{"a", "b", "d", "e", "g", "cc"} {
		checkRefused(t, h, "stop "+name, "no")
	}
}

// Each operation puts the event number MaxLog into the Log, and is refused behind it.
func TestOperationsAtTheEndOfTheLog(t *testing.T) {
	base := hostFor(t, sixWired, "start c; start d; call d Start")
	for _, c := range []struct{ event, answer, refused string }{
		{"start a", "no", "no"}, // It reaches d, which is shut.
		{"stop f", "ok", "no"},
		{"stop c", "ok", "no"},
		{"call c Put k 3", "off", "bad"},
		{"call f Hear 1", "ok 2", "bad"},
		{"call f Start", "broken", "bad"},
		{"call f Tell", "assert tell of run+hear", "bad"},
		{"call a Get k", "off", "bad"},
		{"heal d", "ok 0", "bad"},
		{"heal f", "refused", "bad"},
		{"swap f robot", "ok", "no"},
		{"swap e robot", "ok", "no"},
		{"swap d robot", "no", "no"},
	} {
		x := eventOf(t, c.event)
		for size := 21; size <= 24; size++ {
			h := filled(t, base, size)
			after, said := checkDone(t, h, x)
			answer := map[bool]string{false: c.answer, true: c.refused}[size == 24]
			if said != answer {
				t.Errorf("%s with %d events: %q, not %q", c.event, size, said, answer)
			}
			checkIsHost(t, after, true)
			put := said != "no" && !strings.HasPrefix(said, "assert") && said != "refused" && (said != "off" || c.event == "call c Put k 3") && size < 24
			if put != (len(after.Log) == size+1) || put && !sameEvents(after.Log[size], x) {
				t.Errorf("%s with %d events: %d then", c.event, size, len(after.Log))
			}
		}
	}
	down := filled(t, hostFor(t, sixWired, ""), 23)
	last, said := checkDone(t, down, eventOf(t, "start e"))
	if said != "ok" || len(last.Log) != 24 || len(last.Up) != 6 {
		t.Errorf("%q: %+v", said, last)
	}
	checkRefused(t, last, "stop e", "no")
	checkRefused(t, filled(t, down, 24), "start e", "no")
}
