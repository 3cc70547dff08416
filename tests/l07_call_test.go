package tests

import (
	"slices"
	"strings"
	"testing"

	"loop.example/g03016/impl"
)

func TestCallsOfPartsThatAreUp(t *testing.T) {
	h := walkHost(t, threeEntries, []hostStep{
		{"call b Put k 3", "off", "", "", "b down off -"},
		{"start c", "ok", "b a c", "", "a up off -; b up on -; c up on -"},
		{"call b Put k 3", "ok 1", "b a c", "", "b up on k=3; a up off -; c up on -"},
		{"call b Get k", "ok 3", "b a c", "", "b up on k=3"},
		{"call b Get j", "none", "b a c", "", "b up on k=3"},
		{"call b Tell", "assert tell of run+keep", "b a c", "", "b up on k=3"},
		{"call a Start", "assert run of keep+tell", "b a c", "", "a up off -"},
		{"call c Heal", "assert heal of run", "b a c", "", "c up on -"},
		{"call a Tell", "ok 0", "b a c", "", "a up off -"},
		{"call a Get k", "off", "b a c", "", "a up off -"},
		{"call a Tell", "ok 1", "b a c", "", "a up off -"},
		{"call b Put l 4", "ok 2", "b a c", "", "b up on k=3,l=4"},
		{"call b Put m 5", "ok 3", "b a c", "", "b up on k=3,l=4,m=5"},
		{"call b Put n 6", "ok 4", "b a c", "", "b up on k=3,l=4,m=5,n=6"},
		{"call b Put o 7", "full", "b a c", "", "b up on k=3,l=4,m=5,n=6"},
		{"call c Stop", "ok 0", "b a c", "", "c up off -"},
		{"call c Stop", "off", "b a c", "", "c up off -"},
		{"call c Start", "ok 0", "b a c", "", "c up on -"},
		{"stop b", "ok", "", "", "b down off k=3,l=4,m=5,n=6; c down off -"},
		{"call b Get k", "off", "", "", "b down off k=3,l=4,m=5,n=6"},
	})
	log := []string{}
	for _, x := range h.Log {
		log = append(log, textOfEvent(x))
	}
	want := "start c; call b Put k 3; call b Get k; call b Get j; call a Tell; call a Get k; call a Tell; call b Put l 4; call b Put m 5; call b Put n 6; call b Put o 7; call c Stop; call c Stop; call c Start; stop b"
	if got := strings.Join(log, "; "); got != want {
		t.Errorf("the log is %q", got)
	}
}

// Of several reasons for a refusal, the first one is answered.
func TestCallsThatAreRefused(t *testing.T) {
	h := hostFor(t, threeEntries, "start a; call b Start; heal b; start b; call b Put k 1")
	bad, off := impl.Reply{Code: 7}, impl.Reply{Code: 2}
	for _, c := range []struct {
		name string
		x    impl.Call
		want impl.Reply
	}{
		{"b", impl.Call{}, bad}, {"b", impl.Call{Method: "Fly"}, bad}, {"b", impl.Call{Method: "Get"}, bad}, {"c", impl.Call{Method: "Get"}, bad}, {"c", impl.Call{}, bad},
		{"d", impl.Call{Method: "Start"}, bad}, {"", impl.Call{Method: "Start"}, bad}, {"B", impl.Call{Method: "Tell"}, bad}, {"d", impl.Call{}, bad},
		{"c", impl.Call{Method: "Start"}, off}, {"c", impl.Call{Method: "Tell"}, off}, {"a", impl.Call{Method: "Heal"}, off}, {"a", impl.Call{Method: "Get", Key: "k"}, off},
		{"b", impl.Call{Method: "Tell"}, impl.Reply{Code: 1, Want: 4, Had: 3}}, {"b", impl.Call{Method: "Heal"}, impl.Reply{Code: 1, Want: 32, Had: 3}},
	} {
		for _, size := range []int{0, 23, 24} {
			host, want := filled(t, h, size), c.want
			if size == 24 {
				want = bad
			}
			if after, r := impl.CallHost(host, c.name, c.x); r != want || !sameHosts(after, host) {
				t.Errorf("%v of %q with %d events: %v, %+v", c.x, c.name, len(host.Log), r, after)
			}
		}
	}
	for _, x := range notCalls() {
		for _, name := range []string{"b", "c", "d"} {
			if after, r := impl.CallHost(h, name, x); r != bad || !sameHosts(after, h) {
				t.Errorf("%s of %s: %v", brief(x), name, r)
			}
		}
	}
}

// Each call of each method to each part is answered as the part does, whatever the part.
func TestCallsOfAllSortsOfParts(t *testing.T) {
	for _, k := range kinds {
		for _, shape := range shapesOf(k.name, 2) {
			e := impl.Entry{Name: "a", Recipe: recipeOfPart(shape), Version: impl.Version{Major: 1}}
			base := hostOfRegistry([]impl.Entry{e})
			for i, p := range partsOf(shape) {
				if i > 5 {
					break
				}
				h := cloneHost(base)
				h.Parts[0] = p
				h.Up = []string{"a"}
				for _, x := range fewCalls() {
					checkDone(t, h, impl.Event{Kind: impl.HostCall, Name: "a", Call: x})
				}
				for _, event := range []string{"start a", "stop a", "heal a", "swap a vault", "swap a horn", "swap a stone", "swap a robot lazy"} {
					checkDone(t, h, eventOf(t, event))
					h.Up = nil
					checkDone(t, h, eventOf(t, event))
					h.Shut = []string{"a"}
					checkDone(t, h, eventOf(t, event))
					h.Up, h.Shut = []string{"a"}, nil
				}
			}
		}
	}
}

// A call that breaks a part takes down exactly those that reach it, and shuts it alone.
func TestCallsThatBreakAPart(t *testing.T) {
	registry := registryOf(t, sixWired)
	for _, c := range []struct{ starts, call, up, shut string }{
		{"start e", "call d Start", "f c", "d"},
		{"start e", "call b Start", "d f c", "b"},
		{"start e", "call a Start", "d b f c", "a"},
		{"start e", "call f Start", "d b a", "f"},
		{"start c; start e", "call d Start", "f c", "d"},
		{"start c; start a", "call b Start", "f c d", "b"},
		{"start f", "call f Start", "", "f"},
		{"start f; call f Start; start a", "call b Start", "d", "b f"},
		{"start f; call f Start; start a", "call a Start", "d b", "a f"},
		{"start a; call a Start; start c", "call f Start", "d b", "a f"},
	} {
		before := hostFor(t, sixWired, c.starts)
		x := eventOf(t, c.call)
		after, said := checkDone(t, before, x)
		if up, shut := strings.Join(after.Up, " "), strings.Join(after.Shut, " "); said != "broken" || up != c.up || shut != c.shut {
			t.Errorf("%q, %s: %q, up are %q, shut are %q", c.starts, c.call, said, up, shut)
		}
		if core := after.Parts[placeOf(after.Entries, x.Name)].Core; core.On || !core.Broken {
			t.Errorf("%q, %s: %+v", c.starts, c.call, core)
		}
		for i, e := range before.Entries {
			stays := slices.Contains(before.Up, e.Name) == slices.Contains(after.Up, e.Name)
			if stays && !sameParts(before.Parts[i], after.Parts[i]) {
				t.Errorf("%q, %s: the part of %s has become %+v", c.starts, c.call, e.Name, after.Parts[i])
			}
		}
		checkPromise7(t, registry, after)
	}
}

// Breaking is told by the reply, not by the part: a part that is broken already breaks at the first call that it does not answer.
func TestCallsOfPartsThatAreBroken(t *testing.T) {
	entries := "a: meter; 1.0\nb: lamp; 1.0; tell of a 1.0\nc: robot; 1.0; run of a 1.0\nd: drawer lazy counts; 1.0\ne: lamp heals; 1.0\nf: horn runs hears; 1.0"
	h := hostFor(t, entries, "start b; start c; start d; start e; start f")
	for i := range h.Parts {
		h.Parts[i].Core.On, h.Parts[i].Core.Broken = false, true
	}
	for _, c := range []struct{ call, answer, up, shut string }{
		{"call a Tell", "ok 1", "a b c d e f", ""},
		{"call a Start", "broken", "d e f", "a"},
		{"call a Stop", "broken", "d e f", "a"},
		{"call b Stop", "broken", "a c d e f", "b"},
		{"call c Get k", "broken", "a b d e f", "c"},
		{"call c Load x", "broken", "a b d e f", "c"},
		{"call c Hear 2", "broken", "a b d e f", "c"},
		{"call c Tell", "ok 1", "a b c d e f", ""},
		{"call c Heal", "ok 0", "a b c d e f", ""},
		{"call d Get k", "broken", "a b c e f", "d"},
		{"call d Tell", "ok 0", "a b c d e f", ""},
		{"call d Start", "assert run of keep+tell", "a b c d e f", ""},
		{"call e Heal", "broken", "a b c d f", "e"},
		{"call f Hear 2", "ok 1", "a b c d e f", ""},
		{"call f Hear 0", "broken", "a b c d e", "f"},
	} {
		after, said := checkDone(t, h, eventOf(t, c.call))
		if up, shut := strings.Join(after.Up, " "), strings.Join(after.Shut, " "); said != c.answer || up != c.up || shut != c.shut {
			t.Errorf("%s: %q, up are %q, shut are %q", c.call, said, up, shut)
		}
	}
	// A layer counts the call that tells that its part is broken.
	after, _ := checkDone(t, h, eventOf(t, "call d Get k"))
	if after.Parts[3].Layers[1].Count != 1 {
		t.Error(after.Parts[3])
	}
}

func TestLinesOfHosts(t *testing.T) {
	walkHost(t, "a: vault; 1.0\nb: drawer; 1.0; keep of a 1.0\nc: lamp; 1.0; run of b 1.0\nd: shelf; 1.0\nz9: robot counts; 1.0", []hostStep{
		{"start c", "ok", "a b c", "", "a up on -; b up on -; c up on -; d down off -; z9 down off -"},
		{"call a Load k=3,l=20", "ok 2", "a b c", "", "a up on k=3,l=20"},
		{"call b Put k 999", "ok 1", "a b c", "", "b up on k=999; a up on k=3,l=20"},
		{"call b Stop", "ok 0", "a b c", "", "b up off k=999"},
		{"call b Get k", "off", "a b c", "", "b up off k=999"},
		{"call b Start", "ok 0", "a b c", "", "b up on k=999"},
		{"call b Start", "broken", "a", "b", "a up on k=3,l=20; b shut broken k=999; c down off -"},
		{"stop a", "ok", "", "b", "a down off k=3,l=20; b shut broken k=999"},
		{"start z9", "ok", "z9", "b", "z9 up off -"},
	})
	h := hostFor(t, threeEntries, "")
	h.Shut = strings.Fields("b c")
	h.Parts[1].Core.On = true
	for name, want := range map[string]string{"a": "a down off -", "b": "b shut on -", "c": "c shut off -", "d": "", "": "", "A": "", "a ": "", "aa": ""} {
		if got := impl.HostLine(h, name); got != want || got != lineOfHost(h, name) {
			t.Errorf("the line of %q is %q", name, got)
		}
	}
	h.Log = filled(t, h, 25).Log
	if got := impl.HostLine(h, "a"); got != "" {
		t.Errorf("the line is %q", got)
	}
	if got := impl.HostLine(impl.Host{}, ""); got != "" {
		t.Errorf("the line is %q", got)
	}
}
