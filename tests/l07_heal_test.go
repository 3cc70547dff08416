package tests

import (
	"strings"
	"testing"

	"loop.example/g03016/impl"
)

// One that heals itself keeps what it has; of one that does not, there is a new part.
func TestHealsOfPartsThatBroke(t *testing.T) {
	h := walkHost(t, "a: robot; 1.0\nb: vault; 1.0\nc: lamp heals; 1.0\nd: robot runs heals; 1.0\ne: drawer lazy; 1.0", []hostStep{
		{"start a", "ok", "a", "", "a up on -"},
		{"call a Put k 3", "ok 1", "a", "", "a up on k=3"},
		{"call a Start", "broken", "", "a", "a shut broken k=3"},
		{"start a", "no", "", "a", "a shut broken k=3"},
		{"stop a", "no", "", "a", "a shut broken k=3"},
		{"call a Heal", "off", "", "a", "a shut broken k=3"},
		{"heal a", "ok 1", "", "", "a down off k=3"},
		{"heal a", "refused", "", "", "a down off k=3"},
		{"start a", "ok", "a", "", "a up on k=3"},
		{"heal a", "refused", "a", "", "a up on k=3"},
		{"start b", "ok", "a b", "", "b up on -"},
		{"call b Put k 3", "ok 1", "a b", "", "b up on k=3"},
		{"call b Start", "broken", "a", "b", "b shut broken k=3"},
		{"heal b", "ok 0", "a", "", "b down off -"},
		{"start c", "ok", "a c", "", "c up on -"},
		{"call c Start", "broken", "a", "c", "c shut broken -"},
		{"heal c", "ok 0", "a", "", "c down off -"},
		{"start d", "ok", "a d", "", "d up on -"},
		{"call d Start", "broken", "a", "d", "d shut broken -"},
		{"start e", "ok", "a e", "d", "e up on -; d shut broken -"},
		{"heal d", "ok 0", "a e", "", "d down off -"},
		{"heal e", "refused", "a e", "", "e up on -"},
	})
	// The counts tell a healed core from a new one.
	if counts := []int{h.Parts[0].Core.Count, h.Parts[1].Core.Count, h.Parts[3].Core.Count}; counts[0] != 3 || counts[1] != 0 || counts[2] != 0 {
		t.Error(counts)
	}
}

// A host may have a shut entry whose part is not broken. One that heals is stopped then, if it runs.
func TestHealsOfPartsOfAllStates(t *testing.T) {
	entries := "a: lamp heals; 1.0\nb: robot; 1.0\nc: vault; 1.0\nd: shelf; 1.0\ne: drawer lazy counts; 1.0\nf: robot heals plain; 1.0"
	base := hostFor(t, entries, "")
	base.Shut = strings.Fields("a b c d e f")
	cells := []impl.Cell{{Key: "k", Value: 3}}
	for i := range base.Parts {
		base.Parts[i].Core.Count = 7
	}
	for _, i := range []int{1, 2, 3, 4, 5} {
		base.Parts[i].Core.Cells = cells
	}
	for _, c := range []struct {
		state, name string
		value       int
		line        string
		count       int
	}{
		// It stops and starts its core, and is stopped behind that.
		{"off", "a", 1, "a down off -", 8}, {"on", "a", 1, "a down off -", 8}, {"broken", "a", 0, "a down off -", 0},
		{"off", "b", 1, "b down off k=3", 7}, {"on", "b", 1, "b down off k=3", 7}, {"broken", "b", 1, "b down off k=3", 7},
		{"off", "c", 0, "c down off -", 0}, {"on", "c", 0, "c down off -", 0}, {"broken", "c", 0, "c down off -", 0},
		{"off", "d", 0, "d down off -", 0},
		{"off", "e", 0, "e down off -", 0}, {"on", "e", 0, "e down off -", 0}, {"broken", "e", 0, "e down off -", 0},
		{"off", "f", 0, "f down off -", 0}, {"on", "f", 0, "f down off -", 0}, {"broken", "f", 0, "f down off -", 0},
	} {
		h := cloneHost(base)
		at := placeOf(h.Entries, c.name)
		h.Parts[at].Core.On, h.Parts[at].Core.Broken = c.state == "on", c.state == "broken"
		checkIsHost(t, h, true)
		after, _ := checkDone(t, h, impl.Event{Kind: impl.HostHeal, Name: c.name})
		_, r := impl.HealPart(h, c.name)
		if r != (impl.Reply{Value: c.value}) || impl.HostLine(after, c.name) != c.line || after.Parts[at].Core.Count != c.count {
			t.Errorf("heal %s, which is %s: %v, %q, %+v", c.name, c.state, r, impl.HostLine(after, c.name), after.Parts[at])
		}
		if len(after.Shut) != 5 || len(after.Up) > 0 {
			t.Errorf("heal %s: up are %q, shut are %q", c.name, after.Up, after.Shut)
		}
		for i := range h.Parts {
			if i != at && !sameParts(h.Parts[i], after.Parts[i]) {
				t.Errorf("heal %s has changed the part of %s", c.name, h.Entries[i].Name)
			}
		}
	}
}

// What is healed may come up again, and with it what reaches it; the others stay shut.
func TestHealsAmongSeveralThatAreShut(t *testing.T) {
	walkHost(t, sixWired, []hostStep{
		{"start e", "ok", "d b a f c e", "", ""},
		{"call a Start", "broken", "d b f c", "a", "a shut broken -; e down off -"},
		{"call f Start", "broken", "d b", "a f", "c down off -; f shut broken -"},
		{"call d Start", "broken", "", "a d f", "b down off -; d shut broken -"},
		{"start e", "no", "", "a d f", ""},
		{"heal d", "ok 0", "", "a f", "d down off -"},
		{"start b", "ok", "d b", "a f", ""},
		{"start a", "no", "d b", "a f", ""},
		{"start e", "no", "d b", "a f", ""},
		{"heal a", "ok 1", "d b", "f", "a down off -"},
		{"start e", "no", "d b", "f", ""},
		{"start a", "ok", "d b a", "f", ""},
		{"heal f", "ok 0", "d b a", "", "f down off -"},
		{"start e", "ok", "d b a f c e", "", "e up off -"},
	})
}

func TestHealsThatAreRefused(t *testing.T) {
	h := hostFor(t, sixWired, "start e; call a Start; call f Start")
	for _, name := range []string{"b", "c", "d", "e"} {
		checkRefused(t, h, "heal "+name, "refused")
	}
	for _, name := range append([]string{"", "g", "aa"}, notNames...) {
		if after, r := impl.HealPart(h, name); r != (impl.Reply{Code: 7}) || !sameHosts(after, h) {
			t.Errorf("heal %.40q: %v", name, r)
		}
	}
	full := filled(t, h, 24)
	for _, name := range []string{"a", "b", "c", "g"} {
		if after, r := impl.HealPart(full, name); r != (impl.Reply{Code: 7}) || !sameHosts(after, full) {
			t.Errorf("heal %q: %v", name, r)
		}
	}
}
