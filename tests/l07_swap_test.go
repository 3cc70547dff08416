package tests

import (
	"strings"
	"testing"

	"loop.example/g03016/impl"
)

// Only the cells go over, and only from a kind that keeps to one that keeps.
func TestSwapsOfPartsThatAreUpAndDown(t *testing.T) {
	h := walkHost(t, "a: vault; 1.0\nb: lamp; 1.0\nc: shelf; 1.0", []hostStep{
		{"start a", "ok", "a", "", "a up on -"},
		{"call a Load k=3,l=4", "ok 2", "a", "", "a up on k=3,l=4"},
		{"swap a drawer", "ok", "a", "", "a up on k=3,l=4"},
		{"swap a robot lazy counts", "ok", "a", "", "a up off k=3,l=4"},
		{"call a Tell", "ok 0", "a", "", "a up off k=3,l=4"},
		{"call a Get k", "ok 3", "a", "", "a up on k=3,l=4"},
		{"call a Tell", "ok 1", "a", "", "a up on k=3,l=4"},
		{"swap a shelf", "ok", "a", "", "a up off k=3,l=4"},
		{"swap a vault plain", "ok", "a", "", "a up off k=3,l=4"},
		{"swap a vault", "ok", "a", "", "a up on k=3,l=4"},
		{"swap a horn", "ok", "a", "", "a up on -"},
		{"swap a vault", "ok", "a", "", "a up on -"},
		{"call a Put m 5", "ok 1", "a", "", "a up on m=5"},
		{"stop a", "ok", "", "", "a down off m=5"},
		{"swap a robot", "ok", "", "", "a down off m=5"},
		{"swap a stone", "ok", "", "", "a down off -"},
		{"swap b vault reads", "ok", "", "", "b down off -"},
		{"start b", "ok", "b", "", "b up off -"},
		{"swap b meter", "ok", "b", "", "b up on -"},
		{"call b Tell", "ok 1", "b", "", "b up on -"},
		{"swap b meter", "ok", "b", "", "b up on -"},
		{"swap c robot keeps", "ok", "b", "", "c down off -"},
		{"swap c lamp", "ok", "b", "", "c down off -"},
	})
	if counts := []int{h.Parts[0].Core.Count, h.Parts[1].Core.Count, h.Parts[2].Core.Count}; counts[0] != 0 || counts[1] != 1 || counts[2] != 0 {
		t.Error(counts)
	}
}

// Each kind is swapped for each other one: with cells, up and down, with and without an adapter.
func TestSwapsOfEachKindForEachOther(t *testing.T) {
	for _, old := range kinds {
		base := hostOfRegistry([]impl.Entry{{Name: "a", Recipe: []string{old.name}, Version: impl.Version{Major: 1}}})
		for _, core := range coresOf(old.name) {
			for _, up := range [][]string{nil, {"a"}} {
				h := cloneHost(base)
				h.Parts[0].Core, h.Up = core, up
				for _, k := range kinds {
					for _, adapter := range []string{"", "plain", "runs", "counts", "lazy"} {
						x := impl.Event{Kind: impl.HostSwap, Name: "a", Recipe: strings.Fields(k.name + " " + adapter)}
						after, said := checkDone(t, h, x)
						if said != "ok" {
							continue
						}
						if kept := len(after.Parts[0].Core.Cells) == len(core.Cells); kept != (len(core.Cells) == 0 || k.face/2%2 == 1) {
							t.Errorf("%v of %v: %+v", x, core, after.Parts[0])
						}
					}
				}
			}
		}
	}
}

func TestSwapsThatAreRefused(t *testing.T) {
	h := hostFor(t, sixWired, "start e; call f Start")
	for _, recipe := range []string{"horn", "robot", "robot lazy runs"} {
		checkRefused(t, h, "swap f "+recipe, "no")
	}
	for _, recipe := range invalidRecipes() {
		for _, name := range []string{"a", "e", "f"} {
			if after, ok := impl.SwapPart(h, name, recipe); ok || !sameHosts(after, h) {
				t.Errorf("swap %s %s is not refused", name, brief(recipe))
			}
		}
	}
	for _, name := range append([]string{"", "g", "aa"}, notNames...) {
		if after, ok := impl.SwapPart(h, name, []string{"robot"}); ok || !sameHosts(after, h) {
			t.Errorf("swap %.40q is not refused", name)
		}
	}
}

// A swap is done exactly if all are wired as before: served by the same providers.
func TestSwapsThatChangeALink(t *testing.T) {
	for _, c := range []struct{ entries, swap, answer string }{
		// The need of a is served by b alone: it goes without a provider, or keeps it.
		{"a: lamp; 1.0; keep 1.0\nb: shelf; 1.0", "swap b lamp", "no"},
		{"a: lamp; 1.0; keep 1.0\nb: shelf; 1.0", "swap b stone", "no"},
		{"a: lamp; 1.0; keep 1.0\nb: shelf; 1.0", "swap b robot plain", "no"},
		{"a: lamp; 1.0; keep 1.0\nb: shelf; 1.0", "swap b robot", "ok"},
		{"a: lamp; 1.0; keep 1.0\nb: shelf; 1.0", "swap b vault counts", "ok"},
		{"a: lamp; 1.0; keep 1.0\nb: shelf; 1.0", "swap a stone", "ok"},
		{"a: lamp; 1.0; keep 1.0\nb: shelf; 1.0", "swap a shelf", "ok"},
		{"a: lamp; 1.0; keep of b 1.0\nb: shelf; 1.0\nc: shelf; 1.0", "swap b lamp", "no"},
		{"a: lamp; 1.0; keep of b 1.0\nb: shelf; 1.0\nc: shelf; 1.0", "swap c lamp", "ok"},
		// The need of a would go to c instead.
		{"a: lamp; 1.0; keep 1.0\nb: shelf; 1.0\nc: shelf; 1.0", "swap b lamp", "no"},
		{"a: lamp; 1.0; keep 1.0\nb: shelf; 1.0\nc: shelf; 1.0", "swap b drawer", "ok"},
		{"a: lamp; 1.0; keep 1.0\nb: shelf; 1.0\nc: shelf; 1.0", "swap c lamp", "ok"},
		// An earlier entry would serve first, and would not, if it is of another version, or is not asked for.
		{"a: lamp; 1.0\nb: lamp; 1.0\nc: shelf; 1.0\nd: lamp; 1.0; keep 1.0", "swap b shelf", "no"},
		{"a: lamp; 1.0\nb: lamp; 1.0\nc: shelf; 1.0\nd: lamp; 1.0; keep 1.0", "swap a robot", "no"},
		{"a: lamp; 1.0\nb: lamp; 1.0\nc: shelf; 1.0\nd: lamp; 1.0; keep 1.0", "swap a horn", "ok"},
		{"a: lamp; 2.0\nb: lamp; 1.0\nc: shelf; 1.0\nd: lamp; 1.0; keep 1.0", "swap a robot", "ok"},
		{"a: lamp; 1.0\nb: lamp; 1.0\nc: shelf; 1.1\nd: lamp; 1.0; keep 1.1", "swap b robot", "ok"},
		{"a: lamp; 1.0\nb: lamp; 1.0\nc: shelf; 1.0\nd: lamp; 1.0; keep of c 1.0", "swap b robot", "ok"},
		{"a: lamp; 1.0\nb: lamp; 1.0\nc: shelf; 1.0\nd: lamp; 1.0; keep 1.0", "swap d shelf", "ok"},
		{"a: lamp; 1.0; keep 1.0\nb: shelf; 1.0\nc: lamp; 1.0", "swap c robot", "ok"},
		// The earlier entry needs the one that it would serve: a circle.
		{"a: lamp; 1.0; run of b 1.0\nb: lamp; 1.0; keep 1.0\nc: shelf; 1.0", "swap a robot", "no"},
		{"a: lamp; 1.0; run of b 1.0\nb: lamp; 1.0; keep 1.0\nc: shelf; 1.0", "swap a meter", "ok"},
		{"a: lamp; 1.0; run 1.0\nb: lamp; 1.0; keep of c 1.0\nc: shelf; 1.0", "swap b stone", "no"},
		// One of two needs of one entry, the second and the first.
		{"a: lamp; 1.0; run of b 1.0, keep of b 1.0\nb: robot; 1.0", "swap b shelf", "no"},
		{"a: lamp; 1.0; run of b 1.0, keep of b 1.0\nb: robot; 1.0", "swap b lamp", "no"},
		{"a: lamp; 1.0; run of b 1.0, keep of b 1.0\nb: robot; 1.0", "swap b drawer", "ok"},
		{"a: lamp; 1.0; run+keep of b 1.0\nb: robot; 1.0", "swap b shelf", "no"},
	} {
		registry := registryOf(t, c.entries)
		x := eventOf(t, c.swap)
		h := hostOfRegistry(registry)
		for _, up := range append([]string{""}, strings.Fields("a b c d")...) {
			if up != "" {
				h, _ = checkDone(t, h, impl.Event{Kind: impl.HostStart, Name: up})
			}
			after, said := checkDone(t, h, x)
			if said != c.answer {
				t.Errorf("%s of %s: %q", c.swap, brief(h), said)
			}
			checkPromise7(t, registry, after)
		}
	}
}

// A part that does not heal itself is made anew by the recipe of the last swap.
func TestSwapsBeforeHeals(t *testing.T) {
	walkHost(t, "a: lamp; 1.0\nb: lamp; 1.0; run of a 1.0", []hostStep{
		{"start b", "ok", "a b", "", ""},
		{"swap a drawer lazy", "ok", "a b", "", "a up on -; b up on -"},
		{"call a Put k 1", "ok 1", "a b", "", "a up on k=1"},
		{"swap b shelf", "ok", "a b", "", "b up off -"},
		{"call a Start", "broken", "", "a", "a shut broken k=1; b down off -"},
		{"swap a lamp", "no", "", "a", "a shut broken k=1"},
		{"swap b lamp", "ok", "", "a", "b down off -"},
		{"heal a", "ok 0", "", "", "a down off -"},
		{"start b", "ok", "a b", "", "a up on -; b up on -"},
		{"call a Get k", "none", "a b", "", "a up on -"},
		{"swap a robot", "ok", "a b", "", "a up on -"},
		{"call a Start", "broken", "", "a", "a shut broken -"},
		{"heal a", "ok 1", "", "", "a down off -"},
	})
}
