package tests

import (
	"math"
	"slices"
	"strings"
	"testing"

	"loop.example/g03016/impl"
)

func checkIsHost(t *testing.T, h impl.Host, want bool) {
	t.Helper()
	if got := impl.IsHost(h); got != want || isValidHost(h) != want {
		t.Errorf("IsHost(%s) = %t, not %t", brief(h), got, want)
	}
}

// threeEntries are wired from a to b, and from c to a, which does not run.
const threeEntries = "a: drawer counts; 1.0; keep of b 1.0\nb: drawer; 1.0\nc: lamp; 1.0; tell of a 1.0"

// sixWired are wired so that the order of starting is d, b, a, f, c, e.
const sixWired = `
	a: robot; 1.0; keep of b 1.0, run of b 1.0
	b: drawer lazy; 1.0; run of d 1.0
	c: vault counts; 1.0; run of f 1.0
	d: robot lazy runs; 1.0
	e: shelf; 1.0; tell of c 1.0, keep of a 1.0
	f: horn; 1.0`

// changedHost returns a copy of the host after a change of its fields.
func changedHost(h impl.Host, change func(h *impl.Host)) impl.Host {
	h = cloneHost(h)
	change(&h)
	return h
}

// invalidHosts are wrong in one field each.
func invalidHosts(t *testing.T) []impl.Host {
	t.Helper()
	base := hostFor(t, threeEntries, "start a; call b Put k 3; call b Start; heal b; start b")
	l := []impl.Host{{Up: []string{"a"}}, {Shut: []string{"a"}}, {Parts: base.Parts[:1]}, {Up: []string{""}}, {Shut: []string{""}}}
	l = append(l, hostsWithWrongEntries(t, base)...)
	l = append(l, hostsWithWrongParts(base)...)
	return append(append(l, hostsWithWrongNames(base)...), hostsWithWrongLogs(t, base)...)
}

func hostsWithWrongEntries(t *testing.T, base impl.Host) []impl.Host {
	t.Helper()
	l := []impl.Host{}
	for _, change := range []func(h *impl.Host){
		func(h *impl.Host) { h.Entries = nil },
		func(h *impl.Host) { h.Entries = h.Entries[:2] },
		func(h *impl.Host) { h.Entries = append(h.Entries, stonesNamed("d")...) },
		func(h *impl.Host) { slices.Reverse(h.Entries) },
		func(h *impl.Host) { h.Entries[1].Name = "a" },
		func(h *impl.Host) { h.Entries[1].Recipe = []string{"vault"} },
		func(h *impl.Host) { h.Entries[1].Recipe = []string{"drawer", "keeps"} },
		// Registries with a stuck entry: a need that nothing serves, a circle, one that reaches a circle.
		func(h *impl.Host) { h.Entries[0].Needs[0].Face = 32 },
		func(h *impl.Host) { h.Entries[2].Needs[0].Least.Minor = 1 },
		func(h *impl.Host) { h.Entries[2].Needs[0].From = "d" },
		func(h *impl.Host) {
			h.Entries[1].Needs = []impl.Need{{Face: 1, From: "c", Least: impl.Version{Major: 1}}}
		},
		func(h *impl.Host) {
			h.Entries[1].Needs = []impl.Need{{Face: 2, From: "a", Least: impl.Version{Major: 1}}}
		},
	} {
		l = append(l, changedHost(base, change))
	}
	for i, e := range invalidEntries(t) {
		l = append(l, changedHost(base, func(h *impl.Host) { h.Entries[i%3] = e }))
	}
	for _, entries := range notRegistries(t)[:40] {
		l = append(l, impl.Host{Entries: entries})
	}
	stuck := stonesNamed("a", "b")
	stuck[1].Needs = []impl.Need{{Face: 1}}
	return append(l, impl.Host{Entries: stuck, Parts: []impl.Part{{Core: impl.Core{Kind: "stone"}}, {Core: impl.Core{Kind: "stone"}}}})
}

func hostsWithWrongParts(base impl.Host) []impl.Host {
	l := []impl.Host{}
	for _, change := range []func(h *impl.Host){
		func(h *impl.Host) { h.Parts = nil },
		func(h *impl.Host) { h.Parts = h.Parts[:2] },
		func(h *impl.Host) { h.Parts = h.Parts[1:] },
		func(h *impl.Host) { h.Parts = append(h.Parts, h.Parts[2]) },
		func(h *impl.Host) { slices.Reverse(h.Parts) },
		func(h *impl.Host) { h.Parts[0], h.Parts[1] = h.Parts[1], h.Parts[0] },
		func(h *impl.Host) { h.Parts[0].Core.Kind = "vault" },
		func(h *impl.Host) { h.Parts[0].Layers = nil },
		func(h *impl.Host) { h.Parts[0].Layers = layersOf("counts", "counts") },
		func(h *impl.Host) { h.Parts[0].Layers = layersOf("keeps", "counts") },
		func(h *impl.Host) { h.Parts[0].Layers = layersOf("keeps") },
		func(h *impl.Host) { h.Parts[1].Layers = layersOf("plain") },
		func(h *impl.Host) { h.Parts[0].Layers[0].Count = -1 },
		func(h *impl.Host) { h.Parts[0].Layers[0].Count = 1000 },
		func(h *impl.Host) { h.Parts[0].Core.Count = -1 },
		func(h *impl.Host) { h.Parts[0].Core.On, h.Parts[0].Core.Broken = true, true },
		func(h *impl.Host) { h.Parts[1].Core.Count = 1000 },
		func(h *impl.Host) { h.Parts[1].Core.Cells = []impl.Cell{{Key: "b"}, {Key: "a"}} },
		func(h *impl.Host) { h.Parts[2].Core.Cells = []impl.Cell{{Key: "a"}} },
	} {
		l = append(l, changedHost(base, change))
	}
	for i, p := range invalidParts() {
		l = append(l, changedHost(base, func(h *impl.Host) { h.Parts[i%3] = p }))
	}
	return l
}

// hostsWithWrongNames have an Up or a Shut that is not valid. The order of starting is b, a, c.
func hostsWithWrongNames(base impl.Host) []impl.Host {
	l := []impl.Host{}
	for _, c := range []struct{ up, shut string }{
		{"b b", ""}, {"b a a", ""}, {"b a b", ""}, {"b a c c", ""}, {"b a c b a c", ""},
		{"a", ""}, {"c", ""}, {"a b", ""}, {"b c", ""}, {"b c a", ""}, {"a c", ""}, {"c a b", ""}, {"a b c", ""}, {"a c b", ""},
		{"d", ""}, {"b d", ""}, {"d b", ""}, {"b a c d", ""}, {"B", ""}, {"bb", ""},
		{"", "d"}, {"", "a d"}, {"", "A"}, {"b", "aa"}, {"", "a b c d"},
		{"", "b a"}, {"", "c a"}, {"", "a a"}, {"b", "c a"}, {"", "a c b"}, {"", "a a b"}, {"", "a b b"}, {"", "c b a"},
		{"b", "b"}, {"b a", "a"}, {"b a", "b"}, {"b a c", "a"}, {"b", "a b"}, {"b", "b c"}, {"b a", "b c"},
	} {
		l = append(l, changedHost(base, func(h *impl.Host) { h.Up, h.Shut = strings.Fields(c.up), strings.Fields(c.shut) }))
	}
	for _, name := range append([]string{""}, notNames...) {
		l = append(l, changedHost(base, func(h *impl.Host) { h.Up = []string{"b", name} }))
		l = append(l, changedHost(base, func(h *impl.Host) { h.Up, h.Shut = []string{"b"}, []string{name} }))
	}
	many := slices.Repeat([]string{"b"}, 1<<16)
	return append(l, changedHost(base, func(h *impl.Host) { h.Up = many }), changedHost(base, func(h *impl.Host) { h.Up, h.Shut = nil, many }))
}

func hostsWithWrongLogs(t *testing.T, base impl.Host) []impl.Host {
	t.Helper()
	l := []impl.Host{filled(t, base, 25), filled(t, base, 26), filled(t, base, 1<<12)}
	for i, x := range invalidEvents() {
		l = append(l, changedHost(base, func(h *impl.Host) { h.Log[i%len(h.Log)] = x }))
		if i%16 == 0 {
			l = append(l, changedHost(base, func(h *impl.Host) { h.Log = append(h.Log, x) }))
		}
	}
	return l
}

func TestHostsThatAreNotValid(t *testing.T) {
	for _, h := range invalidHosts(t) {
		checkIsHost(t, h, false)
	}
}

// A host that is not valid is refused by each operation, and goes out as it came in.
func TestOperationsOfHostsThatAreNotValid(t *testing.T) {
	for _, h := range invalidHosts(t) {
		names := []string{"a", "b", "c", "", "d"}
		for _, name := range names {
			for _, x := range []impl.Event{
				{Kind: impl.HostStart, Name: name}, {Kind: impl.HostStop, Name: name}, {Kind: impl.HostHeal, Name: name},
				{Kind: impl.HostCall, Name: name, Call: impl.Call{Method: "Tell"}}, {Kind: impl.HostSwap, Name: name, Recipe: []string{"robot"}},
			} {
				after, r, said := perform(h, x)
				if !sameHosts(after, h) || said != "no" && r != (impl.Reply{Code: impl.ReplyBad}) {
					t.Errorf("%s of %s: %q, %s", brief(x), brief(h), said, brief(after))
				}
			}
			if line := impl.HostLine(h, name); line != "" {
				t.Errorf("the line of %q of %s is %q", name, brief(h), line)
			}
		}
	}
}

// Each Up of up to four of these names is valid exactly if it is behind all needs.
func TestEachOrderOfUp(t *testing.T) {
	for _, entries := range []string{threeEntries, "a: lamp; 1.0\nb: lamp; 1.0\nc: lamp; 1.0", "a: lamp; 1.0\nb: lamp; 1.0; run of a 1.0\nc: lamp; 1.0; run of a 1.0"} {
		h := hostFor(t, entries, "")
		count := 0
		listsOf([]string{"a", "b", "c", "d", ""}, 4, func(l []string) {
			h.Up = l
			want := isValidHost(h)
			checkIsHost(t, h, want)
			count += map[bool]int{true: 1}[want]
		})
		if count < 4 {
			t.Errorf("only %d orders are valid", count)
		}
	}
}

func TestEachShutBesideEachUp(t *testing.T) {
	h := hostFor(t, threeEntries, "")
	for _, up := range []string{"", "b", "b a", "b a c"} {
		h.Up = strings.Fields(up)
		listsOf([]string{"a", "b", "c", "d", ""}, 4, func(l []string) {
			h.Shut = l
			checkIsHost(t, h, isValidHost(h))
		})
	}
}

// What no operation leads to may be valid all the same.
func TestValidHostsOfAllSorts(t *testing.T) {
	for _, h := range []impl.Host{
		{},
		{Entries: []impl.Entry{}, Parts: []impl.Part{}, Up: []string{}, Shut: []string{}, Log: []impl.Event{}},
		{Log: eventsOf(t, "start a; heal zz; swap b lamp")},
		hostFor(t, sixWired, ""), hostFor(t, sixWired, "start e; stop b; start e; call f Start"),
	} {
		checkIsHost(t, h, true)
		checkIsHost(t, filled(t, h, 23), true)
		checkIsHost(t, filled(t, h, 24), true)
		checkIsHost(t, filled(t, h, 25), false)
	}
	h := hostFor(t, threeEntries, "start c")
	for _, change := range []func(h *impl.Host){
		func(h *impl.Host) { h.Up = nil },
		func(h *impl.Host) { h.Up, h.Shut = nil, []string{"a", "b", "c"} },
		func(h *impl.Host) { h.Up, h.Shut = []string{"b", "a"}, []string{"c"} },
		func(h *impl.Host) { h.Up, h.Shut = []string{"b"}, []string{"a", "c"} },
		func(h *impl.Host) { h.Parts[1].Core = impl.Core{Kind: "drawer", Broken: true, Count: 999} },
		func(h *impl.Host) { h.Parts[0].Layers[0].Count, h.Parts[2].Core.On = 999, false },
		func(h *impl.Host) { h.Log = nil },
	} {
		checkIsHost(t, changedHost(h, change), true)
	}
	wide := hostFor(t, sixWired, "")
	for _, up := range []string{"f d b a c e", "d f c b a e", "d b a", "d b f a c e", "f", "f c", "d", "d b f c"} {
		wide.Up = strings.Fields(up)
		checkIsHost(t, wide, true)
	}
	for _, up := range []string{"f d a b c e", "f d b a e c", "b d", "c f", "d b f e", "a", "e", "f c e"} {
		wide.Up = strings.Fields(up)
		checkIsHost(t, wide, false)
	}
}

func TestNewHosts(t *testing.T) {
	full := registryOf(t, sixWired)
	for _, l := range [][]impl.Entry{nil, {}, stonesNamed("a"), full[3:4], stonesNamed("a", "b", "c", "d", "e", "f"), full, registryOf(t, threeEntries)} {
		h, ok := impl.NewHost(l)
		if !ok || !sameHosts(h, hostOfRegistry(l)) || len(h.Up)+len(h.Shut)+len(h.Log) > 0 {
			t.Errorf("NewHost(%s) = %s, %t", brief(l), brief(h), ok)
		}
		checkIsHost(t, h, true)
		checkPromise7(t, l, h)
	}
	for _, l := range append(notRegistries(t), hostlessRegistries(t)...) {
		if h, ok := impl.NewHost(l); ok || !sameHosts(h, impl.Host{}) {
			t.Errorf("NewHost(%s) = %s, %t", brief(l), brief(h), ok)
		}
		if h, ok := impl.ReplayHost(l, nil); ok || !sameHosts(h, impl.Host{}) {
			t.Errorf("ReplayHost(%s) = %s, %t", brief(l), brief(h), ok)
		}
	}
}

// hostlessRegistries have a stuck entry each.
func hostlessRegistries(t *testing.T) [][]impl.Entry {
	t.Helper()
	l := [][]impl.Entry{append(sixEntries(t)[:2], sixEntries(t)[3:]...)}
	for _, needs := range []string{"!", ",!", "b,a", "b,c,a", "b,a,", ",,,,!,", "b,c,d,e,f,a", ",a,!,,,"} {
		l = append(l, shelvesWith(strings.Split(needs, ",")))
	}
	return l
}

// Every wiring of three has a host exactly if nobody is stuck in it.
func TestHostsOfAllWirings(t *testing.T) {
	eachRegistry([][]string{needsAmong("bc!"), needsAmong("ac!"), needsAmong("ab!")}, func(needs []string) {
		l := shelvesWith(needs)
		h, ok := impl.NewHost(l)
		want := hasNoStuck(l)
		if ok != want || impl.IsHost(h) != true || want && !sameHosts(h, hostOfRegistry(l)) || !want && !sameHosts(h, impl.Host{}) {
			t.Errorf("NewHost of %q: %s, %t", needs, brief(h), ok)
		}
		for _, name := range []string{"a", "b", "c"} {
			if want {
				after, _ := checkDone(t, h, impl.Event{Kind: impl.HostStart, Name: name})
				checkPromise7(t, l, after)
			}
		}
	})
}

func TestSameHost(t *testing.T) {
	base := hostFor(t, threeEntries, "start c; call b Put k 3; call a Put k 1; stop c; swap c meter")
	if !impl.SameHost(base, cloneHost(base)) || !impl.SameHost(impl.Host{}, impl.Host{Entries: []impl.Entry{}, Parts: []impl.Part{}, Up: []string{}, Shut: []string{}, Log: []impl.Event{}}) {
		t.Error("a host is told to differ from its copy")
	}
	changes := []func(h *impl.Host){
		func(h *impl.Host) { h.Entries[0].Name = "a0" }, func(h *impl.Host) { h.Entries[0].Recipe[1] = "keeps" }, func(h *impl.Host) { h.Entries[0].Recipe = nil },
		func(h *impl.Host) { h.Entries[1].Version.Minor++ }, func(h *impl.Host) { h.Entries[1].Version.Major = math.MinInt }, func(h *impl.Host) { h.Entries[2].Needs[0].Face++ },
		func(h *impl.Host) { h.Entries[2].Needs[0].From = "" }, func(h *impl.Host) { h.Entries[2].Needs[0].Least.Minor++ }, func(h *impl.Host) { h.Entries[0].Needs = nil },
		func(h *impl.Host) { h.Entries = h.Entries[:2] }, func(h *impl.Host) { h.Entries[0], h.Entries[1] = h.Entries[1], h.Entries[0] },
		func(h *impl.Host) { h.Parts[0].Core.Count++ }, func(h *impl.Host) { h.Parts[1].Core.On = !h.Parts[1].Core.On }, func(h *impl.Host) { h.Parts[1].Core.Broken = true },
		func(h *impl.Host) { h.Parts[1].Core.Cells[0].Value++ }, func(h *impl.Host) { h.Parts[0].Layers[0].Count++ }, func(h *impl.Host) { h.Parts[2].Core.Kind = "" },
		func(h *impl.Host) { h.Parts = h.Parts[:2] }, func(h *impl.Host) { h.Parts = nil }, func(h *impl.Host) { h.Parts[2].Layers = layersOf("plain") },
		func(h *impl.Host) { h.Up = append(h.Up, "c") }, func(h *impl.Host) { h.Up = []string{"a", "b"} }, func(h *impl.Host) { h.Up[0] = "" },
		func(h *impl.Host) { h.Shut = []string{"c"} }, func(h *impl.Host) { h.Shut = []string{""} },
		func(h *impl.Host) { h.Log[0].Kind++ }, func(h *impl.Host) { h.Log[0].Name = "b" }, func(h *impl.Host) { h.Log[1].Call.Value++ }, func(h *impl.Host) { h.Log[1].Call.Text = "-" },
		func(h *impl.Host) { h.Log[4].Recipe[0] = "lamp" }, func(h *impl.Host) { h.Log[4].Recipe = nil }, func(h *impl.Host) { h.Log[0].Recipe = []string{""} },
		func(h *impl.Host) { h.Log = h.Log[:4] }, func(h *impl.Host) { h.Log = nil }, func(h *impl.Host) { h.Log[0], h.Log[1] = h.Log[1], h.Log[0] },
	}
	hosts := []impl.Host{base, {}}
	for _, change := range changes {
		hosts = append(hosts, changedHost(base, change))
	}
	for i, a := range hosts {
		for k, b := range hosts {
			if got := impl.SameHost(a, b); got != (i == k) {
				t.Errorf("SameHost(%+v, %+v) = %t", a, b, got)
			}
		}
	}
}
