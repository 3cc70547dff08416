package tests

import (
	"fmt"
	"slices"
	"strings"
	"testing"

	"loop.example/g03016/impl"
)

var notNames = []string{"A", "1", "2k", " ", "a ", " a", "a b", "a-b", "a:", "a;", "-", "abcdefghi", "a\n", "a\x00", "\xff", strings.Repeat("a", 1<<16)}

// invalidNeeds are wrong in one field each.
func invalidNeeds() []impl.Need {
	l := []impl.Need{{}}
	for _, f := range append([]int{0}, notFaces...) {
		l = append(l, impl.Need{Face: f}, impl.Need{Face: f, From: "b", Least: impl.Version{Major: 1}})
	}
	for _, s := range notNames {
		l = append(l, impl.Need{Face: 2, From: s, Least: impl.Version{Major: 1}})
	}
	for _, v := range notVersions() {
		l = append(l, impl.Need{Face: 2, Least: v}, impl.Need{Face: 2, From: "b", Least: v})
	}
	return l
}

func TestLimitsOfRegistries(t *testing.T) {
	if impl.MaxEntries != 6 || impl.MaxNeeds != 3 {
		t.Error(impl.MaxEntries, impl.MaxNeeds)
	}
}

func TestNeedsOfEachFace(t *testing.T) {
	for f := 1; f <= 63; f++ {
		for _, from := range []string{"", "a", "z9", "abcdefgh", "of", "none"} {
			for _, v := range versionsOf(t, "0.0 0.99 1.0 99.0 99.99") {
				if n := (impl.Need{Face: f, From: from, Least: v}); !impl.IsNeed(n) {
					t.Errorf("%+v is told to be no need", n)
				}
			}
		}
	}
}

func TestNeedsThatAreNotValid(t *testing.T) {
	for _, n := range invalidNeeds() {
		if isValidNeed(n) {
			t.Fatalf("%+v is a valid need", n)
		}
		if impl.IsNeed(n) {
			t.Errorf("%s is told to be a need", brief(n))
		}
	}
}

// invalidEntries are wrong in one field each, or in one field of one of their needs.
func invalidEntries(t *testing.T) []impl.Entry {
	t.Helper()
	base := entryOf(t, "m: vault counts; 1.2; run 1.0, keep of b 1.0")
	l := []impl.Entry{{}}
	for _, s := range append([]string{""}, notNames...) {
		e := base
		e.Name = s
		l = append(l, e)
	}
	for _, recipe := range invalidRecipes() {
		e := base
		e.Recipe = recipe
		l = append(l, e)
	}
	for _, v := range notVersions() {
		e := base
		e.Version = v
		l = append(l, e)
	}
	own := impl.Need{Face: 2, From: "m", Least: impl.Version{Major: 1}}
	for _, n := range append(invalidNeeds(), own) {
		for at := range 3 {
			e := base
			e.Needs = slices.Insert(slices.Clone(base.Needs), at, n)
			l = append(l, e)
		}
		e := base
		e.Needs = []impl.Need{n}
		l = append(l, e)
	}
	for _, count := range []int{4, 5, 6, 1 << 16} {
		e := base
		e.Needs = slices.Repeat(base.Needs[:1], count)
		l = append(l, e)
	}
	return l
}

func invalidRecipes() [][]string {
	l := [][]string{nil, {}}
	for _, text := range []string{
		"plain", "runs", "counts vault", "lamp lamp", "lamp reads", "shelf lazy", "stone runs", "stone twice", "horn keeps", "meter hears lazy",
		"robot plain runs", "robot runs keeps", "vault counts runs", "robot runs runs runs runs", "robot plain plain plain plain", "vault counts twice twice twice",
	} {
		l = append(l, strings.Fields(text))
	}
	for _, s := range append(slices.Clone(notKinds), notAdapters...) {
		if _, isKind := faceOfKind(s); !isKind {
			l = append(l, []string{s}, []string{s, "plain"})
		}
		if _, _, isAdapter := adapterOf(s); !isAdapter {
			l = append(l, []string{"vault", s}, []string{"vault", "keeps", s})
		}
	}
	return append(l, append([]string{"robot"}, slices.Repeat([]string{"runs"}, 1<<16)...))
}

func TestEntriesThatAreNotValid(t *testing.T) {
	for _, e := range invalidEntries(t) {
		if isValidEntry(e) {
			t.Fatalf("%s is a valid entry", brief(e))
		}
		if impl.IsEntry(e) || impl.IsRegistry([]impl.Entry{e}) || impl.FormatEntry(e) != "" {
			t.Errorf("%s is told to be an entry", brief(e))
		}
	}
}

func TestValidEntries(t *testing.T) {
	for _, text := range []string{
		"a: stone; 0.0", "abcdefgh: lamp; 99.99", "k2: robot plain plain plain; 1.0", "m: drawer lazy counts twice; 0.99",
		"m: shelf; 1.0; run 0.0", "m: shelf; 1.0; keep of l 1.0", "m: shelf; 1.0; keep of m2 1.0", "of: shelf; 1.0; keep of a 1.0", "a: shelf; 1.0; keep of of 1.0",
		"m: stone; 1.0; run 1.0, run 1.0", "m: stone; 1.0; run 1.0, run 1.0, run 1.0", "m: stone; 1.0; heal of a 99.99, run+keep+tell+hear+save+heal 0.0, tell of z 5.5",
	} {
		if e := entryOf(t, text); !impl.IsEntry(e) || !impl.IsRegistry([]impl.Entry{e}) {
			t.Errorf("%q is told to be no entry", text)
		}
	}
}

// The recipes are those of all valid parts, and some with a word too many.
func TestEntriesOfEachRecipe(t *testing.T) {
	for _, k := range kinds {
		listsOf(append(adapterNames(), "none"), 3, func(l []string) {
			e := impl.Entry{Name: "m", Recipe: append([]string{k.name}, l...), Version: impl.Version{Major: 1}}
			if got := impl.IsEntry(e); got != isValidEntry(e) {
				t.Errorf("IsEntry(%v) = %t", e, got)
			}
		})
	}
}

func TestEntriesOfEachVersion(t *testing.T) {
	for _, v := range append(allVersions(), notVersions()...) {
		e := impl.Entry{Name: "m", Recipe: []string{"stone"}, Version: v, Needs: []impl.Need{{Face: 1, Least: v}}}
		if got := impl.IsEntry(e); got != isValidVersion(v) {
			t.Errorf("IsEntry(%v) = %t", e, got)
		}
	}
}

func stonesNamed(names ...string) []impl.Entry {
	l := []impl.Entry{}
	for _, name := range names {
		l = append(l, impl.Entry{Name: name, Recipe: []string{"stone"}})
	}
	return l
}

// Every list of up to five of these names is that of a registry exactly if they are names and ascending; longer ones are changed in one place each.
func TestRegistriesOfAllListsOfNames(t *testing.T) {
	if !impl.IsRegistry(nil) || !impl.IsRegistry([]impl.Entry{}) {
		t.Error("a list without entries is told to be no registry")
	}
	listsOf([]string{"a", "a0", "aa", "b", "A", ""}, 5, func(names []string) {
		l := stonesNamed(names...)
		if got := impl.IsRegistry(l); got != isValidRegistry(l) {
			t.Errorf("IsRegistry(%v) = %t", l, got)
		}
	})
	names := strings.Fields("a a0 a1 aa ab b b0")
	for count := range len(names) + 1 {
		l := stonesNamed(names[:count]...)
		if got := impl.IsRegistry(l); got != (count <= 6) {
			t.Errorf("IsRegistry(%v) = %t", l, got)
		}
		for at := 1; at < count; at++ {
			swapped, twice := slices.Clone(l), slices.Clone(l)
			swapped[at-1], swapped[at] = l[at], l[at-1]
			twice[at] = l[at-1]
			if impl.IsRegistry(swapped) || impl.IsRegistry(twice) {
				t.Errorf("%v and %v: %t, %t", swapped, twice, impl.IsRegistry(swapped), impl.IsRegistry(twice))
			}
		}
	}
}

// notRegistries are lists with one entry that is not valid, lists that are not ascending, and lists that are too long.
func notRegistries(t *testing.T) [][]impl.Entry {
	t.Helper()
	l := [][]impl.Entry{}
	good := registryOf(t, "a: vault; 1.0; run 1.0\nb: robot; 1.0; keep of a 1.0\nc: lamp; 1.0")
	for i, e := range invalidEntries(t) {
		at := i % 3
		list := slices.Clone(good)
		list[at] = e
		l = append(l, list, []impl.Entry{e})
	}
	for _, order := range []string{"ba", "aa", "acb", "bac", "cba", "aab", "abb", "aba", "aaa"} {
		list := []impl.Entry{}
		for _, name := range strings.Split(order, "") {
			list = append(list, good[strings.Index("abc", name)])
		}
		l = append(l, list)
	}
	l = append(l, stonesNamed(strings.Fields("a b c d e f g")...))
	many := []string{}
	for i := range 1 << 10 {
		many = append(many, fmt.Sprintf("n%04d", i))
	}
	return append(l, stonesNamed(many...), slices.Repeat(good, 1<<10))
}

func TestListsThatAreNoRegistries(t *testing.T) {
	for _, l := range notRegistries(t) {
		if isValidRegistry(l) {
			t.Fatalf("%s is a registry", brief(l))
		}
		if impl.IsRegistry(l) {
			t.Errorf("%s is told to be a registry", brief(l))
		}
	}
}

// Each function that takes a registry has nothing to tell of a list that is none.
func TestWhatIsToldOfNoRegistry(t *testing.T) {
	for _, l := range notRegistries(t) {
		counts := []int{len(impl.LinksOf(l)), len(impl.MissingOf(l)), len(impl.StuckOf(l)), len(impl.StartOrder(l))}
		for _, name := range []string{"", "a", "b", "c", l[0].Name} {
			counts = append(counts, len(impl.ReachOf(l, name)), len(impl.NeedersOf(l, name)))
		}
		if slices.Max(counts) > 0 {
			t.Errorf("%s: %d", brief(l), counts)
		}
	}
}
