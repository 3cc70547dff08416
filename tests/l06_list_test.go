package tests

import (
	"slices"
	"strings"
	"testing"

	"loop.example/g03016/impl"
)

func checkFind(t *testing.T, l []impl.Entry, name string, want int) {
	t.Helper()
	if got := impl.FindEntry(l, name); got != want {
		t.Errorf("FindEntry(%s, %.40q) = %d, not %d", brief(l), name, got, want)
	}
}

// Lists of any order, in which names come twice, are searched from the front.
func TestFindEntryInAllLists(t *testing.T) {
	names := []string{"", "a", "b", "A b"}
	listsOf(names, 4, func(l []string) {
		for _, name := range append(names, "c", "aa") {
			checkFind(t, stonesNamed(l...), name, slices.Index(l, name))
		}
	})
	checkFind(t, nil, "", -1)
	checkFind(t, nil, "a", -1)
	checkFind(t, []impl.Entry{{}}, "", 0)
	checkFind(t, append(stonesNamed(slices.Repeat([]string{"a"}, 1<<16)...), stonesNamed("b", "b")...), "b", 1<<16)
}

func TestFindEntryInRegistries(t *testing.T) {
	names := strings.Fields("a b c d e f")
	l := stonesNamed(names...)
	for i, name := range names {
		checkFind(t, l, name, i)
		checkFind(t, l[:i], name, -1)
	}
	for _, name := range append([]string{"", "g", "aa"}, notNames...) {
		checkFind(t, l, name, -1)
	}
}

func checkAdd(t *testing.T, l []impl.Entry, e impl.Entry, want []impl.Entry, wanted bool) {
	t.Helper()
	if got, ok := impl.AddEntry(l, e); ok != wanted || !sameRegistries(got, want) {
		t.Errorf("AddEntry(%s, %s)\nis  %s, %t\nnot %s, %t", brief(l), brief(e), brief(got), ok, brief(want), wanted)
	}
}

func checkRemove(t *testing.T, l []impl.Entry, name string, want []impl.Entry, wanted bool) {
	t.Helper()
	if got, ok := impl.RemoveEntry(l, name); ok != wanted || !sameRegistries(got, want) {
		t.Errorf("RemoveEntry(%s, %.40q)\nis  %s, %t\nnot %s, %t", brief(l), name, brief(got), ok, brief(want), wanted)
	}
}

// sixEntries differ in all fields, so that none is taken for another.
func sixEntries(t *testing.T) []impl.Entry {
	t.Helper()
	return registryOf(t, `
		a: vault counts; 1.2; keep of b 1.0, run 1.1
		a0: stone; 0.0
		aa: lamp; 1.0; run 1.0
		b: robot; 2.1; heal of c 0.0, tell 1.0, tell 1.0
		m: drawer lazy counts twice; 99.99
		zzzzzzzz: shelf reads; 1.1; keep of a 1.0`)
}

// Each entry is added to the registry of some of the others, in its front, its middle or at its end.
func TestAddAndRemoveEntriesInEachPlace(t *testing.T) {
	all := sixEntries(t)
	for picks := range 1 << len(all) {
		l := []impl.Entry{}
		for i, e := range all {
			if picks>>i%2 == 1 {
				l = append(l, e)
			}
		}
		for _, e := range all {
			at := slices.IndexFunc(l, func(other impl.Entry) bool { return other.Name == e.Name })
			if at >= 0 {
				checkAdd(t, l, e, l, false)
				checkRemove(t, l, e.Name, slices.Delete(slices.Clone(l), at, at+1), true)
				continue
			}
			more := append(slices.Clone(l), e)
			slices.SortFunc(more, func(a, b impl.Entry) int { return strings.Compare(a.Name, b.Name) })
			checkAdd(t, l, e, more, true)
			checkRemove(t, l, e.Name, l, false)
			checkRemove(t, more, e.Name, l, true)
		}
	}
}

func TestAddEntryToNothing(t *testing.T) {
	e := entryOf(t, "m: vault; 1.0; keep of b 1.0")
	checkAdd(t, nil, e, []impl.Entry{e}, true)
	checkAdd(t, []impl.Entry{}, e, []impl.Entry{e}, true)
	checkRemove(t, []impl.Entry{e}, "m", nil, true)
	checkRemove(t, nil, "m", nil, false)
	checkRemove(t, nil, "", nil, false)
}

// With MaxEntries there, no place is left, neither for a new name nor for one that is there.
func TestAddEntryToAFullRegistry(t *testing.T) {
	full := sixEntries(t)
	for _, name := range []string{"0", "a00", "ab", "b0", "z", "zzzzzzzy", "a", "zzzzzzzz", ""} {
		checkAdd(t, full, stonesNamed(name)[0], full, false)
	}
	checkAdd(t, full[:5], full[5], full, true)
	checkAdd(t, full[1:], full[0], full, true)
}

// An entry whose name is there is refused, also if it differs in all else.
func TestAddEntryOfANameThatIsThere(t *testing.T) {
	l := sixEntries(t)[:4]
	for _, e := range l {
		checkAdd(t, l, e, l, false)
		checkAdd(t, l, stonesNamed(e.Name)[0], l, false)
	}
}

func TestAddEntryThatIsNotValid(t *testing.T) {
	for _, l := range [][]impl.Entry{nil, sixEntries(t)[:1], sixEntries(t)[:5], sixEntries(t)} {
		for _, e := range invalidEntries(t) {
			checkAdd(t, l, e, l, false)
		}
	}
}

func TestListsThatAreNoRegistriesStayAsTheyAre(t *testing.T) {
	e := entryOf(t, "m: vault; 1.0; keep of b 1.0")
	for _, l := range notRegistries(t) {
		checkAdd(t, l, e, l, false)
		for _, name := range []string{"", "a", "b", "c", "m", l[0].Name} {
			checkRemove(t, l, name, l, false)
		}
	}
	for _, name := range append([]string{"", "ab", "n", "zzzzzzz"}, notNames...) {
		checkRemove(t, sixEntries(t), name, sixEntries(t), false)
	}
}
