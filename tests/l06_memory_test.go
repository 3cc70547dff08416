package tests

import (
	"slices"
	"strings"
	"testing"

	"loop.example/g03016/impl"
)

var spareNeed = impl.Need{Face: 77, From: "spare"}

// roomyEntry returns the entry with marked texts and needs in the spare capacity of its lists.
func roomyEntry(e impl.Entry) impl.Entry {
	e.Recipe = roomy(e.Recipe...)
	e.Needs = append(slices.Clone(e.Needs), spareNeed)[:len(e.Needs)]
	return e
}

func roomyEntries(l []impl.Entry) []impl.Entry {
	entries := []impl.Entry{}
	for _, e := range l {
		entries = append(entries, roomyEntry(e))
	}
	return append(entries, impl.Entry{Name: "spare"})[:len(l)]
}

func checkRoomyEntry(t *testing.T, got, want impl.Entry) {
	t.Helper()
	if !sameEntries(got, want) {
		t.Errorf("the argument %s has become %s", brief(want), brief(got))
	}
	checkRoomy(t, got.Recipe, want.Recipe...)
	if spare := got.Needs[:len(got.Needs)+1][len(got.Needs)]; spare != spareNeed {
		t.Errorf("the spare capacity holds %v", spare)
	}
}

func checkRoomyEntries(t *testing.T, got, want []impl.Entry) {
	t.Helper()
	for i := range want {
		checkRoomyEntry(t, got[i], want[i])
	}
	if spare := got[:len(got)+1][len(got)]; spare.Name != "spare" || len(got) != len(want) {
		t.Errorf("the spare capacity holds %v", spare)
	}
}

// spoilEntries writes over all that a list of entries reaches.
func spoilEntries(l []impl.Entry) {
	l = l[:cap(l)]
	for i, e := range l {
		spoilTexts(e.Recipe)
		needs := e.Needs[:cap(e.Needs)]
		for k := range needs {
			needs[k] = impl.Need{Face: -1, From: "spoiled"}
		}
		l[i] = impl.Entry{Name: "spoiled"}
	}
}

func spoilTexts(l []string) {
	l = l[:cap(l)]
	for i := range l {
		l[i] = "spoiled"
	}
}

// useRegistry gives a list and an entry to each function of chapter 6, and spoils the results.
func useRegistry(l []impl.Entry, e impl.Entry, name string) {
	impl.IsRegistry(l)
	impl.IsEntry(e)
	impl.FormatEntry(e)
	impl.FindEntry(l, name)
	for _, n := range e.Needs {
		impl.Serves(e, n)
		impl.ProviderOf(l, name, n)
	}
	more, _ := impl.AddEntry(l, e)
	spoilEntries(more)
	less, _ := impl.RemoveEntry(l, name)
	spoilEntries(less)
	links := impl.LinksOf(l)
	for i := range links {
		links[i] = impl.Link{From: "spoiled"}
	}
	for _, names := range [][]string{impl.MissingOf(l), impl.ReachOf(l, name), impl.NeedersOf(l, name), impl.StuckOf(l), impl.StartOrder(l)} {
		spoilTexts(names)
	}
}

func TestRegistriesAreNotChanged(t *testing.T) {
	all := sixEntries(t)
	lists := append(notRegistries(t)[:100], all, all[:5], all[1:4], all[:1], []impl.Entry{}, []impl.Entry{all[1], all[0]}, shelvesWith([]string{"b", "ac", "!", "c"}))
	entries := append(invalidEntries(t)[:5], all...)
	for _, l := range lists {
		for _, e := range entries {
			list, entry := roomyEntries(l), roomyEntry(e)
			useRegistry(list, entry, e.Name)
			checkRoomyEntries(t, list, l)
			checkRoomyEntry(t, entry, e)
		}
	}
}

func TestResultsOfChapter6AreNewEachTime(t *testing.T) {
	l, e := sixEntries(t)[:4], sixEntries(t)[4]
	first, _ := impl.AddEntry(l, e)
	second, _ := impl.AddEntry(l, e)
	spoilEntries(first)
	if !sameRegistries(second, sixEntries(t)[:5]) {
		t.Error(brief(second))
	}
	text := textOfEntry(l[0])
	one, _ := impl.ParseEntry(text)
	two, _ := impl.ParseEntry(text)
	spoilEntries([]impl.Entry{one})
	if !sameEntries(two, l[0]) {
		t.Error(brief(two))
	}
	order, again := impl.StartOrder(l), impl.StartOrder(l)
	spoilTexts(order)
	checkNames(t, l, "StartOrder", again, wiringOf(l).order())
}

// What is written over in one entry, its spare capacity included, is not seen in another one, also if both came in with the same lists.
func TestEntriesOfOneResultAreApart(t *testing.T) {
	l := registryOf(t, "a: vault counts; 1.0; keep of z 1.0\nb: vault counts; 1.0; keep of z 1.0\nc: vault counts; 1.0; keep of z 1.0")
	l[1].Recipe, l[1].Needs = l[0].Recipe, l[0].Needs
	added, _ := impl.AddEntry(l[:2], l[2])
	removed, _ := impl.RemoveEntry(l, "c")
	same, _ := impl.AddEntry(l, l[0])
	for _, result := range [][]impl.Entry{added, removed, same} {
		for i := range result {
			spoilEntries(result[i : i+1 : i+1])
			for k := i + 1; k < len(result); k++ {
				if !sameEntries(result[k], l[k]) {
					t.Errorf("the entry %d is %s", k, brief(result[k]))
				}
			}
		}
	}
}

func textsOfEntries(l []impl.Entry) []string {
	texts := []string{}
	for _, e := range l {
		texts = append(append(texts, e.Name), e.Recipe...)
		for _, n := range e.Needs {
			texts = append(texts, n.From)
		}
	}
	return texts
}

func TestTextsOfRegistriesAreNewMemory(t *testing.T) {
	text := strings.Clone("a: shelf counts; 1.0; keep of b 1.0\nb: vault; 1.0\nc: lamp; 1.0; keep of a 1.0\nd: horn; 1.0; heal 1.0\ne: shelf; 1.0; keep of b 1.0")
	l := []impl.Entry{}
	for _, line := range strings.Split(text, "\n") {
		read, _ := impl.ParseEntry(line)
		for _, s := range textsOfEntries([]impl.Entry{read}) {
			if within(s, text) {
				t.Errorf("%q is read as a part of its text", s)
			}
		}
		l = append(l, entryOf(t, line))
	}
	results := slices.Concat(impl.MissingOf(l), impl.StuckOf(l), impl.StartOrder(l), impl.ReachOf(l, "c"), impl.NeedersOf(l, "b"))
	results = append(results, impl.ProviderOf(l, "a", l[0].Needs[0]), impl.FormatEntry(l[0]))
	for _, link := range impl.LinksOf(l) {
		results = append(results, link.From, link.To)
	}
	for _, name := range []string{"c", "z"} {
		less, _ := impl.RemoveEntry(l, name)
		more, _ := impl.AddEntry(less, l[2])
		same, _ := impl.AddEntry(l, l[0])
		results = slices.Concat(results, textsOfEntries(less), textsOfEntries(more), textsOfEntries(same))
	}
	for _, s := range results {
		if within(s, text) || slices.ContainsFunc(textsOfEntries(l), func(other string) bool { return within(s, other) }) {
			t.Errorf("%q is a part of an argument", s)
		}
	}
}
