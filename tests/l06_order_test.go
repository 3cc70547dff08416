package tests

import (
	"math/rand"
	"slices"
	"strings"
	"testing"

	"loop.example/g03016/impl"
)

// checkWiring holds all that is told of the wiring of a registry against the model.
func checkWiring(t *testing.T, l []impl.Entry) {
	t.Helper()
	w := wiringOf(l)
	checkNames(t, l, "MissingOf", impl.MissingOf(l), w.namesIn(w.missing))
	checkNames(t, l, "StuckOf", impl.StuckOf(l), w.namesIn(w.stuck()))
	checkNames(t, l, "StartOrder", impl.StartOrder(l), w.order())
	if links := impl.LinksOf(l); !slices.Equal(links, w.links) {
		t.Errorf("LinksOf(%s) = %v, not %v", brief(l), links, w.links)
	}
	for i, name := range w.names {
		checkNames(t, l, "ReachOf "+name, impl.ReachOf(l, name), w.reachOf(i))
		checkNames(t, l, "NeedersOf "+name, impl.NeedersOf(l, name), w.needersOf(i))
	}
	checkPromise6(t, l)
}

func checkNames(t *testing.T, l []impl.Entry, what string, got, want []string) {
	t.Helper()
	if !slices.Equal(got, want) {
		t.Errorf("%s of %s is %q, not %q", what, brief(l), got, want)
	}
}

// checkPromise6 needs no model: what is told must fit together as the promise says.
func checkPromise6(t *testing.T, l []impl.Entry) {
	t.Helper()
	order, stuck := impl.StartOrder(l), impl.StuckOf(l)
	both := slices.Sorted(slices.Values(slices.Concat(order, stuck)))
	if names := slices.Compact(slices.Clone(both)); len(names) != len(l) || len(both) != len(l) {
		t.Errorf("%s: started are %q, stuck are %q", brief(l), order, stuck)
	}
	for i, name := range order {
		for _, reached := range impl.ReachOf(l, name) {
			if !slices.Contains(order[:i], reached) {
				t.Errorf("%s: %q is started before %q", brief(l), name, reached)
			}
		}
	}
}

// shelvesWith returns a registry of shelves named a, b and so on. A text for each gives its needs by letters: the name of the provider, or `!` for none.
func shelvesWith(needs []string) []impl.Entry {
	l := []impl.Entry{}
	for i, letters := range needs {
		e := impl.Entry{Name: string([]byte{'a' + byte(i)}), Recipe: []string{"shelf"}, Version: impl.Version{Major: 1}}
		for _, letter := range strings.Split(letters, "") {
			n := impl.Need{Face: 2, From: letter, Least: impl.Version{Major: 1}}
			if letter == "!" {
				n = impl.Need{Face: 32}
			}
			e.Needs = append(e.Needs, n)
		}
		l = append(l, e)
	}
	return l
}

// needsAmong lists all sets of up to three of these letters.
func needsAmong(letters string) []string {
	l := []string{}
	for picks := range 1 << len(letters) {
		set := ""
		for i := range len(letters) {
			if picks>>i%2 == 1 {
				set += letters[i : i+1]
			}
		}
		if len(set) <= 3 {
			l = append(l, set)
		}
	}
	return l
}

// eachRegistry gives each registry of shelves to use of which each entry has one of the choices for its place.
func eachRegistry(choices [][]string, use func(needs []string)) {
	var extend func(needs []string)
	extend = func(needs []string) {
		if len(needs) == len(choices) {
			use(needs)
			return
		}
		for _, choice := range choices[len(needs)] {
			extend(append(slices.Clone(needs), choice))
		}
	}
	extend([]string{})
}

func TestAllWiringsOfUpToThree(t *testing.T) {
	for _, choices := range [][][]string{
		{},
		{needsAmong("!")},
		{needsAmong("b!"), needsAmong("a!")},
		{needsAmong("bc!"), needsAmong("ac!"), needsAmong("ab!")},
	} {
		eachRegistry(choices, func(needs []string) { checkWiring(t, shelvesWith(needs)) })
	}
}

func TestAllWiringsOfFour(t *testing.T) {
	choices := [][]string{needsAmong("bcd"), needsAmong("acd"), needsAmong("abd"), needsAmong("abc")}
	eachRegistry(choices, func(needs []string) { checkWiring(t, shelvesWith(needs)) })
}

// Each entry of six needs up to three others, and some miss a provider.
func TestManyWiringsOfSix(t *testing.T) {
	source := rand.New(rand.NewSource(6))
	letters := "abcdef"
	for range 4000 {
		needs := []string{}
		for i := range letters {
			choices := needsAmong(letters[:i] + letters[i+1:])
			size := source.Intn(4)
			choices = slices.DeleteFunc(choices, func(set string) bool { return len(set) != size })
			set := choices[source.Intn(len(choices))]
			if len(set) < 3 && source.Intn(8) == 0 {
				set += "!"
			}
			needs = append(needs, set)
		}
		checkWiring(t, shelvesWith(needs))
	}
}

// Recipes, versions and needs are drawn so that some are served by several entries, some by none, some by the entry alone.
func TestManyRegistriesOfAllSorts(t *testing.T) {
	source := rand.New(rand.NewSource(66))
	pick := func(text string) string {
		words := strings.Split(text, "|")
		return words[source.Intn(len(words))]
	}
	for range 4000 {
		lines := []string{}
		for _, name := range strings.Split("a a1 b c d1 zz", " ")[:source.Intn(7)] {
			line := name + ": " + pick("stone|lamp|shelf|meter|drawer lazy|horn|vault counts|robot|robot hears|shelf counts twice|lamp heals") + "; " + pick("1.0|1.1|1.2|2.0")
			needs := []string{}
			for range source.Intn(4) {
				from := pick("||||of a |of b |of zz |of q ")
				if from == "of "+name+" " {
					from = ""
				}
				needs = append(needs, pick("run|run|keep|keep|tell|hear|heal|run+keep|keep+tell")+" "+from+pick("1.0|1.0|1.0|1.1|2.0"))
			}
			if len(needs) > 0 {
				line += "; " + strings.Join(needs, ", ")
			}
			lines = append(lines, line)
		}
		l := registryOf(t, strings.Join(lines, "\n"))
		checkWiring(t, l)
		for _, e := range l {
			checkEntryText(t, textOfEntry(e))
		}
	}
}

func TestFixedWirings(t *testing.T) {
	for _, c := range []struct{ needs, order, stuck string }{
		{"", "a", ""},
		{"!", "", "a"},
		{",,,,,", "a b c d e f", ""},
		// Chains in the order of the names, and against it.
		{"b,c,d,e,f,", "f e d c b a", ""},
		{",a,b,c,d,e", "a b c d e f", ""},
		{"b,c,d,e,f,!", "", "a b c d e f"},
		{"!,a,b,c,d,e", "", "a b c d e f"},
		{",a,!,c,,d", "a b e", "c d f"},
		// The first that is ready comes next, also if another one has been ready for longer.
		{"d,,,b", "b c d a", ""},
		{"c,,,a", "b c a d", ""},
		{"c,a,,,a", "c a b d e", ""},
		{"f,,a,,b,", "b d e f a c", ""},
		{"def,d,,,d,", "c d b e f a", ""},
		// Entries that share a provider, and one that needs many.
		{"f,f,f,f,f,", "f a b c d e", ""},
		{"bcd,e,e,e,,a", "e b c d a f", ""},
		{"bb,cc,", "c b a", ""},
		// Circles, and what reaches them without being in them, and what is reached from them.
		{"b,a", "", "a b"},
		{"b,c,a", "", "a b c"},
		{"c,a,b", "", "a b c"},
		{"b,a,", "c", "a b"},
		{"b,a,a,c,,e", "e f", "a b c d"},
		{"b,ac,,c", "c d", "a b"},
		{"b,c,af,,d,", "d e f", "a b c"},
		{"b,a,d,c,bd,", "f", "a b c d e"},
		{"b,c,d,e,f,a", "", "a b c d e f"},
		{"b,c,d,e,f,b", "", "a b c d e f"},
		{"bcf,acf,abf,,,", "d e f", "a b c"},
		// Stuck because of what is reached, not of what is needed.
		{"b,c,d,!,,", "e f", "a b c d"},
		{",,,!a,d,e", "a b c", "d e f"},
	} {
		needs := strings.Split(c.needs, ",")
		l := shelvesWith(needs)
		checkNames(t, l, "StartOrder", impl.StartOrder(l), strings.Fields(c.order))
		checkNames(t, l, "StuckOf", impl.StuckOf(l), strings.Fields(c.stuck))
		checkWiring(t, l)
	}
}

func TestReachAndNeeders(t *testing.T) {
	for _, c := range []struct{ needs, name, reach, needers string }{
		{"", "a", "", ""},
		{"!", "a", "", ""},
		{"b,c,", "a", "b c", ""},
		{"b,c,", "b", "c", "a"},
		{"b,c,", "c", "", "a b"},
		{"b,a", "a", "a b", "a b"},
		{"b,a", "b", "a b", "a b"},
		{"b,c,a,a", "a", "a b c", "a b c d"},
		{"b,c,a,a", "d", "a b c", ""},
		{"b,ac,", "c", "", "a b"},
		{"b,ac,", "a", "a b c", "a b"},
		{"cb,d,d,,", "a", "b c d", ""},
		{"cb,d,d,,", "d", "", "a b c"},
		{"cb,d,d,,", "e", "", ""},
		{"f!,,,,,ed", "a", "d e f", ""},
		{"f!,,,,,ed", "d", "", "a f"},
	} {
		l := shelvesWith(strings.Split(c.needs, ","))
		checkNames(t, l, "ReachOf "+c.name, impl.ReachOf(l, c.name), strings.Fields(c.reach))
		checkNames(t, l, "NeedersOf "+c.name, impl.NeedersOf(l, c.name), strings.Fields(c.needers))
	}
}

// A name that is not there reaches nothing and is reached by none, also if a need asks for it.
func TestReachAndNeedersOfNamesThatAreNotThere(t *testing.T) {
	for _, needs := range []string{"", "b,a", "f,f,f", "b,c,a,!f"} {
		l := shelvesWith(strings.Split(needs, ","))
		for _, name := range append([]string{"", "f", "aa", "!"}, notNames...) {
			checkNames(t, l, "ReachOf", impl.ReachOf(l, name), nil)
			checkNames(t, l, "NeedersOf", impl.NeedersOf(l, name), nil)
		}
	}
	checkNames(t, nil, "ReachOf", impl.ReachOf(nil, ""), nil)
	checkNames(t, nil, "NeedersOf", impl.NeedersOf(nil, ""), nil)
}

// The answers to one question do not depend on the order in which a map is gone through.
func TestWiringsAreToldTheSameEachTime(t *testing.T) {
	l := shelvesWith(strings.Split("fed,acf,ab,,d,de", ","))
	links, order, stuck := impl.LinksOf(l), impl.StartOrder(l), impl.StuckOf(l)
	for range 200 {
		checkNames(t, l, "StartOrder", impl.StartOrder(l), order)
		checkNames(t, l, "StuckOf", impl.StuckOf(l), stuck)
		if again := impl.LinksOf(l); !slices.Equal(again, links) {
			t.Fatalf("the links are %v, and %v", links, again)
		}
	}
}
