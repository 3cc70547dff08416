package tests

import (
	"slices"
	"strings"
	"testing"

	"loop.example/g03016/impl"
)

func needOf(t *testing.T, text string) impl.Need {
	t.Helper()
	n, ok := needOfText(text)
	if !ok || !isValidNeed(n) {
		t.Fatalf("%q is no text of a need", text)
	}
	return n
}

func checkServes(t *testing.T, e impl.Entry, n impl.Need) {
	t.Helper()
	want := servesNeed(e, n)
	if got := impl.Serves(e, n); got != want {
		t.Errorf("Serves(%s, %s) = %t", brief(e), brief(n), got)
	}
}

func TestServesEachFaceOfEachRecipe(t *testing.T) {
	for _, k := range kinds {
		for _, shape := range shapesOf(k.name, 2) {
			recipe := []string{k.name}
			for _, layer := range shape.Layers {
				recipe = append(recipe, layer.Name)
			}
			e := impl.Entry{Name: "b", Recipe: recipe, Version: impl.Version{Major: 1}}
			for f := range 65 {
				n := impl.Need{Face: f, Least: impl.Version{Major: 1}}
				want := f >= 1 && f <= 63 && setOf(faceOfPart(shape)).offers(setOf(f))
				if got := impl.Serves(e, n); got != want {
					t.Errorf("Serves(%v, %v) = %t", e, n, got)
				}
			}
		}
	}
}

func TestServesByVersion(t *testing.T) {
	versions := versionsOf(t, "0.0 0.1 0.99 1.0 1.1 1.2 1.9 1.10 2.0 2.1 10.0 98.99 99.0 99.98 99.99")
	for _, have := range versions {
		for _, least := range versions {
			checkServes(t, impl.Entry{Name: "b", Recipe: []string{"shelf"}, Version: have}, impl.Need{Face: 2, Least: least})
		}
	}
	for _, v := range notVersions() {
		checkServes(t, impl.Entry{Name: "b", Recipe: []string{"shelf"}, Version: v}, impl.Need{Face: 2, Least: v})
		checkServes(t, impl.Entry{Name: "b", Recipe: []string{"shelf"}, Version: versions[3]}, impl.Need{Face: 2, Least: v})
		checkServes(t, impl.Entry{Name: "b", Recipe: []string{"shelf"}, Version: v}, impl.Need{Face: 2, Least: versions[3]})
	}
}

func TestServesByName(t *testing.T) {
	e := entryOf(t, "b: robot runs; 1.2; keep 1.0")
	for text, want := range map[string]bool{
		"run 1.0": true, "run 1.2": true, "run of b 1.0": true, "run of b 1.2": true,
		"run of a 1.0": false, "run of bb 1.0": false, "run of c 1.0": false, "run of robot 1.0": false,
		"run 1.3": false, "run of b 1.3": false, "run 0.0": false, "run of b 0.9": false, "run of b 2.0": false, "run 2.1": false,
		"keep 1.0": false, "run+keep of b 1.0": false, "heal of b 1.2": false,
	} {
		if got := impl.Serves(e, needOf(t, text)); got != want {
			t.Errorf("%q is served: %t", text, got)
		}
	}
}

// An entry serves by what it is; what it needs itself must be valid, and is of no more account.
func TestServesOnlyWhatIsValid(t *testing.T) {
	good := entryOf(t, "b: vault counts; 1.2; keep of a 1.0")
	for _, n := range append(invalidNeeds(), impl.Need{Face: 2, From: "b", Least: good.Version}) {
		checkServes(t, good, n)
	}
	for _, e := range invalidEntries(t) {
		for _, from := range []string{"", "m", e.Name} {
			n := impl.Need{Face: 2, From: from, Least: e.Version}
			if impl.Serves(e, n) {
				t.Errorf("%s serves %s", brief(e), brief(n))
			}
		}
	}
}

func providerAmong(l []impl.Entry, name string, n impl.Need) string {
	for _, e := range l {
		if e.Name != name && servesNeed(e, n) {
			return e.Name
		}
	}
	return ""
}

func checkProvider(t *testing.T, l []impl.Entry, name string, n impl.Need) {
	t.Helper()
	want := providerAmong(l, name, n)
	if got := impl.ProviderOf(l, name, n); got != want {
		t.Errorf("ProviderOf(%s, %.40q, %s) = %q, not %q", brief(l), name, brief(n), got, want)
	}
}

// The lists are of all orders, have names twice, and hold entries that are not valid: they need not be registries.
func TestProvidersInAllShortLists(t *testing.T) {
	stock := entriesOf(t, "a: shelf; 1.0\na: vault counts; 1.2; keep of b 1.0\nb: shelf; 1.2\nb: lamp; 1.2\nc: robot; 2.0")
	stock = append(stock, impl.Entry{Name: "c", Recipe: []string{"shelf", "runs"}, Version: impl.Version{Major: 1}}, impl.Entry{}, stonesNamed("A")[0])
	words := []string{}
	for i := range stock {
		words = append(words, string([]byte{'0' + byte(i)}))
	}
	needs := []impl.Need{{}}
	for _, text := range []string{"keep 1.0", "keep 1.1", "tell 1.0", "run 1.0", "keep of b 1.0", "keep of a 1.1", "keep of c 2.0", "heal of a 1.0", "keep 0.0"} {
		needs = append(needs, needOf(t, text))
	}
	listsOf(words, 3, func(picks []string) {
		l := []impl.Entry{}
		for _, pick := range picks {
			l = append(l, stock[pick[0]-'0'])
		}
		for _, n := range needs {
			for _, name := range []string{"", "a", "b", "c", "d"} {
				checkProvider(t, l, name, n)
			}
		}
	})
}

func TestProviderIsTheFirstOfSeveral(t *testing.T) {
	l := registryOf(t, `
		a: lamp; 1.2
		b: shelf; 1.1
		c: shelf counts; 1.2
		d: vault; 1.2
		e: robot; 1.3
		f: shelf; 2.0`)
	for _, c := range []struct{ name, need, want string }{
		{"a", "keep 1.0", "b"},
		{"b", "keep 1.0", "c"},
		{"c", "keep 1.0", "b"},
		{"f", "keep 1.0", "b"},
		{"z", "keep 1.0", "b"},
		{"", "keep 1.0", "b"},
		{"a", "keep 1.2", "c"},
		{"c", "keep 1.2", "d"},
		{"a", "keep 1.3", "e"},
		{"e", "keep 1.3", ""},
		{"a", "keep 1.4", ""},
		{"a", "keep 2.0", "f"},
		{"f", "keep 2.0", ""},
		{"a", "keep 0.0", ""},
		{"a", "keep 3.0", ""},
		{"a", "keep+tell 1.0", "c"},
		{"c", "keep+tell 1.0", "e"},
		{"b", "run 1.0", "a"},
		{"a", "run 1.0", "d"},
		{"a", "run+keep 1.0", "d"},
		{"d", "run+keep 1.0", "e"},
		{"a", "keep of e 1.0", "e"},
		{"a", "keep of d 1.2", "d"},
		{"a", "keep of d 1.3", ""},
		{"a", "keep of f 1.0", ""},
		{"a", "keep of b 2.0", ""},
		{"b", "keep of a 1.0", ""},
		{"a", "keep of g 1.0", ""},
		{"a", "tell of d 1.0", ""},
		{"b", "keep of b 1.0", ""},
	} {
		if got := impl.ProviderOf(l, c.name, needOf(t, c.need)); got != c.want {
			t.Errorf("the provider of %q for %q is %q", c.need, c.name, got)
		}
	}
}

func TestProvidersOfNeedsThatAreNotValid(t *testing.T) {
	l := registryOf(t, "a: robot; 1.0\nb: robot; 1.0")
	for _, n := range invalidNeeds() {
		for _, name := range []string{"", "a", "b"} {
			checkProvider(t, l, name, n)
		}
	}
	for _, list := range notRegistries(t)[:200] {
		checkProvider(t, list, "a", impl.Need{Face: 2, Least: impl.Version{Major: 1}})
	}
	checkProvider(t, nil, "a", impl.Need{Face: 2})
	long := append(stonesNamed(slices.Repeat([]string{"a"}, 1<<12)...), entryOf(t, "b: shelf; 0.0"))
	checkProvider(t, long, "a", impl.Need{Face: 2})
}

// checkLinks holds the links, each as From, To and Face, against a text.
func checkLinks(t *testing.T, l []impl.Entry, want string) {
	t.Helper()
	texts := []string{}
	for _, link := range impl.LinksOf(l) {
		texts = append(texts, link.From+" "+setOf(link.Face).text()+" "+link.To)
	}
	if got := strings.Join(texts, ", "); got != want {
		t.Errorf("the links of %s are %q, not %q", brief(l), got, want)
	}
}

func checkMissing(t *testing.T, l []impl.Entry, want string) {
	t.Helper()
	if got := strings.Join(impl.MissingOf(l), " "); got != want {
		t.Errorf("what misses a provider of %s is %q, not %q", brief(l), got, want)
	}
}

func TestFixedLinks(t *testing.T) {
	for _, c := range []struct{ registry, links, missing string }{
		{"", "", ""},
		{"a: robot; 1.0", "", ""},
		// It serves itself, but the provider is another entry.
		{"a: robot; 1.0; run 1.0", "", "a"},
		{"a: robot; 1.0; run 1.0\nb: lamp; 1.0", "a run b", ""},
		{"a: robot; 1.0; heal 1.0\nb: robot; 1.0; heal 1.0", "a heal b, b heal a", ""},
		// The same link as often as it is needed, in the order of the needs.
		{"a: stone; 1.0; tell of c 1.0, keep 1.0, tell of c 1.0\nb: shelf; 1.0\nc: robot; 1.0", "a tell c, a keep b, a tell c", ""},
		{"a: stone; 1.0; run 1.0, heal 1.0, keep 1.0\nb: drawer; 1.0", "a run b, a keep b", "a"},
		{"a: stone; 1.0; heal 1.0, run 1.0\nb: stone; 1.0; run 2.0, run 1.5, run 0.9\nc: lamp; 1.4", "a run c", "a b"},
		{"a: stone; 1.0; run of c 1.0, run of b 1.0\nb: stone; 1.0; run of c 1.0\nc: lamp; 1.0; keep of a 1.0", "a run c, b run c", "a c"},
		{"a: shelf; 1.0; keep of c 1.0\nb: shelf; 1.0; keep of a 1.0\nc: shelf; 1.0; keep of b 1.0", "a keep c, b keep a, c keep b", ""},
		{"b: meter; 1.0; run+keep of d 1.0\nd: vault; 1.9; run+tell 1.0", "b run+keep d, d run+tell b", ""},
	} {
		l := registryOf(t, c.registry)
		checkLinks(t, l, c.links)
		checkMissing(t, l, c.missing)
	}
	checkLinks(t, nil, "")
	checkMissing(t, nil, "")
}
