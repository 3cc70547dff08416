package tests

import (
	"slices"
	"strings"
	"testing"

	"loop.example/g03016/impl"
)

// checkEntryText holds what is read from a text against the model, and writes again what is an entry.
func checkEntryText(t *testing.T, s string) {
	t.Helper()
	want, wanted := entryOfText(s)
	e, ok := impl.ParseEntry(s)
	if ok != wanted || !sameEntries(e, want) {
		t.Errorf("ParseEntry(%.200q) = %s, %t, not %s, %t", s, brief(e), ok, brief(want), wanted)
	}
	if wanted && (impl.FormatEntry(want) != s || textOfEntry(want) != s) {
		t.Errorf("%s is written as %q", brief(want), impl.FormatEntry(want))
	}
}

func TestFixedEntriesAsTexts(t *testing.T) {
	one := impl.Version{Major: 1}
	for text, e := range map[string]impl.Entry{
		"a: vault counts; 1.2; keep of b 1.0, run 1.1": {Name: "a", Recipe: []string{"vault", "counts"}, Version: impl.Version{Major: 1, Minor: 2}, Needs: []impl.Need{{Face: 2, From: "b", Least: one}, {Face: 1, Least: impl.Version{Major: 1, Minor: 1}}}},
		"a: stone; 0.0":                 {Name: "a", Recipe: []string{"stone"}},
		"k2345678: lamp; 99.99":         {Name: "k2345678", Recipe: []string{"lamp"}, Version: impl.Version{Major: 99, Minor: 99}},
		"of: robot; 1.0; run of on 1.0": {Name: "of", Recipe: []string{"robot"}, Version: one, Needs: []impl.Need{{Face: 1, From: "on", Least: one}}},
		"a: robot; 1.0; run of of 1.0":  {Name: "a", Recipe: []string{"robot"}, Version: one, Needs: []impl.Need{{Face: 1, From: "of", Least: one}}},
		"a: drawer lazy counts twice; 10.0; run+keep+tell+hear+save+heal 0.0":                   {Name: "a", Recipe: []string{"drawer", "lazy", "counts", "twice"}, Version: impl.Version{Major: 10}, Needs: []impl.Need{{Face: 63}}},
		"a: stone; 1.0; run 1.0, run 1.0, run 1.0":                                              {Name: "a", Recipe: []string{"stone"}, Version: one, Needs: []impl.Need{{Face: 1, Least: one}, {Face: 1, Least: one}, {Face: 1, Least: one}}},
		"lamp: lamp; 1.0; heal of none 1.0, tell+hear of keep 2.10":                             {Name: "lamp", Recipe: []string{"lamp"}, Version: one, Needs: []impl.Need{{Face: 32, From: "none", Least: one}, {Face: 12, From: "keep", Least: impl.Version{Major: 2, Minor: 10}}}},
		"a: robot plain plain plain; 1.0; keep of b12 1.0, keep of b12345 1.0, keep of b1 90.9": {Name: "a", Recipe: []string{"robot", "plain", "plain", "plain"}, Version: one, Needs: []impl.Need{{Face: 2, From: "b12", Least: one}, {Face: 2, From: "b12345", Least: one}, {Face: 2, From: "b1", Least: impl.Version{Major: 90, Minor: 9}}}},
	} {
		if got := impl.FormatEntry(e); got != text {
			t.Errorf("FormatEntry(%v) = %q", e, got)
		}
		if got, ok := impl.ParseEntry(text); !ok || !sameEntries(got, e) {
			t.Errorf("ParseEntry(%q) = %v, %t", text, got, ok)
		}
		checkEntryText(t, text)
	}
}

func TestParseEntryRefusesWhatIsNearlyOne(t *testing.T) {
	for _, s := range []string{
		"", " ", "a", "a:", "a: ", "a: ;", "a: ; ", "a: ; 1.0", ": ; ", ": lamp; 1.0", "a: lamp", "a: lamp;", "a: lamp; ", "a; lamp; 1.0", "lamp; 1.0", "a: 1.0",
		" a: lamp; 1.0", "a : lamp; 1.0", "a:  lamp; 1.0", "a: lamp ; 1.0", "a: lamp;  1.0", "a: lamp; 1.0 ", "a: lamp; 1.0;", "a: lamp; 1.0; ", "a: lamp; 1.0;  ",
		"a:lamp; 1.0", "a: lamp;1.0", "a: lamp, 1.0", "a: lamp: 1.0", "a: lamp 1.0", "a: lamp; 1.0\n", "a: lamp; 1.0\x00", "a:\tlamp; 1.0", "a: lamp;\t1.0",
		"A: lamp; 1.0", "1: lamp; 1.0", "abcdefghi: lamp; 1.0", "a-b: lamp; 1.0", "a b: lamp; 1.0", "a: a: lamp; 1.0", "\xff: lamp; 1.0",
		"a: none; 1.0", "a: Lamp; 1.0", "a: lamp lamp; 1.0", "a: runs; 1.0", "a: runs lamp; 1.0", "a: lamp reads; 1.0", "a: stone twice; 1.0", "a: shelf lazy; 1.0",
		"a: robot runs runs runs runs; 1.0", "a: robot plain runs; 1.0", "a: robot  runs; 1.0", "a: robot, runs; 1.0", "a: robot+runs; 1.0", "a: robot runs ; 1.0",
		"a: lamp; 1", "a: lamp; 01.0", "a: lamp; 1.00", "a: lamp; 1.01", "a: lamp; 100.0", "a: lamp; 0.100", "a: lamp; -1.0", "a: lamp; 1.0.0", "a: lamp; +1.0", "a: lamp; v1.0",
		"a: lamp; 1.0; none 1.0", "a: lamp; 1.0; none of b 1.0", "a: lamp; 1.0; 2 1.0", "a: lamp; 1.0; fly 1.0", "a: lamp; 1.0; keep+run 1.0", "a: lamp; 1.0; run+run 1.0",
		"a: lamp; 1.0; run", "a: lamp; 1.0; run ", "a: lamp; 1.0; run of", "a: lamp; 1.0; run of ", "a: lamp; 1.0; run of b", "a: lamp; 1.0; run of b ", "a: lamp; 1.0; 1.0",
		"a: lamp; 1.0; run of 1.0", "a: lamp; 1.0; run of  1.0", "a: lamp; 1.0; run b 1.0", "a: lamp; 1.0; run from b 1.0", "a: lamp; 1.0; of b 1.0", "a: lamp; 1.0; run  1.0",
		"a: lamp; 1.0; run of b  1.0", "a: lamp; 1.0; run of  b 1.0", "a: lamp; 1.0; run  of b 1.0", "a: lamp; 1.0; run of b 1.0 ", "a: lamp; 1.0;  run of b 1.0",
		"a: lamp; 1.0; run of b of c 1.0", "a: lamp; 1.0; run of b 1.0 1.0", "a: lamp; 1.0; run of a 1.0", "a: lamp; 1.0; run 1.0, run of a 1.0", "a: lamp; 1.0; run of A 1.0",
		"a: lamp; 1.0; run of b 01.0", "a: lamp; 1.0; run of b 1.00", "a: lamp; 1.0; run 1", "a: lamp; 1.0; run 100.0", "a: lamp; 1.0; run of abcdefghi 1.0",
		"a: lamp; 1.0; run 1.0,", "a: lamp; 1.0; run 1.0, ", "a: lamp; 1.0; , run 1.0", "a: lamp; 1.0; run 1.0,run 1.0", "a: lamp; 1.0; run 1.0,  run 1.0", "a: lamp; 1.0; run 1.0, , run 1.0",
		"a: lamp; 1.0; run 1.0; run 1.0", "a: lamp; 1.0; run 1.0 run 1.0", "a: lamp; 1.0; run 1.0; ", "a: lamp; 1.0, run 1.0", "a: lamp; run 1.0; 1.0", "a: lamp; run 1.0",
		"a: lamp; 1.0; run 1.0, run 1.0, run 1.0, run 1.0", "a: lamp; 1.0; run 1.0, run 1.0, run 1.0, ", "a: lamp; 1.0; run 1.0, run 1.0, run 1.0, x", "a: lamp; 1.0; run 1.0, run 1.0, run 1.0; ",
		"a: lamp; 1.0; lamp; 1.0", "a: lamp; 1.0\nb: lamp; 1.0", "none", "entry a: lamp; 1.0",
	} {
		if e, ok := impl.ParseEntry(s); ok || !sameEntries(e, impl.Entry{}) {
			t.Errorf("ParseEntry(%q) = %v, %t", s, e, ok)
		}
		checkEntryText(t, s)
	}
}

// Each text that is made of an entry's text by a change in one place is read as what it is then.
func TestParseEntryOfChangedTexts(t *testing.T) {
	for _, s := range []string{"a: vault counts; 1.2; keep of b 1.0, run 1.1", "k2: stone; 0.0", "a: lamp; 10.0; run 1.0, run 1.0, run of of 1.0", "of: shelf counts twice; 1.0; none 1.0"} {
		for at := range len(s) + 1 {
			for _, b := range []string{" ", "a", "0", "1", ":", ";", ",", "; ", ", ", ".", "+", "\x00", "\xff", "of ", " 1.0"} {
				checkEntryText(t, s[:at]+b+s[at:])
				if at < len(s) {
					checkEntryText(t, s[:at]+b+s[at+1:])
				}
			}
			for end := at; end <= len(s); end++ {
				checkEntryText(t, s[:at]+s[end:])
				checkEntryText(t, s[at:end])
			}
		}
	}
}

func TestParseEntryOfAllListsOfWords(t *testing.T) {
	check := func(start string) func(l []string) {
		return func(l []string) { checkEntryText(t, start+strings.Join(l, "")) }
	}
	listsOf([]string{"a", ": ", "; ", "robot", " ", "runs", "1.0", "b"}, 6, check(""))
	listsOf([]string{"; ", ", ", "run", " ", "1.0", "of", "b", "a"}, 5, check("a: lamp; 1.0"))
	listsOf([]string{"; ", ", ", "run 1.0", "keep of b 2.0", "keep of a 2.0", "none 1.0"}, 5, check("a: lamp; 1.0; run 1.0"))
}

// Each recipe, each version and each face is written and read.
func TestEachFieldOfEntriesAsTexts(t *testing.T) {
	for _, k := range kinds {
		listsOf(adapterNames(), 3, func(l []string) {
			checkEntryText(t, strings.Join(slices.Concat([]string{"m: " + k.name}, l), " ")+"; 1.0")
		})
	}
	for _, v := range allVersions() {
		checkEntryText(t, "m: lamp; "+textOfVersion(v)+"; run "+textOfVersion(v))
	}
	for face := range textsOfFaces {
		checkEntryText(t, "m: lamp; 1.0; "+face+" of b 1.0, "+face+" 1.0")
	}
}

func TestParseEntryOfVeryLongTexts(t *testing.T) {
	for _, part := range []string{"a", ": ", "; ", ", ", " ", "1.0", "run", "run 1.0, ", "run of b 1.0, ", ", run 1.0", "; run 1.0", " plain", "robot ", "of "} {
		long := strings.Repeat(part, 1<<17)
		for _, s := range []string{long, "a: " + long, "a: robot" + long, "a: robot; " + long, "a: robot; 1.0" + long, "a: robot; 1.0; " + long, "a: robot; 1.0; run 1.0" + long, "a: robot; 1.0; run of " + long} {
			if e, ok := impl.ParseEntry(s); ok || !sameEntries(e, impl.Entry{}) {
				t.Errorf("ParseEntry(%.60q) = %s, %t", s, brief(e), ok)
			}
		}
	}
}
