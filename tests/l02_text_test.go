package tests

import (
	"slices"
	"strings"
	"testing"

	"loop.example/g03016/impl"
)

// faceTexts gives the face of each text that is one.
func faceTexts() map[string]int {
	texts := map[string]int{}
	for f := range 64 {
		texts[setOf(f).text()] = f
	}
	return texts
}

func checkParseFace(t *testing.T, s string, texts map[string]int) {
	t.Helper()
	want, wanted := texts[s]
	if f, ok := impl.ParseFace(s); f != want || ok != wanted {
		t.Errorf("ParseFace(%.60q) = %d, %t, want %d, %t", s, f, ok, want, wanted)
	}
}

func TestFormatFace(t *testing.T) {
	for f := range 64 {
		if got := impl.FormatFace(f); got != setOf(f).text() {
			t.Errorf("FormatFace(%d) = %q", f, got)
		}
	}
	for f, want := range map[int]string{
		0:  "none",
		1:  "run",
		6:  "keep+tell",
		19: "run+keep+save",
		32: "heal",
		33: "run+heal",
		63: "run+keep+tell+hear+save+heal",
	} {
		if got := impl.FormatFace(f); got != want {
			t.Errorf("FormatFace(%d) = %q", f, got)
		}
	}
	for _, f := range notFaces {
		if got := impl.FormatFace(f); got != "" {
			t.Errorf("FormatFace(%d) = %q", f, got)
		}
	}
}

func TestParseFaceReadsEachFace(t *testing.T) {
	texts := faceTexts()
	if len(texts) != 64 {
		t.Fatal(len(texts))
	}
	for s, f := range texts {
		checkParseFace(t, s, texts)
		if impl.FormatFace(f) != s {
			t.Errorf("the face %q is written as %q", s, impl.FormatFace(f))
		}
	}
}

func TestParseFaceRefusesWhatIsNearlyOne(t *testing.T) {
	for _, s := range []string{
		"", " ", "+", "++", "-", "0", "1", "33", "63", "64", "all",
		"none+run", "run+none", "none+none", "nonenone", "none ", " none", "none+", "+none", "None", "NONE", "non", "none\n",
		"tell+keep", "heal+run", "run+tell+keep", "heal+save+hear+tell+keep+run",
		"run+run", "keep+keep", "run+run+keep", "run+keep+keep", "run+keep+run",
		"+run", "run+", "run++keep", "+run+keep", "run+keep+", "++run", "run++",
		"fly", "run+fly", "fly+run", "runs", "Run", "RUN", "run+Keep", "ru", "un", "run+kee",
		"runkeep", "run keep", "run,keep", "run, keep", "run + keep", "run +keep", "run+ keep", "run|keep", "run-keep",
		" run", "run ", "run\n", "run\x00", "\x00run", "run+keep\n", "\xff", "run+\xff", "r\u00fcn", "\uff52un",
		"Start", "Start+Stop", "Get", "lamp", "stone", "plain",
		strings.Repeat("run", 1<<16), strings.Repeat("run+", 1<<16) + "keep", strings.Repeat("+", 1<<18), "none" + strings.Repeat(" ", 1<<18),
	} {
		if f, ok := impl.ParseFace(s); ok || f != 0 {
			t.Errorf("ParseFace(%.60q) = %d, %t", s, f, ok)
		}
	}
}

// listsOf gives all lists of up to size of the words to use.
func listsOf(words []string, size int, use func(l []string)) {
	var extend func(l []string)
	extend = func(l []string) {
		use(l)
		if len(l) < size {
			for _, word := range words {
				extend(append(slices.Clone(l), word))
			}
		}
	}
	extend([]string{})
}

func TestParseFaceOfAllListsOfWords(t *testing.T) {
	texts := faceTexts()
	check := func(l []string) { checkParseFace(t, strings.Join(l, "+"), texts) }
	names := []string{}
	for _, a := range abilities {
		names = append(names, a.name)
	}
	listsOf(names, 5, check)
	listsOf(append(names, "none", "", "fly"), 4, check)
	for k := range names {
		check(append(slices.Clone(names), names[k]))
		check(append([]string{names[k]}, names...))
		check(slices.Concat(names[k:], names[:k]))
		check(slices.Insert(slices.Clone(names), k, ""))
	}
}

// Each text that is made of a face's text by a change in one place is read as what it is then.
func TestParseFaceOfChangedTexts(t *testing.T) {
	texts := faceTexts()
	for s := range texts {
		for at := range len(s) + 1 {
			for _, b := range []string{"+", " ", "n", "r", "R", "\x00", "\xff"} {
				checkParseFace(t, s[:at]+b+s[at:], texts)
				if at < len(s) {
					checkParseFace(t, s[:at]+b+s[at+1:], texts)
				}
			}
			if at < len(s) {
				checkParseFace(t, s[:at]+s[at+1:], texts)
			}
			checkParseFace(t, s[:at], texts)
			checkParseFace(t, s[at:], texts)
		}
	}
}
