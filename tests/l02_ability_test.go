package tests

import (
	"strings"
	"testing"

	"loop.example/g03016/impl"
)

func TestAbilities(t *testing.T) {
	if impl.Abilities != 6 || impl.AllFace != 63 {
		t.Fatal(impl.Abilities, impl.AllFace)
	}
	for k, a := range abilities {
		if got := impl.AbilityName(k); got != a.name {
			t.Errorf("AbilityName(%d) = %q", k, got)
		}
		if got := impl.AbilityOf(a.name); got != k {
			t.Errorf("AbilityOf(%q) = %d", a.name, got)
		}
		for _, method := range a.methods {
			if got := impl.AbilityOfMethod(method); got != k {
				t.Errorf("AbilityOfMethod(%q) = %d", method, got)
			}
		}
	}
}

func TestAbilityNameOfNoAbility(t *testing.T) {
	for _, k := range append([]int{6, 7, 8, 32, 63}, notFaces...) {
		if got := impl.AbilityName(k); got != "" {
			t.Errorf("AbilityName(%d) = %q", k, got)
		}
	}
}

func TestTextsThatAreNoAbility(t *testing.T) {
	texts := []string{
		"", " ", "none", "all", "stone", "lamp", "plain", "runs", "keeps", "counts", "heals", "0", "1", "5", "-1",
		"run+keep", "Start Stop", "StartStop", "\xff", "\u00e4", strings.Repeat("run", 1<<18),
	}
	for _, a := range abilities {
		for _, word := range append([]string{a.name}, a.methods...) {
			texts = append(texts, strings.ToUpper(word), word+" ", " "+word, word+"s", word+"\x00", word+"\n", word+word, word[1:], word[:len(word)-1])
		}
		if got := impl.AbilityOfMethod(a.name); got != -1 {
			t.Errorf("AbilityOfMethod(%q) = %d", a.name, got)
		}
		for _, method := range a.methods {
			if got := impl.AbilityOf(method); got != -1 {
				t.Errorf("AbilityOf(%q) = %d", method, got)
			}
		}
	}
	for _, s := range texts {
		if got := impl.AbilityOf(s); got != -1 {
			t.Errorf("AbilityOf(%.40q) = %d", s, got)
		}
		if got := impl.AbilityOfMethod(s); got != -1 {
			t.Errorf("AbilityOfMethod(%.40q) = %d", s, got)
		}
	}
}
