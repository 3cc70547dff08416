package tests

import (
	"testing"

	"loop.example/g03016/impl"
)

func TestNeedsAndGivesOfAdapters(t *testing.T) {
	for _, a := range adapters {
		if face, ok := impl.LayerNeeds(a.name); face != a.needs || !ok {
			t.Errorf("LayerNeeds(%q) = %d, %t", a.name, face, ok)
		}
		if face, ok := impl.LayerGives(a.name); face != a.gives || !ok {
			t.Errorf("LayerGives(%q) = %d, %t", a.name, face, ok)
		}
	}
	if impl.MaxLayers != 3 {
		t.Error(impl.MaxLayers)
	}
}

func TestNeedsAndGivesAsTheTableWritesThem(t *testing.T) {
	for name, want := range map[string]string{
		"plain":  "none > none",
		"runs":   "run > run",
		"keeps":  "keep > keep",
		"counts": "keep > keep+tell",
		"lazy":   "run+keep > run+keep",
		"reads":  "keep > keep",
		"hears":  "run > run+hear",
		"heals":  "run > run+heal",
		"twice":  "tell > tell",
	} {
		needs, _ := impl.LayerNeeds(name)
		gives, _ := impl.LayerGives(name)
		if got := impl.FormatFace(needs) + " > " + impl.FormatFace(gives); got != want {
			t.Errorf("%s: %s", name, got)
		}
	}
}

func checkNoAdapter(t *testing.T, s string) {
	t.Helper()
	needs, needed := impl.LayerNeeds(s)
	gives, given := impl.LayerGives(s)
	if needs != 0 || needed || gives != 0 || given {
		t.Errorf("%.40q: %d, %t, %d, %t", s, needs, needed, gives, given)
	}
}

func TestTextsThatAreNoAdapters(t *testing.T) {
	for _, s := range notAdapters {
		checkNoAdapter(t, s)
	}
	for _, k := range kinds {
		checkNoAdapter(t, k.name)
	}
	for _, a := range adapters {
		for at := range a.name {
			checkNoAdapter(t, a.name[:at])
			checkNoAdapter(t, a.name[:at]+"x"+a.name[at:])
			checkNoAdapter(t, a.name[:at]+a.name[at+1:])
			checkNoAdapter(t, a.name[:at]+string(a.name[at]-32)+a.name[at+1:])
		}
	}
}
