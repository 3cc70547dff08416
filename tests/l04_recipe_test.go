package tests

import (
	"slices"
	"strings"
	"testing"

	"loop.example/g03016/impl"
)

func checkRecipe(t *testing.T, l []string) {
	t.Helper()
	want, wantReply := made(l)
	p, r := impl.MakePart(l)
	if !sameParts(p, want) || r != wantReply {
		t.Errorf("MakePart(%.200q)\nis  %+v, %+v\nnot %+v, %+v", l, p, r, want, wantReply)
	}
	ok := wantReply.Code == 0
	wantFace := 0
	if ok {
		wantFace = faceOfPart(want)
		if !impl.IsPart(p) || !slices.Equal(impl.RecipeOf(p), l) {
			t.Errorf("%q makes %+v", l, p)
		}
	}
	if face, made := impl.RecipeFace(l); face != wantFace || made != ok {
		t.Errorf("RecipeFace(%.200q) = %d, %t", l, face, made)
	}
}

func TestAllRecipesOfEachKind(t *testing.T) {
	for _, k := range kinds {
		listsOf(adapterNames(), 4, func(l []string) {
			checkRecipe(t, append([]string{k.name}, l...))
		})
	}
}

func TestRecipesWithWordsOfAllSorts(t *testing.T) {
	words := []string{"", "robot", "stone", "drawer", "plain", "lazy", "counts", "twice", "none"}
	listsOf(words, 5, func(l []string) { checkRecipe(t, l) })
	for _, s := range append(append([]string{}, notKinds...), notAdapters...) {
		checkRecipe(t, []string{s})
		checkRecipe(t, []string{s, "plain"})
		checkRecipe(t, []string{"robot", s})
		checkRecipe(t, []string{"robot", "runs", s})
		checkRecipe(t, []string{"robot", s, "runs"})
		checkRecipe(t, []string{"robot", "runs", "runs", "runs", s})
	}
	checkRecipe(t, nil)
	checkRecipe(t, []string{})
	checkRecipe(t, append([]string{"robot"}, slices.Repeat([]string{"runs"}, 1<<16)...))
}

func TestFixedRecipes(t *testing.T) {
	for recipe, want := range map[string]string{
		"":                              "bad",
		"plain":                         "bad",
		"runs lamp":                     "bad",
		"Lamp":                          "bad",
		"stone":                         "ok 0",
		"lamp":                          "ok 1",
		"robot":                         "ok 63",
		"robot plain":                   "ok 0",
		"lamp hears":                    "ok 9",
		"drawer lazy counts":            "ok 6",
		"drawer lazy counts twice":      "ok 4",
		"shelf counts twice plain":      "ok 0",
		"lamp reads":                    "assert keep of run",
		"shelf lazy":                    "assert run+keep of keep",
		"stone twice":                   "assert tell of none",
		"robot keeps lazy runs":         "assert run+keep of keep",
		"robot plain robot":             "bad",
		"robot plain runs lamp":         "assert run of none",
		"robot lamp runs keeps":         "bad",
		"robot runs runs runs runs":     "full",
		"robot runs runs runs keeps":    "full",
		"robot runs runs runs lamp":     "bad",
		"robot runs runs keeps runs":    "assert keep of run",
		"robot runs runs runs runs not": "full",
	} {
		l := strings.Fields(recipe)
		p, r := impl.MakePart(l)
		if got := impl.FormatReply(r); got != want {
			t.Errorf("%q: %s", recipe, got)
		}
		face, ok := impl.RecipeFace(l)
		if ok != (r.Code == impl.ReplyOK) || face != r.Value {
			t.Errorf("RecipeFace(%q) = %d, %t", recipe, face, ok)
		}
		if !ok && !sameParts(p, impl.Part{}) {
			t.Errorf("%q: %+v", recipe, p)
		}
	}
}

func TestRecipeOf(t *testing.T) {
	for _, c := range []struct {
		p    impl.Part
		want []string
	}{
		{impl.Part{}, []string{""}},
		{impl.Part{Core: impl.Core{Kind: "lamp"}}, []string{"lamp"}},
		{impl.Part{Core: impl.Core{Kind: "no kind", On: true, Broken: true}}, []string{"no kind"}},
		{impl.Part{Core: impl.Core{Kind: "drawer", On: true, Count: 7}, Layers: []impl.Layer{{Name: "lazy"}, {Name: "counts", Count: 9}}}, []string{"drawer", "lazy", "counts"}},
		{impl.Part{Layers: layersOf("b", "a", "b", "", "c")}, []string{"", "b", "a", "b", "", "c"}},
	} {
		if got := impl.RecipeOf(c.p); !slices.Equal(got, c.want) {
			t.Errorf("RecipeOf(%+v) = %q", c.p, got)
		}
	}
	for _, p := range invalidParts() {
		want := []string{p.Core.Kind}
		for _, layer := range p.Layers {
			want = append(want, layer.Name)
		}
		if got := impl.RecipeOf(p); !slices.Equal(got, want) {
			t.Errorf("RecipeOf(%+v) = %q", p, got)
		}
	}
}
