package tests

import (
	"slices"
	"strings"
	"testing"

	"loop.example/g03016/impl"
)

var spareLayer = impl.Layer{Name: "spare", Count: 77}

// roomyPart returns the part with marked cells and layers in the spare capacity of its lists.
func roomyPart(p impl.Part) impl.Part {
	p.Core.Cells = roomyCells(p.Core.Cells...)
	p.Layers = append(slices.Clone(p.Layers), spareLayer)[:len(p.Layers)]
	return p
}

func checkRoomyPart(t *testing.T, got, want impl.Part) {
	t.Helper()
	if !sameParts(got, want) {
		t.Errorf("the argument %+v has become %+v", want, got)
	}
	checkRoomyCells(t, got.Core.Cells, want.Core.Cells...)
	if spare := got.Layers[:len(got.Layers)+1][len(got.Layers)]; spare != spareLayer {
		t.Errorf("the spare capacity holds %v", spare)
	}
}

// spoilPart writes over all that a part reaches.
func spoilPart(p impl.Part) {
	spoil(p.Core.Cells)
	l := p.Layers[:cap(p.Layers)]
	for i := range l {
		l[i] = impl.Layer{Name: "spoiled", Count: -1}
	}
}

// usePart gives a part to each function of chapter 4 that takes one, and spoils the results.
func usePart(p impl.Part) {
	impl.FaceOf(p)
	impl.IsPart(p)
	impl.SamePart(p, p)
	recipe := impl.RecipeOf(p)
	recipe[0] = "spoiled"
	bare, _ := impl.Unwrap(p)
	spoilPart(bare)
	for _, name := range append(adapterNames(), "none") {
		q, _ := impl.Wrap(p, name)
		spoilPart(q)
	}
	for _, x := range append(fewCalls(), impl.Call{}) {
		q, _ := impl.CallPart(p, x)
		spoilPart(q)
		last, _ := impl.CallParts(p, []impl.Call{x, x})
		spoilPart(last)
	}
	none, _ := impl.CallParts(p, nil)
	spoilPart(none)
}

func TestPartsAreNotChanged(t *testing.T) {
	for _, kind := range []string{"shelf", "lamp", "robot"} {
		for _, shape := range shapesOf(kind, 2) {
			for _, p := range partsOf(shape) {
				roomy := roomyPart(p)
				usePart(roomy)
				checkRoomyPart(t, roomy, p)
			}
		}
	}
	for _, p := range invalidParts() {
		roomy := roomyPart(p)
		usePart(roomy)
		checkRoomyPart(t, roomy, p)
	}
}

func TestListsOfChapter4AreNotChanged(t *testing.T) {
	recipe := roomy("drawer", "lazy", "counts")
	first, _ := impl.MakePart(recipe)
	second, _ := impl.MakePart(recipe)
	impl.RecipeFace(recipe)
	spoilPart(first)
	checkRoomy(t, recipe, "drawer", "lazy", "counts")
	if !slices.Equal(impl.RecipeOf(second), []string{"drawer", "lazy", "counts"}) {
		t.Error(second)
	}
	calls := []impl.Call{{Method: "Put", Key: "a", Value: 1}, {Method: "Fly"}, {Method: "Tell"}}
	spare := impl.Call{Method: "Spare"}
	l := append(slices.Clone(calls), spare)[:len(calls)]
	third, replies := impl.CallParts(second, l)
	spoilPart(third)
	replies[0] = impl.Reply{Code: 9}
	if !slices.Equal(l, calls) || l[:len(l)+1][len(l)] != spare {
		t.Error(l[:len(l)+1])
	}
}

func TestTextsOfPartsAreNewMemory(t *testing.T) {
	kind, name, key := strings.Clone("robot"), strings.Clone("counts"), strings.Clone("key")
	results := []string{}
	use := func(p impl.Part) {
		results = append(results, p.Core.Kind)
		for _, cell := range p.Core.Cells {
			results = append(results, cell.Key)
		}
		for _, layer := range p.Layers {
			results = append(results, layer.Name)
		}
	}
	p := impl.Part{Core: impl.Core{Kind: kind, On: true, Cells: []impl.Cell{{Key: key, Value: 1}}}, Layers: layersOf(name)}
	results = append(results, impl.RecipeOf(p)...)
	fresh, _ := impl.NewPart(kind)
	use(fresh)
	madeOf, _ := impl.MakePart([]string{kind, name})
	use(madeOf)
	for _, adapter := range []string{name, "twice", "runs", "none"} {
		q, _ := impl.Wrap(p, adapter)
		use(q)
	}
	bare, _ := impl.Unwrap(p)
	use(bare)
	barest, _ := impl.Unwrap(impl.Part{Core: p.Core})
	use(barest)
	for _, x := range []impl.Call{{Method: "Put", Key: key, Value: 2}, {Method: "Start"}, {}} {
		q, _ := impl.CallPart(p, x)
		use(q)
		last, _ := impl.CallParts(p, []impl.Call{x, x})
		use(last)
	}
	for i, s := range results {
		if within(s, kind) || within(s, name) || within(s, key) {
			t.Errorf("result %d, %q, is a part of an argument", i, s)
		}
	}
}
