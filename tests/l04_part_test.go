package tests

import (
	"slices"
	"testing"

	"loop.example/g03016/impl"
)

func layersOf(names ...string) []impl.Layer {
	layers := []impl.Layer{}
	for _, name := range names {
		layers = append(layers, impl.Layer{Name: name})
	}
	return layers
}

// invalidParts are parts of which one field is not valid.
func invalidParts() []impl.Part {
	parts := []impl.Part{{}, {Layers: layersOf("plain")}}
	for _, core := range invalidCores() {
		parts = append(parts, impl.Part{Core: core}, impl.Part{Core: core, Layers: layersOf("plain")})
	}
	robot := impl.Core{Kind: "robot", On: true, Count: 5, Cells: []impl.Cell{{Key: "a", Value: 1}}}
	for _, name := range notAdapters {
		parts = append(parts, impl.Part{Core: robot, Layers: layersOf(name)}, impl.Part{Core: robot, Layers: layersOf("lazy", name)})
		parts = append(parts, impl.Part{Core: robot, Layers: layersOf(name, "plain")})
	}
	for _, a := range adapters {
		counts := append([]int{}, notNumbers...)
		if !layerCounts(a.name) {
			counts = append(counts, 1, 2, 999)
		}
		for _, n := range counts {
			parts = append(parts, impl.Part{Core: robot, Layers: []impl.Layer{{Name: a.name, Count: n}}})
			parts = append(parts, impl.Part{Core: robot, Layers: []impl.Layer{{Name: a.name, Count: n}, {Name: "plain"}}})
			parts = append(parts, impl.Part{Core: robot, Layers: []impl.Layer{{Name: "lazy"}, {Name: a.name, Count: n}}})
		}
	}
	for _, l := range [][]string{
		{"plain", "runs"}, {"runs", "keeps"}, {"keeps", "runs"}, {"reads", "counts", "lazy"}, {"counts", "hears"}, {"hears", "lazy"}, {"twice", "keeps"},
		{"lazy", "twice"}, {"plain", "plain", "twice"}, {"counts", "twice", "reads"}, {"heals", "hears", "counts"}, {"keeps", "twice", "plain"},
		{"plain", "plain", "plain", "plain"}, {"runs", "runs", "runs", "runs"}, {"lazy", "lazy", "keeps", "counts"},
	} {
		parts = append(parts, impl.Part{Core: robot, Layers: layersOf(l...)})
	}
	return append(parts, impl.Part{Core: robot, Layers: layersOf(slices.Repeat([]string{"runs"}, 1<<12)...)})
}

func checkFaceAndIsPart(t *testing.T, p impl.Part) {
	t.Helper()
	if got := impl.FaceOf(p); got != faceOfPart(p) {
		t.Errorf("FaceOf(%+v) = %d", p, got)
	}
	if got := impl.IsPart(p); got != isValidPart(p) {
		t.Errorf("IsPart(%+v) = %t", p, got)
	}
}

func TestFaceAndValidityOfAllShapes(t *testing.T) {
	names := append(adapterNames(), "", "robot")
	kindNames := []string{"", "plain"}
	for _, k := range kinds {
		kindNames = append(kindNames, k.name)
	}
	for _, kind := range kindNames {
		listsOf(names, 3, func(l []string) {
			checkFaceAndIsPart(t, impl.Part{Core: impl.Core{Kind: kind}, Layers: layersOf(l...)})
		})
	}
	for _, k := range kinds {
		listsOf([]string{"plain", "runs", "keeps", "lazy"}, 5, func(l []string) {
			checkFaceAndIsPart(t, impl.Part{Core: impl.Core{Kind: k.name}, Layers: layersOf(l...)})
		})
	}
}

func TestValidParts(t *testing.T) {
	for _, k := range kinds {
		for _, shape := range shapesOf(k.name, 3) {
			for _, p := range partsOf(shape) {
				if !impl.IsPart(p) {
					t.Errorf("IsPart(%+v) = false", p)
				}
			}
		}
	}
}

func TestCountsOfLayers(t *testing.T) {
	for _, a := range adapters {
		for _, n := range []int{0, 1, 500, 998, 999} {
			p := impl.Part{Core: impl.Core{Kind: "robot"}, Layers: []impl.Layer{{Name: a.name, Count: n}}}
			want := n == 0 || a.name == "counts" || a.name == "hears"
			if got := impl.IsPart(p); got != want {
				t.Errorf("IsPart(%+v) = %t", p, got)
			}
		}
	}
}

func TestInvalidParts(t *testing.T) {
	for _, p := range invalidParts() {
		if isValidPart(p) {
			t.Fatalf("%+v", p)
		}
		checkFaceAndIsPart(t, p)
	}
}

func TestFaceOfPartsThatAreNotValid(t *testing.T) {
	broken := impl.Core{Kind: "vault", On: true, Broken: true, Count: -1}
	for _, c := range []struct {
		p    impl.Part
		want int
	}{
		{impl.Part{}, 0},
		{impl.Part{Core: impl.Core{Kind: "lamps"}}, 0},
		{impl.Part{Core: broken}, 19},
		{impl.Part{Core: broken, Layers: []impl.Layer{}}, 19},
		{impl.Part{Core: impl.Core{Kind: "stone"}, Layers: layersOf("counts")}, 6},
		{impl.Part{Layers: layersOf("hears")}, 9},
		{impl.Part{Core: broken, Layers: layersOf("none")}, 0},
		{impl.Part{Core: broken, Layers: layersOf("runs", "lamp")}, 0},
		{impl.Part{Core: broken, Layers: layersOf("lamp", "heals")}, 33},
		{impl.Part{Core: broken, Layers: []impl.Layer{{Name: "lazy", Count: -7}}}, 3},
		{impl.Part{Core: broken, Layers: layersOf("runs", "keeps", "reads", "plain", "lazy", "twice")}, 4},
	} {
		if got := impl.FaceOf(c.p); got != c.want {
			t.Errorf("FaceOf(%+v) = %d", c.p, got)
		}
	}
}

func TestNewPart(t *testing.T) {
	for _, k := range kinds {
		p, ok := impl.NewPart(k.name)
		if !ok || !sameParts(p, impl.Part{Core: impl.Core{Kind: k.name}}) || !impl.IsPart(p) || impl.FaceOf(p) != k.face {
			t.Errorf("NewPart(%q) = %+v, %t", k.name, p, ok)
		}
	}
	for _, s := range append(append([]string{}, notKinds...), adapterNames()...) {
		if p, ok := impl.NewPart(s); ok || !sameParts(p, impl.Part{}) {
			t.Errorf("NewPart(%.40q) = %+v, %t", s, p, ok)
		}
	}
}

func TestSamePart(t *testing.T) {
	robot := impl.Core{Kind: "robot"}
	different := []impl.Part{
		{},
		{Core: robot},
		{Core: impl.Core{Kind: "vault"}},
		{Core: impl.Core{Kind: "robot", On: true}},
		{Core: impl.Core{Kind: "robot", Broken: true}},
		{Core: impl.Core{Kind: "robot", Count: 1}},
		{Core: impl.Core{Kind: "robot", Cells: []impl.Cell{{Key: "a", Value: 1}}}},
		{Core: impl.Core{Kind: "robot", Cells: []impl.Cell{{Key: "a", Value: 2}}}},
		{Layers: layersOf("runs")},
		{Core: robot, Layers: layersOf("runs")},
		{Core: robot, Layers: layersOf("keeps")},
		{Core: robot, Layers: layersOf("")},
		{Core: robot, Layers: []impl.Layer{{Name: "runs", Count: 1}}},
		{Core: robot, Layers: []impl.Layer{{Name: "runs", Count: -1}}},
		{Core: robot, Layers: layersOf("runs", "runs")},
		{Core: robot, Layers: layersOf("runs", "hears")},
		{Core: robot, Layers: layersOf("hears", "runs")},
		{Core: robot, Layers: []impl.Layer{{Name: "hears", Count: 1}, {Name: "runs"}}},
		{Core: robot, Layers: []impl.Layer{{Name: "hears"}, {Name: "runs", Count: 1}}},
		{Core: robot, Layers: layersOf("plain", "plain", "plain", "plain")},
		{Core: impl.Core{Kind: "robot", On: true}, Layers: layersOf("runs")},
	}
	for i, a := range different {
		for j, b := range different {
			b.Layers, b.Core.Cells = slices.Clone(b.Layers), slices.Clone(b.Core.Cells)
			if got := impl.SamePart(a, b); got != (i == j) {
				t.Errorf("SamePart(%+v, %+v) = %t", a, b, got)
			}
		}
	}
	if !impl.SamePart(impl.Part{Core: robot}, impl.Part{Core: robot, Layers: []impl.Layer{}}) {
		t.Error("a nil list of layers and an empty one are told apart")
	}
}
