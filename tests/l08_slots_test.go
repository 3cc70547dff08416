package tests

import (
	"slices"
	"strings"
	"testing"

	"loop.example/g03016/impl"
)

func checkIsSlots(t *testing.T, l []impl.Slot, want bool) {
	t.Helper()
	if got := impl.IsSlots(l); got != want || isValidSlots(l) != want {
		t.Errorf("IsSlots(%s) = %t, not %t", brief(l), got, want)
	}
}

// changedSlots returns a copy of slots after a change in one of them.
func changedSlots(l []impl.Slot, at int, change func(s *impl.Slot)) []impl.Slot {
	l = cloneSlots(l)
	change(&l[at])
	return l
}

// invalidSlots are wrong in one slot each, or in their number.
func invalidSlots(t *testing.T) [][]impl.Slot {
	t.Helper()
	full := slotsOf(t, "drawer counts|robot|lamp")
	l := [][]impl.Slot{nil, {}, make([]impl.Slot, 1), make([]impl.Slot, 2), make([]impl.Slot, 4), full[:1], full[:2], slices.Concat(full, full[:1]), slices.Concat(full, full)}
	for _, base := range [][]impl.Slot{full, make([]impl.Slot, 3)} {
		for at := range base {
			for _, change := range []func(s *impl.Slot){
				func(s *impl.Slot) { *s = impl.Slot{Full: true} },
				func(s *impl.Slot) { *s = impl.Slot{Part: full[at].Part} },
				func(s *impl.Slot) { *s = impl.Slot{Part: impl.Part{Core: impl.Core{Kind: "stone"}}} },
				func(s *impl.Slot) { *s = impl.Slot{Part: impl.Part{Core: impl.Core{Kind: "none"}}} },
				func(s *impl.Slot) { *s = impl.Slot{Part: impl.Part{Core: impl.Core{On: true}}} },
				func(s *impl.Slot) { *s = impl.Slot{Part: impl.Part{Core: impl.Core{Broken: true}}} },
				func(s *impl.Slot) { *s = impl.Slot{Part: impl.Part{Core: impl.Core{Count: 1}}} },
				func(s *impl.Slot) { *s = impl.Slot{Part: impl.Part{Core: impl.Core{Count: -1}}} },
				func(s *impl.Slot) { *s = impl.Slot{Part: impl.Part{Core: impl.Core{Cells: []impl.Cell{{}}}}} },
				func(s *impl.Slot) { *s = impl.Slot{Part: impl.Part{Layers: []impl.Layer{{}}}} },
				func(s *impl.Slot) { *s = impl.Slot{Part: impl.Part{Layers: layersOf("plain")}} },
				func(s *impl.Slot) {
					*s = impl.Slot{Full: true, Part: impl.Part{Core: impl.Core{Kind: "lamp", Count: 1000}}}
				},
			} {
				l = append(l, changedSlots(base, at, change))
			}
		}
	}
	for i, p := range invalidParts() {
		// A long part makes no other test, only a slow one.
		if len(p.Layers) < 5 && len(p.Core.Kind) < 20 && i%9 == 0 {
			l = append(l, changedSlots(full, i%3, func(s *impl.Slot) { s.Part = p }))
		}
	}
	return l
}

func TestSlotsThatAreNotValid(t *testing.T) {
	for _, l := range invalidSlots(t) {
		checkIsSlots(t, l, false)
	}
	full := slotsOf(t, "drawer counts|robot|lamp")
	for i, p := range invalidParts() {
		checkIsSlots(t, changedSlots(full, i%3, func(s *impl.Slot) { s.Part = p }), false)
		checkIsSlots(t, changedSlots(full, i%3, func(s *impl.Slot) { *s = impl.Slot{Part: p} }), sameParts(p, impl.Part{}))
	}
}

func TestValidSlots(t *testing.T) {
	empty := impl.Part{Core: impl.Core{Cells: []impl.Cell{}}, Layers: []impl.Layer{}}
	checkIsSlots(t, make([]impl.Slot, 3), true)
	checkIsSlots(t, []impl.Slot{{Part: empty}, {}, {Part: empty}}, true)
	for _, kind := range kinds {
		for _, shape := range shapesOf(kind.name, 2) {
			for i, p := range partsOf(shape) {
				slots := make([]impl.Slot, 3)
				slots[i%3] = impl.Slot{Full: true, Part: p}
				checkIsSlots(t, slots, true)
				checkIsSlots(t, append(slots, impl.Slot{}), false)
			}
		}
	}
	for _, shape := range shapesOf("robot", 3) {
		checkIsSlots(t, slices.Repeat([]impl.Slot{{Full: true, Part: shape}}, 3), true)
	}
}

func TestEmptySlots(t *testing.T) {
	l := impl.EmptySlots()
	if !sameSlots(l, []impl.Slot{{}, {}, {}}) || !impl.IsSlots(l) || shapeOfSlots(l) != "||" {
		t.Error(l)
	}
}

// checkFill holds what FillSlots returns against the model.
func checkFill(t *testing.T, recipes [][]string) {
	t.Helper()
	want, wanted := []impl.Slot{}, len(recipes) == 3
	for _, recipe := range recipes {
		s := impl.Slot{}
		if len(recipe) > 0 {
			p, r := made(recipe)
			s, wanted = impl.Slot{Full: true, Part: p}, wanted && r.Code == 0
		}
		want = append(want, s)
	}
	if !wanted {
		want = nil
	}
	got, ok := impl.FillSlots(recipes)
	if ok != wanted || !sameSlots(got, want) || ok && !impl.IsSlots(got) {
		t.Errorf("FillSlots(%.200q) = %s, %t", recipes, brief(got), ok)
	}
	if !ok {
		return
	}
	shapes := []string{}
	for _, recipe := range recipes {
		shapes = append(shapes, strings.Join(recipe, " "))
	}
	if !slices.Equal(impl.ShapesOf(got), shapes) {
		t.Errorf("the shapes of %q are %q", recipes, impl.ShapesOf(got))
	}
}

func TestFillSlots(t *testing.T) {
	recipes := [][]string{nil, {}, {"lamp"}, {"drawer", "lazy", "counts"}, {"robot", "plain", "plain", "plain"}, {"stone"}}
	wrong := [][]string{{""}, {"none"}, {"counts"}, {"lamp", "keeps"}, {"lamp", ""}, {"robot", "plain", "plain", "plain", "plain"}, {"lamp runs"}, {"", "lamp"}}
	all := append(slices.Clone(recipes), wrong...)
	for _, a := range all {
		for _, b := range all {
			for _, c := range all {
				checkFill(t, [][]string{a, b, c})
			}
			checkFill(t, [][]string{a, b})
			checkFill(t, [][]string{a, b, b, a})
			checkFill(t, [][]string{a, nil, nil, b})
			checkFill(t, [][]string{a, nil, nil, b, nil, nil})
		}
		checkFill(t, [][]string{a})
	}
	checkFill(t, nil)
	checkFill(t, [][]string{})
	checkFill(t, slices.Repeat(recipes, 1<<12))
	for _, recipe := range invalidRecipes() {
		if len(recipe) > 0 {
			checkFill(t, [][]string{recipe, nil, nil})
			checkFill(t, [][]string{nil, {"lamp"}, recipe})
		}
	}
}

func TestFillSlotsOfFixedRecipes(t *testing.T) {
	l, ok := impl.FillSlots([][]string{{"vault", "lazy", "counts"}, {}, {"stone"}})
	if !ok || textOfSlots(l) != "vault lazy counts: off - 0 [0 0]||stone: off - 0 []" {
		t.Error(textOfSlots(l), ok)
	}
	for _, recipes := range [][][]string{{}, {{"lamp"}, {"lamp"}}, {{"lamp"}, {"lamp"}, {"lamp"}, {"lamp"}}, {{"lamp"}, {"lamp", "keeps"}, {}}, {{}, {}, {"lamps"}}, {{}, {}}, {{}, {}, {}, {}}} {
		if l, ok := impl.FillSlots(recipes); ok || len(l) > 0 {
			t.Errorf("FillSlots(%q) = %v, %t", recipes, l, ok)
		}
	}
}

func TestShapesOfSlots(t *testing.T) {
	used := slotsOf(t, "robot lazy counts||drawer")
	used[0].Part.Core.On, used[0].Part.Core.Cells, used[0].Part.Layers[1].Count = true, []impl.Cell{{Key: "a", Value: 1}}, 7
	for _, c := range []struct {
		slots []impl.Slot
		want  []string
	}{
		{nil, nil},
		{make([]impl.Slot, 1), []string{""}},
		{make([]impl.Slot, 4), []string{"", "", "", ""}},
		{used, []string{"robot lazy counts", "", "drawer"}},
		{slices.Concat(used, used), []string{"robot lazy counts", "", "drawer", "robot lazy counts", "", "drawer"}},
		// Slots that are not valid.
		{[]impl.Slot{{Full: true}, {Part: used[0].Part}}, []string{"", ""}},
		{[]impl.Slot{{Full: true, Part: impl.Part{Core: impl.Core{Kind: "none"}, Layers: layersOf("", "x y")}}}, []string{"none  x y"}},
		{[]impl.Slot{{Full: true, Part: impl.Part{Layers: layersOf("plain")}}}, []string{" plain"}},
	} {
		if got := impl.ShapesOf(c.slots); !slices.Equal(got, c.want) {
			t.Errorf("ShapesOf(%s) = %q", brief(c.slots), got)
		}
	}
	for _, l := range append(invalidSlots(t), slotsOfAllSorts(t)...) {
		want := []string{}
		for _, s := range l {
			want = append(want, shapeOfSlot(s))
		}
		if got := impl.ShapesOf(l); !slices.Equal(got, want) {
			t.Errorf("ShapesOf(%s) = %.200q", brief(l), got)
		}
	}
}

func TestSameSlots(t *testing.T) {
	base := slotsOf(t, "robot lazy counts||drawer")
	base[0].Part.Core.Cells = []impl.Cell{{Key: "a", Value: 1}}
	if !impl.SameSlots(base, cloneSlots(base)) || !impl.SameSlots(nil, []impl.Slot{}) {
		t.Error("slots are told to differ from their copy")
	}
	if !impl.SameSlots([]impl.Slot{{}}, []impl.Slot{{Part: impl.Part{Core: impl.Core{Cells: []impl.Cell{}}, Layers: []impl.Layer{}}}}) {
		t.Error("nil and an empty list are told apart")
	}
	lists := [][]impl.Slot{nil, base, base[:2], base[1:], append(cloneSlots(base), impl.Slot{}), make([]impl.Slot, 3), make([]impl.Slot, 2), {base[2], base[1], base[0]}}
	for _, change := range []func(s *impl.Slot){
		func(s *impl.Slot) { s.Full = false }, func(s *impl.Slot) { s.Part.Core.Kind = "vault" }, func(s *impl.Slot) { s.Part.Core.On = true }, func(s *impl.Slot) { s.Part.Core.Broken = true },
		func(s *impl.Slot) { s.Part.Core.Count++ }, func(s *impl.Slot) { s.Part.Core.Cells[0].Value++ }, func(s *impl.Slot) { s.Part.Core.Cells[0].Key = "b" }, func(s *impl.Slot) { s.Part.Core.Cells = nil },
		func(s *impl.Slot) { s.Part.Layers = s.Part.Layers[:1] }, func(s *impl.Slot) { s.Part.Layers[0].Name = "keeps" }, func(s *impl.Slot) { s.Part.Layers[1].Count++ }, func(s *impl.Slot) { s.Part.Layers = nil },
	} {
		lists = append(lists, changedSlots(base, 0, change))
	}
	lists = append(lists, changedSlots(base, 1, func(s *impl.Slot) { s.Full = true }), changedSlots(base, 1, func(s *impl.Slot) { s.Part.Core.Count = -1 }), changedSlots(base, 2, func(s *impl.Slot) { s.Part.Core.Count = 1 }))
	for i, a := range lists {
		for k, b := range lists {
			if got := impl.SameSlots(a, b); got != (i == k) || sameSlots(a, b) != got {
				t.Errorf("SameSlots(%s, %s) = %t", brief(a), brief(b), got)
			}
		}
	}
}
