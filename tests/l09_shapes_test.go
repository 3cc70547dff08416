package tests

import (
	"math"
	"slices"
	"strings"
	"testing"

	"loop.example/g03016/impl"
)

// isValidShape goes by the parts that the model of chapter 4 makes; a blank too many leaves an empty text, which is no name.
func isValidShape(shape string) bool {
	if shape == "" {
		return true
	}
	_, ok := faceOfRecipe(strings.Split(shape, " "))
	return ok
}

func checkIsShapes(t *testing.T, l []string, want bool) {
	t.Helper()
	valid := len(l) == 3 && !slices.ContainsFunc(l, func(shape string) bool { return !isValidShape(shape) })
	if got := impl.IsShapes(l); got != want || valid != want {
		t.Errorf("IsShapes(%.200q) = %t, not %t", l, got, want)
	}
}

func TestShapes(t *testing.T) {
	checkIsShapes(t, make([]string, 3), true)
	for _, kind := range kinds {
		for i, shape := range shapesOf(kind.name, 3) {
			l := make([]string, 3)
			l[i%3] = strings.Join(recipeOfPart(shape), " ")
			checkIsShapes(t, l, true)
			checkIsShapes(t, []string{l[i%3], "lamp", l[i%3]}, true)
		}
	}
	checkIsShapes(t, []string{"robot lazy counts twice", "", "stone plain plain plain"}, true)
}

// notShapes are no shape of a part each.
func notShapes() []string {
	l := []string{
		" ", "  ", "lamp ", " lamp", "lamp  runs", "lamp runs ", " lamp runs", "lamp runs  hears", "lamp\truns", "lamp\nruns", "lamp\x00", "lamp,runs", "lamp|lamp", "lamp+runs", "-",
		"robot plain plain plain plain", "robot lazy lazy lazy lazy", "lamp runs runs runs runs runs", "robot plain runs", "0", "1", "2", "0 runs", "?0", "none",
		strings.Repeat("lamp ", 1<<14), "robot" + strings.Repeat(" runs", 1<<14), strings.Repeat(" ", 1<<14), strings.Repeat("lamp", 1<<14),
	}
	for _, recipe := range invalidRecipes() {
		if text := strings.Join(recipe, " "); text != "" {
			l = append(l, text)
		}
	}
	return l
}

// notShapesOfSlots are lists that are no shapes, wrong in one of them or in their number.
func notShapesOfSlots() [][]string {
	l := [][]string{nil, {}, {""}, {"lamp"}, {"lamp", "lamp"}, {"", ""}, {"lamp", "", "", ""}, {"", "", "", ""}, {"lamp", "lamp", "lamp", "lamp"}, make([]string, 1000)}
	for i, shape := range notShapes() {
		for at := range 3 {
			list := []string{"", "lamp", "drawer counts"}
			list[(i+at)%3] = shape
			l = append(l, list)
		}
	}
	return l
}

func TestTextsThatAreNoShapes(t *testing.T) {
	for _, l := range notShapesOfSlots() {
		checkIsShapes(t, l, false)
	}
}

func TestShapesOfAllShortTexts(t *testing.T) {
	words := append(adapterNames(), "", "lamp", "shelf", "meter", "robot", "none")
	listsOf(words, 3, func(l []string) {
		shape := strings.Join(l, " ")
		checkIsShapes(t, []string{shape, "", ""}, isValidShape(shape))
		checkIsShapes(t, []string{"lamp", "", shape}, isValidShape(shape))
	})
}

func TestShapesOfRunsAreShapes(t *testing.T) {
	for _, slots := range slotsOfAllSorts(t) {
		if shapes := impl.ShapesOf(slots); impl.IsSlots(slots) != impl.IsShapes(shapes) && impl.IsSlots(slots) {
			t.Errorf("%q are no shapes", shapes)
		}
	}
}

func TestCompareInputsOfFixedInputs(t *testing.T) {
	for _, c := range []struct {
		a, b string
		want int
	}{
		{"", "", 0},
		{"", "0", -1},
		{"0", "", 1},
		{"0", "0", 0},
		{"0", "1", -1},
		{"3", "0 0", -1},
		{"1 2", "1 2 0", -1},
		{"1 2", "1 2 -5", -1},
		{"1 2 0", "1 2", 1},
		{"0 0 0", "3 3", 1},
		{"1 3", "2 0", -1},
		{"1 3 0", "1 2 3", 1},
		{"2 2 2", "2 2 2", 0},
		{"2 2 1", "2 2 2", -1},
		{"-1", "0", -1},
		{"-1", "-2", 1},
		{"4", "3", 1},
		{"4", "0", 1},
		{"1", "5", -1},
		{"100 0", "99 1000", 1},
		{"9223372036854775807", "-9223372036854775808", 1},
		{"-9223372036854775808", "9223372036854775807", -1},
		{"-9223372036854775808 0", "1 0", -1},
	} {
		if got := impl.CompareInputs(numbersOf(t, c.a), numbersOf(t, c.b)); got != c.want {
			t.Errorf("CompareInputs of %q and %q = %d", c.a, c.b, got)
		}
	}
	for _, none := range [][]int{nil, {}} {
		if impl.CompareInputs(none, nil) != 0 || impl.CompareInputs(none, []int{}) != 0 || impl.CompareInputs(none, []int{0}) != -1 || impl.CompareInputs([]int{-1}, none) != 1 {
			t.Error("an empty input is not the least of all")
		}
	}
}

func TestCompareInputsOfAllShortInputs(t *testing.T) {
	numbers, all := []int{math.MinInt, -1, 0, 1, 3, 4, math.MaxInt}, [][]int{{}}
	for from := 0; len(all[from]) < 3; from++ {
		for _, n := range numbers {
			all = append(all, append(slices.Clone(all[from]), n))
		}
	}
	for i, a := range all {
		for k, b := range all {
			// The list is made in order.
			want := 0
			if i != k {
				want = map[bool]int{true: -1, false: 1}[i < k]
			}
			if got := impl.CompareInputs(a, b); got != want {
				t.Fatalf("CompareInputs(%v, %v) = %d", a, b, got)
			}
		}
	}
	long := make([]int, 1<<16)
	longer := make([]int, 1<<16+1)
	other := slices.Clone(long)
	other[1<<16-1] = 1
	if impl.CompareInputs(long, longer) != -1 || impl.CompareInputs(other, longer) != -1 || impl.CompareInputs(long, other) != -1 || impl.CompareInputs(other, long) != 1 || impl.CompareInputs(other, other) != 0 {
		t.Error("long inputs")
	}
}
