package tests

import (
	"math"
	"slices"
	"strings"
	"testing"

	"loop.example/g03016/impl"
)

var notNumbers = []int{-1, 1000, 1001, -999, 1 << 32, math.MinInt, math.MaxInt}

func TestKindFace(t *testing.T) {
	for _, k := range kinds {
		if face, ok := impl.KindFace(k.name); face != k.face || !ok {
			t.Errorf("KindFace(%q) = %d, %t", k.name, face, ok)
		}
		methods := strings.Fields(k.methods)
		slices.Sort(methods)
		if got := impl.MethodsOf(k.face); !slices.Equal(got, methods) {
			t.Errorf("a %s has the methods %q", k.name, got)
		}
	}
	for _, s := range notKinds {
		if face, ok := impl.KindFace(s); face != 0 || ok {
			t.Errorf("KindFace(%.40q) = %d, %t", s, face, ok)
		}
	}
}

func TestNewCore(t *testing.T) {
	for _, k := range kinds {
		p, ok := impl.NewCore(k.name)
		if !ok || !sameCores(p, impl.Core{Kind: k.name}) {
			t.Errorf("NewCore(%q) = %v, %t", k.name, p, ok)
		}
		if !impl.IsCore(p) {
			t.Errorf("a new %s is told to be no core", k.name)
		}
	}
	for _, s := range notKinds {
		if p, ok := impl.NewCore(s); ok || !sameCores(p, impl.Core{}) {
			t.Errorf("NewCore(%.40q) = %v, %t", s, p, ok)
		}
	}
}

func checkIsCore(t *testing.T, p impl.Core, want bool) {
	t.Helper()
	if got := impl.IsCore(p); got != want {
		t.Errorf("IsCore(%+v) = %t", p, got)
	}
}

func TestIsCoreOfValidCores(t *testing.T) {
	for _, k := range kinds {
		for _, p := range coresOf(k.name) {
			checkIsCore(t, p, true)
		}
	}
}

func TestIsCoreOfEachStateOfEachKind(t *testing.T) {
	for _, k := range kinds {
		runs, keeps := k.face%2 == 1, k.face/2%2 == 1
		cell := []impl.Cell{{Key: "a", Value: 1}}
		checkIsCore(t, impl.Core{Kind: k.name}, true)
		checkIsCore(t, impl.Core{Kind: k.name, Cells: []impl.Cell{}}, true)
		checkIsCore(t, impl.Core{Kind: k.name, On: true}, runs)
		checkIsCore(t, impl.Core{Kind: k.name, Broken: true}, runs)
		checkIsCore(t, impl.Core{Kind: k.name, On: true, Broken: true}, false)
		checkIsCore(t, impl.Core{Kind: k.name, Cells: cell}, keeps)
		checkIsCore(t, impl.Core{Kind: k.name, On: true, Cells: cell}, runs && keeps)
		checkIsCore(t, impl.Core{Kind: k.name, Count: 999}, true)
		for _, n := range notNumbers {
			checkIsCore(t, impl.Core{Kind: k.name, Count: n}, false)
		}
	}
}

// invalidCores are cores of which one field is not valid.
func invalidCores() []impl.Core {
	cores := []impl.Core{
		{},
		{Kind: "stone", On: true},
		{Kind: "stone", Broken: true},
		{Kind: "shelf", On: true},
		{Kind: "shelf", Broken: true},
		{Kind: "lamp", On: true, Broken: true},
		{Kind: "robot", On: true, Broken: true},
	}
	for _, s := range notKinds {
		cores = append(cores, impl.Core{Kind: s, Count: 3})
	}
	for _, kind := range []string{"stone", "lamp", "meter", "horn"} {
		cores = append(cores, impl.Core{Kind: kind, Cells: []impl.Cell{{Key: "a"}}})
	}
	for _, n := range notNumbers {
		cores = append(cores, impl.Core{Kind: "robot", On: true, Count: n})
	}
	for _, l := range notCells {
		cores = append(cores, impl.Core{Kind: "shelf", Cells: l}, impl.Core{Kind: "robot", On: true, Cells: l})
	}
	return cores
}

func TestIsCoreOfInvalidCores(t *testing.T) {
	for _, p := range invalidCores() {
		checkIsCore(t, p, false)
	}
}

func TestSameCore(t *testing.T) {
	cell := func(key string, value int) []impl.Cell { return []impl.Cell{{Key: key, Value: value}} }
	different := []impl.Core{
		{},
		{Kind: "stone"},
		{Kind: "robot"},
		{Kind: "robot", On: true},
		{Kind: "robot", Broken: true},
		{Kind: "robot", On: true, Broken: true},
		{Kind: "robot", Count: 1},
		{Kind: "robot", Count: -1},
		{Kind: "robot", Cells: cell("a", 1)},
		{Kind: "robot", Cells: cell("a", 2)},
		{Kind: "robot", Cells: cell("b", 1)},
		{Kind: "robot", Cells: append(cell("a", 1), cell("b", 1)...)},
		{Kind: "robot", Cells: append(cell("b", 1), cell("a", 1)...)},
		{Kind: "robot", Cells: append(cell("a", 1), cell("a", 1)...)},
		{Kind: "robot", On: true, Count: 1, Cells: cell("a", 1)},
	}
	for i, a := range different {
		for j, b := range different {
			b.Cells = slices.Clone(b.Cells)
			if got := impl.SameCore(a, b); got != (i == j) {
				t.Errorf("SameCore(%+v, %+v) = %t", a, b, got)
			}
		}
	}
	if !impl.SameCore(impl.Core{Kind: "lamp"}, impl.Core{Kind: "lamp", Cells: []impl.Cell{}}) {
		t.Error("a nil list of cells and an empty one are told apart")
	}
}
