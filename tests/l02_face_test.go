package tests

import (
	"slices"
	"testing"

	"loop.example/g03016/impl"
)

func TestIsFace(t *testing.T) {
	for f := range 64 {
		if !impl.IsFace(f) {
			t.Errorf("%d is told to be no face", f)
		}
	}
	for _, f := range notFaces {
		if impl.IsFace(f) {
			t.Errorf("%d is told to be a face", f)
		}
	}
}

func checkPair(t *testing.T, what string, a, b, got, want int) {
	t.Helper()
	if got != want {
		t.Errorf("%s(%d, %d) = %d, want %d", what, a, b, got, want)
	}
}

func TestAllPairsOfFaces(t *testing.T) {
	for a := range 64 {
		for b := range 64 {
			inA, inB := setOf(a), setOf(b)
			both := joined(inA, inB, func(x, y bool) bool { return x && y })
			either := joined(inA, inB, func(x, y bool) bool { return x || y })
			lacking := joined(inA, inB, func(x, y bool) bool { return y && !x })
			checkPair(t, "BothFaces", a, b, impl.BothFaces(a, b), both.number())
			checkPair(t, "EitherFace", a, b, impl.EitherFace(a, b), either.number())
			checkPair(t, "Lacking", a, b, impl.Lacking(a, b), lacking.number())
			if got := impl.Offers(a, b); got != inA.offers(inB) {
				t.Errorf("Offers(%d, %d) = %t", a, b, got)
			}
			if impl.Offers(a, b) != (impl.Lacking(a, b) == 0) {
				t.Errorf("%d offers %d: %t, but lacks %d of it", a, b, impl.Offers(a, b), impl.Lacking(a, b))
			}
		}
	}
}

func TestPairsWithNumbersThatAreNoFaces(t *testing.T) {
	check := func(a, b int) {
		checkPair(t, "BothFaces", a, b, impl.BothFaces(a, b), 0)
		checkPair(t, "EitherFace", a, b, impl.EitherFace(a, b), 0)
		checkPair(t, "Lacking", a, b, impl.Lacking(a, b), 0)
		if impl.Offers(a, b) {
			t.Errorf("Offers(%d, %d)", a, b)
		}
	}
	for _, a := range notFaces {
		for f := range 64 {
			check(a, f)
			check(f, a)
		}
		for _, b := range notFaces {
			check(a, b)
		}
	}
}

func TestFixedPairs(t *testing.T) {
	for _, c := range []struct {
		f, want               int
		offers                bool
		both, either, lacking int
	}{
		{0, 0, true, 0, 0, 0},
		{0, 63, false, 0, 63, 63},
		{63, 0, true, 0, 63, 0},
		{63, 63, true, 63, 63, 0},
		{7, 5, true, 5, 7, 0},
		{5, 7, false, 5, 7, 2},
		{1, 32, false, 0, 33, 32},
		{12, 10, false, 8, 14, 2},
		{64, 0, false, 0, 0, 0},
		{0, 64, false, 0, 0, 0},
		{64, 64, false, 0, 0, 0},
		{-1, 5, false, 0, 0, 0},
		{5, -1, false, 0, 0, 0},
		{-1, -1, false, 0, 0, 0},
	} {
		if got := impl.Offers(c.f, c.want); got != c.offers {
			t.Errorf("Offers(%d, %d) = %t", c.f, c.want, got)
		}
		checkPair(t, "BothFaces", c.f, c.want, impl.BothFaces(c.f, c.want), c.both)
		checkPair(t, "EitherFace", c.f, c.want, impl.EitherFace(c.f, c.want), c.either)
		checkPair(t, "Lacking", c.f, c.want, impl.Lacking(c.f, c.want), c.lacking)
	}
}

func TestCountFace(t *testing.T) {
	for f := range 64 {
		want := 0
		for _, in := range setOf(f) {
			if in {
				want++
			}
		}
		if got := impl.CountFace(f); got != want {
			t.Errorf("CountFace(%d) = %d, want %d", f, got, want)
		}
	}
	for _, f := range notFaces {
		if got := impl.CountFace(f); got != 0 {
			t.Errorf("CountFace(%d) = %d", f, got)
		}
	}
}

func TestFacesUnder(t *testing.T) {
	for f := range 64 {
		want := []int{}
		for g := range 64 {
			if setOf(f).offers(setOf(g)) {
				want = append(want, g)
			}
		}
		if got := impl.FacesUnder(f); !slices.Equal(got, want) {
			t.Errorf("FacesUnder(%d) = %d", f, got)
		}
		if got := len(impl.FacesUnder(f)); got != 1<<impl.CountFace(f) {
			t.Errorf("there are %d faces under %d", got, f)
		}
	}
	for _, f := range notFaces {
		if got := impl.FacesUnder(f); len(got) != 0 {
			t.Errorf("FacesUnder(%d) = %d", f, got)
		}
	}
}

func TestFacesUnderFixedFaces(t *testing.T) {
	for f, want := range map[int][]int{
		0:  {0},
		1:  {0, 1},
		32: {0, 32},
		5:  {0, 1, 4, 5},
		7:  {0, 1, 2, 3, 4, 5, 6, 7},
		42: {0, 2, 8, 10, 32, 34, 40, 42},
	} {
		if got := impl.FacesUnder(f); !slices.Equal(got, want) {
			t.Errorf("FacesUnder(%d) = %d", f, got)
		}
	}
	all := impl.FacesUnder(63)
	if len(all) != 64 || all[0] != 0 || all[63] != 63 || !slices.IsSorted(all) {
		t.Error(all)
	}
}

func TestFacesUnderIsNewEachTime(t *testing.T) {
	first, second := impl.FacesUnder(5), impl.FacesUnder(5)
	first[1] = 99
	_ = append(first, 99)
	if !slices.Equal(second, []int{0, 1, 4, 5}) || !slices.Equal(impl.FacesUnder(5), second) {
		t.Error(second, impl.FacesUnder(5))
	}
}
