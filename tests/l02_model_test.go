package tests

import (
	"math"
	"slices"
	"strings"
)

// The abilities as the document tells them, for the tests of chapter 2.
var abilities = []struct {
	name    string
	methods []string
}{
	{"run", []string{"Start", "Stop"}},
	{"keep", []string{"Get", "Put"}},
	{"tell", []string{"Tell"}},
	{"hear", []string{"Hear"}},
	{"save", []string{"Load", "Save"}},
	{"heal", []string{"Heal"}},
}

var notFaces = []int{
	-1, 64, math.MinInt, math.MaxInt,
	-2, -5, -32, -63, -64, -65, 65, 69, 96, 127, 128, 255, 1 << 16, 1 << 32, 1<<32 + 5, 1 << 62,
	math.MinInt + 1, math.MinInt + 63, math.MaxInt - 1, math.MaxInt - 63,
}

// faceSet tells of each ability whether it is in a face.
type faceSet [6]bool

func setOf(f int) faceSet {
	var set faceSet
	for k := range set {
		set[k] = f%2 == 1
		f /= 2
	}
	return set
}

func (set faceSet) number() int {
	sum, bit := 0, 1
	for _, in := range set {
		if in {
			sum += bit
		}
		bit *= 2
	}
	return sum
}

// joined is the set of the abilities of which rule, told whether a and b have one, says so.
func joined(a, b faceSet, rule func(inA, inB bool) bool) faceSet {
	var set faceSet
	for k := range set {
		set[k] = rule(a[k], b[k])
	}
	return set
}

func (set faceSet) offers(want faceSet) bool {
	for k := range set {
		if want[k] && !set[k] {
			return false
		}
	}
	return true
}

func (set faceSet) text() string {
	names := []string{}
	for k, in := range set {
		if in {
			names = append(names, abilities[k].name)
		}
	}
	if len(names) == 0 {
		return "none"
	}
	return strings.Join(names, "+")
}

func (set faceSet) methods() []string {
	methods := []string{}
	for k, in := range set {
		if in {
			methods = append(methods, abilities[k].methods...)
		}
	}
	slices.Sort(methods)
	return methods
}
