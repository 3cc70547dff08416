package tests

import (
	"math"
	"regexp"
	"slices"
	"strconv"
	"strings"
	"testing"

	"loop.example/g03016/impl"
)

// The versions since which the abilities exist, as the document tells them, for the tests of chapter 5.
var sinces = []impl.Version{{Major: 1}, {Major: 1}, {Major: 1, Minor: 1}, {Major: 1, Minor: 2}, {Major: 2}, {Major: 2, Minor: 1}}

// Numbers at, beside and far outside the limits of Major and Minor.
var versionNumbers = []int{0, 1, 2, 9, 10, 98, 99, 100, 101, -1, -2, 1 << 32, 1<<32 + 5, math.MinInt, math.MinInt + 1, math.MaxInt - 1, math.MaxInt}

var versionForm = regexp.MustCompile(`^(0|[1-9][0-9]?)\.(0|[1-9][0-9]?)$`)

// allVersions lists the valid versions in ascending order.
func allVersions() []impl.Version {
	l := []impl.Version{}
	for major := range 100 {
		for minor := range 100 {
			l = append(l, impl.Version{Major: major, Minor: minor})
		}
	}
	return l
}

// anyVersions lists versions of which most are not valid.
func anyVersions() []impl.Version {
	l := []impl.Version{}
	for _, major := range versionNumbers {
		for _, minor := range versionNumbers {
			l = append(l, impl.Version{Major: major, Minor: minor})
		}
	}
	return l
}

func isValidVersion(v impl.Version) bool {
	return v.Major >= 0 && v.Major <= 99 && v.Minor >= 0 && v.Minor <= 99
}

func notVersions() []impl.Version {
	return slices.DeleteFunc(anyVersions(), isValidVersion)
}

func compared(a, b impl.Version) int {
	return slices.Compare([]int{a.Major, a.Minor}, []int{b.Major, b.Minor})
}

func allowedSet(v impl.Version) faceSet {
	var set faceSet
	for k, since := range sinces {
		set[k] = isValidVersion(v) && compared(v, since) >= 0
	}
	return set
}

func isValidOffer(x impl.Offer) bool {
	for i, v := range x.Versions {
		if !isValidVersion(v) || i > 0 && compared(x.Versions[i-1], v) != -1 {
			return false
		}
	}
	return len(x.Versions) <= 4 && x.Face >= 0 && x.Face <= 63
}

// dealOf looks for the deal without any regard to the order of the versions.
func dealOf(l []impl.Offer) (impl.Deal, bool) {
	counts := map[impl.Version]int{}
	set := setOf(63)
	for _, x := range l {
		if !isValidOffer(x) {
			return impl.Deal{}, false
		}
		for _, v := range x.Versions {
			counts[v]++
		}
		set = joined(set, setOf(x.Face), func(a, b bool) bool { return a && b })
	}
	deal, found := impl.Deal{}, false
	for v, count := range counts {
		if count == len(l) && (!found || compared(v, deal.Version) > 0) {
			deal.Version, found = v, true
		}
	}
	if !found {
		return impl.Deal{}, false
	}
	deal.Face = joined(set, allowedSet(deal.Version), func(a, b bool) bool { return a && b }).number()
	return deal, true
}

func intOf(t *testing.T, text string) int {
	t.Helper()
	n, err := strconv.Atoi(text)
	if err != nil {
		t.Fatal(err)
	}
	return n
}

// versionsOf reads versions with blanks between them, of any numbers.
func versionsOf(t *testing.T, text string) []impl.Version {
	t.Helper()
	l := []impl.Version{}
	for _, word := range strings.Fields(text) {
		major, minor, ok := strings.Cut(word, ".")
		if !ok {
			t.Fatalf("%q is no text of versions", text)
		}
		l = append(l, impl.Version{Major: intOf(t, major), Minor: intOf(t, minor)})
	}
	return l
}

func versionOf(t *testing.T, text string) impl.Version {
	t.Helper()
	l := versionsOf(t, text)
	if len(l) != 1 {
		t.Fatalf("%q is not one version", text)
	}
	return l[0]
}

func offerOf(t *testing.T, versions string, face int) impl.Offer {
	t.Helper()
	return impl.Offer{Versions: versionsOf(t, versions), Face: face}
}
