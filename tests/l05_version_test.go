package tests

import (
	"slices"
	"testing"

	"loop.example/g03016/impl"
)

func TestLimitsOfVersions(t *testing.T) {
	if impl.MaxDigits != 99 || impl.MaxVersions != 4 {
		t.Error(impl.MaxDigits, impl.MaxVersions)
	}
}

func TestIsVersion(t *testing.T) {
	for _, v := range allVersions() {
		if !impl.IsVersion(v) {
			t.Errorf("%v is told to be no version", v)
		}
	}
	for _, v := range anyVersions() {
		if got := impl.IsVersion(v); got != isValidVersion(v) {
			t.Errorf("IsVersion(%v) = %t", v, got)
		}
	}
	for text, want := range map[string]bool{
		"0.0": true, "99.99": true, "0.99": true, "99.0": true,
		"-1.0": false, "0.-1": false, "100.0": false, "0.100": false, "100.100": false, "-1.-1": false, "-1.100": false,
	} {
		if got := impl.IsVersion(versionOf(t, text)); got != want {
			t.Errorf("IsVersion of %s is %t", text, got)
		}
	}
}

func checkCompare(t *testing.T, a, b impl.Version) {
	t.Helper()
	want := compared(a, b)
	if got := impl.CompareVersions(a, b); got != want {
		t.Errorf("CompareVersions(%v, %v) = %d", a, b, got)
	}
	if got := impl.Meets(a, b); got != (a.Major == b.Major && want >= 0) {
		t.Errorf("Meets(%v, %v) = %t", a, b, got)
	}
}

func TestPairsOfVersions(t *testing.T) {
	for _, a := range anyVersions() {
		for _, b := range anyVersions() {
			checkCompare(t, a, b)
		}
	}
	all := allVersions()
	for i, a := range all {
		checkCompare(t, a, a)
		for _, step := range []int{1, 2, 9, 10, 99, 100, 101, 5000} {
			checkCompare(t, a, all[(i+step)%len(all)])
			checkCompare(t, all[(i+step)%len(all)], a)
		}
	}
}

func TestFixedPairsOfVersions(t *testing.T) {
	for _, c := range []struct {
		a, b  string
		order int
		meets bool
	}{
		{"0.0", "0.0", 0, true},
		{"1.2", "1.2", 0, true},
		{"1.2", "1.0", 1, true},
		{"1.0", "1.2", -1, false},
		{"1.10", "1.9", 1, true},
		{"1.9", "1.10", -1, false},
		{"2.0", "1.0", 1, false},
		{"1.0", "2.0", -1, false},
		{"2.0", "1.9", 1, false},
		{"1.9", "2.0", -1, false},
		{"10.0", "9.99", 1, false},
		{"9.99", "10.0", -1, false},
		{"99.99", "0.0", 1, false},
		{"-1.0", "0.0", -1, false},
		{"-1.5", "-1.-5", 1, true},
		{"-1.-5", "-1.5", -1, false},
		{"100.100", "100.100", 0, true},
		{"100.101", "100.100", 1, true},
		{"1.-9223372036854775808", "1.9223372036854775807", -1, false},
		{"1.9223372036854775807", "1.-9223372036854775808", 1, true},
		{"-9223372036854775808.0", "9223372036854775807.0", -1, false},
		{"9223372036854775807.0", "-9223372036854775808.0", 1, false},
		{"9223372036854775807.1", "9223372036854775807.0", 1, true},
	} {
		a, b := versionOf(t, c.a), versionOf(t, c.b)
		if got := impl.CompareVersions(a, b); got != c.order {
			t.Errorf("%s compared with %s is %d", c.a, c.b, got)
		}
		if got := impl.Meets(a, b); got != c.meets {
			t.Errorf("%s meets %s: %t", c.a, c.b, got)
		}
	}
}

func TestVersionsAreSorted(t *testing.T) {
	l := allVersions()
	slices.Reverse(l)
	slices.SortFunc(l, impl.CompareVersions)
	if !slices.Equal(l, allVersions()) {
		t.Error("the versions are not in order")
	}
}
