package tests

import (
	"testing"

	"loop.example/g03016/impl"
)

func TestSinceOf(t *testing.T) {
	for k, text := range []string{"1.0", "1.0", "1.1", "1.2", "2.0", "2.1"} {
		if v, ok := impl.SinceOf(k); !ok || v != versionOf(t, text) || v != sinces[k] {
			t.Errorf("SinceOf(%d) = %v, %t", k, v, ok)
		}
	}
	for _, k := range append([]int{6, 7, 8, 16, 32, 63}, notFaces...) {
		if v, ok := impl.SinceOf(k); ok || v != (impl.Version{}) {
			t.Errorf("SinceOf(%d) = %v, %t", k, v, ok)
		}
	}
}

func TestAllowedFaceOfEachVersion(t *testing.T) {
	for _, v := range allVersions() {
		if got := impl.AllowedFace(v); got != allowedSet(v).number() {
			t.Errorf("AllowedFace(%v) = %d", v, got)
		}
	}
	for _, v := range notVersions() {
		if got := impl.AllowedFace(v); got != 0 {
			t.Errorf("AllowedFace(%v) = %d", v, got)
		}
	}
}

func TestAllowedFaceOfFixedVersions(t *testing.T) {
	for text, want := range map[string]int{
		"0.0": 0, "0.1": 0, "0.98": 0, "0.99": 0,
		"1.0": 3, "1.1": 7, "1.2": 15, "1.3": 15, "1.10": 15, "1.98": 15, "1.99": 15,
		"2.0": 31, "2.1": 63, "2.2": 63, "2.99": 63, "3.0": 63, "10.0": 63, "99.0": 63, "99.99": 63,
		"2.100": 0, "100.0": 0, "1.-1": 0, "-1.2": 0, "3.-1": 0, "1.100": 0, "-1.-1": 0,
	} {
		if got := impl.AllowedFace(versionOf(t, text)); got != want {
			t.Errorf("AllowedFace of %s is %d", text, got)
		}
	}
}

func TestLeastVersionOfEachFace(t *testing.T) {
	for f := range 64 {
		v, ok := impl.LeastVersion(f)
		if !ok {
			t.Errorf("there is no least version of %d", f)
		}
		for _, want := range allVersions() {
			if allowedSet(want).offers(setOf(f)) {
				if v != want {
					t.Errorf("LeastVersion(%d) = %v, not %v", f, v, want)
				}
				break
			}
		}
	}
}

func TestLeastVersionOfFixedFaces(t *testing.T) {
	for f, text := range map[int]string{
		0: "0.0", 1: "1.0", 2: "1.0", 3: "1.0", 4: "1.1", 5: "1.1", 7: "1.1", 8: "1.2", 9: "1.2", 12: "1.2", 15: "1.2",
		16: "2.0", 17: "2.0", 24: "2.0", 31: "2.0", 32: "2.1", 33: "2.1", 48: "2.1", 63: "2.1",
	} {
		if v, ok := impl.LeastVersion(f); !ok || v != versionOf(t, text) {
			t.Errorf("LeastVersion(%d) = %v, %t", f, v, ok)
		}
	}
}

func TestLeastVersionOfNoFace(t *testing.T) {
	for _, f := range notFaces {
		if v, ok := impl.LeastVersion(f); ok || v != (impl.Version{}) {
			t.Errorf("LeastVersion(%d) = %v, %t", f, v, ok)
		}
	}
}

func checkGains(t *testing.T, from, to impl.Version) {
	t.Helper()
	want := joined(allowedSet(from), allowedSet(to), func(before, behind bool) bool { return behind && !before }).number()
	if got := impl.GainsOf(from, to); got != want {
		t.Errorf("GainsOf(%v, %v) = %d, want %d", from, to, got, want)
	}
}

func TestGainsOfManyPairs(t *testing.T) {
	near := append(anyVersions(), versionsOf(t, "0.99 1.3 1.99 2.3 2.99 3.0 98.0 99.1")...)
	for _, from := range near {
		for _, to := range near {
			checkGains(t, from, to)
		}
	}
	all := allVersions()
	for i, v := range all {
		checkGains(t, v, v)
		checkGains(t, v, all[(i+1)%len(all)])
		checkGains(t, all[(i+1)%len(all)], v)
		checkGains(t, v, all[len(all)-1-i])
	}
}

func TestGainsOfFixedPairs(t *testing.T) {
	for _, c := range []struct {
		from, to string
		want     int
	}{
		{"1.0", "1.5", 12},
		{"1.5", "1.0", 0},
		{"0.0", "2.1", 63},
		{"2.1", "0.0", 0},
		{"0.99", "1.0", 3},
		{"1.0", "1.1", 4},
		{"1.1", "1.2", 8},
		{"1.2", "1.3", 0},
		{"1.99", "2.0", 16},
		{"2.0", "2.1", 32},
		{"1.2", "2.1", 48},
		{"2.1", "99.99", 0},
		{"2.1", "2.1", 0},
		{"1.0", "1.0", 0},
		{"0.0", "0.0", 0},
		{"100.0", "1.1", 7},
		{"1.100", "1.1", 7},
		{"-1.0", "2.1", 63},
		{"2.-1", "2.0", 31},
		{"1.1", "100.0", 0},
		{"0.0", "100.0", 0},
		{"1.0", "1.100", 0},
		{"1.0", "2.-1", 0},
		{"-1.0", "100.0", 0},
	} {
		if got := impl.GainsOf(versionOf(t, c.from), versionOf(t, c.to)); got != c.want {
			t.Errorf("GainsOf(%s, %s) = %d", c.from, c.to, got)
		}
	}
}
