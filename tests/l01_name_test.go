package tests

import (
	"strings"
	"testing"

	"loop.example/g03016/impl"
)

func checkName(t *testing.T, s string, want bool) {
	t.Helper()
	if impl.IsName(s) != want {
		t.Errorf("IsName(%.40q) is not %t", s, want)
	}
}

func TestIsNameByLength(t *testing.T) {
	if impl.MaxName != 8 {
		t.Fatal(impl.MaxName)
	}
	for size := range 3 * impl.MaxName {
		fits := size >= 1 && size <= impl.MaxName
		checkName(t, strings.Repeat("q", size), fits)
		if size > 0 {
			checkName(t, "k"+strings.Repeat("3", size-1), fits)
			checkName(t, strings.Repeat("7", size), false)
		}
	}
	checkName(t, strings.Repeat("n", 1<<20), false)
}

// A byte is tried in each position of names of each length.
func TestIsNameByByte(t *testing.T) {
	for c := range 256 {
		b := string([]byte{byte(c)})
		letter := strings.Contains("abcdefghijklmnopqrstuvwxyz", b)
		digit := strings.Contains("0123456789", b)
		for size := 1; size <= impl.MaxName; size++ {
			for at := range size {
				s := strings.Repeat("m", at) + b + strings.Repeat("m", size-at-1)
				checkName(t, s, letter || digit && at > 0)
			}
		}
	}
}

func TestIsNameOfFixedTexts(t *testing.T) {
	for _, s := range []string{"a", "z", "k2", "a0", "z9", "lamp", "abcdefgh", "a1b2c3d4", "x0000000"} {
		checkName(t, s, true)
	}
	for _, s := range []string{
		"", " ", "0", "9", "2k", "0a", "A", "aB", "Lamp", "a b", " a", "a ", "a-b", "a_b", "a.b",
		"abcdefghi", "a=1", "a\n", "a\x00", "`", "{", "a`", "a{", "a/", "a:", "\u00e4", "a\u00e4", "\xff", "a\xff", "\u0430",
	} {
		checkName(t, s, false)
	}
}
