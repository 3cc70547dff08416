package tests

import (
	"slices"
	"strings"
	"testing"
	"unsafe"

	"loop.example/g03016/impl"
)

// roomy returns a list of these texts with a marked text in its spare capacity.
func roomy(texts ...string) []string {
	l := append(slices.Clone(texts), "spare")
	return l[:len(texts)]
}

func checkRoomy(t *testing.T, l []string, texts ...string) {
	t.Helper()
	if !slices.Equal(l, texts) {
		t.Errorf("the argument %q has become %q", texts, l)
	}
	if spare := l[:len(l)+1][len(l)]; spare != "spare" {
		t.Errorf("the spare capacity holds %q", spare)
	}
}

func TestListsAreNotChanged(t *testing.T) {
	texts := []string{"b", "", "a", "b", "c", "a"}
	l := roomy(texts...)
	sorted := impl.Ascending(l)
	checkRoomy(t, l, texts...)
	impl.JoinWith(l, "+")
	checkRoomy(t, l, texts...)
	for i := range sorted {
		sorted[i] = "other"
	}
	_ = append(sorted, "other")
	checkRoomy(t, l, texts...)
	ordered := roomy("a", "b")
	impl.Ascending(ordered)[0] = "other"
	checkRoomy(t, ordered, "a", "b")
}

func TestResultsDoNotShareTheirLists(t *testing.T) {
	first, second := impl.SplitAt("a,b", ","), impl.SplitAt("a,b", ",")
	first[0] = "other"
	if !slices.Equal(second, []string{"a", "b"}) {
		t.Error(second)
	}
	whole := impl.SplitAt("a", "")
	whole[0] = "other"
	if l := impl.SplitAt("a", ""); l[0] != "a" {
		t.Error(l)
	}
}

// within tells whether the bytes of part lie in the memory of whole.
func within(part, whole string) bool {
	if part == "" || whole == "" {
		return false
	}
	at := uintptr(unsafe.Pointer(unsafe.StringData(part)))
	from := uintptr(unsafe.Pointer(unsafe.StringData(whole)))
	return at >= from && at < from+uintptr(len(whole))
}

func TestTextsAreNewMemory(t *testing.T) {
	text := strings.Repeat("word; ", 40)
	results := impl.SplitAt(text, "; ")
	results = append(results, impl.SplitAt(text, "")...)
	results = append(results, impl.SplitAt(text, "none")...)
	results = append(results, impl.JoinWith([]string{text}, "; "))
	results = append(results, impl.JoinWith([]string{"", text}, ""))
	results = append(results, impl.Ascending([]string{text})...)
	for i, s := range results {
		if within(s, text) {
			t.Errorf("result %d is a part of the argument", i)
		}
	}
}
