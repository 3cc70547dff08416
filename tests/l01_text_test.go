package tests

import (
	"slices"
	"strings"
	"testing"

	"loop.example/g03016/impl"
)

// textsUpTo lists all texts of up to size bytes of the letters.
func textsUpTo(letters string, size int) []string {
	texts := []string{""}
	for from := 0; size > 0; size-- {
		to := len(texts)
		for _, s := range texts[from:to] {
			for i := range len(letters) {
				texts = append(texts, s+letters[i:i+1])
			}
		}
		from = to
	}
	return texts
}

// splitBytewise divides a text as the document tells it, one byte at a time.
func splitBytewise(s string, sep string) []string {
	if sep == "" {
		return []string{s}
	}
	parts := []string{}
	part := ""
	for i := 0; i < len(s); {
		if i+len(sep) <= len(s) && s[i:i+len(sep)] == sep {
			parts = append(parts, part)
			part = ""
			i += len(sep)
		} else {
			part += s[i : i+1]
			i++
		}
	}
	return append(parts, part)
}

func TestSplitAtOfFixedTexts(t *testing.T) {
	for _, c := range []struct {
		s, sep string
		want   []string
	}{
		{"", "", []string{""}},
		{"", ",", []string{""}},
		{"", "; ", []string{""}},
		{"abc", "", []string{"abc"}},
		{"\u00e4\xff", "", []string{"\u00e4\xff"}},
		{"abc", ",", []string{"abc"}},
		{",", ",", []string{"", ""}},
		{",,", ",", []string{"", "", ""}},
		{"a,b", ",", []string{"a", "b"}},
		{",a,,b,", ",", []string{"", "a", "", "b", ""}},
		{"a; b; ", "; ", []string{"a", "b", ""}},
		{"a;b ;c; ;", "; ", []string{"a;b ;c", ";"}},
		{"aaa", "aa", []string{"", "a"}},
		{"aaaa", "aa", []string{"", "", ""}},
		{"aaaaa", "aa", []string{"", "", "a"}},
		{"ababa", "aba", []string{"", "ba"}},
		{"xababay", "aba", []string{"x", "bay"}},
		{"aabaabaab", "aab", []string{"", "", "", ""}},
		{"aaab", "aab", []string{"a", ""}},
		{"ab", "abc", []string{"ab"}},
		{"abc", "abc", []string{"", ""}},
		{"a\xc3\xa4b", "\xa4", []string{"a\xc3", "b"}},
		{"a\x00b", "\x00", []string{"a", "b"}},
		{"a\nb\n", "\n", []string{"a", "b", ""}},
		{"A,a", "a", []string{"A,", ""}},
	} {
		if got := impl.SplitAt(c.s, c.sep); !slices.Equal(got, c.want) {
			t.Errorf("SplitAt(%q, %q) = %q, want %q", c.s, c.sep, got, c.want)
		}
	}
}

func TestWhatIsDividedIsJoinedAgain(t *testing.T) {
	for _, sep := range textsUpTo("ab;", 3) {
		for _, s := range textsUpTo("ab;", 7) {
			parts := impl.SplitAt(s, sep)
			if !slices.Equal(parts, splitBytewise(s, sep)) {
				t.Fatalf("SplitAt(%q, %q) = %q", s, sep, parts)
			}
			if impl.JoinWith(parts, sep) != s {
				t.Fatalf("%q divided at %q is joined as %q", s, sep, impl.JoinWith(parts, sep))
			}
		}
	}
}

func TestSplitAtOfLongTexts(t *testing.T) {
	const size = 1 << 19
	text := strings.Repeat("a", size)
	if l := impl.SplitAt(text, "a"); len(l) != size+1 || l[0] != "" || l[size] != "" {
		t.Error(len(l))
	}
	if l := impl.SplitAt(text, "aaa"); len(l) != size/3+1 || l[size/3] != text[:size%3] {
		t.Error(len(l))
	}
	if l := impl.SplitAt(text, text[:size/2]+"b"); len(l) != 1 || l[0] != text {
		t.Error(len(l))
	}
	if l := impl.SplitAt(text, text+"a"); len(l) != 1 || l[0] != text {
		t.Error(len(l))
	}
}

func TestJoinWithOfFixedLists(t *testing.T) {
	for _, c := range []struct {
		l    []string
		sep  string
		want string
	}{
		{nil, "", ""},
		{nil, ", ", ""},
		{[]string{}, ", ", ""},
		{[]string{""}, ", ", ""},
		{[]string{"a"}, ", ", "a"},
		{[]string{"a", "b"}, "", "ab"},
		{[]string{"a", "b"}, "+", "a+b"},
		{[]string{"", ""}, "+", "+"},
		{[]string{"", "", ""}, "; ", "; ; "},
		{[]string{"", "a", ""}, "+", "+a+"},
		{[]string{"b", "a", "b"}, "; ", "b; a; b"},
		{[]string{"a+b", "c"}, "+", "a+b+c"},
		{[]string{"\xff", "\u00e4"}, "\x00", "\xff\x00\u00e4"},
	} {
		if got := impl.JoinWith(c.l, c.sep); got != c.want {
			t.Errorf("JoinWith(%q, %q) = %q, want %q", c.l, c.sep, got, c.want)
		}
	}
}

func TestAscendingOfFixedLists(t *testing.T) {
	for _, c := range []struct{ l, want []string }{
		{nil, nil},
		{[]string{}, nil},
		{[]string{""}, []string{""}},
		{[]string{"", ""}, []string{""}},
		{[]string{"a"}, []string{"a"}},
		{[]string{"b", "a"}, []string{"a", "b"}},
		{[]string{"b", "a", "b"}, []string{"a", "b"}},
		{[]string{"b", "a", "a", "c", "a", "b"}, []string{"a", "b", "c"}},
		{[]string{"x", "", "x", ""}, []string{"", "x"}},
		{[]string{"ab", "a", "abc", "b", "aa"}, []string{"a", "aa", "ab", "abc", "b"}},
		{[]string{"10", "9", "1", "09"}, []string{"09", "1", "10", "9"}},
		{[]string{"a", "B", "b", "A"}, []string{"A", "B", "a", "b"}},
		{[]string{"\xff", "z", "\u00e4", "\x00", ""}, []string{"", "\x00", "z", "\u00e4", "\xff"}},
		{[]string{"a ", "a", " a"}, []string{" a", "a", "a "}},
	} {
		if got := impl.Ascending(c.l); !slices.Equal(got, c.want) {
			t.Errorf("Ascending(%q) = %q, want %q", c.l, got, c.want)
		}
	}
}

// Ascending lists, of all lists of up to five short texts, exactly the texts that are there, each greater than the one before.
func TestAscendingOfAllShortLists(t *testing.T) {
	choices := []string{"", "a", "b", "ab", "\xff"}
	for _, picks := range textsUpTo("\x00\x01\x02\x03\x04", 5) {
		l := []string{}
		for i := range len(picks) {
			l = append(l, choices[picks[i]])
		}
		got := impl.Ascending(l)
		for i, s := range got {
			if !slices.Contains(l, s) || i > 0 && got[i-1] >= s {
				t.Fatalf("Ascending(%q) = %q", l, got)
			}
		}
		for _, s := range l {
			if !slices.Contains(got, s) {
				t.Fatalf("Ascending(%q) = %q", l, got)
			}
		}
	}
}
