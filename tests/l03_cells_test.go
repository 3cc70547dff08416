package tests

import (
	"math"
	"slices"
	"strings"
	"testing"

	"loop.example/g03016/impl"
)

// notCells are lists that are nearly cells.
var notCells = [][]impl.Cell{
	{{Key: "", Value: 1}},
	{{Key: "A", Value: 1}},
	{{Key: "1", Value: 1}},
	{{Key: "a ", Value: 1}},
	{{Key: "a=", Value: 1}},
	{{Key: "a,b", Value: 1}},
	{{Key: "-", Value: 0}},
	{{Key: "abcdefghi", Value: 1}},
	{{Key: "\xff", Value: 1}},
	{{Key: "a", Value: -1}},
	{{Key: "a", Value: 1000}},
	{{Key: "a", Value: math.MinInt}},
	{{Key: "a", Value: math.MaxInt}},
	{{Key: "a", Value: 1}, {Key: "a", Value: 1}},
	{{Key: "a", Value: 1}, {Key: "a", Value: 2}},
	{{Key: "b", Value: 1}, {Key: "a", Value: 2}},
	{{Key: "aa", Value: 1}, {Key: "a", Value: 2}},
	{{Key: "aa", Value: 1}, {Key: "a0", Value: 2}},
	{{Key: "a", Value: 1}, {Key: "c", Value: 1}, {Key: "b", Value: 1}},
	{{Key: "a", Value: 1}, {Key: "b", Value: 1}, {Key: "c", Value: 1}, {Key: "c", Value: 1}},
	{{Key: "a", Value: 1}, {Key: "b", Value: 1}, {Key: "c", Value: 1}, {Key: "d", Value: 1000}},
	{{Key: "a", Value: 1}, {Key: "b", Value: 1}, {Key: "c", Value: 1}, {Key: "d", Value: 1}, {Key: "e", Value: 1}},
	make([]impl.Cell, 1<<16),
}

func TestCellsOfFixedLists(t *testing.T) {
	for text, l := range map[string][]impl.Cell{
		"-":                       nil,
		"a=1":                     {{Key: "a", Value: 1}},
		"k2=0":                    {{Key: "k2", Value: 0}},
		"abcdefgh=999":            {{Key: "abcdefgh", Value: 999}},
		"a=1,b=20":                {{Key: "a", Value: 1}, {Key: "b", Value: 20}},
		"a=1,a0=1,aa=1":           {{Key: "a", Value: 1}, {Key: "a0", Value: 1}, {Key: "aa", Value: 1}},
		"a=100,b=10,c=0,zzzzzz=7": {{Key: "a", Value: 100}, {Key: "b", Value: 10}, {Key: "c", Value: 0}, {Key: "zzzzzz", Value: 7}},
	} {
		if !impl.IsCells(l) || impl.FormatCells(l) != text {
			t.Errorf("%v: %t, %q", l, impl.IsCells(l), impl.FormatCells(l))
		}
		if got, ok := impl.ParseCells(text); !ok || !slices.Equal(got, l) {
			t.Errorf("ParseCells(%q) = %v, %t", text, got, ok)
		}
	}
	if impl.MaxCells != 4 || !impl.IsCells([]impl.Cell{}) || impl.FormatCells([]impl.Cell{}) != "-" {
		t.Error(impl.MaxCells, impl.FormatCells([]impl.Cell{}))
	}
}

func TestListsThatAreNoCells(t *testing.T) {
	for _, l := range notCells {
		if impl.IsCells(l) || impl.FormatCells(l) != "" {
			t.Errorf("%.200v: %t, %q", l, impl.IsCells(l), impl.FormatCells(l))
		}
	}
}

// extendCells gives all lists of cells of up to size of these keys and values to use, ordered or not.
func extendCells(l []impl.Cell, size int, use func(l []impl.Cell)) {
	use(l)
	if len(l) == size {
		return
	}
	for _, key := range []string{"a", "b", "b1", "c", "B"} {
		for _, value := range []int{0, 1000} {
			extendCells(append(slices.Clone(l), impl.Cell{Key: key, Value: value}), size, use)
		}
	}
}

func TestAllShortListsOfCells(t *testing.T) {
	extendCells(nil, 4, func(l []impl.Cell) {
		want := areCells(l)
		text := ""
		if want {
			text = textOfCells(l)
		}
		if impl.IsCells(l) != want || impl.FormatCells(l) != text {
			t.Errorf("%v: %t, %q", l, impl.IsCells(l), impl.FormatCells(l))
		}
	})
}

func checkParseCells(t *testing.T, s string) {
	t.Helper()
	want, wanted := cellsOfText(s)
	got, ok := impl.ParseCells(s)
	if ok != wanted || !slices.Equal(got, want) {
		t.Errorf("ParseCells(%.60q) = %v, %t, want %v, %t", s, got, ok, want, wanted)
	}
	if ok && impl.FormatCells(got) != s {
		t.Errorf("the cells of %q are written as %q", s, impl.FormatCells(got))
	}
}

func TestParseCellsOfAllShortTexts(t *testing.T) {
	for _, s := range textsUpTo("ab10=,-", 6) {
		checkParseCells(t, s)
	}
	pieces := []string{"a", "b", "=", ",", "0", "7", "=1", "b=2", "-", " "}
	listsOf(pieces, 5, func(l []string) { checkParseCells(t, strings.Join(l, "")) })
	cells := []string{"a=1", "b=0", "c=999", "d=10", "e=5", "", "-", "a=2"}
	listsOf(cells, 5, func(l []string) { checkParseCells(t, strings.Join(l, ",")) })
}

func TestParseCellsOfFixedTexts(t *testing.T) {
	for _, s := range loadTexts {
		checkParseCells(t, s)
	}
	for _, s := range []string{
		"", "a=999", "a=1000", "a=0999", "a=00", "a=9223372036854775808", "a=18446744073709551617", "abcdefgh=1", "abcdefghi=1",
		"a=1,b=2,c=3,d=4,e=5", strings.Repeat("a=1,", 1<<16) + "a=1", strings.Repeat(",", 1<<18), strings.Repeat("=", 1<<18),
		"a=" + strings.Repeat("1", 1<<18), strings.Repeat("a", 1<<18) + "=1", "-" + strings.Repeat(" ", 1<<18),
	} {
		checkParseCells(t, s)
	}
}

func TestParseCellsOfChangedTexts(t *testing.T) {
	for _, s := range []string{"-", "a=1", "k2=0", "a=1,b=20", "aaaaaaaa=999,b=1,c=10,d=4"} {
		for at := range len(s) + 1 {
			for _, b := range []string{"=", ",", "-", " ", "a", "c", "0", "1", "A", "+", "\x00", "\n", "\xff"} {
				checkParseCells(t, s[:at]+b+s[at:])
				if at < len(s) {
					checkParseCells(t, s[:at]+b+s[at+1:])
				}
			}
			checkParseCells(t, s[:at])
			checkParseCells(t, s[at:])
			if at < len(s) {
				checkParseCells(t, s[:at]+s[at+1:])
			}
		}
	}
}
