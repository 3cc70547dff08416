package tests

import (
	"math"
	"math/rand"
	"slices"
	"strconv"
	"strings"
	"testing"

	"loop.example/g03016/impl"
)

func faceOrNothing(f int) string {
	if f < 0 || f > 63 {
		return ""
	}
	return textOfFace(f)
}

// endText writes an end of any fields.
func endText(end impl.End) string {
	place := "place " + strconv.Itoa(end.Place)
	switch end.Code {
	case 1:
		return place + " wants " + faceOrNothing(end.Want) + " of " + faceOrNothing(end.Had)
	case 2:
		return place + " empty"
	case 3:
		return "bad"
	}
	return "ok"
}

func checkEndLine(t *testing.T, end impl.End, slots []impl.Slot, want string) {
	t.Helper()
	if got := impl.EndLine(end, slots); got != want {
		t.Errorf("EndLine(%+v, %s) = %.200q, not %.200q", end, brief(slots), got, want)
	}
}

func TestFixedEndLines(t *testing.T) {
	slots := slotsOf(t, "vault counts||lamp")
	for _, c := range []struct {
		end  impl.End
		want string
	}{
		{impl.End{}, "ok: vault counts, -, lamp"},
		{impl.End{Code: impl.EndOK, Place: 3, Want: 2, Had: 1}, "ok: vault counts, -, lamp"},
		{impl.End{Code: impl.EndAssert, Place: 3, Want: 2, Had: 1}, "place 3 wants keep of run: vault counts, -, lamp"},
		{impl.End{Code: impl.EndAssert, Place: 0, Want: 0, Had: 63}, "place 0 wants none of run+keep+tell+hear+save+heal: vault counts, -, lamp"},
		{impl.End{Code: impl.EndAssert}, "place 0 wants none of none: vault counts, -, lamp"},
		{impl.End{Code: impl.EndAssert, Place: 1000, Want: 64, Had: -1}, "place 1000 wants  of : vault counts, -, lamp"},
		{impl.End{Code: impl.EndAssert, Place: -1, Want: -1, Had: 3}, "place -1 wants  of run+keep: vault counts, -, lamp"},
		{impl.End{Code: impl.EndAssert, Place: 1, Want: 3, Had: 64}, "place 1 wants run+keep of : vault counts, -, lamp"},
		{impl.End{Code: impl.EndEmpty, Place: 3}, "place 3 empty: vault counts, -, lamp"},
		{impl.End{Code: impl.EndEmpty, Place: 0, Want: 5, Had: 6}, "place 0 empty: vault counts, -, lamp"},
		{impl.End{Code: impl.EndEmpty, Place: math.MinInt}, "place -9223372036854775808 empty: vault counts, -, lamp"},
		{impl.End{Code: impl.EndBad}, "bad: vault counts, -, lamp"},
		{impl.End{Code: impl.EndBad, Place: 3, Want: 5, Had: 6}, "bad: vault counts, -, lamp"},
		{impl.End{Code: 4, Place: 3, Want: 2, Had: 1}, "ok: vault counts, -, lamp"},
		{impl.End{Code: -1, Place: 3, Want: 2, Had: 1}, "ok: vault counts, -, lamp"},
	} {
		checkEndLine(t, c.end, slots, c.want)
	}
}

func TestEndLinesOfSlots(t *testing.T) {
	part := func(recipe ...string) impl.Part {
		return impl.Part{Core: impl.Core{Kind: recipe[0]}, Layers: layersOf(recipe[1:]...)}
	}
	for _, c := range []struct {
		slots []impl.Slot
		want  string
	}{
		{nil, "ok: "},
		{[]impl.Slot{}, "ok: "},
		{slotsOf(t, "||"), "ok: -, -, -"},
		{slotsOf(t, "|stone|"), "ok: -, stone, -"},
		{slotsOf(t, "robot lazy keeps counts|shelf reads|horn plain"), "ok: robot lazy keeps counts, shelf reads, horn plain"},
		{slotsOf(t, "lamp||")[:1], "ok: lamp"},
		{slotsOf(t, "||")[:2], "ok: -, -"},
		{append(slotsOf(t, "lamp||meter"), slotsOf(t, "|lamp|")...), "ok: lamp, -, meter, -, lamp, -"},
		// What is not valid is told as ShapesOf tells it, and what is not Full as an empty slot.
		{[]impl.Slot{{Full: true}}, "ok: -"},
		{[]impl.Slot{{Full: true}, {Full: true, Part: part("", "")}, {Full: true, Part: part("", "counts")}}, "ok: -,  ,  counts"},
		{[]impl.Slot{{Full: true, Part: part("none", "lamp")}, {Part: part("vault", "counts")}, {Full: true, Part: part("-")}}, "ok: none lamp, -, -"},
		{[]impl.Slot{{Full: true, Part: part("lamp", "keeps", "keeps", "keeps", "keeps")}, {Full: true, Part: part(", ")}, {Full: true, Part: part(" ")}}, "ok: lamp keeps keeps keeps keeps, , ,  "},
		{[]impl.Slot{{Full: true, Part: impl.Part{Core: impl.Core{Kind: "robot", On: true, Broken: true, Count: -1, Cells: []impl.Cell{{}}}}}}, "ok: robot"},
		{[]impl.Slot{{Full: true, Part: part("\xff\n")}}, "ok: \xff\n"},
	} {
		checkEndLine(t, impl.End{}, c.slots, c.want)
		checkEndLine(t, impl.End{Code: 9}, c.slots, c.want)
		checkEndLine(t, impl.End{Code: impl.EndBad}, c.slots, "bad"+c.want[2:])
		checkEndLine(t, impl.End{Code: impl.EndEmpty, Place: 12}, c.slots, "place 12 empty"+c.want[2:])
		checkEndLine(t, impl.End{Code: impl.EndAssert, Place: 12, Want: 6, Had: 8}, c.slots, "place 12 wants keep+tell of hear"+c.want[2:])
	}
	many := slices.Repeat(slotsOf(t, "lamp||"), 1<<12)
	checkEndLine(t, impl.End{}, many, "ok: "+strings.TrimSuffix(strings.Repeat("lamp, -, -, ", 1<<12), ", "))
}

func TestEndLinesOfAllEnds(t *testing.T) {
	all := append(slotsOfAllSorts(t), nil)
	codes := []int{-1, 0, 1, 2, 3, 4, 5, 1 << 32, 1<<32 + 1, 1<<32 + 2, 1<<32 + 3, math.MinInt, math.MinInt + 1, math.MaxInt}
	places := []int{0, 1, 9, 10, 13, 14, 999, 1000, -1, math.MinInt, math.MaxInt}
	at := 0
	for _, code := range codes {
		for _, place := range places {
			for _, face := range append([]int{0, 1, 5, 62, 63}, notFaces...) {
				slots := all[at%len(all)]
				at++
				for _, end := range []impl.End{{Code: code, Place: place, Want: face, Had: 3}, {Code: code, Place: place, Want: 3, Had: face}} {
					_, shapes, _ := strings.Cut(endLineOf(impl.End{}, slots), ": ")
					checkEndLine(t, end, slots, endText(end)+": "+shapes)
				}
			}
		}
	}
}

// What a run ends with is written as what the model's run ends with.
func TestEndLinesOfRuns(t *testing.T) {
	d := draw{rand.New(rand.NewSource(10))}
	codes := map[int]int{}
	for range 2000 {
		l, recipes, input := d.plan(1+d.Intn(14), 1+d.Intn(3)), d.recipes(), d.input()
		slots := d.slots(t, recipes, true)
		end, after, _ := impl.RunPlan(slots, l, input)
		want, wanted, _ := ran(slots, l, input)
		checkEndLine(t, end, after, endLineOf(want, wanted))
		codes[end.Code]++
	}
	bad, slots, _ := impl.RunPlan(slotsOf(t, "lamp||"), []impl.Action{{}}, nil)
	checkEndLine(t, bad, slots, "bad: lamp, -, -")
	if codes[0] < 100 || codes[1] < 100 || codes[2] < 100 {
		t.Error(codes)
	}
}
