package tests

import (
	"slices"
	"strings"
	"testing"

	"loop.example/g03016/impl"
)

var spareCell = impl.Cell{Key: "spare", Value: 77}

// roomyCells returns cells with a marked cell in their spare capacity.
func roomyCells(cells ...impl.Cell) []impl.Cell {
	l := append(slices.Clone(cells), spareCell, spareCell)
	return l[:len(cells)]
}

func checkRoomyCells(t *testing.T, l []impl.Cell, cells ...impl.Cell) {
	t.Helper()
	if !slices.Equal(l, cells) {
		t.Errorf("the argument %v has become %v", cells, l)
	}
	if spare := l[:len(l)+2][len(l):]; spare[0] != spareCell || spare[1] != spareCell {
		t.Errorf("the spare capacity holds %v", spare)
	}
}

// spoil writes over all that a list of cells reaches.
func spoil(l []impl.Cell) {
	l = l[:cap(l)]
	for i := range l {
		l[i] = impl.Cell{Key: "spoiled", Value: -1}
	}
}

func TestCallsDoNotChangeTheirArguments(t *testing.T) {
	for _, kind := range []string{"shelf", "vault", "robot"} {
		for _, p := range coresOf(kind) {
			cells := slices.Clone(p.Cells)
			for _, method := range allMethods {
				for _, x := range callsOf(method) {
					p.Cells = roomyCells(cells...)
					before := p
					q, _ := impl.CallCore(p, x)
					spoil(q.Cells)
					last, _ := impl.CallCores(p, []impl.Call{x, x})
					spoil(last.Cells)
					checkRoomyCells(t, p.Cells, cells...)
					if !sameCores(p, before) {
						t.Errorf("%+v has become %+v", before, p)
					}
				}
			}
		}
	}
}

func TestResultsOfBadCallsAreCopies(t *testing.T) {
	cells := []impl.Cell{{Key: "b", Value: 1}, {Key: "a", Value: -1}}
	p := impl.Core{Kind: "lamp", On: true, Broken: true, Cells: roomyCells(cells...)}
	q, _ := impl.CallCore(p, impl.Call{Method: "Start"})
	last, _ := impl.CallCores(p, []impl.Call{{Method: "Start"}, {}})
	none, _ := impl.CallCores(p, nil)
	for _, result := range []impl.Core{q, last, none} {
		if !slices.Equal(result.Cells, cells) {
			t.Error(result)
		}
		spoil(result.Cells)
	}
	checkRoomyCells(t, p.Cells, cells...)
}

func TestOtherFunctionsDoNotChangeCells(t *testing.T) {
	cells := []impl.Cell{{Key: "b", Value: 2}, {Key: "a", Value: 1}}
	p := impl.Core{Kind: "shelf", Cells: roomyCells(cells...)}
	impl.IsCells(p.Cells)
	impl.FormatCells(p.Cells)
	impl.IsCore(p)
	impl.SameCore(p, p)
	checkRoomyCells(t, p.Cells, cells...)
}

func TestListsOfCallsAreNotChanged(t *testing.T) {
	calls := []impl.Call{{Method: "Start"}, {Method: "Put", Key: "a", Value: 1}, {Method: "Fly"}, {Method: "Tell"}}
	spare := impl.Call{Method: "Spare"}
	l := append(slices.Clone(calls), spare)[:len(calls)]
	first, replies := impl.CallCores(impl.Core{Kind: "drawer"}, l)
	second, others := impl.CallCores(impl.Core{Kind: "drawer"}, l)
	spoil(first.Cells)
	replies[0] = impl.Reply{Code: 9}
	if !slices.Equal(l, calls) || l[:len(l)+1][len(l)] != spare {
		t.Error(l[:len(l)+1])
	}
	if impl.FormatCells(second.Cells) != "a=1" || others[0] != (impl.Reply{}) {
		t.Error(second, others)
	}
}

func TestParsedCellsAreNewEachTime(t *testing.T) {
	first, _ := impl.ParseCells("a=1,b=2")
	second, _ := impl.ParseCells("a=1,b=2")
	spoil(first)
	if !slices.Equal(second, []impl.Cell{{Key: "a", Value: 1}, {Key: "b", Value: 2}}) {
		t.Error(second)
	}
}

func TestTextsOfCoresAreNewMemory(t *testing.T) {
	kind, key, text := strings.Clone("robot"), strings.Clone("key"), strings.Clone("k1=1,k2=2")
	results := []string{}
	fresh, _ := impl.NewCore(kind)
	results = append(results, fresh.Kind)
	p := impl.Core{Kind: kind, On: true, Cells: []impl.Cell{{Key: key, Value: 1}}}
	for _, x := range []impl.Call{{Method: "Put", Key: key, Value: 2}, {Method: "Load", Text: text}, {Method: "Save"}, {Method: "Heal"}, {}} {
		q, r := impl.CallCore(p, x)
		results = append(results, q.Kind, r.Text)
		for _, cell := range q.Cells {
			results = append(results, cell.Key)
		}
	}
	empty, _ := impl.CallCore(impl.Core{Kind: "shelf"}, impl.Call{Method: "Put", Key: key})
	results = append(results, empty.Cells[0].Key)
	call := strings.Clone("Load k1=1,k2=2")
	for _, s := range []string{call, "Put " + key + " 1"} {
		x, _ := impl.ParseCall(s)
		for _, part := range []string{x.Method, x.Key, x.Text} {
			if within(part, s) {
				t.Errorf("%q is a part of the argument", part)
			}
		}
	}
	cells, _ := impl.ParseCells(text)
	results = append(results, cells[0].Key, cells[1].Key, impl.FormatCall(impl.Call{Method: "Load", Text: text}))
	results = append(results, impl.FormatReply(impl.Reply{Text: text}), impl.FormatCells([]impl.Cell{{Key: key}}))
	for i, s := range results {
		if within(s, kind) || within(s, key) || within(s, text) {
			t.Errorf("result %d, %q, is a part of an argument", i, s)
		}
	}
}
