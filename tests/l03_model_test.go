package tests

import (
	"maps"
	"regexp"
	"slices"
	"strconv"
	"strings"

	"loop.example/g03016/impl"
)

// The kinds as the document tells them, for the tests of chapter 3.
var kinds = []struct {
	name    string
	face    int
	methods string
}{
	{"stone", 0, ""},
	{"lamp", 1, "Start Stop"},
	{"shelf", 2, "Get Put"},
	{"meter", 5, "Start Stop Tell"},
	{"drawer", 3, "Start Stop Get Put"},
	{"horn", 9, "Start Stop Hear"},
	{"vault", 19, "Start Stop Get Put Load Save"},
	{"robot", 63, "Start Stop Get Put Tell Hear Load Save Heal"},
}

var notKinds = []string{
	"", " ", "ston", "stones", "Stone", "STONE", " stone", "stone ", "stone\n", "stone\x00", "stonelamp", "lamp+shelf",
	"run", "keep", "none", "all", "plain", "counts", "Start", "0", "rob\xf6t", "\xff", strings.Repeat("lamp", 1<<16),
}

var allMethods = strings.Fields("Start Stop Get Put Tell Hear Load Save Heal")

// wants gives the number of the face that each method wants.
var wants = map[string]int{"Start": 1, "Stop": 1, "Get": 2, "Put": 2, "Tell": 4, "Hear": 8, "Load": 16, "Save": 16, "Heal": 32}

var (
	nameForm  = regexp.MustCompile(`^[a-z][a-z0-9]{0,7}$`)
	cellsForm = regexp.MustCompile(`^[a-z][a-z0-9]{0,7}=(0|[1-9][0-9]{0,2})(,[a-z][a-z0-9]{0,7}=(0|[1-9][0-9]{0,2})){0,3}$`)
)

func inRange(n int) bool {
	return 0 <= n && n <= 999
}

func faceOfKind(kind string) (int, bool) {
	for _, k := range kinds {
		if k.name == kind {
			return k.face, true
		}
	}
	return 0, false
}

func runsOfKind(kind string) bool {
	face, _ := faceOfKind(kind)
	return face%2 == 1
}

func areCells(l []impl.Cell) bool {
	seen := map[string]bool{}
	keys := []string{}
	for _, cell := range l {
		if !nameForm.MatchString(cell.Key) || !inRange(cell.Value) || seen[cell.Key] {
			return false
		}
		seen[cell.Key] = true
		keys = append(keys, cell.Key)
	}
	return slices.IsSorted(keys) && len(l) <= 4
}

func textOfCells(l []impl.Cell) string {
	text := ""
	for i, cell := range l {
		if i > 0 {
			text += ","
		}
		text += cell.Key + "=" + strconv.Itoa(cell.Value)
	}
	if text == "" {
		return "-"
	}
	return text
}

// cellsOfText reads a text by a pattern; false if it is no text of cells.
func cellsOfText(s string) ([]impl.Cell, bool) {
	cells := []impl.Cell{}
	if s == "-" {
		return cells, true
	}
	if !cellsForm.MatchString(s) {
		return nil, false
	}
	for _, text := range strings.Split(s, ",") {
		words := strings.Split(text, "=")
		value, _ := strconv.Atoi(words[1])
		cells = append(cells, impl.Cell{Key: words[0], Value: value})
	}
	if !areCells(cells) {
		return nil, false
	}
	return cells, true
}

func isValidCore(p impl.Core) bool {
	face, ok := faceOfKind(p.Kind)
	if !ok || !areCells(p.Cells) || !inRange(p.Count) {
		return false
	}
	if len(p.Cells) > 0 && face/2%2 == 0 {
		return false
	}
	return (!p.On && !p.Broken) || (face%2 == 1 && p.On != p.Broken)
}

func isValidCall(x impl.Call) bool {
	switch x.Method {
	case "Start", "Stop", "Tell", "Save", "Heal":
		return x.Key == "" && x.Value == 0 && x.Text == ""
	case "Get":
		return nameForm.MatchString(x.Key) && x.Value == 0 && x.Text == ""
	case "Put":
		return nameForm.MatchString(x.Key) && inRange(x.Value) && x.Text == ""
	case "Hear":
		return x.Key == "" && inRange(x.Value) && x.Text == ""
	case "Load":
		return x.Key == "" && x.Value == 0
	}
	return false
}

func higher(count int) int {
	return min(count+1, 999)
}

func withCells(p impl.Core, values map[string]int) impl.Core {
	p.Cells = nil
	for _, key := range slices.Sorted(maps.Keys(values)) {
		p.Cells = append(p.Cells, impl.Cell{Key: key, Value: values[key]})
	}
	return p
}

// answer tells the core after a call and the reply, as the document's text has them.
func answer(p impl.Core, x impl.Call) (impl.Core, impl.Reply) {
	if !isValidCore(p) || !isValidCall(x) {
		return p, impl.Reply{Code: 7}
	}
	had, _ := faceOfKind(p.Kind)
	if want := wants[x.Method]; had/want%2 == 0 {
		return p, impl.Reply{Code: 1, Want: want, Had: had}
	}
	if p.Broken && x.Method != "Heal" && x.Method != "Tell" {
		return p, impl.Reply{Code: 3}
	}
	if x.Method == "Get" || x.Method == "Put" {
		return answerOfKeeper(p, x)
	}
	return answerOfOthers(p, x)
}

func answerOfKeeper(p impl.Core, x impl.Call) (impl.Core, impl.Reply) {
	if runsOfKind(p.Kind) && !p.On {
		return p, impl.Reply{Code: 2}
	}
	values := map[string]int{}
	for _, cell := range p.Cells {
		values[cell.Key] = cell.Value
	}
	value, there := values[x.Key]
	if x.Method == "Get" {
		if there {
			return p, impl.Reply{Value: value}
		}
		return p, impl.Reply{Code: 4}
	}
	values[x.Key] = x.Value
	if len(values) > 4 {
		return p, impl.Reply{Code: 5}
	}
	p.Count = higher(p.Count)
	return withCells(p, values), impl.Reply{Value: len(values)}
}

func answerOfOthers(p impl.Core, x impl.Call) (impl.Core, impl.Reply) {
	r := impl.Reply{}
	switch x.Method {
	case "Start":
		if p.On {
			p.On, p.Broken, r.Code = false, true, 3
		} else {
			p.On, p.Count = true, higher(p.Count)
		}
	case "Stop":
		if !p.On {
			r.Code = 2
		}
		p.On = false
	case "Tell":
		r.Value = p.Count
	case "Hear":
		p.Count = higher(p.Count)
		p.On = x.Value == 1 || (p.On && x.Value != 0)
		r.Value = p.Count
	case "Save":
		r.Text = textOfCells(p.Cells)
	case "Load":
		cells, ok := cellsOfText(x.Text)
		if ok {
			p.Cells, r.Value = cells, len(cells)
		} else {
			r.Code = 6
		}
	case "Heal":
		p.On, p.Broken = false, false
	}
	return p, r
}

func sameCores(a, b impl.Core) bool {
	return a.Kind == b.Kind && a.On == b.On && a.Broken == b.Broken && a.Count == b.Count && slices.Equal(a.Cells, b.Cells)
}

// listsOfCells are cells of every number, in each way that a key can lie to them.
func listsOfCells() [][]impl.Cell {
	return [][]impl.Cell{
		nil,
		{{Key: "b", Value: 7}},
		{{Key: "a", Value: 0}, {Key: "c", Value: 999}},
		{{Key: "b", Value: 1}, {Key: "c", Value: 2}, {Key: "d1", Value: 3}},
		{{Key: "a", Value: 1}, {Key: "c", Value: 2}, {Key: "d", Value: 3}, {Key: "e", Value: 4}},
	}
}

// coresOf gives valid cores of a kind in all states.
func coresOf(kind string) []impl.Core {
	face, _ := faceOfKind(kind)
	cores := []impl.Core{}
	for _, count := range []int{0, 1, 41, 998, 999} {
		for _, cells := range listsOfCells() {
			if len(cells) > 0 && face/2%2 == 0 {
				continue
			}
			cores = append(cores, impl.Core{Kind: kind, Count: count, Cells: cells})
			if face%2 == 1 {
				cores = append(cores, impl.Core{Kind: kind, On: true, Count: count, Cells: cells})
				cores = append(cores, impl.Core{Kind: kind, Broken: true, Count: count, Cells: cells})
			}
		}
	}
	return cores
}

// callsOf gives valid calls of a method.
func callsOf(method string) []impl.Call {
	calls := []impl.Call{}
	switch method {
	case "Get", "Put":
		for _, key := range []string{"a", "a0", "b", "c", "d", "d1", "e", "z", "zzzzzzzz"} {
			if method == "Get" {
				calls = append(calls, impl.Call{Method: method, Key: key})
				continue
			}
			for _, value := range []int{0, 5, 999} {
				calls = append(calls, impl.Call{Method: method, Key: key, Value: value})
			}
		}
	case "Hear":
		for _, value := range []int{0, 1, 2, 3, 10, 998, 999} {
			calls = append(calls, impl.Call{Method: method, Value: value})
		}
	case "Load":
		for _, text := range loadTexts {
			calls = append(calls, impl.Call{Method: method, Text: text})
		}
	default:
		calls = append(calls, impl.Call{Method: method})
	}
	return calls
}

var loadTexts = []string{
	"-", "a=1", "k=0", "a=1,b=20", "a=1,b=2,c=3,d=999", "a=1,a0=1,aa=1", "abcdefgh=5",
	"", " ", "--", "-,-", "none", "a", "a=", "=1", "=", ",", "a=1,", ",a=1", "a=1,,b=2", "a=1, b=2", " a=1", "a=1 ", "a=1\n",
	"b=1,a=2", "a=1,a=1", "a=1,a=2", "a=01", "a=1000", "a=-1", "a=+1", "a=1=2", "A=1", "1a=1", "abcdefghi=1",
	"a=1,b=2,c=3,d=4,e=5", "a=1,-", "-,a=1", "a=1,b", "a=\xff", "\xff=1", "a=1;b=2", "a 1", "a=1,b=2,c=3,d=4,",
}
