package tests

import (
	"fmt"
	"regexp"
	"slices"
	"strconv"
	"strings"
	"testing"

	"loop.example/g03016/impl"
)

var (
	// fieldsOfOp gives the fields that an Op names.
	fieldsOfOp = []string{"", "Slot Word", "Slot Word", "Slot", "Slot Other", "Slot", "Slot Face", "Slot Call", "A B", "A", "A B"}
	wordOfOp   = []string{"", "make", "wrap", "unwrap", "copy", "drop", "ask", "call", "if", "loop", "try"}

	simpleForm = regexp.MustCompile(`(?s)^(make|wrap|unwrap|copy|drop|ask|call) ([0-2])(?: (.*))?$`)
	copyForm   = regexp.MustCompile(`^from ([0-2])$`)
)

// allActions lists the actions of a list in the order of their places.
func allActions(l []impl.Action) []impl.Action {
	all := []impl.Action{}
	for _, a := range l {
		all = append(all, a)
		all = append(all, allActions(a.A)...)
		all = append(all, allActions(a.B)...)
	}
	return all
}

func depthOfPlan(l []impl.Action) int {
	depth := 0
	for _, a := range l {
		depth = max(depth, 1+depthOfPlan(a.A), 1+depthOfPlan(a.B))
	}
	return depth
}

func isValidAction(a impl.Action) bool {
	if a.Op < 1 || a.Op > 10 {
		return false
	}
	named := strings.Fields(fieldsOfOp[a.Op])
	zero := map[string]bool{
		"Slot": a.Slot == 0, "Other": a.Other == 0, "Word": a.Word == "", "Call": a.Call == impl.Call{}, "Face": a.Face == 0, "A": len(a.A) == 0, "B": len(a.B) == 0,
	}
	for field, is := range zero {
		if !is && !slices.Contains(named, field) {
			return false
		}
	}
	if a.Slot < 0 || a.Slot > 2 || a.Other < 0 || a.Other > 2 || a.Face < 0 || a.Face > 63 {
		return false
	}
	ok := true
	switch a.Op {
	case 1:
		_, ok = faceOfKind(a.Word)
	case 2:
		_, _, ok = adapterOf(a.Word)
	case 4:
		ok = a.Slot != a.Other
	case 7:
		_, cells := cellsOfText(a.Call.Text)
		ok = isValidCall(a.Call) && (cells || a.Call.Text == "")
	}
	return ok
}

func isValidPlan(l []impl.Action) bool {
	all := allActions(l)
	return len(all) <= 14 && depthOfPlan(l) <= 3 && !slices.ContainsFunc(all, func(a impl.Action) bool { return !isValidAction(a) })
}

func hasOp(l []impl.Action, ops ...int) bool {
	return slices.ContainsFunc(allActions(l), func(a impl.Action) bool { return slices.Contains(ops, a.Op) })
}

func isValidSlots(l []impl.Slot) bool {
	for _, s := range l {
		if s.Full && !isValidPart(s.Part) || !s.Full && !sameParts(s.Part, impl.Part{}) {
			return false
		}
	}
	return len(l) == 3
}

func sameSlots(a, b []impl.Slot) bool {
	return slices.EqualFunc(a, b, func(x, y impl.Slot) bool { return x.Full == y.Full && sameParts(x.Part, y.Part) })
}

func sameAction(a, b impl.Action) bool {
	fixed := a.Op == b.Op && a.Slot == b.Slot && a.Other == b.Other && a.Word == b.Word && a.Call == b.Call && a.Face == b.Face
	return fixed && sameActions(a.A, b.A) && sameActions(a.B, b.B)
}

func sameActions(a, b []impl.Action) bool {
	return slices.EqualFunc(a, b, sameAction)
}

// cloneActions shares only texts with the list.
func cloneActions(l []impl.Action) []impl.Action {
	c := slices.Clone(l)
	for i, a := range c {
		c[i].A, c[i].B = cloneActions(a.A), cloneActions(a.B)
	}
	return c
}

func cloneSlots(l []impl.Slot) []impl.Slot {
	c := slices.Clone(l)
	for i, s := range c {
		c[i].Part.Core.Cells, c[i].Part.Layers = slices.Clone(s.Part.Core.Cells), slices.Clone(s.Part.Layers)
	}
	return c
}

func shapeOfSlot(s impl.Slot) string {
	if !s.Full {
		return ""
	}
	return strings.Join(recipeOfPart(s.Part), " ")
}

func shapeOfSlots(l []impl.Slot) string {
	shapes := []string{}
	for _, s := range l {
		shapes = append(shapes, shapeOfSlot(s))
	}
	return strings.Join(shapes, "|")
}

// modelRun performs a plan without a panic: each action answers how the run ends with it.
type modelRun struct {
	slots []impl.Slot
	input []int
	taken int
}

// ran tells what RunPlan returns, as the document's text has it.
func ran(slots []impl.Slot, l []impl.Action, input []int) (impl.End, []impl.Slot, int) {
	m := &modelRun{slots: cloneSlots(slots), input: input}
	if !isValidSlots(slots) || !isValidPlan(l) {
		return impl.End{Code: 3}, m.slots, 0
	}
	end := m.all(l, 0)
	return end, m.slots, m.taken
}

func (m *modelRun) number() int {
	m.taken++
	if m.taken > len(m.input) {
		return 0
	}
	// The two lowest bits, also of a number below 0.
	return m.input[m.taken-1] & 3
}

func (m *modelRun) all(l []impl.Action, place int) impl.End {
	for _, a := range l {
		if end := m.one(a, place); end.Code != 0 {
			return end
		}
		place += 1 + len(allActions(a.A)) + len(allActions(a.B))
	}
	return impl.End{}
}

func (m *modelRun) one(a impl.Action, place int) impl.End {
	inA, inB := place+1, place+1+len(allActions(a.A))
	switch a.Op {
	case 1:
		m.slots[a.Slot] = impl.Slot{Full: true, Part: impl.Part{Core: impl.Core{Kind: a.Word}}}
	case 4:
		m.slots[a.Slot] = cloneSlots(m.slots[a.Other : a.Other+1])[0]
	case 5:
		m.slots[a.Slot] = impl.Slot{}
	case 8:
		if m.number()&1 == 0 {
			return m.all(a.B, inB)
		}
		return m.all(a.A, inA)
	case 9:
		for rounds := m.number(); rounds > 0; rounds-- {
			if end := m.all(a.A, inA); end.Code != 0 {
				return end
			}
		}
	case 10:
		end := m.all(a.A, inA)
		if end.Code == 1 {
			return m.all(a.B, inB)
		}
		return end
	default:
		return m.withPart(a, place)
	}
	return impl.End{}
}

// withPart performs what needs a full slot.
func (m *modelRun) withPart(a impl.Action, place int) impl.End {
	slot := &m.slots[a.Slot]
	if !slot.Full {
		return impl.End{Code: 2, Place: place}
	}
	r := impl.Reply{}
	switch a.Op {
	case 2:
		slot.Part, r = wrapped(slot.Part, a.Word)
	case 3:
		if n := len(slot.Part.Layers); n > 0 {
			slot.Part.Layers = slices.Clone(slot.Part.Layers[:n-1])
		}
	case 6:
		if had := faceOfPart(slot.Part); had&a.Face != a.Face {
			r = impl.Reply{Code: 1, Want: a.Face, Had: had}
		}
	case 7:
		slot.Part, r = answerOfPart(slot.Part, a.Call)
	}
	if r.Code == 1 {
		return impl.End{Code: 1, Place: place, Want: r.Want, Had: r.Had}
	}
	return impl.End{}
}

// textOfPlan writes a valid plan without the help of the program.
func textOfPlan(l []impl.Action) string {
	if len(l) == 0 {
		return "nothing"
	}
	return textOfActions(l)
}

func textOfActions(l []impl.Action) string {
	text := ""
	for i, a := range l {
		if i > 0 {
			text += "; "
		}
		text += textOfAction(a)
	}
	return text
}

func textOfBlock(l []impl.Action) string {
	if len(l) == 0 {
		return "{ }"
	}
	return "{ " + textOfActions(l) + " }"
}

func textOfAction(a impl.Action) string {
	switch a.Op {
	case 8, 10:
		return wordOfOp[a.Op] + " " + textOfBlock(a.A) + " else " + textOfBlock(a.B)
	case 9:
		return "loop " + textOfBlock(a.A)
	}
	text := wordOfOp[a.Op] + " " + strconv.Itoa(a.Slot)
	switch a.Op {
	case 1, 2:
		text += " " + a.Word
	case 4:
		text += " from " + strconv.Itoa(a.Other)
	case 6:
		text += " " + textOfFace(a.Face)
	case 7:
		text += " " + textOfCall(a.Call)
	}
	return text
}

func textOfFace(f int) string {
	return setOf(f).text()
}

// cutOutside divides a text where the sign is outside of all braces.
func cutOutside(s, sign string) []string {
	parts, open, from := []string{}, 0, 0
	for i := range len(s) {
		switch {
		case s[i] == '{':
			open++
		case s[i] == '}':
			open--
		case open == 0 && i >= from && strings.HasPrefix(s[i:], sign):
			parts = append(parts, s[from:i])
			from = i + len(sign)
		}
	}
	return append(parts, s[from:])
}

// planOfText reads a text by its form, and refuses what is not a valid plan then.
func planOfText(s string) ([]impl.Action, bool) {
	if s == "nothing" {
		return nil, true
	}
	l, ok := actionsOfText(s)
	if !ok || !isValidPlan(l) || len(s) > 600 {
		return nil, false
	}
	return l, true
}

func actionsOfText(s string) ([]impl.Action, bool) {
	l := []impl.Action{}
	for _, text := range cutOutside(s, "; ") {
		a, ok := actionOfText(text)
		if !ok {
			return nil, false
		}
		l = append(l, a)
	}
	return l, true
}

func blockOfText(s string) ([]impl.Action, bool) {
	if s == "{ }" {
		return nil, true
	}
	if len(s) < 4 || !strings.HasPrefix(s, "{ ") || !strings.HasSuffix(s, " }") {
		return nil, false
	}
	return actionsOfText(s[2 : len(s)-2])
}

func actionOfText(s string) (impl.Action, bool) {
	word, rest, _ := strings.Cut(s, " ")
	op := slices.Index(wordOfOp, word)
	if op >= 1 && op <= 7 {
		return simpleOfText(op, s)
	}
	blocks := cutOutside(rest, " else ")
	if op < 1 || len(blocks) != map[int]int{8: 2, 9: 1, 10: 2}[op] {
		return impl.Action{}, false
	}
	a := impl.Action{Op: op}
	inA, ok := blockOfText(blocks[0])
	a.A = inA
	if len(blocks) == 2 && ok {
		a.B, ok = blockOfText(blocks[1])
	}
	return a, ok
}

func simpleOfText(op int, s string) (impl.Action, bool) {
	m := simpleForm.FindStringSubmatch(s)
	if m == nil {
		return impl.Action{}, false
	}
	a := impl.Action{Op: op}
	a.Slot, _ = strconv.Atoi(m[2])
	rest, more := strings.CutPrefix(s, m[1]+" "+m[2]+" ")
	ok := more
	switch op {
	case 1, 2:
		a.Word = rest
	case 3, 5:
		ok = !more
	case 4:
		other := copyForm.FindStringSubmatch(rest)
		if ok = other != nil; ok {
			a.Other, _ = strconv.Atoi(other[1])
		}
	case 6:
		a.Face, ok = textsOfFaces[rest]
	case 7:
		a.Call, ok = callOfText(rest)
	}
	return a, ok
}

// planOf reads the text of a valid plan without the help of the program.
func planOf(t *testing.T, text string) []impl.Action {
	t.Helper()
	l, ok := planOfText(text)
	if !ok {
		t.Fatalf("%q is no text of a plan", text)
	}
	return l
}

// slotsOf makes slots of three recipes that are divided by `|`.
func slotsOf(t *testing.T, text string) []impl.Slot {
	t.Helper()
	slots := []impl.Slot{}
	for _, recipe := range strings.Split(text, "|") {
		s := impl.Slot{}
		if recipe != "" {
			s = impl.Slot{Full: true, Part: partOfRecipe(t, recipe)}
		}
		slots = append(slots, s)
	}
	if len(slots) != 3 {
		t.Fatalf("%q are not three recipes", text)
	}
	return slots
}

// textOfEnd writes an end with all its fields, so that none that should be 0 is left out.
func textOfEnd(end impl.End) string {
	switch end {
	case impl.End{}:
		return "ok"
	case impl.End{Code: 1, Place: end.Place, Want: end.Want, Had: end.Had}:
		return "place " + strconv.Itoa(end.Place) + " wants " + textOfFace(end.Want) + " of " + textOfFace(end.Had)
	case impl.End{Code: 2, Place: end.Place}:
		return "place " + strconv.Itoa(end.Place) + " empty"
	case impl.End{Code: 3}:
		return "bad"
	}
	return fmt.Sprintf("%+v", end)
}

// textOfSlots writes all that is in slots.
func textOfSlots(l []impl.Slot) string {
	texts := []string{}
	for _, s := range l {
		text := ""
		if s.Full {
			text = strings.Join(recipeOfPart(s.Part), " ") + ": " + textOfState(s.Part)
		}
		texts = append(texts, text)
	}
	return strings.Join(texts, "|")
}

// checkRun holds a run against the model, and returns how it ends.
func checkRun(t *testing.T, slots []impl.Slot, l []impl.Action, input []int) (impl.End, []impl.Slot, int) {
	t.Helper()
	slotsBefore, planBefore, inputBefore := cloneSlots(slots), cloneActions(l), slices.Clone(input)
	end, after, taken := impl.RunPlan(slots, l, input)
	want, wantAfter, wantTaken := ran(slots, l, input)
	if end != want || taken != wantTaken || !sameSlots(after, wantAfter) {
		t.Errorf("%s\nfrom %s for %v ends with\n%s, %s, %d taken\nnot %s, %s, %d taken", brief(l), textOfSlots(slots), input,
			textOfEnd(end), textOfSlots(after), taken, textOfEnd(want), textOfSlots(wantAfter), wantTaken)
	}
	if !sameSlots(slots, slotsBefore) || !sameActions(l, planBefore) || !slices.Equal(input, inputBefore) {
		t.Errorf("%s for %v has changed its arguments", brief(planBefore), inputBefore)
	}
	return end, after, taken
}
