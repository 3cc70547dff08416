package tests

import (
	"slices"
	"strconv"
	"strings"
	"testing"

	"loop.example/g03016/impl"
)

// order is one of a list, into which a plan is written for the machine of this model: it has no blocks, but leads on to another order.
type order struct {
	what   string
	a      impl.Action
	place  int
	to     int
	level  int
	caught int
}

// machine goes through the orders of a plan. Some parts may be given: nothing is known of these.
type machine struct {
	orders []order
	wants  [3]int
}

// machineState is all on which it depends how the machine goes on; of each loop the rounds that are left.
type machineState struct {
	at     int
	rounds [3]int
	shapes [3]string
}

func machineOf(l []impl.Action) *machine {
	m := &machine{}
	m.putAll(l, 0, 0, -1)
	m.put(order{what: "end"})
	return m
}

func (m *machine) put(o order) int {
	m.orders = append(m.orders, o)
	return len(m.orders) - 1
}

func (m *machine) putAll(l []impl.Action, place, level, caught int) {
	for _, a := range l {
		m.putOne(a, place, level, caught)
		place += len(allActions([]impl.Action{a}))
	}
}

func (m *machine) putOne(a impl.Action, place, level, caught int) {
	inA, inB := place+1, place+1+len(allActions(a.A))
	switch a.Op {
	case impl.PlanIf:
		at := m.put(order{what: "if"})
		m.putAll(a.A, inA, level+1, caught)
		leave := m.put(order{what: "go"})
		m.orders[at].to = len(m.orders)
		m.putAll(a.B, inB, level+1, caught)
		m.orders[leave].to = len(m.orders)
	case impl.PlanLoop:
		m.put(order{what: "loop", level: level})
		head := m.put(order{what: "round", level: level})
		m.putAll(a.A, inA, level+1, caught)
		m.put(order{what: "go", to: head})
		m.orders[head].to = len(m.orders)
	case impl.PlanTry:
		// B comes first, so that A knows where it begins.
		skip := m.put(order{what: "go"})
		m.putAll(a.B, inB, level+1, caught)
		leave := m.put(order{what: "go"})
		m.orders[skip].to = len(m.orders)
		m.putAll(a.A, inA, level+1, skip+1)
		m.orders[leave].to = len(m.orders)
	default:
		m.put(order{what: "do", a: a, place: place, caught: caught})
	}
}

// run goes on up to an order that takes a number, or up to the end of the run.
func (m *machine) run(s machineState) (machineState, impl.End, bool) {
	for {
		o := m.orders[s.at]
		switch o.what {
		case "end":
			return s, impl.End{}, true
		case "if", "loop":
			return s, impl.End{}, false
		case "go":
			s.at = o.to
		case "round":
			s.rounds[o.level]--
			s.at++
			if s.rounds[o.level] < 0 {
				s.rounds[o.level], s.at = 0, o.to
			}
		case "do":
			end := m.do(o, &s)
			if end.Code == impl.EndAssert && o.caught >= 0 {
				s.at = o.caught
			} else if end.Code != impl.EndOK {
				return s, end, true
			} else {
				s.at++
			}
		}
	}
}

func (m *machine) do(o order, s *machineState) impl.End {
	shape := &s.shapes[o.a.Slot]
	words := strings.Fields(*shape)
	if len(words) == 0 && slices.Contains([]int{impl.PlanWrap, impl.PlanUnwrap, impl.PlanAsk, impl.PlanCall}, o.a.Op) {
		return impl.End{Code: impl.EndEmpty, Place: o.place}
	}
	needs, _, _ := adapterOf(o.a.Word)
	switch o.a.Op {
	case impl.PlanMake:
		*shape = o.a.Word
	case impl.PlanDrop:
		*shape = ""
	case impl.PlanCopy:
		*shape = s.shapes[o.a.Other]
	case impl.PlanUnwrap:
		*shape = strings.Join(words[:max(1, len(words)-1)], " ")
	case impl.PlanAsk:
		return m.assert(o, words, o.a.Face)
	case impl.PlanCall:
		return m.assert(o, words, wants[o.a.Call.Method])
	case impl.PlanWrap:
		if len(words) == 4 {
			return impl.End{}
		}
		if end := m.assert(o, words, needs); end.Code != impl.EndOK {
			return end
		}
		*shape += " " + o.a.Word
	}
	return impl.End{}
}

// assert takes a question mark and the number of a slot for the part that is given in it.
func (m *machine) assert(o order, words []string, want int) impl.End {
	if words[0][0] == '?' && len(words) == 1 {
		m.wants[words[0][1]-'0'] |= want
		return impl.End{}
	}
	had, _ := faceOfKind(words[0])
	for _, name := range words[1:] {
		_, had, _ = adapterOf(name)
	}
	if !setOf(had).offers(setOf(want)) {
		return impl.End{Code: impl.EndAssert, Place: o.place, Want: want, Had: had}
	}
	return impl.End{}
}

// found is all that runs of a plan from some shapes come to, for all inputs; of each place in which an assertion fails the least input.
type found struct {
	after    [][3]string
	failures []impl.Failure
	empties  []int
	least    map[int][]int
	wants    [3]int
	seen     map[any]bool
}

func nothingFound() *found {
	return &found{least: map[int][]int{}, seen: map[any]bool{}}
}

// isNew tells whether it is the first time that this is found.
func (f *found) isNew(what any) bool {
	seen := f.seen[what]
	f.seen[what] = true
	return !seen
}

func (f *found) add(end impl.End, shapes [3]string, input []int) {
	switch end.Code {
	case impl.EndOK:
		if f.isNew(shapes) {
			f.after = append(f.after, shapes)
		}
	case impl.EndEmpty:
		if f.isNew(end.Place) {
			f.empties = append(f.empties, end.Place)
		}
	case impl.EndAssert:
		failure := impl.Failure{Place: end.Place, Want: end.Want, Had: end.Had}
		if f.isNew(failure) {
			f.failures = append(f.failures, failure)
		}
		if least, ok := f.least[end.Place]; !ok || isLess(input, least) {
			f.least[end.Place] = input
		}
	}
}

func isLess(a, b []int) bool {
	if len(a) != len(b) {
		return len(a) < len(b)
	}
	for i := range a {
		if a[i] != b[i] {
			return a[i] < b[i]
		}
	}
	return false
}

// sort brings all that was found in the order of the document.
func (f *found) sort() *found {
	slices.Sort(f.empties)
	slices.SortFunc(f.failures, func(a, b impl.Failure) int {
		return 10000*(a.Place-b.Place) + 100*(a.Want-b.Want) + a.Had - b.Had
	})
	slices.SortFunc(f.after, func(a, b [3]string) int {
		for i := range a {
			if a[i] != b[i] {
				return strings.Compare(a[i], b[i])
			}
		}
		return 0
	})
	return f
}

// place returns a place with the least input of all, and false if there is none.
func (f *found) place() (int, bool) {
	place, ok := 0, false
	for at, input := range f.least {
		if !ok || isLess(input, f.least[place]) {
			place, ok = at, true
		}
	}
	return place, ok
}

// searched goes through all states of the machine, those first to which lesser inputs lead.
func searched(l []impl.Action, shapes [3]string) *found {
	type lead struct {
		s     machineState
		input []int
	}
	m, f := machineOf(l), nothingFound()
	ahead, seen := []lead{{machineState{shapes: shapes}, nil}}, map[machineState]bool{}
	for len(ahead) > 0 {
		s, end, ended := m.run(ahead[0].s)
		input := ahead[0].input
		ahead = ahead[1:]
		if ended {
			f.add(end, s.shapes, input)
			continue
		}
		if seen[s] {
			continue
		}
		seen[s] = true
		for n := range 4 {
			next, o := s, m.orders[s.at]
			next.at++
			if o.what == "loop" {
				next.rounds[o.level] = n
			} else if n%2 == 0 {
				next.at = o.to
			}
			ahead = append(ahead, lead{next, append(slices.Clone(input), n)})
		}
	}
	f.wants = m.wants
	return f.sort()
}

// slotsFrom returns the slots with which runs from shapes begin.
func slotsFrom(t *testing.T, shapes [3]string) []impl.Slot {
	t.Helper()
	recipes := [][]string{}
	for _, shape := range shapes {
		recipes = append(recipes, strings.Fields(shape))
	}
	slots, ok := impl.FillSlots(recipes)
	if !ok {
		t.Fatalf("%q are no shapes", shapes)
	}
	return slots
}

// eachRun performs a plan for each input of numbers from 0 to 3 of which it takes all and no others; false if there are more runs than that.
func eachRun(slots []impl.Slot, l []impl.Action, most int, use func(input []int, end impl.End, after []impl.Slot)) bool {
	inputs := [][]int{{}}
	for len(inputs) > 0 {
		input := inputs[len(inputs)-1]
		inputs = inputs[:len(inputs)-1]
		end, after, taken := impl.RunPlan(slots, l, input)
		if taken <= len(input) {
			use(input, end, after)
			continue
		}
		if len(inputs) > most {
			return false
		}
		if most--; most < 0 {
			return false
		}
		for n := range 4 {
			inputs = append(inputs, append(slices.Clone(input), n))
		}
	}
	return true
}

// performed finds the same by the runs themselves, if they are not too many.
func performed(t *testing.T, l []impl.Action, shapes [3]string, most int) (*found, bool) {
	t.Helper()
	f := nothingFound()
	ok := eachRun(slotsFrom(t, shapes), l, most, func(input []int, end impl.End, after []impl.Slot) {
		f.add(end, [3]string(impl.ShapesOf(after)), input)
	})
	return f.sort(), ok
}

// checkEnds holds what is told of a plan from some shapes against what was found.
func checkEnds(t *testing.T, l []impl.Action, shapes [3]string, f *found) {
	t.Helper()
	after := [][3]string{}
	for _, list := range impl.AfterPlan(l, shapes[:]) {
		after = append(after, [3]string(list))
	}
	if !slices.Equal(after, f.after) {
		t.Errorf("%q leaves %q from %q, not %q", textOfPlan(l), after, shapes, f.after)
	}
	if failures := impl.FailuresOf(l, shapes[:]); !slices.Equal(failures, f.failures) {
		t.Errorf("%q fails with %v from %q, not with %v", textOfPlan(l), failures, shapes, f.failures)
	}
	if empties := impl.EmptiesOf(l, shapes[:]); !slices.Equal(empties, f.empties) {
		t.Errorf("%q comes from %q to empty slots in %v, not in %v", textOfPlan(l), shapes, empties, f.empties)
	}
}

// checkWitnesses holds what is told of a plan with empty slots against what was found.
func checkWitnesses(t *testing.T, l []impl.Action, f *found) {
	t.Helper()
	place, fails := f.place()
	if got, ok := impl.Witness(l); ok != fails || !slices.Equal(got, f.least[place]) {
		t.Errorf("the witness of %q is %v, %t, not %v", textOfPlan(l), got, ok, f.least[place])
	}
	for at := -2; at < len(allActions(l))+2; at++ {
		want, wanted := f.least[at]
		if got, ok := impl.WitnessAt(l, at); ok != wanted || !slices.Equal(got, want) {
			t.Errorf("the witness of %q at %d is %v, %t, not %v", textOfPlan(l), at, got, ok, want)
		}
	}
	if impl.IsSafe(l) == fails {
		t.Errorf("%q is safe: %t", textOfPlan(l), !fails)
	}
	if got, want := impl.CheckLine(l), lineOfPlan(l, f); got != want {
		t.Errorf("%q is told as %q, not %q", textOfPlan(l), got, want)
	}
	sure := sureOf(l, f)
	if got := impl.SureOf(l); !slices.Equal(got, sure) {
		t.Errorf("in %q, %v are sure, not %v", textOfPlan(l), got, sure)
	}
	if got, want := impl.TrimPlan(l), leftOf(l, sure); !sameActions(got, want) {
		t.Errorf("%q is trimmed to %q, not %q", textOfPlan(l), textOfPlan(got), textOfPlan(want))
	}
}

func lineOfPlan(l []impl.Action, f *found) string {
	place, fails := f.place()
	if !fails {
		return "safe"
	}
	end, _, _ := ran(make([]impl.Slot, 3), l, f.least[place])
	line := textOfEnd(end)
	for i, n := range f.least[place] {
		line += []string{" for ", " "}[min(i, 1)] + strconv.Itoa(n)
	}
	return line
}

// sureOf goes through the places one by one, and asks of each action around it whether it is a PlanTry that has it in its A.
func sureOf(l []impl.Action, f *found) []int {
	sure, all := []int{}, allActions(l)
	for place, a := range all {
		tried := false
		for around, b := range all[:place] {
			tried = tried || b.Op == impl.PlanTry && place > around && place <= around+len(allActions(b.A))
		}
		_, fails := f.least[place]
		if a.Op == impl.PlanAsk && !tried && !fails && !slices.Contains(f.empties, place) {
			sure = append(sure, place)
		}
	}
	return sure
}

// leftOf returns the actions that are not in the places.
func leftOf(l []impl.Action, places []int) []impl.Action {
	at := 0
	var left func(l []impl.Action) []impl.Action
	left = func(l []impl.Action) []impl.Action {
		kept := []impl.Action{}
		for _, a := range l {
			in := slices.Contains(places, at)
			at++
			a.A = left(a.A)
			a.B = left(a.B)
			if !in {
				kept = append(kept, a)
			}
		}
		return kept
	}
	return left(l)
}

// checkPlan holds all that is told of a plan against the model, and against the runs if they are not too many; it tells whether they were not.
func checkPlan(t *testing.T, l []impl.Action, shapes [3]string) bool {
	t.Helper()
	f := searched(l, shapes)
	checkEnds(t, l, shapes, f)
	empty := searched(l, [3]string{})
	checkWitnesses(t, l, empty)
	runs, ok := performed(t, l, shapes, 300)
	if ok {
		checkEnds(t, l, shapes, runs)
	}
	others, few := performed(t, l, [3]string{}, 300)
	if few {
		checkWitnesses(t, l, others)
	}
	checkWants(t, l)
	return ok && few
}

func checkWants(t *testing.T, l []impl.Action) {
	t.Helper()
	f := searched(l, [3]string{"?0", "?1", "?2"})
	want, wanted := f.wants[:], len(f.failures) == 0 && isValidPlan(l) && !hasOp(l, impl.PlanUnwrap, impl.PlanTry)
	if !wanted {
		want = nil
	}
	if got, ok := impl.WantsOf(l); ok != wanted || !slices.Equal(got, want) {
		t.Errorf("%q wants %v, %t, not %v, %t", textOfPlan(l), got, ok, want, wanted)
	}
}
