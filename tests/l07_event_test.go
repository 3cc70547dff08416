package tests

import (
	"math"
	"slices"
	"strings"
	"testing"

	"loop.example/g03016/impl"
)

var notEventKinds = []int{0, 6, 7, -1, -3, 1 << 32, 1<<32 + 1, math.MinInt, math.MaxInt}

func checkIsEvent(t *testing.T, x impl.Event, want bool) {
	t.Helper()
	if got := impl.IsEvent(x); got != want || isValidEvent(x) != want {
		t.Errorf("IsEvent(%s) = %t, not %t", brief(x), got, want)
	}
	if text := impl.FormatEvent(x); (text != "") != want || want && text != textOfEvent(x) {
		t.Errorf("%s is written as %.200q", brief(x), text)
	}
}

func TestLimitsOfHosts(t *testing.T) {
	got := []int{impl.MaxLog, impl.HostStart, impl.HostStop, impl.HostCall, impl.HostHeal, impl.HostSwap}
	if !slices.Equal(got, []int{24, 1, 2, 3, 4, 5}) {
		t.Error(got)
	}
}

// invalidEvents are wrong in one field each.
func invalidEvents() []impl.Event {
	l := []impl.Event{{}, {Name: "a"}, {Kind: impl.HostStart}}
	call, recipe := impl.Call{Method: "Get", Key: "k"}, []string{"vault", "counts"}
	right := map[int]impl.Event{
		1: {Kind: 1, Name: "a"}, 2: {Kind: 2, Name: "a"}, 3: {Kind: 3, Name: "a", Call: call}, 4: {Kind: 4, Name: "a"}, 5: {Kind: 5, Name: "a", Recipe: recipe},
	}
	for kind := 1; kind <= 5; kind++ {
		for _, name := range append([]string{""}, notNames...) {
			x := right[kind]
			x.Name = name
			l = append(l, x)
		}
		for _, other := range notEventKinds {
			x := right[kind]
			x.Kind = other
			l = append(l, x)
		}
		if kind != impl.HostCall {
			for _, c := range []impl.Call{call, {Method: "Start"}, {Method: " "}, {Key: "k"}, {Value: 1}, {Value: -1}, {Text: "-"}} {
				x := right[kind]
				x.Call = c
				l = append(l, x)
			}
		}
		if kind != impl.HostSwap {
			for _, r := range [][]string{recipe, {"lamp"}, {""}, {"", ""}} {
				x := right[kind]
				x.Recipe = r
				l = append(l, x)
			}
		}
	}
	for _, c := range notCalls() {
		l = append(l, impl.Event{Kind: impl.HostCall, Name: "a", Call: c})
	}
	for _, r := range invalidRecipes() {
		l = append(l, impl.Event{Kind: impl.HostSwap, Name: "a", Recipe: r})
	}
	return append(l, impl.Event{Kind: impl.HostCall, Name: "a", Recipe: recipe}, impl.Event{Kind: impl.HostSwap, Name: "a", Call: call})
}

func TestEventsThatAreNotValid(t *testing.T) {
	for _, x := range invalidEvents() {
		checkIsEvent(t, x, false)
	}
}

func TestEventsOfEachSort(t *testing.T) {
	for _, name := range []string{"a", "z9", "abcdefgh", "start", "call", "swap", "lamp", "run"} {
		for _, kind := range []int{impl.HostStart, impl.HostStop, impl.HostHeal} {
			checkIsEvent(t, impl.Event{Kind: kind, Name: name}, true)
			checkIsEvent(t, impl.Event{Kind: kind, Name: name, Recipe: []string{}}, true)
		}
	}
	for _, method := range allMethods {
		for _, c := range callsOf(method) {
			x := impl.Event{Kind: impl.HostCall, Name: "m", Call: c}
			checkIsEvent(t, x, true)
			checkEventText(t, textOfEvent(x))
		}
	}
	for _, k := range kinds {
		listsOf(append(adapterNames(), "none"), 3, func(l []string) {
			x := impl.Event{Kind: impl.HostSwap, Name: "m", Recipe: append([]string{k.name}, l...)}
			checkIsEvent(t, x, isValidEvent(x))
			checkEventText(t, textOfEvent(x))
		})
	}
}

// checkEventText holds what is read from a text against the model, and writes again what is an event.
func checkEventText(t *testing.T, s string) {
	t.Helper()
	want, wanted := eventOfText(s)
	x, ok := impl.ParseEvent(s)
	if ok != wanted || !sameEvents(x, want) {
		t.Errorf("ParseEvent(%.200q) = %s, %t, not %s, %t", s, brief(x), ok, brief(want), wanted)
	}
	if wanted && (impl.FormatEvent(want) != s || textOfEvent(want) != s) {
		t.Errorf("%s is written as %.200q", brief(want), impl.FormatEvent(want))
	}
}

func TestFixedEventsAsTexts(t *testing.T) {
	for text, x := range map[string]impl.Event{
		"start a":                        {Kind: 1, Name: "a"},
		"stop abcdefgh":                  {Kind: 2, Name: "abcdefgh"},
		"start start":                    {Kind: 1, Name: "start"},
		"call a Put k 3":                 {Kind: 3, Name: "a", Call: impl.Call{Method: "Put", Key: "k", Value: 3}},
		"call call Start":                {Kind: 3, Name: "call", Call: impl.Call{Method: "Start"}},
		"call k2 Get a":                  {Kind: 3, Name: "k2", Call: impl.Call{Method: "Get", Key: "a"}},
		"call a Hear 0":                  {Kind: 3, Name: "a", Call: impl.Call{Method: "Hear"}},
		"call a Load ":                   {Kind: 3, Name: "a", Call: impl.Call{Method: "Load"}},
		"call a Load a=1,b=20":           {Kind: 3, Name: "a", Call: impl.Call{Method: "Load", Text: "a=1,b=20"}},
		"call a Load  x \n; y":           {Kind: 3, Name: "a", Call: impl.Call{Method: "Load", Text: " x \n; y"}},
		"heal heal":                      {Kind: 4, Name: "heal"},
		"swap b vault counts":            {Kind: 5, Name: "b", Recipe: []string{"vault", "counts"}},
		"swap lamp lamp":                 {Kind: 5, Name: "lamp", Recipe: []string{"lamp"}},
		"swap a robot plain plain plain": {Kind: 5, Name: "a", Recipe: []string{"robot", "plain", "plain", "plain"}},
	} {
		checkIsEvent(t, x, true)
		if got := impl.FormatEvent(x); got != text {
			t.Errorf("FormatEvent(%v) = %q", x, got)
		}
		if got, ok := impl.ParseEvent(text); !ok || !sameEvents(got, x) {
			t.Errorf("ParseEvent(%q) = %v, %t", text, got, ok)
		}
		checkEventText(t, text)
	}
}

func TestParseEventRefusesWhatIsNearlyOne(t *testing.T) {
	for _, s := range []string{
		"", " ", "a", "start", "start ", "stop", "stop ", "heal", "heal ", "call", "call ", "swap", "swap ", "starta", "start\ta", "start\na", "start:a", "start: a",
		" start a", "start  a", "start a ", "start a\n", "start a\x00", "\nstart a", "start a b", "start a a", "start a start a", "start a; start b", "start a, b",
		"stop a 1", "stop a Stop", "stop  a", "stop a ", "heal a Heal", "heal  a", "heal a ", "heal a lamp", "start a lamp", "start a Start",
		"Start a", "START a", "begin a", "run a", "up a", "shut a", "1 a", "3 a Start", "event start a", "none a", "put a k 3", "starts a", "star a", "swaps a lamp",
		"start A", "start 1", "start 2k", "start a-b", "start abcdefghi", "start \xff", "stop a:", "heal -", "call A Start", "swap A lamp",
		"call a", "call a ", "call a  Start", "call  a Start", "call a Start ", "call a  ", "call a start", "call a Fly", "call a run", "call Start", "call Start a",
		"call a Get", "call a Get ", "call a Get K", "call a Get k k", "call a Get  k", "call a Get k ", "call a Put", "call a Put k", "call a Put k ", "call a Put 3", "call a Put k  3",
		"call a Put k 03", "call a Put k -1", "call a Put k 1000", "call a Put k 3 3", "call a Put k +3", "call a Hear", "call a Hear ", "call a Hear 01", "call a Hear 1000", "call a Load",
		"call a Start Stop", "call a Start; Stop", "call a Tell 0", "call a Save -", "call a Heal a", "call a lamp", "call a b Start", "call a vault counts",
		"swap a", "swap a ", "swap a  ", "swap a  lamp", "swap  a lamp", "swap a lamp ", "swap a Lamp", "swap a none", "swap a counts", "swap a counts vault", "swap a lamp lamp",
		"swap a lamp reads", "swap a stone runs", "swap a vault  counts", "swap a vault counts ", "swap a vault, counts", "swap a vault+counts", "swap a vault counts keeps twice",
		"swap a robot runs runs runs runs", "swap a robot plain runs", "swap a b lamp", "swap a Start", "swap lamp", "swap lamp a", "swap a lamp\n",
	} {
		if x, ok := impl.ParseEvent(s); ok || !sameEvents(x, impl.Event{}) {
			t.Errorf("ParseEvent(%q) = %v, %t", s, x, ok)
		}
		checkEventText(t, s)
	}
}

// Each text that is made of an event's text by a change in one place is read as what it is then.
func TestParseEventOfChangedTexts(t *testing.T) {
	for _, s := range []string{"start a", "stop abcdefgh", "call a Put k 3", "call k2 Get kk", "call a Hear 10", "call a Load a=1", "call a Tell", "heal a0", "swap b vault counts", "swap b lamp"} {
		for at := range len(s) + 1 {
			for _, b := range []string{" ", "a", "A", "0", "1", ":", ";", "=", "\n", "\x00", "\xff", " a", "call ", " lamp", " runs"} {
				checkEventText(t, s[:at]+b+s[at:])
				if at < len(s) {
					checkEventText(t, s[:at]+b+s[at+1:])
				}
			}
			for end := at; end <= len(s); end++ {
				checkEventText(t, s[:at]+s[end:])
				checkEventText(t, s[at:end])
			}
		}
	}
}

func TestParseEventOfAllListsOfWords(t *testing.T) {
	words := []string{"start", "stop", "call", "heal", "swap", "a", "robot", "runs", "Start", "Get", "Put", "Load", "3", ""}
	listsOf(words, 4, func(l []string) { checkEventText(t, strings.Join(l, " ")) })
}

func TestParseEventOfVeryLongTexts(t *testing.T) {
	for _, part := range []string{"a", " ", "start ", "call ", "swap ", "a ", " runs", "robot ", "Put ", "9", "Load "} {
		long := strings.Repeat(part, 1<<17)
		for _, s := range []string{long, "start " + long, "call " + long, "call a " + long, "call a Put k " + long, "call a Get " + long, "swap " + long, "swap a " + long, "swap a robot " + long, "swap a robot" + long, "heal a" + long} {
			if x, ok := impl.ParseEvent(s); ok != (s == "call a "+long && part == "Load ") || !ok && !sameEvents(x, impl.Event{}) {
				t.Errorf("ParseEvent(%.60q) = %s, %t", s, brief(x), ok)
			}
		}
		checkEventText(t, "call a Load "+long)
	}
}
