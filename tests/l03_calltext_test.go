package tests

import (
	"math"
	"regexp"
	"strconv"
	"strings"
	"testing"

	"loop.example/g03016/impl"
)

// notCalls are calls of which one field is not valid.
func notCalls() []impl.Call {
	calls := []impl.Call{{}, {Key: "a"}, {Text: "a=1"}}
	for _, method := range []string{"start", "START", "Starts", "Star", " Start", "Start ", "Start\x00", "Run", "run", "keep", "Get a", "GetPut", "\xff", strings.Repeat("Get", 1<<16)} {
		calls = append(calls, impl.Call{Method: method})
	}
	for _, key := range []string{"", "A", "1", "a ", " a", "a b", "a=1", "-", "abcdefghi", "\xff", "a\n"} {
		calls = append(calls, impl.Call{Method: "Get", Key: key}, impl.Call{Method: "Put", Key: key, Value: 1})
	}
	for _, n := range []int{-1, 1000, 1001, math.MinInt, math.MaxInt} {
		calls = append(calls, impl.Call{Method: "Put", Key: "a", Value: n}, impl.Call{Method: "Hear", Value: n})
	}
	for _, method := range allMethods {
		key := ""
		if method == "Get" || method == "Put" {
			key = "a"
		} else {
			calls = append(calls, impl.Call{Method: method, Key: "a"}, impl.Call{Method: method, Key: "?"})
		}
		if method != "Put" && method != "Hear" {
			for _, n := range []int{1, 999, -1} {
				calls = append(calls, impl.Call{Method: method, Key: key, Value: n})
			}
		}
		if method != "Load" {
			for _, text := range []string{"-", "a=1", " ", "\x00"} {
				calls = append(calls, impl.Call{Method: method, Key: key, Text: text})
			}
		}
	}
	return calls
}

// textOfCall writes a valid call without the help of the program.
func textOfCall(x impl.Call) string {
	switch x.Method {
	case "Put":
		return "Put " + x.Key + " " + strconv.Itoa(x.Value)
	case "Get":
		return "Get " + x.Key
	case "Hear":
		return "Hear " + strconv.Itoa(x.Value)
	case "Load":
		return "Load " + x.Text
	}
	return x.Method
}

func TestWantOf(t *testing.T) {
	for method, want := range wants {
		if got := impl.WantOf(method); got != want {
			t.Errorf("WantOf(%q) = %d", method, got)
		}
	}
	for _, s := range []string{"", " ", "run", "keep", "start", "Start ", "Fly", "stone", "none", "\xff", strings.Repeat("Get", 1<<16)} {
		if got := impl.WantOf(s); got != 0 {
			t.Errorf("WantOf(%.40q) = %d", s, got)
		}
	}
}

func TestValidCallsAsTexts(t *testing.T) {
	for _, method := range allMethods {
		for _, x := range callsOf(method) {
			if !impl.IsCall(x) || impl.FormatCall(x) != textOfCall(x) {
				t.Errorf("%+v: %t, %q", x, impl.IsCall(x), impl.FormatCall(x))
			}
			if got, ok := impl.ParseCall(textOfCall(x)); !ok || got != x {
				t.Errorf("ParseCall(%q) = %+v, %t", textOfCall(x), got, ok)
			}
		}
	}
}

func TestFixedCallsAsTexts(t *testing.T) {
	for text, x := range map[string]impl.Call{
		"Start":            {Method: "Start"},
		"Stop":             {Method: "Stop"},
		"Get a":            {Method: "Get", Key: "a"},
		"Put a 3":          {Method: "Put", Key: "a", Value: 3},
		"Put abcdefgh 0":   {Method: "Put", Key: "abcdefgh"},
		"Put k2 999":       {Method: "Put", Key: "k2", Value: 999},
		"Tell":             {Method: "Tell"},
		"Hear 0":           {Method: "Hear"},
		"Hear 1":           {Method: "Hear", Value: 1},
		"Hear 999":         {Method: "Hear", Value: 999},
		"Load a=1":         {Method: "Load", Text: "a=1"},
		"Load ":            {Method: "Load"},
		"Load  ":           {Method: "Load", Text: " "},
		"Load -":           {Method: "Load", Text: "-"},
		"Load Put a 3":     {Method: "Load", Text: "Put a 3"},
		"Load a\n\x00\xff": {Method: "Load", Text: "a\n\x00\xff"},
		"Save":             {Method: "Save"},
		"Heal":             {Method: "Heal"},
	} {
		if !impl.IsCall(x) || impl.FormatCall(x) != text {
			t.Errorf("%+v: %t, %q", x, impl.IsCall(x), impl.FormatCall(x))
		}
		if got, ok := impl.ParseCall(text); !ok || got != x {
			t.Errorf("ParseCall(%q) = %+v, %t", text, got, ok)
		}
	}
}

func TestCallsThatAreNotValid(t *testing.T) {
	for _, x := range notCalls() {
		if isValidCall(x) {
			t.Fatal(x)
		}
		if impl.IsCall(x) || impl.FormatCall(x) != "" {
			t.Errorf("%.200v: %t, %q", x, impl.IsCall(x), impl.FormatCall(x))
		}
	}
}

func TestAllFieldsOfCalls(t *testing.T) {
	for _, method := range append([]string{"", "start", "Fly"}, allMethods...) {
		for _, key := range []string{"", "a", "k2", "A", "a b"} {
			for _, value := range []int{0, 1, 999, 1000, -1} {
				for _, text := range []string{"", "-", "a=1", "bad"} {
					x := impl.Call{Method: method, Key: key, Value: value, Text: text}
					want := ""
					if isValidCall(x) {
						want = textOfCall(x)
					}
					if impl.IsCall(x) != isValidCall(x) || impl.FormatCall(x) != want {
						t.Errorf("%+v: %t, %q", x, impl.IsCall(x), impl.FormatCall(x))
					}
				}
			}
		}
	}
}

var callForm = regexp.MustCompile(`(?s)^(Start|Stop|Tell|Save|Heal|Get [a-z][a-z0-9]{0,7}|Put [a-z][a-z0-9]{0,7} (0|[1-9][0-9]{0,2})|Hear (0|[1-9][0-9]{0,2})|Load .*)$`)

func checkParseCall(t *testing.T, s string) {
	t.Helper()
	x, ok := impl.ParseCall(s)
	if ok != callForm.MatchString(s) {
		t.Errorf("ParseCall(%.60q) = %.60v, %t", s, x, ok)
	}
	if !ok && x != (impl.Call{}) {
		t.Errorf("ParseCall(%.60q) is false with %.60v", s, x)
	}
	if ok && (!isValidCall(x) || textOfCall(x) != s) {
		t.Errorf("ParseCall(%.60q) = %.60v", s, x)
	}
}

func TestParseCallOfTextsThatAreNearlyCalls(t *testing.T) {
	for _, s := range []string{
		"", " ", "  ", "start", "START", "Star", "Starts", " Start", "Start ", "Start  ", "Start\n", "Start 1", "Start a", "Start Start", "StartStop",
		"Get", "Get ", "Get  a", "Get a ", "Get a b", "Get A", "Get 1", "Get abcdefghi", "Get\ta", "Get,a", "get a", "Get a 1", "Get \xff",
		"Put", "Put ", "Put a", "Put a ", "Put  3", "Put 3", "Put 3 a", "Put a  3", "Put a 3 ", "Put  a 3", "Put a 03", "Put a 00", "Put a +3",
		"Put a -3", "Put a 1000", "Put a 3 4", "Put A 3", "Put a x", "Put a 3\n", "Put a 3.0", "Put abcdefghi 3", "Put a=3", "put a 3", "Puta 3",
		"Hear", "Hear ", "Hear  1", "Hear 1 ", "Hear 01", "Hear 1000", "Hear -1", "Hear a", "Hear 1 1", "Hear1", "hear 1", "Hear 18446744073709551617",
		"Load", "load a=1", "Loada=1", "Load\ta=1", "Load\n", " Load ", "Tell ", "Tell 1", "Save ", "Save -", "Heal ", "Heal 0", "Fly", "run", "\xff",
		"Put " + strings.Repeat("a", 1<<18) + " 3", "Put a " + strings.Repeat("1", 1<<18), strings.Repeat(" ", 1<<18), strings.Repeat("Start ", 1<<16),
	} {
		if callForm.MatchString(s) {
			t.Fatal(s)
		}
		checkParseCall(t, s)
	}
}

func TestParseCallOfAllListsOfWords(t *testing.T) {
	words := append([]string{"", "a", "k2", "A", "0", "3", "03", "1000", "-", "a=1"}, allMethods...)
	listsOf(words, 4, func(l []string) { checkParseCall(t, strings.Join(l, " ")) })
	listsOf([]string{"Put", "Get", "Load", "Hear", " ", "a", "1", "0"}, 5, func(l []string) { checkParseCall(t, strings.Join(l, "")) })
}

func TestParseCallOfChangedTexts(t *testing.T) {
	for _, s := range []string{"Start", "Stop", "Get a", "Put k2 10", "Tell", "Hear 1", "Load a=1", "Load ", "Save", "Heal"} {
		for at := range len(s) + 1 {
			for _, b := range []string{" ", "a", "0", "1", "S", "=", "-", "\x00", "\n", "\xff"} {
				checkParseCall(t, s[:at]+b+s[at:])
				if at < len(s) {
					checkParseCall(t, s[:at]+b+s[at+1:])
				}
			}
			checkParseCall(t, s[:at])
			checkParseCall(t, s[at:])
			if at < len(s) {
				checkParseCall(t, s[:at]+s[at+1:])
			}
		}
	}
}
