package tests

import (
	"math/rand"
	"slices"
	"strconv"
	"strings"
	"testing"

	"loop.example/g03016/impl"
)

// checkPlanText holds what is read from a text against the model, and writes again what is a plan.
func checkPlanText(t *testing.T, s string) {
	t.Helper()
	want, wanted := planOfText(s)
	l, ok := impl.ParsePlan(s)
	if ok != wanted || !sameActions(l, want) {
		t.Errorf("ParsePlan(%.300q) = %s, %t, not %s, %t", s, brief(l), ok, brief(want), wanted)
	}
	if wanted && (impl.FormatPlan(want) != s || textOfPlan(want) != s) {
		t.Errorf("%s is written as %.300q, not %.300q", brief(want), impl.FormatPlan(want), s)
	}
}

func TestFixedPlansAsTexts(t *testing.T) {
	put := impl.Call{Method: "Put", Key: "k", Value: 3}
	for text, l := range map[string][]impl.Action{
		"nothing":           {},
		"make 0 vault":      {{Op: 1, Word: "vault"}},
		"make 2 stone":      {{Op: 1, Slot: 2, Word: "stone"}},
		"wrap 0 counts":     {{Op: 2, Word: "counts"}},
		"unwrap 0":          {{Op: 3}},
		"unwrap 1":          {{Op: 3, Slot: 1}},
		"copy 0 from 1":     {{Op: 4, Other: 1}},
		"copy 2 from 0":     {{Op: 4, Slot: 2}},
		"drop 0":            {{Op: 5}},
		"drop 2":            {{Op: 5, Slot: 2}},
		"ask 0 keep+tell":   {{Op: 6, Face: 6}},
		"ask 1 none":        {{Op: 6, Slot: 1}},
		"ask 2 heal":        {{Op: 6, Slot: 2, Face: 32}},
		"call 0 Put k 3":    {{Op: 7, Call: put}},
		"call 1 Start":      {{Op: 7, Slot: 1, Call: impl.Call{Method: "Start"}}},
		"call 2 Get abc":    {{Op: 7, Slot: 2, Call: impl.Call{Method: "Get", Key: "abc"}}},
		"call 0 Hear 0":     {{Op: 7, Call: impl.Call{Method: "Hear"}}},
		"call 0 Load ":      {{Op: 7, Call: impl.Call{Method: "Load"}}},
		"call 0 Load -":     {{Op: 7, Call: impl.Call{Method: "Load", Text: "-"}}},
		"call 0 Load a=1":   {{Op: 7, Call: impl.Call{Method: "Load", Text: "a=1"}}},
		"if { } else { }":   {{Op: 8}},
		"loop { }":          {{Op: 9}},
		"try { } else { }":  {{Op: 10}},
		"loop { drop 0 }":   {loopOf(drops(1)...)},
		"drop 0; drop 0":    {{Op: 5}, {Op: 5}},
		"loop { }; drop 0":  {{Op: 9}, {Op: 5}},
		"loop { loop { } }": {loopOf(loopOf())},
		"if { drop 0 } else { call 0 Put k 3; make 1 lamp }":  {ifOf(drops(1), []impl.Action{{Op: 7, Call: put}, {Op: 1, Slot: 1, Word: "lamp"}})},
		"try { } else { drop 0 }; unwrap 1":                   {tryOf(nil, drops(1)), {Op: 3, Slot: 1}},
		"loop { call 0 Load  }":                               {loopOf(impl.Action{Op: 7, Call: impl.Call{Method: "Load"}})},
		"call 0 Load ; call 1 Load ":                          {{Op: 7, Call: impl.Call{Method: "Load"}}, {Op: 7, Slot: 1, Call: impl.Call{Method: "Load"}}},
		"if { call 0 Load  } else { call 0 Load ; drop 0 }":   {ifOf([]impl.Action{{Op: 7, Call: impl.Call{Method: "Load"}}}, []impl.Action{{Op: 7, Call: impl.Call{Method: "Load"}}, {Op: 5}})},
		"try { if { loop { } } else { } } else { loop { } }":  {tryOf([]impl.Action{ifOf([]impl.Action{loopOf()}, nil)}, []impl.Action{loopOf()})},
		"if { if { } else { } } else { if { } else { } }":     {ifOf([]impl.Action{{Op: 8}}, []impl.Action{{Op: 8}})},
		"loop { loop { drop 0 } }; try { drop 0 } else { }":   {loopOf(loopOf(drops(1)...)), tryOf(drops(1), nil)},
		"loop { drop 0; loop { drop 0 }; drop 0 }; loop { }":  {loopOf(impl.Action{Op: 5}, loopOf(drops(1)...), impl.Action{Op: 5}), loopOf()},
		"if { } else { drop 0 }; if { drop 0 } else { }":      {ifOf(nil, drops(1)), ifOf(drops(1), nil)},
		"call 0 Load a=1,b=20,c=3,d=999; ask 0 run+keep+save": {{Op: 7, Call: impl.Call{Method: "Load", Text: "a=1,b=20,c=3,d=999"}}, {Op: 6, Face: 19}},
	} {
		if got := impl.FormatPlan(l); got != text {
			t.Errorf("FormatPlan(%s) = %q", brief(l), got)
		}
		if got, ok := impl.ParsePlan(text); !ok || !sameActions(got, l) {
			t.Errorf("ParsePlan(%q) = %s, %t", text, brief(got), ok)
		}
		checkPlanText(t, text)
	}
}

func TestTextsOfEachAction(t *testing.T) {
	for slot := range 3 {
		number := strconv.Itoa(slot)
		for _, k := range kinds {
			checkPlanText(t, "make "+number+" "+k.name)
		}
		for _, a := range adapters {
			checkPlanText(t, "wrap "+number+" "+a.name)
		}
		for face := range 64 {
			checkPlanText(t, "ask "+number+" "+textOfFace(face))
		}
		for other := range 4 {
			checkPlanText(t, "copy "+number+" from "+strconv.Itoa(other))
		}
		for _, method := range allMethods {
			for _, x := range callsOf(method) {
				checkPlanText(t, "call "+number+" "+textOfCall(x))
				checkPlanText(t, "loop { call "+number+" "+textOfCall(x)+" }; drop "+number)
			}
		}
	}
}

func TestParsePlanRefusesWhatIsNearlyOne(t *testing.T) {
	for _, s := range []string{
		"", " ", ";", "; ", "{", "}", "{ }", "{}", " }", "{ ", "{ drop 0 }", "Nothing", "nothing ", " nothing", "nothing; nothing", "nothing; drop 0", "drop 0; nothing", "no plan", "none", "loop { nothing }",
		"make", "make ", "make 0", "make 0 ", "make lamp", "make lamp 0", "make 3 lamp", "make -1 lamp", "make 00 lamp", "make 0x lamp", "make 0  lamp", "make  0 lamp", "make 0 lamp ", " make 0 lamp", "make 0 Lamp", "make 0 counts", "make 0 lamps",
		"make 0 lamp runs", "Make 0 lamp", "make 0 lamp;", "make 0 lamp; ", "; make 0 lamp", "make 0 lamp;make 0 lamp", "make 0 lamp ; make 0 lamp", "make 0 lamp;  make 0 lamp", "make 0 lamp; ; make 0 lamp", "make 0 lamp\n", "make 0\tlamp", "make 999 lamp",
		"make 0 lamp, make 1 lamp", "make 0 lamp make 1 lamp", "make\x000 lamp", "make 0 none", "make 0 nothing", "make 18446744073709551616 lamp",
		"wrap 0", "wrap 0 ", "wrap 0 lamp", "wrap 3 plain", "wrap 0 plain plain", "wrap 0 Plain", "wrap plain", "wrap 0  plain", "wrap 0 plain ",
		"unwrap", "unwrap ", "unwrap 3", "unwrap 0 ", "unwrap  0", "unwrap 0 plain", "unwrap 0 0", "unwrap a", "un wrap 0", "drop", "drop 3", "drop 0 ", "drop 0 1", "drop  0", "drop -0", "drop +0", "drop 0.", "drops 0",
		"copy 0", "copy 0 from", "copy 0 from ", "copy 0 from 0", "copy 1 from 1", "copy 0 from 3", "copy 3 from 0", "copy 0 1", "copy 0 to 1", "copy 0 from 1 ", "copy 0  from 1", "copy 0 from  1", "copy 0 from 01", "copy 0 from from 1", "copy from 1", "copy 0 From 1", "copy 0 from 1 from 2", "copy 0 from -1",
		"ask 0", "ask 0 ", "ask 0 lamp", "ask 0 run ", "ask 0 keep+run", "ask 0 run+run", "ask 0 run keep", "ask 0 run + keep", "ask 0 +run", "ask 0 0", "ask 0 63", "ask 0 none+run", "ask 3 run", "ask run", "ask 0 Run", "ask 0  run",
		"call 0", "call 0 ", "call Start", "call 0 start", "call 3 Start", "call 0 Start ", "call 0  Start", "call 0 Start Stop", "call 0 Put k", "call 0 Put k 03", "call 0 Put k 1000", "call 0 Put k -1", "call 0 Put K 1", "call 0 Get", "call 0 Get ", "call 0 Hear", "call 0 Hear 01",
		"call 0 Load", "call 0 Load  ", "call 0 Load a", "call 0 Load a=1 ", "call 0 Load  a=1", "call 0 Load b=1,a=1", "call 0 Load a=1,", "call 0 Load a=01", "call 0 Load none", "call 0 Load --", "call 0 Load }", "call 0 Load {", "call 0 Load ;", "call 0 Load; drop 0", "call 0 Fly", "call a Start", "call 0 lamp",
		"if", "if ", "if { }", "if { } else", "if { } else ", "if { } else {", "if { } else { ", "if { } else }", "if { } else {}", "if {} else { }", "if {  } else { }", "if { } else {  }", "if { }else { }", "if { } else{ }", "if { } { }", "if { } Else { }", "if  { } else { }", "if { }  else { }", "if { } else  { }",
		"if { } else { } ", " if { } else { }", "if{ } else { }", "if { } else { } else { }", "if { } else { };", "if { }; else { }", "if { drop 0 }", "if { drop 0 } else drop 1", "if drop 0 else { }", "if { drop 0 else { }", "if drop 0 } else { }", "if { drop 0; } else { }", "if { ; drop 0 } else { }",
		"if { drop 0} else { }", "if {drop 0 } else { }", "if { drop 0  } else { }", "if {  drop 0 } else { }", "if { } else { drop 0", "if { } else { drop 0 ", "if { } else drop 0 }", "if { else } { }", "If { } else { }", "if 0 { } else { }", "else { }", "if { } or { }",
		"loop", "loop ", "loop {", "loop { ", "loop {}", "loop {  }", "loop }", "loop { } }", "loop { { } }", "loop { } else { }", "loop { drop 0", "loop { drop 0 ", "loop { drop 0}", "loop {drop 0 }", "loop drop 0", "loop { drop 0 } drop 1", "loop { drop 0 }drop 1", "loop { drop 0 };drop 1", "loop { drop 0 } ; drop 1", "loop { } drop 0", "loop { }drop 0",
		"loop { } loop { }", "loop { loop { }", "loop { loop { } drop 0 }", "loop { loop { } }; }", "loop { }; }", "loop 3 { }", "loop  { }", "Loop { }", "loop { drop 0;drop 1 }", "loop { drop 0 ; drop 1 }", "loop { }; ", "loop { };", "loop { drop 0 }; ", "loop { }  ; drop 0", "loops { }", "loop { if { } }", "loop { drop 0 } }", "loop { drop 0 }  }",
		"try", "try ", "try { }", "try { } else", "try { } else {", "try { } else { } else { }", "try { } catch { }", "try { drop 0 }", "try { drop 0 } else { drop 1", "try { drop 0 } { drop 1 }", "try {} else {}", "Try { } else { }", "try { } else { }drop 0", "try { } else { } drop 0", "try { ask 0 run }; drop 0 else { }",
		"loop { loop { loop { loop { } } } }", "loop { loop { loop { drop 0 } } }", "if { } else { if { } else { if { } else { drop 0 } } }", "\xff", "drop \xff", "loop { \xff }", "make 0 \xff",
	} {
		if l, ok := impl.ParsePlan(s); ok || len(l) > 0 {
			t.Errorf("ParsePlan(%q) = %s, %t", s, brief(l), ok)
		}
		checkPlanText(t, s)
	}
}

// Each text that is made of a plan's text by a change in one place is read as what it is then.
func TestParsePlanOfChangedTexts(t *testing.T) {
	for _, s := range []string{
		"make 0 drawer; if { wrap 0 counts } else { }; try { ask 0 tell } else { make 1 lamp }; loop { wrap 0 keeps }", "copy 0 from 1; drop 2; unwrap 1; call 0 Put k 3",
		"loop { call 0 Load  }; call 1 Load ", "if { loop { try { } else { } } } else { drop 1 }", "nothing", "call 0 Load a=1,b=2; ask 1 none",
	} {
		for at := range len(s) + 1 {
			for _, b := range []string{" ", "0", "3", ";", "; ", "{", "}", "{ ", " }", "{ } ", "\n", "\x00", "\xff", "drop 1; ", "; drop 1", " else { }", "loop { } "} {
				checkPlanText(t, s[:at]+b+s[at:])
				if at < len(s) {
					checkPlanText(t, s[:at]+b+s[at+1:])
				}
			}
			for end := at; end <= len(s); end++ {
				checkPlanText(t, s[:at]+s[end:])
				checkPlanText(t, s[at:end])
			}
		}
	}
}

func TestParsePlanOfAllListsOfPieces(t *testing.T) {
	listsOf([]string{"drop 0", "; ", "loop { ", "if { ", " }", " } else { ", "{ }", " else ", "try "}, 6, func(l []string) { checkPlanText(t, strings.Join(l, "")) })
	listsOf([]string{"make", "copy", "ask", "call", "0", "1", "from", "run", "lamp", "Start", "Load", "", "loop", "{", "}"}, 4, func(l []string) { checkPlanText(t, strings.Join(l, " ")) })
}

func TestParsePlanAtTheLimitOfActionsAndDepth(t *testing.T) {
	for size := 1; size < 40; size++ {
		checkPlanText(t, strings.Repeat("drop 0; ", size-1)+"drop 0")
		checkPlanText(t, "loop { "+strings.Repeat("drop 0; ", size-1)+"drop 0 }")
		checkPlanText(t, strings.Repeat("loop { ", size)+"drop 0"+strings.Repeat(" }", size))
		checkPlanText(t, strings.Repeat("loop { ", size-1)+"loop { }"+strings.Repeat(" }", size-1))
		if _, ok := impl.ParsePlan(strings.Repeat("drop 0; ", size-1) + "drop 0"); ok != (size <= 14) {
			t.Errorf("%d actions are a plan: %t", size, ok)
		}
	}
}

// longPlan has full calls of 63 bytes each, and a last one whose key has that many bytes.
func longPlan(full, key int) []impl.Action {
	call := impl.Action{Op: impl.PlanCall, Call: impl.Call{Method: "Load", Text: "abcdefga=999,abcdefgb=999,abcdefgc=999,abcdefgd=999"}}
	last := impl.Action{Op: impl.PlanCall, Call: impl.Call{Method: "Load", Text: strings.Repeat("a", key) + "=1"}}
	return append(slices.Repeat([]impl.Action{call}, full), last)
}

// A plan may be written as a text that is too long to be read.
func TestTextsAtTheLimitOfTheirLength(t *testing.T) {
	for full := range 14 {
		for key := 1; key <= 8; key++ {
			l := longPlan(full, key)
			text := textOfPlan(l)
			if got := impl.FormatPlan(l); got != text || len(text) != 65*full+14+key {
				t.Errorf("%s is written as %q", brief(l), got)
			}
			got, ok := impl.ParsePlan(text)
			if ok != (len(text) <= 600) || ok && !sameActions(got, l) || !ok && len(got) > 0 {
				t.Errorf("ParsePlan of %d bytes: %s, %t", len(text), brief(got), ok)
			}
			checkPlanText(t, text)
		}
	}
	if got := impl.FormatPlan(longPlan(9, 1)); len(got) != 600 {
		t.Error(len(got))
	}
}

func TestParsePlanOfVeryLongTexts(t *testing.T) {
	for _, part := range []string{"a", " ", "drop 0; ", "loop { ", " }", "if { } else { ", "{ }", "if ", "else ", "; ", "0", "{", "loop ", "call 0 Load "} {
		long := strings.Repeat(part, 1<<17)
		for _, s := range []string{long, "drop 0; " + long, "loop { " + long, "make 0 lamp" + long, long + "drop 0", "nothing" + long, "call 0 Load " + long} {
			if l, ok := impl.ParsePlan(s); ok || len(l) > 0 {
				t.Errorf("ParsePlan(%.60q) = %s, %t", s, brief(l), ok)
			}
		}
		for size := 580 / len(part); size*len(part) <= 620; size++ {
			checkPlanText(t, strings.Repeat(part, size))
		}
	}
}

func TestManyPlansAsTexts(t *testing.T) {
	d := draw{rand.New(rand.NewSource(888))}
	long := 0
	for range 8000 {
		l := d.plan(1+d.Intn(18), 1+d.Intn(4))
		text := impl.FormatPlan(l)
		if !isValidPlan(l) {
			if text != "" || impl.IsPlan(l) {
				t.Errorf("%s is written as %q", brief(l), text)
			}
			continue
		}
		if text != textOfPlan(l) || !impl.IsPlan(l) {
			t.Errorf("%s is written as %q", brief(l), text)
		}
		checkPlanText(t, text)
		if len(allActions(l)) > 9 {
			long++
		}
	}
	if long < 500 {
		t.Error(long)
	}
}
