package tests

import (
	"slices"
	"strings"
	"testing"

	"loop.example/g03016/impl"
)

func checkCall(t *testing.T, p impl.Core, x impl.Call) {
	t.Helper()
	wantCore, wantReply := answer(p, x)
	q, r := impl.CallCore(p, x)
	if !sameCores(q, wantCore) || r != wantReply {
		t.Errorf("%+v of %+v\nis  %+v, %+v\nnot %+v, %+v", x, p, q, r, wantCore, wantReply)
	}
}

// Promise 3: a call fails its assertion exactly if the part does not offer what it wants, and changes nothing then.
func TestEachMethodOfEachKind(t *testing.T) {
	for _, k := range kinds {
		for _, method := range allMethods {
			offered := slices.Contains(strings.Fields(k.methods), method)
			if got := impl.Offers(k.face, impl.WantOf(method)); got != offered {
				t.Errorf("a %s offers %s: %t", k.name, method, got)
			}
			for _, p := range coresOf(k.name) {
				for _, x := range callsOf(method) {
					checkAssertion(t, p, x, offered)
				}
			}
		}
	}
}

func checkAssertion(t *testing.T, p impl.Core, x impl.Call, offered bool) {
	t.Helper()
	had, _ := faceOfKind(p.Kind)
	q, r := impl.CallCore(p, x)
	if offered && (r.Code == impl.ReplyAssert || r.Want != 0 || r.Had != 0) {
		t.Errorf("%+v of %+v is %+v", x, p, r)
	}
	if !offered && (r != impl.Reply{Code: impl.ReplyAssert, Want: wants[x.Method], Had: had}) {
		t.Errorf("%+v of %+v is %+v", x, p, r)
	}
	if !offered && !sameCores(q, p) {
		t.Errorf("%+v of %+v leaves %+v", x, p, q)
	}
}

func TestCallsOfAllCores(t *testing.T) {
	for _, k := range kinds {
		for _, p := range coresOf(k.name) {
			for _, method := range allMethods {
				for _, x := range callsOf(method) {
					checkCall(t, p, x)
				}
			}
		}
	}
}

func TestCallsThatAreBad(t *testing.T) {
	check := func(p impl.Core, x impl.Call) {
		t.Helper()
		q, r := impl.CallCore(p, x)
		if r != (impl.Reply{Code: impl.ReplyBad}) || !sameCores(q, p) {
			t.Errorf("%.200v of %.200v is %+v, %.200v", x, p, r, q)
		}
	}
	for _, p := range invalidCores() {
		for _, method := range allMethods {
			check(p, callsOf(method)[0])
		}
		check(p, impl.Call{})
	}
	for _, x := range notCalls() {
		for _, k := range kinds {
			check(impl.Core{Kind: k.name}, x)
		}
		check(impl.Core{Kind: "lamp", Broken: true, Count: 2}, x)
		check(impl.Core{Kind: "robot", On: true, Cells: []impl.Cell{{Key: "a", Value: 1}}}, x)
	}
}

// step is a call as a text, the reply as a text, and the core behind it: its state, Cells and Count.
type step struct {
	call, reply, state, cells string
	count                     int
}

func stateOf(p impl.Core) string {
	switch {
	case p.On && p.Broken:
		return "on and broken"
	case p.On:
		return "on"
	case p.Broken:
		return "broken"
	}
	return "off"
}

func walk(t *testing.T, p impl.Core, steps []step) {
	t.Helper()
	for _, s := range steps {
		x, ok := impl.ParseCall(s.call)
		if !ok {
			t.Fatal(s.call)
		}
		kind := p.Kind
		q, r := impl.CallCore(p, x)
		if got := impl.FormatReply(r); got != s.reply {
			t.Errorf("%s: %s is %q, not %q", kind, s.call, got, s.reply)
		}
		if q.Kind != kind || stateOf(q) != s.state || impl.FormatCells(q.Cells) != s.cells || q.Count != s.count {
			t.Errorf("%s: %s leaves %+v", kind, s.call, q)
		}
		p = q
	}
}

func TestStartAndStop(t *testing.T) {
	walk(t, impl.Core{Kind: "lamp"}, []step{
		{"Stop", "off", "off", "-", 0},
		{"Start", "ok 0", "on", "-", 1},
		{"Stop", "ok 0", "off", "-", 1},
		{"Stop", "off", "off", "-", 1},
		{"Start", "ok 0", "on", "-", 2},
		{"Start", "broken", "broken", "-", 2},
		{"Start", "broken", "broken", "-", 2},
		{"Stop", "broken", "broken", "-", 2},
		{"Heal", "assert heal of run", "broken", "-", 2},
	})
}

func TestBrokenCores(t *testing.T) {
	cells := []impl.Cell{{Key: "a", Value: 1}}
	walk(t, impl.Core{Kind: "robot", Broken: true, Cells: cells, Count: 5}, []step{
		{"Start", "broken", "broken", "a=1", 5},
		{"Stop", "broken", "broken", "a=1", 5},
		{"Get a", "broken", "broken", "a=1", 5},
		{"Get z", "broken", "broken", "a=1", 5},
		{"Put a 2", "broken", "broken", "a=1", 5},
		{"Tell", "ok 5", "broken", "a=1", 5},
		{"Hear 0", "broken", "broken", "a=1", 5},
		{"Hear 1", "broken", "broken", "a=1", 5},
		{"Hear 2", "broken", "broken", "a=1", 5},
		{"Load -", "broken", "broken", "a=1", 5},
		{"Load bad", "broken", "broken", "a=1", 5},
		{"Save", "broken", "broken", "a=1", 5},
		{"Heal", "ok 0", "off", "a=1", 5},
		{"Save", "ok 0 a=1", "off", "a=1", 5},
		{"Start", "ok 0", "on", "a=1", 6},
		{"Heal", "ok 0", "off", "a=1", 6},
		{"Heal", "ok 0", "off", "a=1", 6},
	})
	walk(t, impl.Core{Kind: "meter", Broken: true, Count: 9}, []step{
		{"Tell", "ok 9", "broken", "-", 9},
		{"Start", "broken", "broken", "-", 9},
		{"Stop", "broken", "broken", "-", 9},
		{"Get a", "assert keep of run+tell", "broken", "-", 9},
	})
	walk(t, impl.Core{Kind: "drawer", Broken: true}, []step{
		{"Get a", "broken", "broken", "-", 0},
		{"Put a 1", "broken", "broken", "-", 0},
		{"Tell", "assert tell of run+keep", "broken", "-", 0},
		{"Heal", "assert heal of run+keep", "broken", "-", 0},
	})
}

func TestGetAndPutWhileOff(t *testing.T) {
	for _, kind := range []string{"drawer", "vault", "robot"} {
		walk(t, impl.Core{Kind: kind, Cells: []impl.Cell{{Key: "a", Value: 1}}, Count: 3}, []step{
			{"Get a", "off", "off", "a=1", 3},
			{"Get b", "off", "off", "a=1", 3},
			{"Put a 2", "off", "off", "a=1", 3},
			{"Put b 2", "off", "off", "a=1", 3},
			{"Start", "ok 0", "on", "a=1", 4},
			{"Get a", "ok 1", "on", "a=1", 4},
			{"Get b", "none", "on", "a=1", 4},
			{"Put a 2", "ok 1", "on", "a=2", 5},
			{"Stop", "ok 0", "off", "a=2", 5},
			{"Get a", "off", "off", "a=2", 5},
		})
	}
	full := []impl.Cell{{Key: "a", Value: 1}, {Key: "b", Value: 1}, {Key: "c", Value: 1}, {Key: "d", Value: 1}}
	walk(t, impl.Core{Kind: "drawer", Cells: full}, []step{{"Put e 1", "off", "off", "a=1,b=1,c=1,d=1", 0}})
}

func TestGetAndPutOfAShelf(t *testing.T) {
	walk(t, impl.Core{Kind: "shelf"}, []step{
		{"Get b", "none", "off", "-", 0},
		{"Put c 3", "ok 1", "off", "c=3", 1},
		{"Put a 1", "ok 2", "off", "a=1,c=3", 2},
		{"Put b 2", "ok 3", "off", "a=1,b=2,c=3", 3},
		{"Put b 0", "ok 3", "off", "a=1,b=0,c=3", 4},
		{"Get b", "ok 0", "off", "a=1,b=0,c=3", 4},
		{"Get b0", "none", "off", "a=1,b=0,c=3", 4},
		{"Put b0 999", "ok 4", "off", "a=1,b=0,b0=999,c=3", 5},
		{"Get b0", "ok 999", "off", "a=1,b=0,b0=999,c=3", 5},
		{"Put d 1", "full", "off", "a=1,b=0,b0=999,c=3", 5},
		{"Put aa 1", "full", "off", "a=1,b=0,b0=999,c=3", 5},
		{"Put c 4", "ok 4", "off", "a=1,b=0,b0=999,c=4", 6},
		{"Get d", "none", "off", "a=1,b=0,b0=999,c=4", 6},
		{"Start", "assert run of keep", "off", "a=1,b=0,b0=999,c=4", 6},
		{"Save", "assert save of keep", "off", "a=1,b=0,b0=999,c=4", 6},
	})
}

func TestHear(t *testing.T) {
	for _, kind := range []string{"horn", "robot"} {
		walk(t, impl.Core{Kind: kind}, []step{
			{"Hear 0", "ok 1", "off", "-", 1},
			{"Hear 2", "ok 2", "off", "-", 2},
			{"Hear 1", "ok 3", "on", "-", 3},
			{"Hear 1", "ok 4", "on", "-", 4},
			{"Hear 999", "ok 5", "on", "-", 5},
			{"Hear 0", "ok 6", "off", "-", 6},
			{"Start", "ok 0", "on", "-", 7},
			{"Hear 3", "ok 8", "on", "-", 8},
		})
	}
}

func TestCountAtItsLimit(t *testing.T) {
	walk(t, impl.Core{Kind: "robot", Count: 997}, []step{
		{"Start", "ok 0", "on", "-", 998},
		{"Put a 1", "ok 1", "on", "a=1", 999},
		{"Put b 2", "ok 2", "on", "a=1,b=2", 999},
		{"Hear 0", "ok 999", "off", "a=1,b=2", 999},
		{"Start", "ok 0", "on", "a=1,b=2", 999},
		{"Tell", "ok 999", "on", "a=1,b=2", 999},
	})
	walk(t, impl.Core{Kind: "horn", Count: 998}, []step{{"Hear 5", "ok 999", "off", "-", 999}, {"Hear 5", "ok 999", "off", "-", 999}})
	walk(t, impl.Core{Kind: "shelf", Count: 999}, []step{{"Put a 1", "ok 1", "off", "a=1", 999}})
}

func TestLoadAndSave(t *testing.T) {
	for _, kind := range []string{"vault", "robot"} {
		walk(t, impl.Core{Kind: kind}, []step{
			{"Save", "ok 0 -", "off", "-", 0},
			{"Load a=1,b=20", "ok 2", "off", "a=1,b=20", 0},
			{"Save", "ok 0 a=1,b=20", "off", "a=1,b=20", 0},
			{"Load ", "refused", "off", "a=1,b=20", 0},
			{"Load b=1,a=2", "refused", "off", "a=1,b=20", 0},
			{"Load a=1,b=2,c=3,d=4,e=5", "refused", "off", "a=1,b=20", 0},
			{"Load a=1 ", "refused", "off", "a=1,b=20", 0},
			{"Start", "ok 0", "on", "a=1,b=20", 1},
			{"Load c=1,d=2,e=3,f=4", "ok 4", "on", "c=1,d=2,e=3,f=4", 1},
			{"Put g 1", "full", "on", "c=1,d=2,e=3,f=4", 1},
			{"Load k=0", "ok 1", "on", "k=0", 1},
			{"Save", "ok 0 k=0", "on", "k=0", 1},
			{"Load -", "ok 0", "on", "-", 1},
			{"Save", "ok 0 -", "on", "-", 1},
			{"Start", "broken", "broken", "-", 1},
			{"Load k=0", "broken", "broken", "-", 1},
		})
	}
	p := impl.Core{Kind: "vault"}
	checkCall(t, p, impl.Call{Method: "Load", Text: strings.Repeat("a=1,", 1<<16)})
	checkCall(t, p, impl.Call{Method: "Load", Text: "a=1\x00"})
}
