package tests

import (
	"fmt"
	"strings"
	"testing"

	"loop.example/g03016/impl"
)

func checkCallPart(t *testing.T, p impl.Part, x impl.Call) {
	t.Helper()
	wantPart, wantReply := answerOfPart(p, x)
	q, r := impl.CallPart(p, x)
	if !sameParts(q, wantPart) || r != wantReply {
		t.Errorf("%+v of %+v\nis  %+v, %+v\nnot %+v, %+v", x, p, q, r, wantPart, wantReply)
	}
	if impl.IsPart(p) && !impl.IsPart(q) {
		t.Errorf("%+v of %+v leaves %+v", x, p, q)
	}
}

// Promise 4: what goes through is what the part inside says.
func TestEachCallOfEachPart(t *testing.T) {
	for _, k := range kinds {
		for _, shape := range shapesOf(k.name, 3) {
			for _, p := range partsOf(shape) {
				for _, x := range fewCalls() {
					checkCallPart(t, p, x)
				}
			}
		}
	}
}

func TestAllCallsOfPartsWithOneLayer(t *testing.T) {
	for _, k := range kinds {
		for _, shape := range shapesOf(k.name, 1) {
			for _, core := range coresOf(k.name) {
				for _, method := range allMethods {
					for _, x := range callsOf(method) {
						checkCallPart(t, impl.Part{Core: core, Layers: shape.Layers}, x)
					}
				}
			}
		}
	}
}

func TestAPartWithoutLayersIsItsCore(t *testing.T) {
	for _, k := range kinds {
		for _, core := range coresOf(k.name) {
			for _, x := range append(fewCalls(), notCalls()...) {
				want, wantReply := impl.CallCore(core, x)
				q, r := impl.CallPart(impl.Part{Core: core}, x)
				if !sameParts(q, impl.Part{Core: want}) || r != wantReply {
					t.Errorf("%+v of %+v is %+v, %+v", x, core, q, r)
				}
			}
		}
	}
}

func TestCallsThatAnAdapterDoesNotGive(t *testing.T) {
	for _, a := range adapters {
		robot := impl.Core{Kind: "robot", On: true, Count: 9, Cells: []impl.Cell{{Key: "b", Value: 1}}}
		p := impl.Part{Core: robot, Layers: layersOf(a.name)}
		for _, x := range fewCalls() {
			want := wants[x.Method]
			q, r := impl.CallPart(p, x)
			failed := r == impl.Reply{Code: impl.ReplyAssert, Want: want, Had: a.gives}
			if failed != !impl.Offers(a.gives, want) {
				t.Errorf("%s: %+v is %+v", a.name, x, r)
			}
			if failed && !sameParts(q, p) {
				t.Errorf("%s: %+v leaves %+v", a.name, x, q)
			}
		}
	}
}

func TestBadCallsOfParts(t *testing.T) {
	for _, p := range invalidParts() {
		for _, x := range append(fewCalls(), impl.Call{}) {
			checkCallPart(t, p, x)
		}
	}
	for _, k := range kinds {
		for _, shape := range shapesOf(k.name, 1) {
			for _, x := range notCalls() {
				checkCallPart(t, shape, x)
			}
		}
	}
}

// partStep is a call, the reply as a text, and the part then: its core's state, cells and Count, and the Counts of the layers.
type partStep struct{ call, reply, part string }

func textOfState(p impl.Part) string {
	counts := []int{}
	for _, layer := range p.Layers {
		counts = append(counts, layer.Count)
	}
	return fmt.Sprint(stateOf(p.Core), " ", textOfCells(p.Core.Cells), " ", p.Core.Count, " ", counts)
}

func partOfRecipe(t *testing.T, recipe string) impl.Part {
	t.Helper()
	p, r := impl.MakePart(strings.Fields(recipe))
	if r.Code != impl.ReplyOK {
		t.Fatal(recipe, r)
	}
	return p
}

func walkPart(t *testing.T, p impl.Part, steps []partStep) {
	t.Helper()
	recipe := strings.Join(impl.RecipeOf(p), " ")
	for _, s := range steps {
		x, ok := impl.ParseCall(s.call)
		if !ok {
			t.Fatal(s.call)
		}
		q, r := impl.CallPart(p, x)
		if got := impl.FormatReply(r); got != s.reply {
			t.Errorf("%s: %s is %q, not %q", recipe, s.call, got, s.reply)
		}
		if got := textOfState(q); got != s.part || strings.Join(impl.RecipeOf(q), " ") != recipe {
			t.Errorf("%s: %s leaves %q, not %q", recipe, s.call, got, s.part)
		}
		p = q
	}
}

func TestLazyWhileOff(t *testing.T) {
	for _, kind := range []string{"drawer", "vault", "robot"} {
		walkPart(t, partOfRecipe(t, kind+" lazy"), []partStep{
			{"Stop", "off", "off - 0 [0]"},
			{"Get a", "none", "on - 1 [0]"},
			{"Put a 3", "ok 1", "on a=3 2 [0]"},
			{"Stop", "ok 0", "off a=3 2 [0]"},
			{"Get a", "ok 3", "on a=3 3 [0]"},
			{"Stop", "ok 0", "off a=3 3 [0]"},
			{"Put b 4", "ok 2", "on a=3,b=4 5 [0]"},
			{"Tell", "assert tell of run+keep", "on a=3,b=4 5 [0]"},
		})
	}
}

func TestStartThroughLazy(t *testing.T) {
	walkPart(t, partOfRecipe(t, "drawer lazy"), []partStep{
		{"Start", "ok 0", "on - 1 [0]"},
		{"Get a", "none", "on - 1 [0]"},
		{"Stop", "ok 0", "off - 1 [0]"},
		{"Stop", "off", "off - 1 [0]"},
		{"Put a 1", "ok 1", "on a=1 3 [0]"},
		{"Start", "broken", "broken a=1 3 [0]"},
		{"Get a", "broken", "broken a=1 3 [0]"},
		{"Put a 2", "broken", "broken a=1 3 [0]"},
		{"Start", "broken", "broken a=1 3 [0]"},
		{"Stop", "broken", "broken a=1 3 [0]"},
	})
}

func TestLazyAtLimits(t *testing.T) {
	p := partOfRecipe(t, "vault lazy")
	p.Core.Cells = []impl.Cell{{Key: "a", Value: 1}, {Key: "b", Value: 1}, {Key: "c", Value: 1}, {Key: "d", Value: 1}}
	p.Core.Count = 998
	walkPart(t, p, []partStep{
		{"Put e 1", "full", "on a=1,b=1,c=1,d=1 999 [0]"},
		{"Stop", "ok 0", "off a=1,b=1,c=1,d=1 999 [0]"},
		{"Put d 2", "ok 4", "on a=1,b=1,c=1,d=2 999 [0]"},
	})
}

func TestCountsCountsWhatGoesOn(t *testing.T) {
	walkPart(t, partOfRecipe(t, "shelf counts"), []partStep{
		{"Tell", "ok 0", "off - 0 [0]"},
		{"Get a", "none", "off - 0 [1]"},
		{"Put a 1", "ok 1", "off a=1 1 [2]"},
		{"Tell", "ok 2", "off a=1 1 [2]"},
		{"Start", "assert run of keep+tell", "off a=1 1 [2]"},
	})
	p := partOfRecipe(t, "robot counts")
	p.Core.Count = 500
	walkPart(t, p, []partStep{
		{"Get a", "off", "off - 500 [1]"},
		{"Put a 1", "off", "off - 500 [2]"},
		{"Tell", "ok 2", "off - 500 [2]"},
		{"Hear 1", "assert hear of keep+tell", "off - 500 [2]"},
	})
	p.Core.Broken = true
	walkPart(t, p, []partStep{
		{"Get a", "broken", "broken - 500 [1]"},
		{"Put a 1", "broken", "broken - 500 [2]"},
		{"Tell", "ok 2", "broken - 500 [2]"},
	})
}

func TestCountsCountsARefusedPut(t *testing.T) {
	walkPart(t, partOfRecipe(t, "shelf reads counts"), []partStep{
		{"Put a 1", "refused", "off - 0 [0 1]"},
		{"Get a", "none", "off - 0 [0 2]"},
	})
	walkPart(t, partOfRecipe(t, "shelf counts reads"), []partStep{
		{"Put a 1", "refused", "off - 0 [0 0]"},
		{"Get a", "none", "off - 0 [1 0]"},
	})
	p := partOfRecipe(t, "shelf counts")
	p.Core.Cells = []impl.Cell{{Key: "a", Value: 1}, {Key: "b", Value: 1}, {Key: "c", Value: 1}, {Key: "d", Value: 1}}
	walkPart(t, p, []partStep{{"Put e 1", "full", "off a=1,b=1,c=1,d=1 0 [1]"}})
}

func TestCountsAtItsLimit(t *testing.T) {
	p := partOfRecipe(t, "shelf counts")
	p.Layers[0].Count = 998
	walkPart(t, p, []partStep{
		{"Tell", "ok 998", "off - 0 [998]"},
		{"Put a 1", "ok 1", "off a=1 1 [999]"},
		{"Put b 1", "ok 2", "off a=1,b=1 2 [999]"},
		{"Get b", "ok 1", "off a=1,b=1 2 [999]"},
		{"Tell", "ok 999", "off a=1,b=1 2 [999]"},
	})
}

func TestReadsRefusesEachPut(t *testing.T) {
	p := partOfRecipe(t, "drawer reads")
	p.Core.Cells = []impl.Cell{{Key: "a", Value: 7}}
	walkPart(t, p, []partStep{
		{"Put a 1", "refused", "off a=7 0 [0]"},
		{"Get a", "off", "off a=7 0 [0]"},
		{"Start", "assert run of keep", "off a=7 0 [0]"},
	})
	p.Core.On = true
	walkPart(t, p, []partStep{
		{"Put b 1", "refused", "on a=7 0 [0]"},
		{"Get a", "ok 7", "on a=7 0 [0]"},
		{"Get b", "none", "on a=7 0 [0]"},
	})
	p.Core.On, p.Core.Broken = false, true
	walkPart(t, p, []partStep{
		{"Put a 1", "refused", "broken a=7 0 [0]"},
		{"Get a", "broken", "broken a=7 0 [0]"},
	})
}

func TestHearThroughHears(t *testing.T) {
	for _, kind := range []string{"lamp", "meter", "horn", "robot"} {
		walkPart(t, partOfRecipe(t, kind+" hears"), []partStep{
			{"Hear 0", "off", "off - 0 [1]"},
			{"Hear 2", "ok 2", "off - 0 [2]"},
			{"Hear 1", "ok 0", "on - 1 [3]"},
			{"Hear 999", "ok 4", "on - 1 [4]"},
			{"Hear 0", "ok 0", "off - 1 [5]"},
			{"Start", "ok 0", "on - 2 [5]"},
			{"Stop", "ok 0", "off - 2 [5]"},
			{"Start", "ok 0", "on - 3 [5]"},
			{"Hear 1", "broken", "broken - 3 [6]"},
			{"Hear 1", "broken", "broken - 3 [7]"},
			{"Hear 0", "broken", "broken - 3 [8]"},
			{"Hear 3", "ok 9", "broken - 3 [9]"},
			{"Tell", "assert tell of run+hear", "broken - 3 [9]"},
			{"Heal", "assert heal of run+hear", "broken - 3 [9]"},
		})
	}
	p := partOfRecipe(t, "lamp hears")
	p.Layers[0].Count = 998
	walkPart(t, p, []partStep{{"Hear 2", "ok 999", "off - 0 [999]"}, {"Hear 2", "ok 999", "off - 0 [999]"}, {"Hear 1", "ok 0", "on - 1 [999]"}})
}

func TestHealThroughHeals(t *testing.T) {
	for _, kind := range []string{"lamp", "vault", "robot"} {
		walkPart(t, partOfRecipe(t, kind+" heals"), []partStep{
			{"Heal", "ok 0", "on - 1 [0]"},
			{"Heal", "ok 0", "on - 2 [0]"},
			{"Stop", "ok 0", "off - 2 [0]"},
			{"Heal", "ok 0", "on - 3 [0]"},
			{"Start", "broken", "broken - 3 [0]"},
			{"Heal", "broken", "broken - 3 [0]"},
			{"Tell", "assert tell of run+heal", "broken - 3 [0]"},
		})
	}
}

func TestTwiceAroundTell(t *testing.T) {
	for _, c := range []struct{ count, once, again int }{{0, 0, 0}, {1, 2, 4}, {249, 498, 996}, {250, 500, 999}, {499, 998, 999}, {500, 999, 999}, {998, 999, 999}, {999, 999, 999}} {
		for _, kind := range []string{"meter", "robot"} {
			for _, broken := range []bool{false, true} {
				core := impl.Core{Kind: kind, Count: c.count, Broken: broken}
				p := impl.Part{Core: core, Layers: layersOf("twice")}
				q, r := impl.CallPart(p, impl.Call{Method: "Tell"})
				if r != (impl.Reply{Value: c.once}) || !sameParts(q, p) {
					t.Errorf("%+v: %+v, %+v", p, q, r)
				}
				p.Layers = layersOf("twice", "twice")
				if _, r := impl.CallPart(p, impl.Call{Method: "Tell"}); r != (impl.Reply{Value: c.again}) {
					t.Errorf("%+v: %+v", p, r)
				}
			}
		}
	}
}

func TestAdaptersThatPassAllOn(t *testing.T) {
	walkPart(t, partOfRecipe(t, "robot runs"), []partStep{
		{"Start", "ok 0", "on - 1 [0]"},
		{"Get a", "assert keep of run", "on - 1 [0]"},
		{"Stop", "ok 0", "off - 1 [0]"},
		{"Stop", "off", "off - 1 [0]"},
		{"Heal", "assert heal of run", "off - 1 [0]"},
	})
	walkPart(t, partOfRecipe(t, "vault keeps"), []partStep{
		{"Get a", "off", "off - 0 [0]"},
		{"Put a 1", "off", "off - 0 [0]"},
		{"Start", "assert run of keep", "off - 0 [0]"},
		{"Save", "assert save of keep", "off - 0 [0]"},
	})
	walkPart(t, partOfRecipe(t, "robot plain"), []partStep{
		{"Start", "assert run of none", "off - 0 [0]"},
		{"Put a 1", "assert keep of none", "off - 0 [0]"},
		{"Tell", "assert tell of none", "off - 0 [0]"},
		{"Hear 1", "assert hear of none", "off - 0 [0]"},
		{"Load a=1", "assert save of none", "off - 0 [0]"},
		{"Heal", "assert heal of none", "off - 0 [0]"},
	})
}

func TestAdaptersAroundAdapters(t *testing.T) {
	walkPart(t, partOfRecipe(t, "drawer lazy lazy counts"), []partStep{
		{"Put a 1", "ok 1", "on a=1 2 [0 0 1]"},
		{"Get a", "ok 1", "on a=1 2 [0 0 2]"},
		{"Tell", "ok 2", "on a=1 2 [0 0 2]"},
	})
	walkPart(t, partOfRecipe(t, "drawer lazy counts counts"), []partStep{
		{"Get a", "none", "on - 1 [0 1 1]"},
		{"Tell", "ok 1", "on - 1 [0 1 1]"},
	})
	walkPart(t, partOfRecipe(t, "drawer lazy counts twice"), []partStep{
		{"Tell", "ok 0", "off - 0 [0 0 0]"},
		{"Get a", "assert keep of tell", "off - 0 [0 0 0]"},
	})
	walkPart(t, partOfRecipe(t, "drawer lazy hears hears"), []partStep{
		{"Hear 1", "ok 0", "on - 1 [0 0 1]"},
		{"Hear 0", "ok 0", "off - 1 [0 0 2]"},
		{"Hear 5", "ok 3", "off - 1 [0 0 3]"},
	})
	walkPart(t, partOfRecipe(t, "lamp heals hears heals"), []partStep{
		{"Heal", "ok 0", "on - 1 [0 0 0]"},
		{"Heal", "ok 0", "on - 2 [0 0 0]"},
		{"Hear 1", "assert hear of run+heal", "on - 2 [0 0 0]"},
	})
	walkPart(t, partOfRecipe(t, "vault lazy reads counts"), []partStep{
		{"Put a 1", "refused", "off - 0 [0 0 1]"},
		{"Get a", "none", "on - 1 [0 0 2]"},
	})
}
