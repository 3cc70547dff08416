package tests

import (
	"slices"
	"strings"
	"testing"

	"loop.example/g03016/impl"
)

func checkCallParts(t *testing.T, p impl.Part, l []impl.Call) {
	t.Helper()
	wantPart, wantReplies := answersOfPart(p, l)
	q, replies := impl.CallParts(p, l)
	if !sameParts(q, wantPart) || !slices.Equal(replies, wantReplies) {
		t.Errorf("%+v of %+v\nis  %+v, %+v\nnot %+v, %+v", l, p, q, replies, wantPart, wantReplies)
	}
}

func TestShortListsOfCallsOfParts(t *testing.T) {
	calls := map[string]impl.Call{
		"start": {Method: "Start"},
		"stop":  {Method: "Stop"},
		"get":   {Method: "Get", Key: "a"},
		"put":   {Method: "Put", Key: "a", Value: 7},
		"tell":  {Method: "Tell"},
		"on":    {Method: "Hear", Value: 1},
		"hear":  {Method: "Hear", Value: 2},
		"heal":  {Method: "Heal"},
		"bad":   {Method: "Get"},
	}
	words := []string{}
	for word := range calls {
		words = append(words, word)
	}
	slices.Sort(words)
	for _, k := range kinds {
		for _, shape := range shapesOf(k.name, 2) {
			listsOf(words, 3, func(l []string) {
				list := []impl.Call{}
				for _, word := range l {
					list = append(list, calls[word])
				}
				checkCallParts(t, shape, list)
			})
		}
	}
}

func TestListsOfPartsThatEndWithAFailedAssertion(t *testing.T) {
	for _, c := range []struct{ recipe, calls, replies, state string }{
		{"stone plain", "Start; Stop", "assert run of none", "off - 0 [0]"},
		{"robot plain", "Heal; Start", "assert heal of none", "off - 0 [0]"},
		{"lamp runs", "Start; Tell; Stop", "ok 0; assert tell of run", "on - 1 [0]"},
		{"drawer lazy counts", "Put a 5; Get a; Tell; Start; Get a", "ok 1; ok 5; ok 2; assert run of keep+tell", "on a=5 2 [0 2]"},
		{"lamp hears", "Hear 1; Hear 3; Hear 0; Hear 0; Save; Hear 1", "ok 0; ok 2; ok 0; off; assert save of run+hear", "off - 1 [4]"},
		{"robot heals", "Start; Start; Heal; Get a; Heal", "ok 0; broken; broken; assert keep of run+heal", "broken - 1 [0]"},
		{"shelf reads", "Put a 1; Get a; Put a 1", "refused; none; refused", "off - 0 [0]"},
		{"vault lazy", "Get a; Load a=1; Get a", "none; assert save of run+keep", "on - 1 [0]"},
	} {
		q, replies := impl.CallParts(partOfRecipe(t, c.recipe), callsOfTexts(t, c.calls))
		texts := []string{}
		for _, r := range replies {
			texts = append(texts, impl.FormatReply(r))
		}
		if got := strings.Join(texts, "; "); got != c.replies || textOfState(q) != c.state {
			t.Errorf("%s: %s is %q, %q", c.recipe, c.calls, got, textOfState(q))
		}
	}
}

func TestListsWithoutCallsOfParts(t *testing.T) {
	for _, k := range kinds {
		for _, shape := range shapesOf(k.name, 2) {
			for _, p := range partsOf(shape) {
				checkCallParts(t, p, nil)
				checkCallParts(t, p, []impl.Call{})
			}
		}
	}
}

// A bad call is no failed assertion: the list goes on behind it.
func TestListsOfPartsWithBadCalls(t *testing.T) {
	get, tell, start := impl.Call{Method: "Get", Key: "a"}, impl.Call{Method: "Tell"}, impl.Call{Method: "Start"}
	for _, p := range invalidParts() {
		checkCallParts(t, p, nil)
		checkCallParts(t, p, []impl.Call{get, {}, tell, start})
	}
	for _, x := range notCalls() {
		checkCallParts(t, impl.Part{Core: impl.Core{Kind: "shelf"}, Layers: layersOf("counts")}, []impl.Call{x, get, x, tell, start, tell})
	}
}

func TestLongListOfCallsOfAPart(t *testing.T) {
	p := impl.Part{Core: impl.Core{Kind: "drawer"}, Layers: layersOf("lazy", "hears", "hears")}
	l := slices.Repeat([]impl.Call{{Method: "Hear", Value: 1}, {Method: "Hear", Value: 7}, {Method: "Hear"}, {Method: "Fly"}}, 3000)
	checkCallParts(t, p, append(l, impl.Call{Method: "Get", Key: "a"}, impl.Call{Method: "Start"}))
}
