package tests

import (
	"slices"
	"strings"
	"testing"

	"loop.example/g03016/impl"
)

// answers tells what a list of calls does: the core behind it, and the replies.
func answers(p impl.Core, l []impl.Call) (impl.Core, []impl.Reply) {
	replies := []impl.Reply{}
	for _, x := range l {
		q, r := answer(p, x)
		p = q
		replies = append(replies, r)
		if r.Code == 1 {
			return p, replies
		}
	}
	return p, replies
}

func checkCalls(t *testing.T, p impl.Core, l []impl.Call) {
	t.Helper()
	wantCore, wantReplies := answers(p, l)
	q, replies := impl.CallCores(p, l)
	if !sameCores(q, wantCore) || !slices.Equal(replies, wantReplies) {
		t.Errorf("%+v of %+v\nis  %+v, %+v\nnot %+v, %+v", l, p, q, replies, wantCore, wantReplies)
	}
}

func TestAllShortListsOfCalls(t *testing.T) {
	calls := map[string]impl.Call{
		"start": {Method: "Start"},
		"stop":  {Method: "Stop"},
		"get":   {Method: "Get", Key: "b"},
		"put a": {Method: "Put", Key: "a", Value: 7},
		"put b": {Method: "Put", Key: "b", Value: 8},
		"tell":  {Method: "Tell"},
		"hear":  {Method: "Hear", Value: 1},
		"load":  {Method: "Load", Text: "b=1,c=2,d=3,e=4"},
		"save":  {Method: "Save"},
		"heal":  {Method: "Heal"},
		"bad":   {Method: "Get"},
	}
	words := []string{}
	for word := range calls {
		words = append(words, word)
	}
	slices.Sort(words)
	for _, k := range kinds {
		size := 3
		if k.name == "robot" || k.name == "vault" {
			size = 4
		}
		listsOf(words, size, func(l []string) {
			list := []impl.Call{}
			for _, word := range l {
				list = append(list, calls[word])
			}
			checkCalls(t, impl.Core{Kind: k.name}, list)
		})
	}
}

func callsOfTexts(t *testing.T, text string) []impl.Call {
	t.Helper()
	calls := []impl.Call{}
	for _, s := range strings.Split(text, "; ") {
		x, ok := impl.ParseCall(s)
		if !ok {
			t.Fatal(s)
		}
		calls = append(calls, x)
	}
	return calls
}

func TestListsThatEndWithAFailedAssertion(t *testing.T) {
	for _, c := range []struct{ kind, calls, replies, cells string }{
		{"stone", "Start; Stop; Get a", "assert run of none", "-"},
		{"lamp", "Start; Tell; Stop; Stop", "ok 0; assert tell of run", "-"},
		{"lamp", "Stop; Start; Start; Stop; Heal; Start", "off; ok 0; broken; broken; assert heal of run", "-"},
		{"shelf", "Put a 1; Put b 2; Start; Put c 3", "ok 1; ok 2; assert run of keep", "a=1,b=2"},
		{"drawer", "Put a 3; Start; Put a 3; Get a; Get b; Tell; Get a", "off; ok 0; ok 1; ok 3; none; assert tell of run+keep", "a=3"},
		{"vault", "Load a=1; Load bad; Hear 1; Save", "ok 1; refused; assert hear of run+keep+save", "a=1"},
		{"horn", "Hear 1; Hear 5; Save", "ok 1; ok 2; assert save of run+hear", "-"},
		{"meter", "Tell; Start; Tell; Get a; Tell", "ok 0; ok 0; ok 1; assert keep of run+tell", "-"},
		{"robot", "Load a=1; Start; Start; Heal; Save", "ok 1; ok 0; broken; ok 0; ok 0 a=1", "a=1"},
	} {
		q, replies := impl.CallCores(impl.Core{Kind: c.kind}, callsOfTexts(t, c.calls))
		texts := []string{}
		for _, r := range replies {
			texts = append(texts, impl.FormatReply(r))
		}
		if got := strings.Join(texts, "; "); got != c.replies || impl.FormatCells(q.Cells) != c.cells {
			t.Errorf("%s: %s is %q, %+v", c.kind, c.calls, got, q)
		}
	}
}

func TestListsWithoutCalls(t *testing.T) {
	for _, k := range kinds {
		for _, p := range coresOf(k.name) {
			checkCalls(t, p, nil)
			checkCalls(t, p, []impl.Call{})
		}
	}
	for _, p := range invalidCores() {
		checkCalls(t, p, nil)
	}
}

// A bad call is no failed assertion: the list goes on behind it.
func TestListsWithBadCalls(t *testing.T) {
	start, tell := impl.Call{Method: "Start"}, impl.Call{Method: "Tell"}
	for _, p := range invalidCores() {
		checkCalls(t, p, []impl.Call{start, tell, {}, start})
	}
	for _, x := range notCalls() {
		checkCalls(t, impl.Core{Kind: "lamp"}, []impl.Call{x, start, x, tell, start})
	}
}

func TestLongListOfCalls(t *testing.T) {
	l := slices.Repeat([]impl.Call{{Method: "Hear", Value: 1}, {Method: "Put", Key: "a", Value: 1}, {Method: "Fly"}}, 4000)
	checkCalls(t, impl.Core{Kind: "robot"}, append(l, impl.Call{Method: "Tell"}))
}
