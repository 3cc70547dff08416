package tests

import (
	"math"
	"strings"
	"testing"

	"loop.example/g03016/impl"
)

func TestReplyCodes(t *testing.T) {
	codes := []int{impl.ReplyOK, impl.ReplyAssert, impl.ReplyOff, impl.ReplyBroken, impl.ReplyNone, impl.ReplyFull, impl.ReplyRefused, impl.ReplyBad}
	for i, code := range codes {
		if code != i {
			t.Errorf("the code in place %d is %d", i, code)
		}
	}
}

func TestFormatReply(t *testing.T) {
	for _, c := range []struct {
		r    impl.Reply
		want string
	}{
		{impl.Reply{}, "ok 0"},
		{impl.Reply{Value: 3}, "ok 3"},
		{impl.Reply{Value: 999}, "ok 999"},
		{impl.Reply{Value: -5}, "ok -5"},
		{impl.Reply{Value: math.MinInt}, "ok -9223372036854775808"},
		{impl.Reply{Value: math.MaxInt}, "ok 9223372036854775807"},
		{impl.Reply{Text: "-"}, "ok 0 -"},
		{impl.Reply{Text: "a=1,b=20"}, "ok 0 a=1,b=20"},
		{impl.Reply{Value: 7, Text: " "}, "ok 7  "},
		{impl.Reply{Value: 7, Text: "\xff\n"}, "ok 7 \xff\n"},
		{impl.Reply{Value: 1, Want: 3, Had: 5}, "ok 1"},
		{impl.Reply{Code: 1, Want: 4, Had: 3}, "assert tell of run+keep"},
		{impl.Reply{Code: 1, Want: 1, Had: 0}, "assert run of none"},
		{impl.Reply{Code: 1}, "assert none of none"},
		{impl.Reply{Code: 1, Want: 63, Had: 63}, "assert run+keep+tell+hear+save+heal of run+keep+tell+hear+save+heal"},
		{impl.Reply{Code: 1, Want: 64, Had: 1}, "assert  of run"},
		{impl.Reply{Code: 1, Want: 1, Had: -1}, "assert run of "},
		{impl.Reply{Code: 1, Want: 2, Had: 1, Value: 9, Text: "text"}, "assert keep of run"},
		{impl.Reply{Code: 2}, "off"},
		{impl.Reply{Code: 3}, "broken"},
		{impl.Reply{Code: 4}, "none"},
		{impl.Reply{Code: 5}, "full"},
		{impl.Reply{Code: 6}, "refused"},
		{impl.Reply{Code: 7}, "bad"},
		{impl.Reply{Code: 2, Value: 5, Text: "text", Want: 1, Had: 2}, "off"},
		{impl.Reply{Code: 7, Value: 5, Text: "text", Want: 1, Had: 2}, "bad"},
	} {
		if got := impl.FormatReply(c.r); got != c.want {
			t.Errorf("FormatReply(%+v) = %q", c.r, got)
		}
	}
}

func TestFormatReplyOfAllFaces(t *testing.T) {
	for want := range 64 {
		for had := range 64 {
			text := "assert " + setOf(want).text() + " of " + setOf(had).text()
			if got := impl.FormatReply(impl.Reply{Code: 1, Want: want, Had: had}); got != text {
				t.Errorf("%d, %d: %q", want, had, got)
			}
		}
	}
}

func TestFormatReplyOfCodesThatAreNone(t *testing.T) {
	for _, code := range []int{-1, 8, 9, 64, -8, 1 << 32, 1<<32 + 1, math.MinInt, math.MaxInt} {
		r := impl.Reply{Code: code, Value: 1, Text: "text", Want: 1, Had: 2}
		if got := impl.FormatReply(r); got != "" {
			t.Errorf("FormatReply(%+v) = %q", r, got)
		}
	}
	long := strings.Repeat("x", 1<<18)
	if got := impl.FormatReply(impl.Reply{Text: long}); got != "ok 0 "+long {
		t.Error(len(got))
	}
}
