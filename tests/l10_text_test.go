package tests

import (
	"slices"
	"strings"
	"testing"

	"loop.example/g03016/impl"
)

// answersOfText tells what DeskText returns, as the document's text has it.
func answersOfText(text string) []string {
	lines := strings.Split(text, "\n")
	if len(text) > 4000 || len(lines) > 40 {
		return nil
	}
	d, answers := impl.Desk{}, []string{}
	for _, line := range lines {
		after, answer := answered(d, line)
		d, answers = after, append(answers, answer)
	}
	return answers
}

func checkText(t *testing.T, text string, want ...string) {
	t.Helper()
	if got := impl.DeskText(text); !slices.Equal(got, want) || !slices.Equal(got, answersOfText(text)) {
		t.Errorf("DeskText(%.200q) = %.400q, not %.400q", text, got, want)
	}
}

func TestTextsOfFewLines(t *testing.T) {
	checkText(t, "", "")
	checkText(t, "\n", "", "")
	checkText(t, "\n\n", "", "", "")
	checkText(t, "open", "ok")
	checkText(t, "open\n", "ok", "")
	checkText(t, "open\n\n", "ok", "", "")
	checkText(t, "\nopen", "", "ok")
	checkText(t, "open\n\nopen", "ok", "", "open")
	checkText(t, "open\nopen\nlog\n", "ok", "open", "none", "")
	checkText(t, "# open\nlog", "", "none")
	checkText(t, " ", "what")
	checkText(t, " \n ", "what", "what")
	checkText(t, "check", "safe")
	checkText(t, "plan \nplan nothing\nplan", "no plan", "0", "what")
	checkText(t, "entry \nentry", "no entry", "what")
	checkText(t, "open\nline \nline", "ok", "no entry", "what")
	// Only line feeds divide lines.
	checkText(t, "open\rlog", "what")
	checkText(t, "open\r\nlog", "what", "none")
	checkText(t, "open; log", "what")
	checkText(t, "open\x00log\vlog\flog\u2028log", "what")
	checkText(t, "open\\nlog", "what")
	checkText(t, "#\r\nopen", "", "ok")
}

func TestTextsBeginWithANewDesk(t *testing.T) {
	text := "order\nentry a: drawer; 1.0\nopen\nstart a\ncall a Put k 3\nlog\ncheck\nplan make 0 lamp; ask 0 keep\ncheck"
	for range 3 {
		checkText(t, text, "none", "ok", "ok", "ok", "ok 1", "start a; call a Put k 3", "safe", "2", "place 1 wants keep of run")
	}
	checkText(t, "log\ncheck\nopen\norder", "none", "safe", "ok", "none")
}

func TestTextsOfMaxLines(t *testing.T) {
	for _, line := range []string{"", "#", "what", "order", "plan drop 0", "check"} {
		_, answer := answered(impl.Desk{}, line)
		for count := range 50 {
			text := strings.Repeat(line+"\n", count)
			want := append(slices.Repeat([]string{answer}, count), "")
			if count >= 40 {
				want = nil
			}
			checkText(t, text, want...)
			if want = slices.Repeat([]string{answer}, count+1); count >= 40 {
				want = nil
			}
			checkText(t, text+line, want...)
		}
	}
	for _, count := range []int{100, 3999, 4000, 4001, 1 << 20} {
		checkText(t, strings.Repeat("\n", count))
	}
}

func TestTextsOfMaxText(t *testing.T) {
	for size := 3990; size < 4010; size++ {
		for _, c := range []struct{ start, fill, answer string }{
			{"", "#", ""}, {"", " ", "what"}, {"", "open", "what"}, {"plan ", "a", "no plan"}, {"run", " 1", ""}, {"#", "\xff", ""}, {"#", "é", ""}, {"call a Load ", "x", "no host"},
		} {
			text := (c.start + strings.Repeat(c.fill, size))[:size]
			want := []string{c.answer}
			if c.fill == " 1" {
				want = []string{[]string{"ok: -, -, -", "what"}[size%2^1]}
			}
			if size > 4000 {
				want = nil
			}
			checkText(t, text, want...)
		}
		// Lines, each of them short, count with their line feeds.
		text := strings.Repeat("#"+strings.Repeat("x", 98)+"\n", 39)
		last := "#" + strings.Repeat("y", size-len(text)-1)
		want := slices.Repeat([]string{""}, 40)
		if size > 4000 {
			want = nil
		}
		checkText(t, text+last, want...)
		checkText(t, text+"\n"+last[1:])
	}
	checkText(t, strings.Repeat("#", 1<<22))
	checkText(t, strings.Repeat("#\n", 1<<20))
	checkText(t, "open\n"+strings.Repeat("x", 3995), "ok", "what")
	checkText(t, "open\n"+strings.Repeat("x", 3996))
}

// A line of a text is done as it is done alone, whatever its place.
func TestTextsLineByLine(t *testing.T) {
	script := strings.Split("entry b: drawer; 1.0\n\nentry a: lamp; 1.0; keep of b 1.0\n# all\nlinks\nopen\nstart a\ncall b Put k 2\nline b\nwhat else\ncall b Start\nlog\nheal b\nplan make 0 lamp; if { ask 0 keep } else { }\ncheck\nrun 1\nrun\nafter\nwants\ntrim\nswap a lamp runs\nstuck\norder\nlog", "\n")
	d, answers := impl.NewDesk(), []string{}
	for i, line := range script {
		after, answer := checkDeskLine(t, d, line)
		d, answers = after, append(answers, answer)
		checkText(t, strings.Join(script[:i+1], "\n"), answers...)
		checkText(t, strings.Join(script[:i+1], "\n")+"\n", append(slices.Clone(answers), "")...)
		checkText(t, "\n\n"+strings.Join(script[:i+1], "\n"), append([]string{"", ""}, answers...)...)
	}
	want := strings.Split("ok||ok||a needs keep of b|ok|ok|ok 1|b up on k=2|what|broken|start a; call b Put k 2; call b Start|ok 0|3|place 2 wants keep of run for 1|place 2 wants keep of run: lamp, -, -|ok: lamp, -, -|1|no wants|make 0 lamp; if { ask 0 keep } else { }|ok|none|b; a|start a; call b Put k 2; call b Start; heal b; swap a lamp runs", "|")
	if !slices.Equal(answers, want) {
		t.Errorf("%q\nnot %q", answers, want)
	}
}
