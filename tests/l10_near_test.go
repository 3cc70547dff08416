package tests

import (
	"slices"
	"strings"
	"testing"

	"loop.example/g03016/impl"
)

// desksOfAllSorts are valid: new ones, closed ones, open ones, and such that no lines lead to.
func desksOfAllSorts(t *testing.T) []impl.Desk {
	t.Helper()
	l := []impl.Desk{
		{},
		{Entries: []impl.Entry{}, Host: impl.Host{Entries: []impl.Entry{}, Parts: []impl.Part{}, Up: []string{}, Shut: []string{}, Log: []impl.Event{}}, Plan: []impl.Action{}},
		{Open: true},
		deskFor(t, "entry a: drawer; 1.0; run of z 1.0\nentry b: lamp; 1.0\nplan make 0 lamp; ask 0 keep"),
		deskFor(t, "entry a: drawer counts; 1.0; keep of b 1.0\nentry b: drawer; 1.0\nplan make 0 vault; loop { ask 0 run; if { wrap 0 reads } else { } }"),
		deskFor(t, "entry a: robot; 1.0\nopen\nplan unwrap 1"),
		deskFor(t, "entry a: drawer counts; 1.0; keep of b 1.0\nentry b: drawer; 1.0\nopen\nstart a\ncall b Put k 3\nplan ask 0 keep; ask 1 run"),
		deskFor(t, "entry a: vault; 1.0\nentry b: lamp; 1.0\nopen\nstart a\nstart b\ncall a Load k=1\ncall a Start\nswap b lamp runs\nplan make 0 robot; try { ask 0 run } else { drop 0 }"),
	}
	other := deskFor(t, "entry c: stone; 1.0")
	for _, h := range hostsOfAllSorts(t)[:16] {
		if isValidHost(h) {
			l = append(l, impl.Desk{Entries: other.Entries, Open: true, Host: h})
		}
	}
	return l
}

// checkUnknown holds that a line is none of the table, for desks of all sorts.
func checkUnknown(t *testing.T, desks []impl.Desk, lines ...string) {
	t.Helper()
	for _, line := range lines {
		for _, d := range desks {
			if after, answer := checkDeskLine(t, d, line); answer != "what" || !sameDesks(after, d) {
				t.Errorf("%q is answered %q", line, answer)
			}
		}
	}
}

const (
	oneWords  = "open order stuck links log check run after wants trim"
	textWords = "entry line plan"
)

func TestWordsThatAreNearlyOne(t *testing.T) {
	desks := desksOfAllSorts(t)
	for _, word := range strings.Fields(oneWords + " " + textWords + " start stop call heal swap") {
		last := len(word) - 1
		checkUnknown(t, desks, word[1:], word[:last], word+"s", "a"+word, word+word, strings.ToUpper(word), strings.ToUpper(word[:1])+word[1:], word[:last]+strings.ToUpper(word[last:]))
		checkUnknown(t, desks, " "+word, "\t"+word, word+"\n", "\n"+word, word+"\x00", word+"\t", word+"\r", word+";", word+":", word+",", word+"#", "\""+word+"\"", "-"+word, word[:1]+" "+word[1:], word+"\xff")
	}
	for _, word := range strings.Fields(oneWords) {
		checkUnknown(t, desks, word+" ", word+"  ", " "+word, " "+word+" ", word+" a", word+" #", word+" "+word, word+" -", word+"  1", word+"; "+word, word+" none", word+" nothing")
		if word != "run" {
			checkUnknown(t, desks, word+" 1", word+" 0 1")
		}
	}
	for _, word := range strings.Fields(textWords + " start stop call heal swap") {
		checkUnknown(t, desks, word)
	}
}

func TestTextsWithoutTheirBlank(t *testing.T) {
	desks := desksOfAllSorts(t)
	checkUnknown(t, desks, "entrya: lamp; 1.0", "entry\ta: lamp; 1.0", "entry: a: lamp; 1.0", "Entry a: lamp; 1.0", "entries a: lamp; 1.0", "entr y", "a: lamp; 1.0", " entry a: lamp; 1.0", "add a: lamp; 1.0", "entry\na: lamp; 1.0")
	checkUnknown(t, desks, "planmake 0 lamp", "plan\tmake 0 lamp", "plan: make 0 lamp", "Plan nothing", "plans nothing", "plannothing", "nothing", "make 0 lamp", " plan nothing", "plan\nnothing")
	checkUnknown(t, desks, "linea", "line\ta", "line: a", "Line a", "lines a", "a", " line a", "b", "line\na")
	checkUnknown(t, desks, "calla Put k 3", "call\ta Start", "call", "call ", "call a", "call a ", "callaStart", "starta", "stopa", "heala", "swapa lamp")
	// With the blank, they are what the table says, whatever is behind it.
	for _, d := range desks {
		for _, line := range []string{"entry ", "entry  ", "entry a", "entry #", "line ", "line  ", "line a", "line  a", "line a ", "line #", "line \xff", "plan ", "plan  ", "plan none", "plan #", "plan nothing ", "plan  nothing", "plan plan nothing"} {
			if _, answer := checkDeskLine(t, d, line); answer == "what" {
				t.Errorf("%q is answered %q", line, answer)
			}
		}
	}
}

func TestNumbersOfRuns(t *testing.T) {
	desks := desksOfAllSorts(t)
	checkUnknown(t, desks, "run ", "run  ", "run 1 ", "run  1", "run 1  2", "run 1 2 ", "run 1 2  ", " run 1", "run 0 ", "run  0 0", "run 1 2  3",
		"run 01", "run 00", "run 1 02", "run 000", "run -1", "run +1", "run -0", "run 1 -2", "run - 1", "run 1000", "run 1 1000", "run 9999999999999999999999", "run 18446744073709551617",
		"run a", "run 1 a", "run 1a", "run a1", "run 1 2 x 3", "run 1.0", "run 1,2", "run 1;2", "run 1; 2", "run 0x1", "run 1e1", "run \xff", "run ١", "run 1\t2", "run 1\n", "run 1\n2", "run\t1", "run1", "run1 2", "run:1", "runs 1", "Run 1", "RUN",
		"run none", "run run", "run run 1", "run # 1", "run 1 #", "run 1 # 2", "run nothing", "run #", "run , 1")
	for _, d := range desks {
		for _, line := range []string{"run", "run 0", "run 3", "run 4", "run 10", "run 999", "run 0 0", "run 1 2 3 4 5 999", "run 998 999", "run 100 20 3"} {
			if _, answer := checkDeskLine(t, d, line); answer == "what" {
				t.Errorf("%q is answered %q", line, answer)
			}
		}
	}
}

func TestEventsThatAreNearlyOne(t *testing.T) {
	desks := desksOfAllSorts(t)
	checkUnknown(t, desks, "start ", "start  a", "start a ", "start a b", "start A", "start 1", "start abcdefghi", "start a-b", " start a", "Start a", "starts a", "start a Start", "start a\n", "start a; start b", "start #", "start")
	checkUnknown(t, desks, "stop ", "stop  a", "stop a ", "stop a b", "stop \xff", "stop A", "heal ", "heal  a", "heal a ", "heal a Heal", "heal a 1", "heal 9a")
	checkUnknown(t, desks, "call a Start ", "call  a Start", "call a  Start", "call a start", "call a Fly", "call A Start", "call a Get", "call a Get ", "call a Get K", "call a Get k ", "call a Put k", "call a Put k 03", "call a Put k 1000", "call a Put k -1",
		"call a Put  k 3", "call a Put k  3", "call a Put k 3 ", "call a Hear", "call a Hear 01", "call a Load", "call a Tell 1", "call Start", "call Start a", "call abcdefghi Start")
	checkUnknown(t, desks, "swap ", "swap a", "swap a ", "swap  a lamp", "swap a  lamp", "swap a lamp ", "swap a none", "swap a lamp lamp", "swap a lamp keeps", "swap a counts", "swap a Lamp", "swap A lamp", "swap a robot plain plain plain plain", "swap lamp", "swap a lamp, runs")
	// These are events, also where the entry is none, or named like a word.
	for _, d := range desks {
		for _, line := range []string{"start open", "stop none", "heal run", "call call Load ", "call a Load  ", "call log Load #", "call a Load entry b: lamp; 1.0", "swap plan robot plain plain plain", "start abcdefgh"} {
			if _, answer := checkDeskLine(t, d, line); answer == "what" || answer == "" {
				t.Errorf("%q is answered %q", line, answer)
			}
		}
	}
}

func TestLinesThatAreNotAnswered(t *testing.T) {
	lines := []string{"", "#", "##", "# ", "#\n", "#\nopen", "#\x00", "#\xff", "#" + strings.Repeat("x", 1<<16)}
	for _, command := range commandsOfAllSorts {
		lines = append(lines, "#"+command, "# "+command, "#\n"+command)
	}
	for _, d := range desksOfAllSorts(t) {
		for _, line := range lines {
			if after, answer := checkDeskLine(t, d, line); answer != "" || !sameDesks(after, d) {
				t.Errorf("%.40q is answered %q", line, answer)
			}
		}
	}
	checkUnknown(t, desksOfAllSorts(t), " ", "  ", "\n", "\t", "\x00", "\xff", " #", "\t#", "\n#", "what", "ok", "no", "none", "?", "help", "exit", "-", ";", "; ", "0", "1", "//", "open#", "a #")
	checkUnknown(t, desksOfAllSorts(t)[:1], "\xef\xbb\xbf#", "\xef\xbb\xbfopen", strings.Repeat(" ", 1<<16), strings.Repeat("open ", 1<<12), strings.Repeat("open", 1<<12))
}

var commandsOfAllSorts = []string{
	"open", "order", "stuck", "links", "log", "check", "run", "after", "wants", "trim", "run 1", "run 2 0 1", "run 10 999", "entry c: lamp; 1.0", "entry k2: vault counts; 1.2; keep of b 1.0, run 1.1",
	"start a", "stop b", "call b Put k 3", "call a Tell", "call b Load k=1", "heal b", "swap b vault counts", "line a", "line k2", "plan make 0 lamp; ask 0 run", "plan nothing", "plan loop { drop 0 }",
}

// A blank in front of a command, or two commands in one line, are no command; behind a text word they are a part of the text.
func TestCommandsInOneLine(t *testing.T) {
	desks := desksOfAllSorts(t)
	for _, command := range commandsOfAllSorts {
		checkUnknown(t, desks, " "+command, "\t"+command, "\n"+command, "\r"+command, "what "+command, "; "+command, "> "+command, "\""+command+"\"")
		for _, other := range commandsOfAllSorts {
			for _, sign := range []string{" ", "\n", "; "} {
				for _, d := range desks[:6] {
					checkDeskLine(t, d, command+sign+other)
				}
			}
		}
	}
}

// Each line that is made of a command by a change in one place is answered as what it is then.
func TestChangedCommands(t *testing.T) {
	desks := desksOfAllSorts(t)
	desks = []impl.Desk{desks[0], desks[3], desks[6], desks[7]}
	unknown := 0
	for _, s := range commandsOfAllSorts {
		lines := []string{}
		for at := range len(s) + 1 {
			for _, b := range []string{" ", "a", "A", "0", "1", "#", ";", "\n", "\x00", "\xff", " 1", "run "} {
				lines = append(lines, s[:at]+b+s[at:])
				if at < len(s) {
					lines = append(lines, s[:at]+b+s[at+1:])
				}
			}
			for end := at; end <= len(s) && end < at+4; end++ {
				lines = append(lines, s[:at]+s[end:], s[at:end])
			}
			lines = append(lines, s[:at], s[at:])
		}
		for _, line := range slices.Compact(slices.Sorted(slices.Values(lines))) {
			for _, d := range desks {
				if _, answer := checkDeskLine(t, d, line); answer == "what" {
					unknown++
				}
			}
		}
		if t.Failed() {
			return
		}
	}
	if unknown < 10000 {
		t.Errorf("only %d lines are unknown", unknown)
	}
}

func TestLinesOfAllListsOfWords(t *testing.T) {
	d := desksOfAllSorts(t)[6]
	listsOf(strings.Fields(oneWords+" "+textWords+" start call a 1 #"), 2, func(l []string) {
		checkDeskLine(t, d, strings.Join(l, " "))
		checkDeskLine(t, impl.Desk{}, strings.Join(l, " "))
	})
	listsOf([]string{"run", "0", "1", "3", "999", "1000", "01", "-1", ""}, 4, func(l []string) {
		checkDeskLine(t, impl.Desk{}, strings.Join(l, " "))
	})
}

func TestVeryLongLines(t *testing.T) {
	d := deskFor(t, "entry a: vault; 1.0\nopen\nstart a\nplan make 0 lamp; ask 0 run")
	for _, part := range []string{"a", " ", "1 ", " 1", "# ", "run ", "entry ", "; ", "plan ", "open\n", "call a "} {
		long := strings.Repeat(part, 1<<16)
		for _, start := range append(strings.Fields(oneWords+" what #"), "", "entry ", "plan ", "line ", "call a Load ", "call a Put k ", "start ", "swap a vault ", "run 1 ", "run 1", "run") {
			checkDeskLine(t, d, start+long)
			checkDeskLine(t, d, start+" "+long)
		}
	}
	checkRunOfManyNumbers(t, d)
}

func checkRunOfManyNumbers(t *testing.T, d impl.Desk) {
	t.Helper()
	d.Plan = planOf(t, "loop { make 0 lamp }; loop { wrap 0 runs }")
	if _, answer := checkDeskLine(t, d, "run 1 2"+strings.Repeat(" 3", 1<<16)); answer != "ok: lamp runs runs, -, -" {
		t.Error(answer)
	}
	if _, answer := checkDeskLine(t, d, "run 1 2"+strings.Repeat(" 3", 1<<16)+" "); answer != "what" {
		t.Error(answer)
	}
}
