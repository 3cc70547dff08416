package tests

import (
	"slices"
	"strings"
	"testing"

	"loop.example/g03016/impl"
)

func TestEntriesOfDesks(t *testing.T) {
	d := talk(t, `
		entry m: drawer; 1.0 => ok
		entry m: drawer; 1.0 => no entry
		entry m: lamp; 2.0 => no entry
		entry a: vault counts; 1.2; keep of b 1.0, run 1.1 => ok
		entry b: drawer => no entry
		entry b => no entry
		entry  => no entry
		entry  b: lamp; 1.0 => no entry
		entry b: lamp; 1.0  => no entry
		entry B: lamp; 1.0 => no entry
		entry b: lamp lamp; 1.0 => no entry
		entry b: lamp reads; 1.0 => no entry
		entry b: lamp; 1.00 => no entry
		entry b: lamp; 1.0; keep of b 1.0 => no entry
		entry b: lamp; 1.0; none 1.0 => no entry
		entry entry: lamp; 1.0 => ok
		entry open: lamp; 1.0 => ok
		entry z: stone; 0.0 => ok
		entry k2: robot plain plain plain; 99.99 => ok
		entry z2: stone; 0.0 => no entry
		entry a: stone; 0.0 => no entry
		entry a2: stone; 0.0 => no entry
		order => entry; k2; m; open; z
		stuck => a
	`)
	if want := entriesOf(t, "a: vault counts; 1.2; keep of b 1.0, run 1.1\nentry: lamp; 1.0\nk2: robot plain plain plain; 99.99\nm: drawer; 1.0\nopen: lamp; 1.0\nz: stone; 0.0"); !sameRegistries(d.Entries, want) || d.Open {
		t.Error(brief(d))
	}
}

// With the desk open, an entry is not even read.
func TestEntriesOfOpenDesks(t *testing.T) {
	d := talk(t, `
		open => ok
		entry a: lamp; 1.0 => open
		entry => what
		entry  => open
		entry nothing of the sort => open
		order => none
	`)
	if len(d.Entries)+len(d.Host.Entries) > 0 || !d.Open {
		t.Error(brief(d))
	}
	talk(t, `
		entry a: lamp; 1.0 => ok
		open => ok
		entry a: lamp; 1.0 => open
		entry b: lamp; 1.0 => open
		order => a
	`)
}

func TestOpeningDesks(t *testing.T) {
	if d := talk(t, "open => ok\nopen => open\nlog => none\nopen => open"); !d.Open || !sameHosts(d.Host, impl.Host{}) {
		t.Error(brief(d))
	}
	d := talk(t, `
		entry a: lamp; 1.0; keep of b 1.0 => ok
		open => no host
		log => none
		stuck => a
		entry b: drawer; 1.0; run of c 1.0 => ok
		open => no host
		stuck => a; b
		entry d: stone; 1.0 => ok
		open => no host
		order => d
		entry c: horn; 1.0 => ok
		order => c; b; a; d
		stuck => none
		open => ok
		open => open
		log => none
	`)
	if !d.Open || !sameHosts(d.Host, hostOfRegistry(d.Entries)) || len(d.Entries) != 4 {
		t.Error(brief(d))
	}
	// Two that need each other.
	talk(t, `
		entry a: drawer; 1.0; run of b 1.0 => ok
		entry b: drawer; 1.0; keep of a 1.0 => ok
		stuck => a; b
		order => none
		open => no host
		start a => no host
		links => a needs run of b; b needs keep of a
	`)
}

func TestWiringOfDesks(t *testing.T) {
	talk(t, `
		order => none
		stuck => none
		links => none
		open => ok
		order => none
		stuck => none
		links => none
	`)
	talk(t, `
		entry c: lamp; 1.0; tell of a 1.0, keep+tell 1.0 => ok
		entry a: drawer counts; 1.0; keep of b 1.0 => ok
		links => c needs tell of a; c needs keep+tell of a
		stuck => a; c
		order => none
		entry b: drawer; 1.0 => ok
		links => a needs keep of b; c needs tell of a; c needs keep+tell of a
		stuck => none
		order => b; a; c
		entry d: robot; 1.0; save of e 1.0 => ok
		links => a needs keep of b; c needs tell of a; c needs keep+tell of a
		stuck => d
		order => b; a; c
		open => no host
		entry e: robot; 1.0 => ok
		open => ok
		links => a needs keep of b; c needs tell of a; c needs keep+tell of a; d needs save of e
		stuck => none
		order => b; a; c; e; d
		start c => ok
		swap b vault lazy => ok
		order => b; a; c; e; d
		links => a needs keep of b; c needs tell of a; c needs keep+tell of a; d needs save of e
	`)
}

// The registry of an open desk is that of its host, whatever its Entries are.
func TestWiringOfDesksWithOtherEntries(t *testing.T) {
	d := impl.Desk{Entries: registryOf(t, "a: drawer; 1.0; run of b 1.0\nb: drawer; 1.0; keep of a 1.0\nz: stone; 1.0"), Open: true, Host: hostFor(t, threeEntries, "start b")}
	closed := impl.Desk{Entries: d.Entries}
	for _, c := range []struct{ line, open, closed string }{
		{"order", "b; a; c", "z"},
		{"stuck", "none", "a; b"},
		{"links", "a needs keep of b; c needs tell of a", "a needs run of b; b needs keep of a"},
		{"open", "open", "no host"},
		{"log", "start b", "none"},
		{"line z", "no entry", "no host"},
		{"line c", "c down off -", "no host"},
		{"start c", "ok", "no host"},
		{"start z", "no", "no host"},
		{"swap b robot", "ok", "no host"},
		{"entry y: stone; 1.0", "open", "ok"},
	} {
		if _, answer := checkDeskLine(t, d, c.line); answer != c.open {
			t.Errorf("%q of an open desk is answered %q, not %q", c.line, answer, c.open)
		}
		if _, answer := checkDeskLine(t, closed, c.line); answer != c.closed {
			t.Errorf("%q of a closed desk is answered %q, not %q", c.line, answer, c.closed)
		}
	}
	// What is done to the host leaves the Entries alone.
	after, _ := checkDeskLine(t, d, "swap c lamp runs")
	if !sameRegistries(after.Entries, d.Entries) || after.Host.Entries[2].Recipe[1] != "runs" {
		t.Error(brief(after))
	}
}

// A desk that is not open has a host too, the zero value: its log is empty, as that of a host just opened is.
func TestLogsOfClosedDesks(t *testing.T) {
	talk(t, `
		log => none
		entry a: lamp; 1.0 => ok
		log => none
		open => ok
		log => none
		start a => ok
		log => start a
	`)
	talk(t, `
		entry a: lamp; 1.0; keep of b 1.0 => ok
		log => none
		open => no host
		log => none
		start a => no host
		line a => no host
		plan make 0 lamp => 1
		log => none
		entry b: drawer; 1.0 => ok
		log => none
		open => ok
		start a => ok
		call b Put k 3 => ok 1
		log => start a; call b Put k 3
		call a Start => broken
		heal a => ok 0
		log => start a; call b Put k 3; call a Start; heal a
	`)
	for _, d := range desksOfAllSorts(t) {
		if _, answer := checkDeskLine(t, d, "log"); !d.Open && answer != "none" {
			t.Errorf("the log of the closed desk %s is %q", brief(d), answer)
		}
	}
	// Such a desk is not valid, so its events are not told.
	d := impl.Desk{Host: impl.Host{Log: []impl.Event{{Kind: impl.HostStart, Name: "a"}}}}
	if _, answer := checkDeskLine(t, d, "log"); answer != "" {
		t.Errorf("the log of a closed desk with events is %q", answer)
	}
}

func TestEventsOfClosedDesks(t *testing.T) {
	d := talk(t, `
		entry a: drawer; 1.0 => ok
		start a => no host
		stop a => no host
		call a Put k 3 => no host
		call a Load  => no host
		heal a => no host
		swap a lamp => no host
		start none => no host
		swap none robot counts => no host
		log => none
		line a => no host
		line => what
		line  => no host
		line none => no host
	`)
	if d.Open || !sameHosts(d.Host, impl.Host{}) {
		t.Error(brief(d))
	}
}

func TestEventsOfOpenDesks(t *testing.T) {
	d := talk(t, `
		entry a: drawer counts; 1.0; keep of b 1.0 => ok
		entry b: drawer; 1.0 => ok
		entry c: lamp; 1.0; tell of a 1.0 => ok
		entry d: robot; 1.0 => ok
		open => ok
		line a => a down off -
		start none => no
		start a => ok
		start a => no
		start b => no
		line a => a up off -
		line b => b up on -
		stop c => no
		start c => ok
		call c Tell => assert tell of run
		call c Stop => ok 0
		call c Stop => off
		call b Put k 3 => ok 1
		call b Get k => ok 3
		call b Get j => none
		call d Get k => off
		call none Get k => bad
		log => start a; start c; call c Stop; call c Stop; call b Put k 3; call b Get k; call b Get j
		swap b lamp => no
		swap c lamp runs => ok
		swap none lamp => no
		line c => c up on -
		call b Start => broken
		line b => b shut broken k=3
		line a => a down off -
		line c => c down off -
		start a => no
		heal a => refused
		heal none => bad
		heal b => ok 0
		line b => b down off -
		log => start a; start c; call c Stop; call c Stop; call b Put k 3; call b Get k; call b Get j; swap c lamp runs; call b Start; heal b
	`)
	if want := hostFor(t, "a: drawer counts; 1.0; keep of b 1.0\nb: drawer; 1.0\nc: lamp; 1.0; tell of a 1.0\nd: robot; 1.0",
		"start a; start c; call c Stop; call c Stop; call b Put k 3; call b Get k; call b Get j; swap c lamp runs; call b Start; heal b"); !sameHosts(d.Host, want) {
		t.Error(brief(d.Host))
	}
	if text := textOfEntry(d.Entries[2]); text != "c: lamp; 1.0; tell of a 1.0" {
		t.Errorf("the entry has become %q", text)
	}
}

func TestRepliesOfOpenDesks(t *testing.T) {
	talk(t, `
		entry d: robot; 1.0 => ok
		entry r: shelf reads; 1.0 => ok
		open => ok
		call d Start => off
		start d => ok
		call d Load a=1,b=2,c=3,d=999 => ok 4
		call d Save => ok 0 a=1,b=2,c=3,d=999
		call d Put e 1 => full
		call d Load a => refused
		call d Load  => refused
		call d Load  a=1 => refused
		call d Load - => ok 0
		call d Save => ok 0 -
		call d Tell => ok 1
		call d Hear 7 => ok 2
		call d Heal => ok 0
		call d Get k => off
		start r => ok
		call r Put k 1 => refused
		call r Start => assert run of keep
		call r Hear 0 => assert hear of keep
		call d Hear 1 => ok 3
		call d Start => broken
		line d => d shut broken -
		heal d => ok 1
		line d => d down off -
		stop r => ok
		stop r => no
		line r => r down off -
		log => start d; call d Load a=1,b=2,c=3,d=999; call d Save; call d Put e 1; call d Load a; call d Load ; call d Load  a=1; call d Load -; call d Save; call d Tell; call d Hear 7; call d Heal; call d Get k; start r; call r Put k 1; call d Hear 1; call d Start; heal d; stop r
	`)
}

// With a full Log, everything is refused, each in its own words.
func TestFullLogsOfDesks(t *testing.T) {
	script := "entry a: drawer; 1.0 => ok\nentry b: lamp; 1.0 => ok\nopen => ok\nstart a => ok\n"
	for i := range 22 {
		script += "call a Put k " + []string{"1", "2"}[i%2] + " => ok 1\n"
	}
	d := talk(t, script+`
		call a Get k => ok 2
		call a Get k => bad
		start b => no
		stop a => no
		swap b lamp => no
		heal a => bad
		line a => a up on k=2`)
	if len(d.Host.Log) != 24 {
		t.Error(brief(d.Host.Log))
	}
}

func TestLinesOfEntries(t *testing.T) {
	talk(t, `
		entry line: shelf counts; 1.0 => ok
		entry a: vault; 1.0; keep of line 1.0 => ok
		line a => no host
		open => ok
		line a => a down off -
		line line => line down off -
		start a => ok
		call a Load k=1,l=22 => ok 2
		call line Put x 999 => ok 1
		line a => a up on k=1,l=22
		line line => line up off x=999
		line b => no entry
		line A => no entry
		line  => no entry
		line  a => no entry
		line a  => no entry
		line a line => no entry
		line none => no entry
		call a Start => broken
		line a => a shut broken k=1,l=22
	`)
}

func TestPlansOfDesks(t *testing.T) {
	d := talk(t, `
		trim => nothing
		plan make 0 lamp => 1
		trim => make 0 lamp
		plan nothing => 0
		trim => nothing
		plan make 0 vault; loop { wrap 0 counts; if { drop 1 } else { } }; call 0 Load  => 6
		plan => what
		plan  => no plan
		plan make => no plan
		plan make 0 lamp;  => no plan
		plan  make 0 lamp => no plan
		plan make 0 lamp  => no plan
		plan make 3 lamp => no plan
		plan nothing; nothing => no plan
		plan loop { loop { loop { drop 0 } } } => no plan
		plan drop 0; drop 0; drop 0; drop 0; drop 0; drop 0; drop 0; drop 0; drop 0; drop 0; drop 0; drop 0; drop 0; drop 0; drop 0 => no plan
		trim => make 0 vault; loop { wrap 0 counts; if { drop 1 } else { } }; call 0 Load 
		open => ok
		plan drop 0; drop 0; drop 0; drop 0; drop 0; drop 0; drop 0; drop 0; drop 0; drop 0; drop 0; drop 0; drop 0; drop 0 => 14
		plan drop 2 => 1
	`)
	if textOfPlan(d.Plan) != "drop 2" {
		t.Error(brief(d.Plan))
	}
}

// A plan of MaxPlan bytes is read, and one of one byte more is not: the blank and the word before it do not count.
func TestLongestPlansOfDesks(t *testing.T) {
	before := deskFor(t, "plan drop 1")
	for key, want := range map[int]string{1: "10", 2: "no plan"} {
		text := textOfPlan(longPlan(9, key))
		d, answer := checkDeskLine(t, before, "plan "+text)
		if answer != want || (textOfPlan(d.Plan) == text) != (len(text) == 600) || len(text) != 599+key {
			t.Errorf("a plan of %d bytes is answered %q", len(text), answer)
		}
	}
}

func TestQuestionsOfTheEmptyPlan(t *testing.T) {
	for _, start := range []string{"plan nothing => 0", "# a new desk =>", "plan drop 0 => 1\nplan nothing => 0\nplan none => no plan", "open => ok"} {
		talk(t, start+`
			check => safe
			run => ok: -, -, -
			run 3 => ok: -, -, -
			run 0 1 2 999 => ok: -, -, -
			after => 1
			wants => none; none; none
			trim => nothing`)
	}
}

func TestQuestionsOfPlans(t *testing.T) {
	talk(t, `
		plan make 0 vault; ask 0 run; loop { ask 0 run; if { wrap 0 reads } else { } }; ask 0 keep => 7
		check => place 3 wants run of keep for 2 1
		run => ok: vault, -, -
		run 2 1 => place 3 wants run of keep: vault reads, -, -
		run 2 => ok: vault, -, -
		run 2 0 1 => ok: vault reads, -, -
		run 3 0 1 => place 3 wants run of keep: vault reads, -, -
		run 1 1 => ok: vault reads, -, -
		run 1 3 => ok: vault reads, -, -
		run 1 2 => ok: vault, -, -
		run 4 1 => ok: vault, -, -
		run 6 5 => place 3 wants run of keep: vault reads, -, -
		run 999 0 1 => place 3 wants run of keep: vault reads, -, -
		run 1 1 1 1 1 1 1 1 => ok: vault reads, -, -
		after => 2
		wants => no wants
		trim => make 0 vault; loop { ask 0 run; if { wrap 0 reads } else { } }
		plan make 0 drawer; if { wrap 0 counts } else { }; try { ask 0 keep+tell; drop 0 } else { make 1 lamp }; call 0 Save => 8
		check => place 7 wants save of run+keep for 0
		run => place 7 wants save of run+keep: drawer, lamp, -
		run 1 => place 7 empty: -, -, -
		after => 0
		wants => no wants
		trim => make 0 drawer; if { wrap 0 counts } else { }; try { ask 0 keep+tell; drop 0 } else { make 1 lamp }; call 0 Save
	`)
}

func TestWantsOfDesks(t *testing.T) {
	talk(t, `
		plan copy 1 from 0; ask 1 tell; wrap 2 counts; loop { call 2 Tell; call 0 Start } => 6
		wants => run+tell; none; keep
		check => safe
		run => place 1 empty: -, -, -
		run 1 => place 1 empty: -, -, -
		after => 0
		trim => copy 1 from 0; ask 1 tell; wrap 2 counts; loop { call 2 Tell; call 0 Start }
		plan ask 0 run+keep+tell+hear+save+heal; ask 1 none => 2
		wants => run+keep+tell+hear+save+heal; none; none
		plan unwrap 0 => 1
		wants => no wants
		check => safe
		run => place 0 empty: -, -, -
		plan make 0 robot; unwrap 0 => 2
		wants => no wants
		after => 1
		run => ok: robot, -, -
		plan try { } else { } => 1
		wants => no wants
		plan make 0 stone; ask 0 none => 2
		wants => none; none; none
		trim => make 0 stone
		plan make 0 stone; ask 0 run => 2
		wants => no wants
		check => place 1 wants run of none
		run => place 1 wants run of none: stone, -, -
	`)
}

func TestHowManyShapes(t *testing.T) {
	talk(t, `
		plan if { make 0 lamp } else { make 1 lamp }; if { make 0 lamp } else { } => 5
		after => 3
		run 1 1 => ok: lamp, -, -
		run 0 1 => ok: lamp, lamp, -
		run 0 0 => ok: -, lamp, -
		plan make 0 drawer; make 1 robot; loop { wrap 0 keeps; copy 2 from 0 }; loop { wrap 1 runs } => 7
		after => 16
		run 3 3 => ok: drawer keeps keeps keeps, robot runs runs runs, drawer keeps keeps keeps
		run 1 => ok: drawer keeps, robot, drawer keeps
		trim => make 0 drawer; make 1 robot; loop { wrap 0 keeps; copy 2 from 0 }; loop { wrap 1 runs }
		plan loop { make 0 lamp; ask 0 keep } => 3
		after => 1
		check => place 2 wants keep of run for 1
		run 0 => ok: -, -, -
		run 1 => place 2 wants keep of run: lamp, -, -
		plan make 0 lamp; ask 0 keep => 2
		after => 0
		check => place 1 wants keep of run
		run => place 1 wants keep of run: lamp, -, -
		run 0 => place 1 wants keep of run: lamp, -, -
	`)
}

// The plan and the host of a desk have nothing to do with each other.
func TestPlansBesideHosts(t *testing.T) {
	for _, line := range []string{"make 0 lamp", "make", "0", "nothing", "no plan", "1", "safe"} {
		if _, answer := checkDeskLine(t, deskFor(t, "entry a: lamp; 1.0\nopen\nstart a\nplan make 0 lamp"), line); answer != "what" {
			t.Errorf("%q is answered %q", line, answer)
		}
	}
	d := deskFor(t, "entry a: robot; 1.0\nopen\nstart a\ncall a Put k 3\nplan make 0 robot; call 0 Put k 4; call 0 Start; call 0 Put k 4")
	for _, line := range strings.Fields("check run after wants trim") {
		checkDeskLine(t, d, line)
	}
	again, _ := impl.DeskLine(d, "run 1 2 3")
	if !sameDesks(again, d) || impl.HostLine(again.Host, "a") != "a up on k=3" {
		t.Error(brief(again))
	}
	closed := deskFor(t, "entry a: robot; 1.0\nplan make 0 robot; ask 0 heal")
	open, answer := checkDeskLine(t, closed, "open")
	if answer != "ok" || textOfPlan(open.Plan) != "make 0 robot; ask 0 heal" || !slices.EqualFunc(open.Entries, closed.Entries, sameEntries) {
		t.Error(brief(open))
	}
}
