package tests

import (
	"slices"
	"strings"
	"testing"

	"loop.example/g03016/impl"
)

// roomyDesk returns the desk with marks in the spare capacity of all its lists.
func roomyDesk(d impl.Desk) impl.Desk {
	return impl.Desk{Entries: roomyEntries(d.Entries), Open: d.Open, Host: roomyHost(d.Host), Plan: roomyActions(d.Plan)}
}

func checkRoomyDesk(t *testing.T, got, want impl.Desk) {
	t.Helper()
	if got.Open != want.Open {
		t.Error("the argument has another Open")
	}
	checkRoomyEntries(t, got.Entries, want.Entries)
	checkRoomyHost(t, got.Host, want.Host)
	checkRoomyActions(t, got.Plan, want.Plan)
}

// spoilDesk writes over all that a desk reaches.
func spoilDesk(d impl.Desk) {
	spoilEntries(d.Entries)
	spoilHost(d.Host)
	spoilActions(d.Plan)
}

// desksForMemory are desks of all sorts, and some that are not valid.
func desksForMemory(t *testing.T) []impl.Desk {
	t.Helper()
	l := desksOfAllSorts(t)
	host := hostFor(t, threeEntries, "start c; call b Put k 3; swap c lamp runs")
	deep := planOf(t, "loop { make 0 vault; if { wrap 0 counts } else { drop 1 } }; try { ask 0 run } else { call 0 Load a=1 }")
	return append(l,
		impl.Desk{Entries: host.Entries, Host: host, Plan: deep},
		impl.Desk{Entries: []impl.Entry{host.Entries[1], host.Entries[0]}, Open: true, Host: host, Plan: deep},
		impl.Desk{Entries: host.Entries, Open: true, Host: impl.Host{Entries: host.Entries, Parts: host.Parts[:2], Up: []string{"x"}, Shut: []string{"y", "x"}, Log: host.Log}, Plan: deep},
		impl.Desk{Entries: host.Entries, Open: true, Host: host, Plan: append(slices.Clone(deep), manyDrops(14)...)},
		impl.Desk{Plan: []impl.Action{{Op: 77, Word: "none", Call: impl.Call{Method: "Fly", Key: "k", Text: "x"}, A: deep, B: []impl.Action{loopOf(deep...)}}}},
	)
}

// linesForMemory are commands, and lines that are none.
func linesForMemory() []string {
	return append([]string{"", "# open", "what", "open ", "run 1 x", "entry none", "plan none", "line ", "start none", "swap a robot", "call a Load x=1", "call c Put key 5"}, commandsOfAllSorts...)
}

func TestDesksAreNotChanged(t *testing.T) {
	for _, d := range desksForMemory(t) {
		for _, line := range linesForMemory() {
			desk := roomyDesk(d)
			impl.IsDesk(desk)
			after, _ := impl.DeskLine(desk, line)
			spoilDesk(after)
			checkRoomyDesk(t, desk, d)
		}
	}
	for _, slots := range slotsOfAllSorts(t) {
		given := roomySlots(slots)
		impl.EndLine(impl.End{Code: impl.EndAssert, Place: 1, Want: 2, Had: 3}, given)
		checkRoomySlots(t, given, slots)
	}
}

func TestDesksAreNewEachTime(t *testing.T) {
	for _, d := range desksForMemory(t) {
		for _, line := range linesForMemory() {
			first, _ := impl.DeskLine(d, line)
			second, _ := impl.DeskLine(d, line)
			spoilDesk(first)
			if want, _ := answered(d, line); !sameDesks(second, want) {
				t.Errorf("%q of %s: %s", line, brief(d), brief(second))
			}
		}
	}
	text := "entry a: lamp; 1.0\nopen\nstart a\norder\nlog"
	first, second := impl.DeskText(text), impl.DeskText(text)
	spoilTexts(first)
	if !slices.Equal(second, []string{"ok", "ok", "ok", "a", "start a"}) {
		t.Error(second)
	}
}

// listsOfDesk are functions that write over one list of a desk each, its spare capacity included, and put another one in its place.
func listsOfDesk(want impl.Desk) []func(d *impl.Desk) {
	l := []func(d *impl.Desk){
		func(d *impl.Desk) { spoilEntries(d.Entries); d.Entries = want.Entries },
		func(d *impl.Desk) { spoilEntries(d.Host.Entries); d.Host.Entries = want.Host.Entries },
		func(d *impl.Desk) { spoilTexts(d.Host.Up); d.Host.Up = want.Host.Up },
		func(d *impl.Desk) { spoilTexts(d.Host.Shut); d.Host.Shut = want.Host.Shut },
		func(d *impl.Desk) { spoilEvents(d.Host.Log); d.Host.Log = want.Host.Log },
		func(d *impl.Desk) { spoilActions(d.Plan); d.Plan = want.Plan },
	}
	for i := range want.Entries {
		l = append(l, func(d *impl.Desk) { spoilEntries(d.Entries[i : i+1 : i+1]); d.Entries[i] = want.Entries[i] })
	}
	for i := range want.Host.Entries {
		l = append(l, func(d *impl.Desk) {
			spoilEntries(d.Host.Entries[i : i+1 : i+1])
			d.Host.Entries[i] = want.Host.Entries[i]
		})
	}
	for i := range want.Host.Parts {
		l = append(l, func(d *impl.Desk) { spoilPart(d.Host.Parts[i]); d.Host.Parts[i] = want.Host.Parts[i] })
	}
	for i := range want.Host.Log {
		l = append(l, func(d *impl.Desk) {
			spoilTexts(d.Host.Log[i].Recipe)
			d.Host.Log[i].Recipe = want.Host.Log[i].Recipe
		})
	}
	for i := range want.Plan {
		l = append(l, func(d *impl.Desk) { spoilActions(d.Plan[i].A); d.Plan[i].A = want.Plan[i].A })
		l = append(l, func(d *impl.Desk) { spoilActions(d.Plan[i].B); d.Plan[i].B = want.Plan[i].B })
	}
	return l
}

// What is written over in one list of a desk is not seen in another one, also where the lists that came in are the same ones in several places.
func TestListsOfOneDeskAreApart(t *testing.T) {
	desks := desksForMemory(t)
	for i, d := range desks {
		if d.Open {
			desks[i].Entries = d.Host.Entries
		}
	}
	shared := append(planOf(t, "drop 1; make 0 lamp"), spareAction)[:2]
	entries := registryOf(t, "a: vault counts; 1.0; run 1.0\nb: vault counts; 1.0; run 1.0\nc: lamp; 1.0")
	entries[1].Recipe, entries[1].Needs = entries[0].Recipe, entries[0].Needs
	desks = append(desks, impl.Desk{Entries: entries, Plan: []impl.Action{ifOf(shared, shared), loopOf(shared...)}}, impl.Desk{Plan: []impl.Action{{}, ifOf(shared, shared), loopOf(shared...)}})
	for _, d := range desks {
		for _, line := range linesForMemory() {
			want, _ := answered(d, line)
			for i, spoiler := range listsOfDesk(want) {
				after, _ := impl.DeskLine(d, line)
				spoiler(&after)
				if !sameDesks(after, want) {
					t.Fatalf("%q of %s: the list %d is shared", line, brief(d), i)
				}
			}
		}
	}
}

func textsOfDesk(d impl.Desk) []string {
	return slices.Concat(textsOfEntries(d.Entries), textsOfHost(d.Host), textsOfActions(d.Plan))
}

// clonedDesk has each of its texts in memory of its own, so that none of them is a constant of the tests or of the program.
func clonedDesk(d impl.Desk) impl.Desk {
	entries := clonedHost(impl.Host{Entries: d.Entries}).Entries
	return impl.Desk{Entries: entries, Open: d.Open, Host: clonedHost(d.Host), Plan: clonedActions(d.Plan)}
}

func TestTextsOfDesksAreNewMemory(t *testing.T) {
	for _, desk := range desksForMemory(t) {
		d := clonedDesk(desk)
		for _, command := range linesForMemory() {
			line := strings.Clone(command)
			after, answer := impl.DeskLine(d, line)
			results := textsOfDesk(after)
			checkNewTexts(t, append(textsOfDesk(d), line), append(results, answer))
			for i, s := range results {
				if within(answer, s) || within(s, answer) {
					t.Errorf("%q: the answer %q and the text %d, %q, are one", line, answer, i, s)
				}
			}
		}
	}
	for _, given := range slotsOfAllSorts(t) {
		slots := clonedSlots(given)
		checkNewTexts(t, textsOfSlots(slots), []string{impl.EndLine(impl.End{}, slots)})
	}
	text := strings.Clone("entry abcdefgh: lamp; 1.0\nopen\nstart abcdefgh\nline abcdefgh\norder\nlog\nplan make 0 robot\ntrim\nrun")
	checkNewTexts(t, []string{text}, impl.DeskText(text))
}
