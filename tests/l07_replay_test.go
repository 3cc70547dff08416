package tests

import (
	"slices"
	"strings"
	"testing"

	"loop.example/g03016/impl"
)

func checkReplay(t *testing.T, registry []impl.Entry, log []impl.Event, wanted bool) {
	t.Helper()
	want, ok := replayed(registry, log)
	if ok != wanted {
		t.Fatalf("%s of %s gives a host: %t", brief(log), brief(registry), ok)
	}
	h, got := impl.ReplayHost(registry, log)
	if got != wanted || !sameHosts(h, want) {
		t.Errorf("ReplayHost(%s, %s)\nis  %+v, %t\nnot %+v, %t", brief(registry), brief(log), h, got, want, wanted)
	}
	if wanted && !slices.EqualFunc(h.Log, log, sameEvents) {
		t.Errorf("%s is replayed as %s", brief(log), brief(h.Log))
	}
}

const longLog = "start a; call b Put k 3; start e; call c Get k; swap e robot; call e Load x; call b Start; heal b; start e; swap f lamp; call d Put z 9; " +
	"call d Stop; call d Stop; call c Tell; stop f; start e; call e Start; call e Tell"

// Each beginning of a log gives the host that there was then.
func TestEachBeginningOfALog(t *testing.T) {
	registry := registryOf(t, strings.Replace(sixWired, "d: robot lazy runs", "d: robot", 1))
	log := eventsOf(t, strings.TrimSuffix(longLog, "; call e Tell"))
	h := hostOfRegistry(registry)
	checkReplay(t, registry, nil, true)
	for i, x := range log {
		after, _, ok := done(h, x)
		if !ok {
			t.Fatalf("%q is refused by %s", textOfEvent(x), brief(h))
		}
		h = after
		checkReplay(t, registry, log[:i+1], true)
		if again, _ := impl.ReplayHost(registry, log[:i+1]); !impl.SameHost(again, h) || !sameHosts(again, h) {
			t.Errorf("the first %d events give %+v, not %+v", i+1, again, h)
		}
	}
	// The last one is refused: its entry is shut.
	checkReplay(t, registry, eventsOf(t, longLog), false)
}

func TestLogsWithAnEventThatIsRefused(t *testing.T) {
	registry := registryOf(t, threeEntries)
	for _, log := range []string{
		"start d", "stop a", "heal a", "call a Tell", "swap a stone", "swap d lamp", "start a; start a", "start a; start b", "start a; stop c", "start a; call c Stop",
		"start a; call a Start", "start a; call b Tell", "start c; call c Heal", "start a; call b Start; start a", "start a; call b Start; swap b drawer", "start a; heal b",
		"start a; call b Start; heal a", "start a; call b Start; heal b; heal b", "swap b lamp", "swap a robot; swap a lamp", "start a; call b Start; call b Stop", "call d Tell",
	} {
		checkReplay(t, registry, eventsOf(t, log), false)
		for _, before := range []string{"start c; stop b; ", "swap c meter; "} {
			checkReplay(t, registry, eventsOf(t, before+log), false)
		}
		checkReplay(t, registry, append(eventsOf(t, log), eventsOf(t, "start c")...), false)
	}
}

func TestLogsWithAnEventThatIsNotValid(t *testing.T) {
	registry := registryOf(t, threeEntries)
	good := eventsOf(t, "start a; call b Put k 1; swap c meter; start c; stop a")
	checkReplay(t, registry, good, true)
	for i, x := range invalidEvents() {
		at := i % (len(good) + 1)
		checkReplay(t, registry, slices.Insert(slices.Clone(good), at, x), false)
	}
	// Each of these would be done, if only what the Kind asks for were looked at.
	for at, change := range []func(x *impl.Event){
		func(x *impl.Event) { x.Call = impl.Call{Method: "Start"} },
		func(x *impl.Event) { x.Recipe = []string{"lamp"} },
		func(x *impl.Event) { x.Call = impl.Call{Text: "-"} },
		func(x *impl.Event) { x.Recipe = []string{""} },
		func(x *impl.Event) { x.Call = impl.Call{Value: 1} },
	} {
		log := slices.Clone(good)
		change(&log[at])
		checkReplay(t, registry, log, false)
	}
}

func TestLogsOfAllLengths(t *testing.T) {
	registry := registryOf(t, "a: lamp; 1.0\nb: robot; 1.0")
	log := []impl.Event{}
	for len(log) < 26 {
		checkReplay(t, registry, log, len(log) <= 24)
		log = append(log, eventsOf(t, []string{"start a", "stop a"}[len(log)%2])...)
	}
	checkReplay(t, registry, slices.Repeat(log, 1<<10), false)
	for _, text := range []string{"call b Tell", "call b Get k", "swap b robot", "swap a shelf"} {
		for _, size := range []int{23, 24} {
			checkReplay(t, registry, append(eventsOf(t, "start b"), slices.Repeat(eventsOf(t, text), size)...), size == 23)
		}
	}
	checkReplay(t, nil, nil, true)
	checkReplay(t, nil, eventsOf(t, "start a"), false)
}

// Every log of up to four of these events gives a host exactly if each of them is done.
func TestAllShortLogs(t *testing.T) {
	registry := registryOf(t, "a: robot; 1.0\nb: lamp; 1.0; run+keep 1.0")
	texts := strings.Split("start a; start b; stop a; call a Start; call a Put k 1; call b Heal; heal a; swap a drawer; swap a lamp; swap b shelf", "; ")
	listsOf(texts, 4, func(l []string) {
		log := eventsOf(t, strings.Join(l, "; "))
		want, ok := replayed(registry, log)
		if h, got := impl.ReplayHost(registry, log); got != ok || !sameHosts(h, want) {
			t.Errorf("%q: %+v, %t, not %+v, %t", l, h, got, want, ok)
		}
	})
}
