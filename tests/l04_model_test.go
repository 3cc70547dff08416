package tests

import (
	"slices"
	"strings"

	"loop.example/g03016/impl"
)

// The adapters as the document's table tells them, for the tests of chapter 4.
var adapters = []struct {
	name         string
	needs, gives int
}{
	{"plain", 0, 0},
	{"runs", 1, 1},
	{"keeps", 2, 2},
	{"counts", 2, 6},
	{"lazy", 3, 3},
	{"reads", 2, 2},
	{"hears", 1, 9},
	{"heals", 1, 33},
	{"twice", 4, 4},
}

var notAdapters = []string{
	"", " ", "plai", "plains", "Plain", "PLAIN", " plain", "plain ", "plain\n", "plain\x00", "none", "run", "keep", "tell", "hear", "save", "heal",
	"count", "read", "lazily", "twices", "runskeeps", "runs keeps", "runs+keeps", "lazy lamp", "stone", "lamp", "robot", "saves", "tells", "Start",
	"laz\xf9", "\xff", strings.Repeat("runs", 1<<16),
}

func adapterNames() []string {
	names := []string{}
	for _, a := range adapters {
		names = append(names, a.name)
	}
	return names
}

func adapterOf(name string) (needs, gives int, ok bool) {
	for _, a := range adapters {
		if a.name == name {
			return a.needs, a.gives, true
		}
	}
	return 0, 0, false
}

func layerCounts(name string) bool {
	return name == "counts" || name == "hears"
}

func faceOfPart(p impl.Part) int {
	face, _ := faceOfKind(p.Core.Kind)
	for _, layer := range p.Layers {
		_, face, _ = adapterOf(layer.Name)
	}
	return face
}

func isValidPart(p impl.Part) bool {
	if !isValidCore(p.Core) || len(p.Layers) > 3 {
		return false
	}
	offered, _ := faceOfKind(p.Core.Kind)
	for _, layer := range p.Layers {
		needs, gives, ok := adapterOf(layer.Name)
		if !ok || !setOf(offered).offers(setOf(needs)) {
			return false
		}
		if !inRange(layer.Count) || (layer.Count > 0 && !layerCounts(layer.Name)) {
			return false
		}
		offered = gives
	}
	return true
}

func sameParts(a, b impl.Part) bool {
	return sameCores(a.Core, b.Core) && slices.Equal(a.Layers, b.Layers)
}

// answerOfPart tells the part after a call and the reply, as the document's text has them.
func answerOfPart(p impl.Part, x impl.Call) (impl.Part, impl.Reply) {
	if !isValidPart(p) || !isValidCall(x) {
		return p, impl.Reply{Code: 7}
	}
	had := faceOfPart(p)
	if want := wants[x.Method]; had/want%2 == 0 {
		return p, impl.Reply{Code: 1, Want: want, Had: had}
	}
	return through(p, x)
}

// through tells what becomes of a call that the part offers.
func through(p impl.Part, x impl.Call) (impl.Part, impl.Reply) {
	if len(p.Layers) == 0 {
		core, r := answer(p.Core, x)
		return impl.Part{Core: core}, r
	}
	last := p.Layers[len(p.Layers)-1]
	inside := impl.Part{Core: p.Core, Layers: p.Layers[:len(p.Layers)-1]}
	inside, last.Count, x = beforeInside(inside, last, x)
	var r impl.Reply
	switch {
	case last.Name == "reads" && x.Method == "Put":
		r = impl.Reply{Code: 6}
	case last.Name == "counts" && x.Method == "Tell", last.Name == "hears" && x.Method == "Hear":
		r = impl.Reply{Value: last.Count}
	default:
		inside, r = through(inside, x)
	}
	if last.Name == "lazy" && r.Code == 2 && x.Method != "Start" && x.Method != "Stop" {
		inside, _ = through(inside, impl.Call{Method: "Start"})
		inside, r = through(inside, x)
	}
	if last.Name == "twice" {
		r.Value = min(999, r.Value+r.Value)
	}
	return impl.Part{Core: inside.Core, Layers: append(slices.Clone(inside.Layers), last)}, r
}

// beforeInside tells what a layer does before the call goes on: the part inside, the layer's Count, and the call that goes on.
func beforeInside(inside impl.Part, last impl.Layer, x impl.Call) (impl.Part, int, impl.Call) {
	switch {
	case last.Name == "counts" && x.Method != "Tell":
		return inside, higher(last.Count), x
	case last.Name == "hears" && x.Method == "Hear":
		switch x.Value {
		case 0:
			x = impl.Call{Method: "Stop"}
		case 1:
			x = impl.Call{Method: "Start"}
		}
		return inside, higher(last.Count), x
	case last.Name == "heals" && x.Method == "Heal":
		stopped, _ := through(inside, impl.Call{Method: "Stop"})
		return stopped, last.Count, impl.Call{Method: "Start"}
	}
	return inside, last.Count, x
}

func answersOfPart(p impl.Part, l []impl.Call) (impl.Part, []impl.Reply) {
	replies := []impl.Reply{}
	for _, x := range l {
		q, r := answerOfPart(p, x)
		p = q
		replies = append(replies, r)
		if r.Code == 1 {
			break
		}
	}
	return p, replies
}

// wrapped tells what Wrap does, as the document's text has it.
func wrapped(p impl.Part, name string) (impl.Part, impl.Reply) {
	needs, gives, ok := adapterOf(name)
	had := faceOfPart(p)
	switch {
	case !ok || !isValidPart(p):
		return p, impl.Reply{Code: 7}
	case len(p.Layers) == 3:
		return p, impl.Reply{Code: 5}
	case !setOf(had).offers(setOf(needs)):
		return p, impl.Reply{Code: 1, Want: needs, Had: had}
	}
	return withLayer(p, impl.Layer{Name: name}), impl.Reply{Value: gives}
}

func withLayer(p impl.Part, layer impl.Layer) impl.Part {
	return impl.Part{Core: p.Core, Layers: append(slices.Clone(p.Layers), layer)}
}

// made tells what MakePart does, as the document's text has it.
func made(l []string) (impl.Part, impl.Reply) {
	if len(l) == 0 {
		return impl.Part{}, impl.Reply{Code: 7}
	}
	if _, ok := faceOfKind(l[0]); !ok {
		return impl.Part{}, impl.Reply{Code: 7}
	}
	p := impl.Part{Core: impl.Core{Kind: l[0]}}
	for _, name := range l[1:] {
		q, r := wrapped(p, name)
		if r.Code != 0 {
			return impl.Part{}, r
		}
		p = q
	}
	return p, impl.Reply{Value: faceOfPart(p)}
}

// shapesOf gives all valid parts of a kind with up to size layers, new and without counts.
func shapesOf(kind string, size int) []impl.Part {
	shapes := []impl.Part{}
	listsOf(adapterNames(), size, func(l []string) {
		p := impl.Part{Core: impl.Core{Kind: kind}}
		for _, name := range l {
			p = withLayer(p, impl.Layer{Name: name})
		}
		if isValidPart(p) {
			shapes = append(shapes, p)
		}
	})
	return shapes
}

// partsOf gives a shape in states of all sorts.
func partsOf(shape impl.Part) []impl.Part {
	parts := []impl.Part{}
	for _, core := range coresOf(shape.Core.Kind) {
		if (core.Count != 1 && core.Count != 999) || len(core.Cells) == 2 || len(core.Cells) == 3 {
			continue
		}
		for _, count := range []int{400, 998, 999} {
			p := impl.Part{Core: core, Layers: slices.Clone(shape.Layers)}
			counted := false
			for i, layer := range p.Layers {
				if layerCounts(layer.Name) {
					p.Layers[i].Count, counted = count, true
				}
			}
			parts = append(parts, p)
			if !counted {
				break
			}
		}
	}
	return parts
}

// fewCalls are valid calls of each method, one for each way that a part can answer.
func fewCalls() []impl.Call {
	calls := []impl.Call{}
	for _, method := range []string{"Start", "Stop", "Tell", "Save", "Heal"} {
		calls = append(calls, impl.Call{Method: method})
	}
	for _, key := range []string{"b", "z"} {
		calls = append(calls, impl.Call{Method: "Get", Key: key}, impl.Call{Method: "Put", Key: key, Value: 5})
	}
	for _, value := range []int{0, 1, 2, 999} {
		calls = append(calls, impl.Call{Method: "Hear", Value: value})
	}
	return append(calls, impl.Call{Method: "Load", Text: "a=1"}, impl.Call{Method: "Load", Text: "bad"})
}
