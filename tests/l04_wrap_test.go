package tests

import (
	"testing"

	"loop.example/g03016/impl"
)

func checkWrap(t *testing.T, p impl.Part, name string) {
	t.Helper()
	wantPart, wantReply := wrapped(p, name)
	q, r := impl.Wrap(p, name)
	if !sameParts(q, wantPart) || r != wantReply {
		t.Errorf("Wrap(%+v, %.40q)\nis  %+v, %+v\nnot %+v, %+v", p, name, q, r, wantPart, wantReply)
	}
}

// Promise 4: a part is wrapped exactly if it offers what the adapter needs.
func TestEachAdapterAroundEachPart(t *testing.T) {
	for _, k := range kinds {
		for _, shape := range shapesOf(k.name, 2) {
			for _, a := range adapters {
				had := impl.FaceOf(shape)
				q, r := impl.Wrap(shape, a.name)
				if impl.Offers(had, a.needs) {
					want := withLayer(shape, impl.Layer{Name: a.name})
					if r != (impl.Reply{Value: a.gives}) || !sameParts(q, want) || !impl.IsPart(q) || impl.FaceOf(q) != a.gives {
						t.Errorf("%s around %v: %+v, %+v", a.name, impl.RecipeOf(shape), q, r)
					}
					continue
				}
				if r != (impl.Reply{Code: impl.ReplyAssert, Want: a.needs, Had: had}) || !sameParts(q, shape) {
					t.Errorf("%s around %v: %+v, %+v", a.name, impl.RecipeOf(shape), q, r)
				}
			}
		}
	}
}

func TestWrapInAllStates(t *testing.T) {
	for _, k := range kinds {
		for _, shape := range shapesOf(k.name, 3) {
			for _, p := range partsOf(shape) {
				for _, a := range adapters {
					checkWrap(t, p, a.name)
				}
			}
		}
	}
}

func TestWrapOfWhatIsNoAdapterOrNoPart(t *testing.T) {
	for _, k := range kinds {
		for _, shape := range shapesOf(k.name, 1) {
			for _, s := range notAdapters {
				checkWrap(t, shape, s)
			}
		}
	}
	for _, p := range invalidParts() {
		for _, name := range append(adapterNames(), "", "robot") {
			checkWrap(t, p, name)
		}
	}
}

// The reasons of a refusal come in the order bad, full, assert.
func TestWhichRefusalComesFirst(t *testing.T) {
	lamp := func(count int, names ...string) impl.Part {
		p := impl.Part{Core: impl.Core{Kind: "lamp"}, Layers: layersOf(names...)}
		if len(names) > 0 {
			p.Layers[0].Count = count
		}
		return p
	}
	for _, c := range []struct {
		p          impl.Part
		name, want string
	}{
		{lamp(0), "keeps", "assert keep of run"},
		{lamp(0), "lazy", "assert run+keep of run"},
		{lamp(0), "twice", "assert tell of run"},
		{lamp(0), "saves", "bad"},
		{lamp(0, "plain", "plain", "plain"), "plain", "full"},
		{lamp(0, "plain", "plain", "plain"), "runs", "full"},
		{lamp(0, "runs", "runs", "runs"), "runs", "full"},
		{lamp(0, "runs", "runs", "runs"), "lamp", "bad"},
		{lamp(0, "runs", "runs", "runs"), "", "bad"},
		{lamp(0, "runs", "runs", "keeps"), "runs", "bad"},
		{lamp(0, "runs", "runs", "runs", "runs"), "runs", "bad"},
		{lamp(0, "runs", "runs", "runs", "runs"), "keeps", "bad"},
		{lamp(1, "runs", "runs", "runs"), "runs", "bad"},
		{lamp(1, "runs"), "keeps", "bad"},
		{lamp(1, "hears"), "keeps", "assert keep of run+hear"},
		{lamp(1000, "hears"), "keeps", "bad"},
		{impl.Part{Core: impl.Core{Kind: "stone", On: true}}, "runs", "bad"},
		{impl.Part{Core: impl.Core{Kind: "stone"}}, "runs", "assert run of none"},
		{impl.Part{Core: impl.Core{Kind: "stone"}}, "plain", "ok 0"},
		{impl.Part{Core: impl.Core{Kind: "robot"}}, "heals", "ok 33"},
	} {
		q, r := impl.Wrap(c.p, c.name)
		if got := impl.FormatReply(r); got != c.want {
			t.Errorf("%q around %+v: %s", c.name, c.p, got)
		}
		if r.Code != impl.ReplyOK && !sameParts(q, c.p) {
			t.Errorf("%q around %+v: %+v", c.name, c.p, q)
		}
	}
}

func TestUnwrap(t *testing.T) {
	for _, k := range kinds {
		for _, shape := range shapesOf(k.name, 3) {
			for _, p := range partsOf(shape) {
				q, ok := impl.Unwrap(p)
				if len(p.Layers) == 0 {
					if ok || !sameParts(q, p) {
						t.Errorf("Unwrap(%+v) = %+v, %t", p, q, ok)
					}
					continue
				}
				want := impl.Part{Core: p.Core, Layers: p.Layers[:len(p.Layers)-1]}
				if !ok || !sameParts(q, want) || !impl.IsPart(q) {
					t.Errorf("Unwrap(%+v) = %+v, %t", p, q, ok)
				}
			}
		}
	}
	for _, p := range invalidParts() {
		if q, ok := impl.Unwrap(p); ok || !sameParts(q, p) {
			t.Errorf("Unwrap(%+v) = %+v, %t", p, q, ok)
		}
	}
}

func TestUnwrapTakesOffWhatWrapPutsOn(t *testing.T) {
	for _, k := range kinds {
		for _, shape := range shapesOf(k.name, 2) {
			for _, p := range partsOf(shape) {
				for _, a := range adapters {
					q, r := impl.Wrap(p, a.name)
					if r.Code != impl.ReplyOK {
						continue
					}
					if back, ok := impl.Unwrap(q); !ok || !sameParts(back, p) {
						t.Errorf("%s around %+v is unwrapped to %+v, %t", a.name, p, back, ok)
					}
				}
			}
		}
	}
}
