package tests

import (
	"slices"
	"strings"
	"testing"

	"loop.example/g03016/impl"
)

func TestMethodsOf(t *testing.T) {
	for f := range 64 {
		if got := impl.MethodsOf(f); !slices.Equal(got, setOf(f).methods()) {
			t.Errorf("MethodsOf(%d) = %q", f, got)
		}
	}
	for f, want := range map[int]string{
		0:  "",
		1:  "Start Stop",
		2:  "Get Put",
		4:  "Tell",
		8:  "Hear",
		16: "Load Save",
		32: "Heal",
		19: "Get Load Put Save Start Stop",
		63: "Get Heal Hear Load Put Save Start Stop Tell",
	} {
		if got := strings.Join(impl.MethodsOf(f), " "); got != want {
			t.Errorf("MethodsOf(%d) = %q", f, got)
		}
	}
	for _, f := range notFaces {
		if got := impl.MethodsOf(f); len(got) != 0 {
			t.Errorf("MethodsOf(%d) = %q", f, got)
		}
	}
}

func TestMethodsOfIsNewEachTime(t *testing.T) {
	for _, f := range []int{1, 4, 63} {
		first, second := impl.MethodsOf(f), impl.MethodsOf(f)
		for i := range first {
			first[i] = "other"
		}
		_ = append(first, "other")
		if want := setOf(f).methods(); !slices.Equal(second, want) || !slices.Equal(impl.MethodsOf(f), want) {
			t.Error(f, second, impl.MethodsOf(f))
		}
	}
}

func checkFaceOfMethods(t *testing.T, l []string) {
	t.Helper()
	var set faceSet
	for k, a := range abilities {
		set[k] = true
		for _, method := range a.methods {
			set[k] = set[k] && slices.Contains(l, method)
		}
	}
	if got := impl.FaceOfMethods(l); got != set.number() {
		t.Errorf("FaceOfMethods(%q) = %d, want %d", l, got, set.number())
	}
}

func TestFaceOfMethodsOfFixedLists(t *testing.T) {
	for _, c := range []struct {
		l    []string
		want int
	}{
		{nil, 0},
		{[]string{}, 0},
		{[]string{"Start"}, 0},
		{[]string{"Stop"}, 0},
		{[]string{"Get"}, 0},
		{[]string{"Put"}, 0},
		{[]string{"Load"}, 0},
		{[]string{"Save"}, 0},
		{[]string{"Get", "Get"}, 0},
		{[]string{"Start", "Put", "Load"}, 0},
		{[]string{"Tell"}, 4},
		{[]string{"Hear"}, 8},
		{[]string{"Heal"}, 32},
		{[]string{"Heal", "Heal"}, 32},
		{[]string{"Start", "Stop"}, 1},
		{[]string{"Stop", "Start"}, 1},
		{[]string{"Put", "Get", "Put"}, 2},
		{[]string{"Save", "Tell", "Load"}, 20},
		{[]string{"Get", "Tell", "Start", "Stop"}, 5},
		{[]string{"Tell", "Stop", "Save", "Hear", "Heal", "Put", "Load", "Start", "Get"}, 63},
		{[]string{""}, 0},
		{[]string{"run", "keep", "tell", "hear", "save", "heal"}, 0},
		{[]string{"start", "stop", "get", "put", "TELL", "tell", " Hear", "Heal "}, 0},
		{[]string{"Start Stop", "GetPut", "Load+Save", "Start,Stop"}, 0},
		{[]string{"fly", "Get", "", "Put", "Fly", "\xff"}, 2},
	} {
		if got := impl.FaceOfMethods(c.l); got != c.want {
			t.Errorf("FaceOfMethods(%q) = %d, want %d", c.l, got, c.want)
		}
	}
}

func TestFaceOfMethodsOfAllSetsOfMethods(t *testing.T) {
	methods := setOf(63).methods()
	for picks := range 1 << len(methods) {
		l := []string{}
		for i, method := range methods {
			if picks>>i%2 == 1 {
				l = append(l, method)
			}
		}
		checkFaceOfMethods(t, l)
		slices.Reverse(l)
		checkFaceOfMethods(t, l)
		checkFaceOfMethods(t, append(l, l...))
		checkFaceOfMethods(t, append([]string{"Fly"}, l...))
	}
}

// Methods are there in any order, and more than once, among texts that are none.
func TestFaceOfMethodsOfAllShortLists(t *testing.T) {
	listsOf(append(setOf(63).methods(), "fly"), 4, func(l []string) { checkFaceOfMethods(t, l) })
}

func TestFaceOfTheMethodsOfEachFace(t *testing.T) {
	for f := range 64 {
		if got := impl.FaceOfMethods(impl.MethodsOf(f)); got != f {
			t.Errorf("the methods of %d are those of %d", f, got)
		}
	}
}

func TestFaceOfMethodsDoesNotChangeItsList(t *testing.T) {
	texts := []string{"Stop", "Put", "fly", "Get", "Stop", "Start"}
	l := roomy(texts...)
	if got := impl.FaceOfMethods(l); got != 3 {
		t.Error(got)
	}
	checkRoomy(t, l, texts...)
	empty := roomy()
	impl.FaceOfMethods(empty)
	checkRoomy(t, empty)
}

func TestFaceOfMethodsOfLongLists(t *testing.T) {
	l := slices.Repeat([]string{"Get", "fly"}, 1<<17)
	if got := impl.FaceOfMethods(l); got != 0 {
		t.Error(got)
	}
	if got := impl.FaceOfMethods(append(l, "Put")); got != 2 {
		t.Error(got)
	}
}
