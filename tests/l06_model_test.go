package tests

import (
	"fmt"
	"regexp"
	"slices"
	"strconv"
	"strings"
	"testing"

	"loop.example/g03016/impl"
)

var (
	entryForm = regexp.MustCompile(`^([a-z][a-z0-9]{0,7}): ([a-z]+(?: [a-z]+)*); ([0-9.]+)(?:; ([^;]+))?$`)
	needForm  = regexp.MustCompile(`^([a-z+]+) (?:of ([a-z][a-z0-9]{0,7}) )?([0-9.]+)$`)
	// faceTexts builds its map anew each time, and needs are read often.
	textsOfFaces = faceTexts()
)

func isValidNeed(n impl.Need) bool {
	return n.Face >= 1 && n.Face <= 63 && (n.From == "" || nameForm.MatchString(n.From)) && isValidVersion(n.Least)
}

func faceOfRecipe(l []string) (int, bool) {
	p, r := made(l)
	return faceOfPart(p), r.Code == 0
}

func isValidEntry(e impl.Entry) bool {
	if _, ok := faceOfRecipe(e.Recipe); !ok {
		return false
	}
	for _, n := range e.Needs {
		if !isValidNeed(n) || n.From == e.Name {
			return false
		}
	}
	return nameForm.MatchString(e.Name) && isValidVersion(e.Version) && len(e.Needs) <= 3
}

func isValidRegistry(l []impl.Entry) bool {
	names := []string{}
	for _, e := range l {
		if len(l) > 6 || !isValidEntry(e) {
			return false
		}
		names = append(names, e.Name)
	}
	return slices.IsSorted(names) && len(slices.Compact(names)) == len(l)
}

// servesNeed tells of an entry and a need, valid or not, whether they are valid and the one serves the other.
func servesNeed(e impl.Entry, n impl.Need) bool {
	if !isValidEntry(e) || !isValidNeed(n) {
		return false
	}
	face, _ := faceOfRecipe(e.Recipe)
	met := e.Version.Major == n.Least.Major && e.Version.Minor >= n.Least.Minor
	return met && setOf(face).offers(setOf(n.Face)) && (n.From == "" || n.From == e.Name)
}

// wiring tells of each two places of a registry whether the one entry needs the other, and of each one whether it misses a provider.
type wiring struct {
	names   []string
	links   []impl.Link
	needs   [6][6]bool
	missing [6]bool
}

func wiringOf(l []impl.Entry) wiring {
	w := wiring{}
	for i, e := range l {
		w.names = append(w.names, e.Name)
		for _, n := range e.Needs {
			to := slices.IndexFunc(l, func(other impl.Entry) bool { return other.Name != e.Name && servesNeed(other, n) })
			if to < 0 {
				w.missing[i] = true
				continue
			}
			w.needs[i][to] = true
			w.links = append(w.links, impl.Link{From: e.Name, To: l[to].Name, Face: n.Face})
		}
	}
	return w
}

// reaches tells of each two places whether the one entry reaches the other: over one more entry on the way each time.
func (w wiring) reaches() [6][6]bool {
	reach := w.needs
	for over := range 6 {
		for from := range 6 {
			for to := range 6 {
				reach[from][to] = reach[from][to] || reach[from][over] && reach[over][to]
			}
		}
	}
	return reach
}

// stuck says that an entry is stuck as long as the document's sentence finds another one.
func (w wiring) stuck() [6]bool {
	reach := w.reaches()
	stuck := w.missing
	for changed := true; changed; {
		changed = false
		for from := range 6 {
			for to := range 6 {
				if !stuck[from] && (reach[from][from] || reach[from][to] && stuck[to]) {
					stuck[from], changed = true, true
				}
			}
		}
	}
	return stuck
}

// order is the document's sentence: each time the first one that is ready.
func (w wiring) order() []string {
	in := [6]bool{}
	order := []string{}
	for range 6 {
		for i, name := range w.names {
			ready := !in[i] && !w.missing[i]
			for to := range 6 {
				ready = ready && (in[to] || !w.needs[i][to])
			}
			if ready {
				in[i] = true
				order = append(order, name)
				break
			}
		}
	}
	return order
}

// namesIn lists the names of the places that are marked; they are ascending, as the registry is.
func (w wiring) namesIn(marks [6]bool) []string {
	names := []string{}
	for i, name := range w.names {
		if marks[i] {
			names = append(names, name)
		}
	}
	return names
}

func (w wiring) reachOf(at int) []string {
	return w.namesIn(w.reaches()[at])
}

func (w wiring) needersOf(at int) []string {
	marks := [6]bool{}
	for from, reach := range w.reaches() {
		marks[from] = reach[at]
	}
	return w.namesIn(marks)
}

func sameEntries(a, b impl.Entry) bool {
	return a.Name == b.Name && a.Version == b.Version && slices.Equal(a.Recipe, b.Recipe) && slices.Equal(a.Needs, b.Needs)
}

func sameRegistries(a, b []impl.Entry) bool {
	return slices.EqualFunc(a, b, sameEntries)
}

func textOfVersion(v impl.Version) string {
	return strconv.Itoa(v.Major) + "." + strconv.Itoa(v.Minor)
}

// textOfEntry writes a valid entry without the help of the program.
func textOfEntry(e impl.Entry) string {
	text := e.Name + ": " + strings.Join(e.Recipe, " ") + "; " + textOfVersion(e.Version)
	for i, n := range e.Needs {
		text += []string{"; ", ", "}[min(i, 1)] + setOf(n.Face).text()
		if n.From != "" {
			text += " of " + n.From
		}
		text += " " + textOfVersion(n.Least)
	}
	return text
}

func versionOfText(s string) (impl.Version, bool) {
	if !versionForm.MatchString(s) {
		return impl.Version{}, false
	}
	major, minor, _ := strings.Cut(s, ".")
	v := impl.Version{}
	v.Major, _ = strconv.Atoi(major)
	v.Minor, _ = strconv.Atoi(minor)
	return v, true
}

func needOfText(s string) (impl.Need, bool) {
	m := needForm.FindStringSubmatch(s)
	if m == nil {
		return impl.Need{}, false
	}
	face, isFace := textsOfFaces[m[1]]
	least, isVersion := versionOfText(m[3])
	return impl.Need{Face: face, From: m[2], Least: least}, isFace && isVersion
}

// entryOfText reads a text by its form, and refuses what is not a valid entry then.
func entryOfText(s string) (impl.Entry, bool) {
	m := entryForm.FindStringSubmatch(s)
	if m == nil {
		return impl.Entry{}, false
	}
	version, ok := versionOfText(m[3])
	e := impl.Entry{Name: m[1], Recipe: strings.Split(m[2], " "), Version: version}
	for _, text := range strings.Split(m[4], ", ") {
		if m[4] == "" {
			break
		}
		n, isNeed := needOfText(text)
		ok = ok && isNeed
		e.Needs = append(e.Needs, n)
	}
	if !ok || !isValidEntry(e) {
		return impl.Entry{}, false
	}
	return e, true
}

// entryOf reads the text of a valid entry without the help of the program.
func entryOf(t *testing.T, text string) impl.Entry {
	t.Helper()
	e, ok := entryOfText(text)
	if !ok {
		t.Fatalf("%q is no text of an entry", text)
	}
	return e
}

// registryOf reads the texts of the entries of a registry, which are divided by line feeds.
func registryOf(t *testing.T, text string) []impl.Entry {
	t.Helper()
	l := entriesOf(t, text)
	if !isValidRegistry(l) {
		t.Fatalf("%q is no text of a registry", text)
	}
	return l
}

// entriesOf reads the texts of entries that may be in any order.
func entriesOf(t *testing.T, text string) []impl.Entry {
	t.Helper()
	l := []impl.Entry{}
	for _, line := range strings.Split(text, "\n") {
		if line = strings.TrimSpace(line); line != "" {
			l = append(l, entryOf(t, line))
		}
	}
	return l
}

// brief tells a value of any size in a line.
func brief(value any) string {
	text := fmt.Sprintf("%+v", value)
	return text[:min(len(text), 400)]
}
