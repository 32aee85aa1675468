package names_test

import (
	"reflect"
	"strconv"
	"strings"
	"testing"

	"clew/api"
	"clew/names"
)

// keywordList is the keywords of chapter 9.
const keywordList = "story by release max start flag prop global room thing in verb meta on before after if func daemon text words adjs is exit to else say let set unset move remove while each return stop win lose award halt travel look list or and not has parent child next random title here player noun second number score any many dir north south east west northeast northwest southeast southwest up down out"

// mostName is how many bytes a name has at most.
const mostName = 24

// part is what chapter 15 says about a part of a source.
type part struct {
	label        string
	number, kind int
	first, most  int
	put          func(s *api.Source, l []string)
}

// parts is the parts in the order in which they are gone through.
func parts() []part {
	return []part{
		{"flags", 2, 1, 4, 12, func(s *api.Source, l []string) { s.Flags = l }},
		{"props", 3, 2, 0, 16, func(s *api.Source, l []string) {
			s.Props = each(l, func(n string) api.Pair { return api.Pair{Name: n} })
		}},
		{"globals", 4, 3, 0, 64, func(s *api.Source, l []string) {
			s.Globals = each(l, func(n string) api.Pair { return api.Pair{Name: n} })
		}},
		{"objects", 5, 4, 2, 126, func(s *api.Source, l []string) {
			s.Objects = each(l, func(n string) api.Object { return api.Object{Name: n} })
		}},
		{"verbs", 6, 5, 0, 64, func(s *api.Source, l []string) {
			s.Verbs = each(l, func(n string) api.Verb { return api.Verb{Name: n} })
		}},
		{"funcs", 8, 6, 0, 64, func(s *api.Source, l []string) {
			s.Funcs = each(l, func(n string) api.Func { return api.Func{Name: n} })
		}},
		{"daemons", 9, 7, 0, 16, func(s *api.Source, l []string) {
			s.Daemons = each(l, func(n string) api.Func { return api.Func{Name: n} })
		}},
	}
}

// each is what an element is for each name.
func each[T any](l []string, element func(name string) T) []T {
	var elements []T
	for _, name := range l {
		elements = append(elements, element(name))
	}
	return elements
}

// source is a source with these names, part by part.
func source(l [][]string) api.Source {
	var s api.Source
	for i, p := range parts() {
		p.put(&s, l[i])
	}
	return s
}

// lists is as many names, which are all different, as counts says part by part.
func lists(counts ...int) [][]string {
	l := make([][]string, len(parts()))
	for i, count := range counts {
		for k := range count {
			l[i] = append(l[i], nameOf(i, k))
		}
	}
	return l
}

// nameOf is a name that is another one for each part and each place in it; their order is neither that of the parts nor that of the places.
func nameOf(i, k int) string {
	return string(rune('a'+(k*7+i*3)%26)) + "_" + strconv.Itoa(k) + string(rune('p'-i))
}

// middling is a few names in each part.
func middling() [][]string { return lists(5, 5, 5, 5, 5, 5, 5) }

// full is as many names as there can be.
func full() [][]string {
	var counts []int
	for _, p := range parts() {
		counts = append(counts, p.most)
	}
	return lists(counts...)
}

// with is l with other names for one part.
func with(l [][]string, i int, other []string) [][]string {
	c := cloned(l)
	c[i] = other
	return c
}

// renamed is l with another name at a place of a part.
func renamed(l [][]string, i, k int, name string) [][]string {
	c := cloned(l)
	c[i][k] = name
	return c
}

// keywords is all keywords.
func keywords() []string { return strings.Fields(keywordList) }

// badNames is texts that are no names: keywords, and others.
func badNames() []string {
	return append(keywords(), "", "A", "Lamp", "lAmp", "lam P", "lamp ", " lamp", "1", "9a", "_", "_a", "a-b", "a'b", "a.b", "\n", "a\x00", "\x00", "\x7f", "\xff", "a\xff", "l\u00e4mp", "\u00e4", strings.Repeat("a", mostName+1), strings.Repeat("a", mostName+2), strings.Repeat("_", mostName), strings.Repeat("a", 5000))
}

// goodNames is names that look like none.
func goodNames() []string {
	return []string{"a", "z", "a_", "a__b", "z9", "a0_", "says", "sa", "yourself", "story_", "in1", "list_out", "nothing", "lits", "ope", "boxes", strings.Repeat("a", mostName), strings.Repeat("z", mostName-1), "z" + strings.Repeat("_", mostName-1), "q" + strings.Repeat("9", mostName-1)}
}

// wanted is what chapter 15 says about Make, found by comparing each declaration with all that are ahead of it.
func wanted(l [][]string) ([]api.Name, api.Fault) {
	known := []api.Name{{Name: "lit", Kind: 1}, {Name: "open", Kind: 1, Num: 1}, {Name: "box", Kind: 1, Num: 2}, {Name: "hidden", Kind: 1, Num: 3}}
	for i, p := range parts() {
		for k, name := range l[i] {
			if err := wantedError(known, p, k, name); err != api.OK {
				return nil, api.Fault{Err: err, Part: p.number, Num: k, Name: name}
			}
			known = append(known, api.Name{Name: name, Kind: p.kind, Num: p.first + k})
		}
	}
	return ordered(known), api.Fault{}
}

// wantedError is the first error of a declaration behind the known ones.
func wantedError(known []api.Name, p part, k int, name string) api.Errno {
	if k >= p.most {
		return api.ErrCount
	}
	if !isName(name) {
		return api.ErrName
	}
	for _, n := range known {
		if n.Name == name {
			return api.ErrTwice
		}
	}
	return api.OK
}

// isName reports whether s is a name and no keyword.
func isName(s string) bool {
	const first, later = "abcdefghijklmnopqrstuvwxyz", "abcdefghijklmnopqrstuvwxyz0123456789_"
	for _, word := range keywords() {
		if s == word {
			return false
		}
	}
	return s != "" && len(s) <= mostName && strings.Trim(s, later) == "" && strings.Trim(s[:1], first) == ""
}

// ordered is l in the order of its names.
func ordered(l []api.Name) []api.Name {
	var sorted []api.Name
	for _, n := range l {
		at := 0
		for at < len(sorted) && sorted[at].Name < n.Name {
			at++
		}
		sorted = append(sorted[:at], append([]api.Name{n}, sorted[at:]...)...)
	}
	return sorted
}

// same reports whether two lists of names are equal.
func same(a, b []api.Name) bool {
	for i := range a {
		if i >= len(b) || a[i] != b[i] {
			return false
		}
	}
	return len(a) == len(b)
}

// checkMade checks that Make returns these names for s, sorted by text, and each one by its text and by its number.
func checkMade(t *testing.T, what string, s api.Source, want []api.Name) {
	t.Helper()
	got, fault := names.Make(s)
	if fault != (api.Fault{}) || !same(got, want) {
		t.Fatalf("%s: made %v, %+v, not %v", what, got, fault, want)
	}
	checkFound(t, what, got)
}

// checkFault checks that Make returns this fault for s, and no names.
func checkFault(t *testing.T, what string, s api.Source, want api.Fault) {
	t.Helper()
	if got, fault := names.Make(s); got != nil || fault != want {
		t.Fatalf("%s: made %v, %+v, not %+v", what, got, fault, want)
	}
}

// checkWanted checks that Make returns what the chapter says about these names.
func checkWanted(t *testing.T, what string, l [][]string) {
	t.Helper()
	want, fault := wanted(l)
	if fault != (api.Fault{}) {
		checkFault(t, what, source(l), fault)
		return
	}
	checkMade(t, what, source(l), want)
}

// checkFound checks that each entry of made names is found by its text and by its number.
func checkFound(t *testing.T, what string, l []api.Name) {
	t.Helper()
	for i, n := range l {
		if i > 0 && l[i-1].Name >= n.Name {
			t.Fatalf("%s: %q is not ahead of %q", what, l[i-1].Name, n.Name)
		}
		if got, found := names.Find(l, n.Name); got != n || !found {
			t.Fatalf("%s: Find(%q) = %v, %v", what, n.Name, got, found)
		}
		if got, err := names.Of(l, n.Kind, n.Name); got != n.Num || err != api.OK {
			t.Fatalf("%s: Of(%d, %q) = %d, %v", what, n.Kind, n.Name, got, err)
		}
		if got := names.Text(l, n.Kind, n.Num); got != n.Name {
			t.Fatalf("%s: Text(%d, %d) = %q, not %q", what, n.Kind, n.Num, got, n.Name)
		}
	}
}

// cloned is x in new memory; behind the elements of each list there is room for others.
func cloned[T any](x T) T {
	return copied(reflect.ValueOf(x)).Interface().(T)
}

func copied(v reflect.Value) reflect.Value {
	c := reflect.New(v.Type()).Elem()
	switch v.Kind() {
	case reflect.Struct:
		for i := range v.NumField() {
			c.Field(i).Set(copied(v.Field(i)))
		}
	case reflect.Slice:
		if !v.IsNil() {
			c.Set(reflect.MakeSlice(v.Type(), v.Len(), v.Len()+2))
		}
		for i := range v.Len() {
			c.Index(i).Set(copied(v.Index(i)))
		}
	default:
		c.Set(v)
	}
	return c
}

// unchanged reports whether two values are equal, also in whether a list is nil and in what stands behind the elements of lists.
func unchanged(a, b reflect.Value) bool {
	switch a.Kind() {
	case reflect.Struct:
		for i := range a.NumField() {
			if !unchanged(a.Field(i), b.Field(i)) {
				return false
			}
		}
		return true
	case reflect.Slice:
		if a.IsNil() != b.IsNil() || a.Len() != b.Len() || a.Cap() != b.Cap() {
			return false
		}
		for i := range a.Cap() {
			if !unchanged(a.Slice(0, a.Cap()).Index(i), b.Slice(0, b.Cap()).Index(i)) {
				return false
			}
		}
		return true
	}
	return a.Interface() == b.Interface()
}
