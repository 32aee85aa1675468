package names_test

import (
	"math"
	"reflect"
	"slices"
	"strings"
	"sync"
	"testing"

	"clew/api"
	"clew/names"
)

// find is what the chapter says about Find, found from entry to entry.
func find(l []api.Name, name string) (api.Name, bool) {
	for _, n := range l {
		if n.Name == name {
			return n, true
		}
	}
	return api.Name{}, false
}

// of is what the chapter says about Of.
func of(l []api.Name, kind int, name string) (int, api.Errno) {
	n, found := find(l, name)
	if !found {
		return 0, api.ErrNone
	}
	if n.Kind != kind {
		return 0, api.ErrKind
	}
	return n.Num, api.OK
}

// text is what the chapter says about Text.
func text(l []api.Name, kind, num int) string {
	for _, n := range l {
		if n.Kind == kind && n.Num == num {
			return n.Name
		}
	}
	return ""
}

// checkAsked checks what Find, Of and Text tell about these names, kinds and numbers.
func checkAsked(t *testing.T, l []api.Name, asked []string, kinds, nums []int) {
	t.Helper()
	for _, name := range asked {
		wantName, wantFound := find(l, name)
		if got, found := names.Find(l, name); got != wantName || found != wantFound {
			t.Fatalf("Find(%v, %q) = %v, %v, not %v, %v", l, name, got, found, wantName, wantFound)
		}
		for _, kind := range kinds {
			wantNum, wantErr := of(l, kind, name)
			if got, err := names.Of(l, kind, name); got != wantNum || err != wantErr {
				t.Fatalf("Of(%v, %d, %q) = %d, %v, not %d, %v", l, kind, name, got, err, wantNum, wantErr)
			}
		}
	}
	for _, kind := range kinds {
		for _, num := range nums {
			if got, want := names.Text(l, kind, num), text(l, kind, num); got != want {
				t.Fatalf("Text(%v, %d, %d) = %q, not %q", l, kind, num, got, want)
			}
		}
	}
}

// some is names with gaps between them, with their kinds and numbers.
func some() []api.Name {
	return []api.Name{{Name: "bell", Kind: 4, Num: 7}, {Name: "door", Kind: 1, Num: 4}, {Name: "fox", Kind: 4, Num: 2}, {Name: "hen", Kind: 7, Num: 0}, {Name: "jar", Kind: 4, Num: 126}}
}

// TestFind is 15.2: names at the first, a middle and the last place, and names that are not there.
func TestFind(t *testing.T) {
	for _, want := range some() {
		if got, found := names.Find(some(), want.Name); got != want || !found {
			t.Fatalf("Find(%q) = %v, %v", want.Name, got, found)
		}
	}
	for _, name := range []string{"", "a", "bel", "bell_", "belly", "c", "doo", "doos", "e", "foxx", "g", "he", "heo", "i", "ja", "jars", "z", "Bell", "BELL", " bell", "\x00", "\xff", strings.Repeat("h", 10000)} {
		if got, found := names.Find(some(), name); got != (api.Name{}) || found {
			t.Fatalf("Find(%q) = %v, %v", name, got, found)
		}
	}
}

// TestOf is 15.2: the number of a name, ErrNone for one that is not there, and ErrKind for one of another kind.
func TestOf(t *testing.T) {
	for _, n := range some() {
		for kind := -1; kind <= 9; kind++ {
			got, err := names.Of(some(), kind, n.Name)
			if kind == n.Kind && (got != n.Num || err != api.OK) || kind != n.Kind && (got != 0 || err != api.ErrKind) {
				t.Fatalf("Of(%d, %q) = %d, %v", kind, n.Name, got, err)
			}
		}
	}
	for _, name := range []string{"", "a", "c", "e", "z", "Bell"} {
		for kind := -1; kind <= 9; kind++ {
			if got, err := names.Of(some(), kind, name); got != 0 || err != api.ErrNone {
				t.Fatalf("Of(%d, %q) = %d, %v", kind, name, got, err)
			}
		}
	}
}

// TestText is 15.2: the first name of a kind and a number, and nothing where there is none.
func TestText(t *testing.T) {
	for _, n := range some() {
		if got := names.Text(some(), n.Kind, n.Num); got != n.Name {
			t.Fatalf("Text(%d, %d) = %q", n.Kind, n.Num, got)
		}
	}
	for _, n := range []api.Name{{Kind: 4}, {Kind: 4, Num: 3}, {Kind: 4, Num: -7}, {Kind: 4, Num: 127}, {Kind: 4, Num: 4}, {Kind: 1, Num: 7}, {Kind: 7, Num: 4}, {Kind: 0, Num: 0}, {Kind: 0, Num: 4}, {Kind: -4, Num: 7}, {Kind: 8, Num: 7}, {Kind: math.MaxInt, Num: math.MaxInt}, {Kind: math.MinInt, Num: math.MinInt}} {
		if got := names.Text(some(), n.Kind, n.Num); got != "" {
			t.Fatalf("Text(%d, %d) = %q", n.Kind, n.Num, got)
		}
	}
	twice := []api.Name{{Name: "a", Kind: 2, Num: 1}, {Name: "b", Kind: 1, Num: 1}, {Name: "c", Kind: 1, Num: 1}, {Name: "d", Kind: 2, Num: 1}, {Name: "e", Kind: 1, Num: 2}, {Name: "f", Kind: 1, Num: 2}}
	for _, want := range []api.Name{twice[0], twice[1], twice[4]} {
		if got := names.Text(twice, want.Kind, want.Num); got != want.Name {
			t.Fatalf("Text(%d, %d) = %q, not the first name", want.Kind, want.Num, got)
		}
	}
}

// TestPredefinedFound is 15.1 and 15.2: the player is no name.
func TestPredefinedFound(t *testing.T) {
	made, _ := names.Make(api.Source{})
	for num, name := range []string{"lit", "open", "box", "hidden"} {
		if got, err := names.Of(made, api.NameFlag, name); got != num || err != api.OK {
			t.Fatalf("%s is %d, %v", name, got, err)
		}
	}
	full, _ := names.Make(source(full()))
	for _, l := range [][]api.Name{made, full} {
		if _, found := names.Find(l, "player"); found || names.Text(l, api.NameThing, api.Player) != "" || names.Text(l, api.NameThing, 0) != "" {
			t.Fatal("the player has a name")
		}
	}
}

// TestNoNames is 15.2: nothing is found where there is nothing.
func TestNoNames(t *testing.T) {
	for _, l := range [][]api.Name{nil, {}} {
		checkAsked(t, l, []string{"", "a", "lit", "player", "\x00"}, []int{-1, 0, 1, 4, 7, 8}, []int{-1, 0, 1, 4})
	}
}

// TestEmptyEntry is 15.2: an entry that is the zero value is found like any other one.
func TestEmptyEntry(t *testing.T) {
	for _, l := range [][]api.Name{{{}}, {{}, {Name: "a"}}} {
		if got, found := names.Find(l, ""); got != (api.Name{}) || !found {
			t.Fatal("the empty name is not found", got, found)
		}
		if got, err := names.Of(l, 0, ""); got != 0 || err != api.OK {
			t.Fatal("the empty name has", got, err)
		}
		if got, err := names.Of(l, 1, ""); got != 0 || err != api.ErrKind {
			t.Fatal("the empty name of another kind has", got, err)
		}
		checkAsked(t, l, []string{"", "a", "b"}, []int{-1, 0, 1}, []int{-1, 0, 1})
	}
}

// TestEverySelection compares Find, Of and Text with the chapter for every selection of a few names in ascending order, of kinds and numbers that may be there twice.
func TestEverySelection(t *testing.T) {
	asked := []string{"", "\x00", "9", "A", "a", "a\x00", "aa", "ab", "b", "lit", "z", "\x7f", "\x80", "\xff", "\xff\xff"}
	pool := slices.DeleteFunc(slices.Clone(asked), func(s string) bool { return s == "9" || s == "aa" || s == "lit" || s == "\x80" })
	kinds := []int{-1, 0, 1, 2, 7, math.MaxInt, math.MinInt}
	nums := []int{-1, 0, 1, 2, 1 << 40, math.MaxInt, math.MinInt}
	for selection := range 1 << len(pool) {
		var l []api.Name
		for i, name := range pool {
			if selection>>i&1 == 1 {
				l = append(l, api.Name{Name: name, Kind: kinds[(i*i+selection)%len(kinds)], Num: nums[(i/2+selection/7)%len(nums)]})
			}
		}
		checkAsked(t, l, asked, kinds, nums)
	}
}

// TestLengths is 15.2: each place of lists of each length, and each place between.
func TestLengths(t *testing.T) {
	var l []api.Name
	var asked []string
	for i := range 70 {
		name := string([]byte{'b' + byte(i/10), 'b' + byte(2*(i%10))})
		asked = append(asked, name, name[:1]+string([]byte{name[1] - 1}), name+"a")
		l = append(l, api.Name{Name: name, Kind: 1 + i%7, Num: i})
		checkAsked(t, l, asked, []int{1, 2, 7}, []int{0, i, i + 1})
	}
}

// TestManyNames is 15.2: lists that are longer than those of any source.
func TestManyNames(t *testing.T) {
	var l []api.Name
	for i := range 1 << 16 {
		l = append(l, api.Name{Name: string([]byte{byte(i >> 8), byte(i)}), Kind: i >> 8, Num: i})
	}
	for _, i := range []int{0, 1, 255, 256, 32767, 32768, 65534, 65535} {
		n := l[i]
		if got, found := names.Find(l, n.Name); got != n || !found || names.Text(l, n.Kind, n.Num) != n.Name {
			t.Fatal("not found:", n)
		}
		if got, found := names.Find(l, n.Name+"\x00"); got != (api.Name{}) || found {
			t.Fatal("found:", got)
		}
	}
}

// TestFindUnchanged is R3: the names are not changed.
func TestFindUnchanged(t *testing.T) {
	made, _ := names.Make(source(full()))
	l := cloned(made)
	before := cloned(l)
	for i, n := range made {
		names.Find(l, n.Name)
		names.Find(l, n.Name+"_")
		names.Of(l, i%8, n.Name)
		names.Text(l, n.Kind, n.Num)
		names.Text(l, i, -i)
	}
	if !unchanged(reflect.ValueOf(l), reflect.ValueOf(before)) {
		t.Fatal("the names are changed")
	}
}

// TestAtOnce is R4: calls do not depend on others that run at the same time.
func TestAtOnce(t *testing.T) {
	s := source(full())
	want, _ := wanted(full())
	var wait sync.WaitGroup
	for range 8 {
		wait.Go(func() {
			made, fault := names.Make(s)
			if fault != (api.Fault{}) || !same(made, want) {
				t.Error("made at the same time:", fault)
				return
			}
			for _, n := range made {
				if got, found := names.Find(made, n.Name); got != n || !found {
					t.Error("found at the same time:", got)
				}
			}
		})
	}
	wait.Wait()
}
