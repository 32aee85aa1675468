package show_test

import (
	"reflect"
	"strconv"
	"testing"

	"clew/api"
	"clew/show"
)

// fieldsOf is the numbers, texts, truth values and lists of v at all depths, and what leads to each of them.
func fieldsOf(v reflect.Value, path string) ([]reflect.Value, []string) {
	var fields []reflect.Value
	var paths []string
	add := func(part reflect.Value, path string) {
		f, p := fieldsOf(part, path)
		fields, paths = append(fields, f...), append(paths, p...)
	}
	switch v.Kind() {
	case reflect.Struct:
		for i := range v.NumField() {
			add(v.Field(i), path+"."+v.Type().Field(i).Name)
		}
		return fields, paths
	case reflect.Slice:
		for i := range v.Len() {
			add(v.Index(i), path+"["+strconv.Itoa(i)+"]")
		}
	}
	return append(fields, v), append(paths, path)
}

// allFields is fieldsOf s.
func allFields(s *api.Source) ([]reflect.Value, []string) {
	return fieldsOf(reflect.ValueOf(s).Elem(), "")
}

// others is values of v's type that are not equal to it.
func others(v reflect.Value) []reflect.Value {
	switch v.Kind() {
	case reflect.Bool:
		return []reflect.Value{reflect.ValueOf(!v.Bool())}
	case reflect.Int:
		return otherNumbers(int(v.Int()))
	case reflect.String:
		return otherTexts(v.String())
	}
	return otherLists(v)
}

func otherNumbers(n int) []reflect.Value {
	var l []reflect.Value
	for _, other := range []int{0, 1, 2, -n, n - 1, n + 1, ^n, n + 1<<8, n + 1<<15, n + 1<<16, n + 1<<32, n ^ -1<<63} {
		if other != n {
			l = append(l, reflect.ValueOf(other))
		}
	}
	return l
}

func otherTexts(s string) []reflect.Value {
	var l []reflect.Value
	changed := []byte(s + "A")
	changed[0] ^= ' '
	for _, other := range []string{"", " ", s + " ", " " + s, s + "\x00", s + s, s[:len(s)/2], string(changed), string(changed[:len(s)])} {
		if other != s {
			l = append(l, reflect.ValueOf(other))
		}
	}
	return l
}

// otherLists is lists that differ from l in length or in order.
func otherLists(l reflect.Value) []reflect.Value {
	zero := reflect.Zero(l.Type().Elem())
	lists := []reflect.Value{reflect.Append(copied(l), zero)}
	if n := l.Len(); n > 0 {
		lists = append(lists, reflect.Zero(l.Type()), copied(l.Slice(0, n-1)), copied(l.Slice(1, n)), reflect.Append(copied(l), copied(l.Index(n-1))), reflect.AppendSlice(copied(l), copied(l)))
	}
	for i := 1; i < l.Len(); i++ {
		if c := copied(l); !equalValues(l.Index(i), l.Index(i-1)) {
			c.Index(i).Set(l.Index(i - 1))
			c.Index(i - 1).Set(l.Index(i))
			lists = append(lists, c)
		}
	}
	var different []reflect.Value
	for _, other := range lists {
		if !equalValues(other, l) {
			different = append(different, other)
		}
	}
	return different
}

// checkSame checks what Same tells about a and b, and about b and a.
func checkSame(t *testing.T, what string, a, b api.Source, want bool) {
	t.Helper()
	if got, turned := show.Same(a, b), show.Same(b, a); got != want || turned != want {
		t.Fatalf("%s: Same = %v and %v for\n%+v\n%+v", what, got, turned, a, b)
	}
}

// samples is sources with all parts, and with few.
func samples() []api.Source {
	return append([]api.Source{{}, bare(), whole(), strange(), full(2)}, append(pieces(whole()), pieces(strange())...)...)
}

// checkDifferences checks s against sources that differ from it in one field or one list alone, for each of these, and returns how many they are.
func checkDifferences(t *testing.T, s api.Source) int {
	t.Helper()
	c := cloned(s)
	fields, paths := allFields(&c)
	for i, field := range fields {
		// Interface copies a list without its elements, so that these are in fields again when it is set back.
		before := reflect.ValueOf(field.Interface())
		for _, other := range others(field) {
			field.Set(other)
			checkSame(t, paths[i], s, c, false)
			checkSame(t, paths[i], c, c, true)
		}
		field.Set(before)
		checkSame(t, paths[i], s, c, true)
	}
	return len(fields)
}

func TestPromise14_1SameOfOneDifference(t *testing.T) {
	for what, s := range map[string]api.Source{"whole": whole(), "strange": strange()} {
		if n := checkDifferences(t, s); n < 250 {
			t.Fatalf("the %s source has only %d fields", what, n)
		}
	}
	for _, s := range append(pieces(whole()), bare(), api.Source{}) {
		checkDifferences(t, s)
	}
}

// TestPromise14_1SameOfEachField checks that the sources of the test above have each field of each part.
func TestPromise14_1SameOfEachField(t *testing.T) {
	for _, v := range []any{api.Source{}, api.Object{}, api.Exit{}, api.Verb{}, api.Slot{}, api.Rule{}, api.Func{}, api.Pair{}, api.Expr{}, api.Stmt{}} {
		for i := range reflect.TypeOf(v).NumField() {
			if !isSet(reflect.ValueOf(strange()), reflect.TypeOf(v), i) {
				t.Fatalf("%s.%s is not set", reflect.TypeOf(v), reflect.TypeOf(v).Field(i).Name)
			}
		}
	}
}

// isSet reports whether somewhere in v there is a struct of that type whose field i is set.
func isSet(v reflect.Value, of reflect.Type, i int) bool {
	found := v.Type() == of && !v.Field(i).IsZero()
	switch v.Kind() {
	case reflect.Struct:
		for j := 0; j < v.NumField() && !found; j++ {
			found = isSet(v.Field(j), of, i)
		}
	case reflect.Slice:
		for j := 0; j < v.Len() && !found; j++ {
			found = isSet(v.Index(j), of, i)
		}
	}
	return found
}

func TestPromise14_1SameOfEqualSources(t *testing.T) {
	all := samples()
	for i, a := range all {
		checkSame(t, "a source and itself", a, a, true)
		checkSame(t, "a source and its copy", a, cloned(a), true)
		for j, b := range all {
			checkSame(t, "samples "+strconv.Itoa(i)+" and "+strconv.Itoa(j), a, b, equal(a, b))
		}
	}
}

// emptied is v with lists without elements that are not nil in place of those that are, or the other way round.
func emptied(v reflect.Value, isNil bool) {
	fields, _ := fieldsOf(v, "")
	for _, field := range fields {
		switch {
		case field.Kind() != reflect.Slice || field.Len() > 0:
		case isNil:
			field.SetZero()
		default:
			field.Set(reflect.MakeSlice(field.Type(), 0, 3))
		}
	}
}

// TestR3NilAndEmptyLists checks that a nil list and an empty one are the same, each by itself and all together.
func TestR3NilAndEmptyLists(t *testing.T) {
	for _, s := range samples() {
		a, b := cloned(s), cloned(s)
		emptied(reflect.ValueOf(&a).Elem(), true)
		emptied(reflect.ValueOf(&b).Elem(), false)
		checkSame(t, "nil and empty lists", a, b, true)
		if show.Right(a) != show.Right(b) || show.Source(a) != show.Source(b) {
			t.Fatalf("nil and empty lists are not the same: %+v", s)
		}
	}
	base := whole()
	fields, paths := allFields(&base)
	for i, field := range fields {
		if field.Kind() != reflect.Slice || field.Len() > 0 {
			continue
		}
		c := cloned(base)
		of, _ := allFields(&c)
		of[i].Set(reflect.MakeSlice(field.Type(), 0, 1))
		checkSame(t, paths[i], base, c, true)
	}
}

// TestPromise14_1SameOfDeepSources checks sources that differ only very deep inside, where nothing valid is.
func TestPromise14_1SameOfDeepSources(t *testing.T) {
	nested := func(n, inner int) api.Source {
		s := bare()
		e := chain(n, number(inner), not)
		l := chain(n, block(stmt(13, "")), func(l []api.Stmt) []api.Stmt { return block(ifOf(number(inner), nil, l)) })
		s.Rules = []api.Rule{{Verb: "a", Phase: 1, When: when(e)}}
		s.Funcs = []api.Func{{Name: "f", Body: block(stmt(16, "", e))}}
		s.Daemons = []api.Func{{Name: "d", Body: l}}
		return s
	}
	for _, n := range []int{20, 31, 32, 63, 64, 65, 66, 100, 2000} {
		checkSame(t, "deep sources", nested(n, 1), nested(n, 1), true)
		checkSame(t, "deep sources", nested(n, 1), nested(n, 2), false)
		checkSame(t, "deep sources", nested(n, 1), nested(n+1, 1), false)
		for i := range 3 {
			c := nested(n, 1)
			switch i {
			case 0:
				c.Rules = nested(n, 2).Rules
			case 1:
				c.Funcs = nested(n, 2).Funcs
			case 2:
				c.Daemons = nested(n, 2).Daemons
			}
			checkSame(t, "deep sources", nested(n, 1), c, false)
		}
	}
}

// TestPromise14_1SameOfWhatIsNotWritten checks sources that differ in what their texts do not tell, since they are not valid.
func TestPromise14_1SameOfWhatIsNotWritten(t *testing.T) {
	for what, change := range map[string]func(s *api.Source){
		"the In of a room":              func(s *api.Source) { s.Objects[0].In = "hall" },
		"the Params of a daemon":        func(s *api.Source) { s.Daemons[0].Params = []string{"a"} },
		"the words of a noun":           func(s *api.Source) { s.Verbs[0].Lines[1][2].Words = []string{"a"} },
		"the Num of a text":             func(s *api.Source) { s.Rules[0].Body[0].Args[0].Num = 1 },
		"the Op of a number":            func(s *api.Source) { s.Rules[3].When[0].Op = 1 },
		"the Num of a statement":        func(s *api.Source) { s.Funcs[1].Body[0].Num = 1 },
		"the Name of a statement":       func(s *api.Source) { s.Funcs[1].Body[0].Name = "a" },
		"the Else of a while":           func(s *api.Source) { s.Daemons[0].Body[9].Else = block(stmt(13, "")) },
		"the number of a pair, wrapped": func(s *api.Source) { s.Props[0].Num += 1 << 16 },
		"an exit without a direction":   func(s *api.Source) { s.Objects[0].Exits[0].Dir += 256 },
	} {
		c := changed(whole(), change)
		checkSame(t, what, whole(), c, false)
		checkRight(t, what, c, false)
	}
}
