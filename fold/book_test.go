package fold_test

import (
	"cmp"
	"math"
	"reflect"
	"runtime"
	"slices"
	"sync"
	"testing"

	"clew/api"
	"clew/fold"
	"clew/tree"
)

// full is tables each of whose fields has a value of its own.
func full() api.Tables {
	slot := func(kind int, words ...string) api.Slot { return api.Slot{Kind: kind, Words: words} }
	return api.Tables{
		Title: 3, By: 4, Release: 5, Max: 6, Texts: []string{"a", "b", "", "c", "d"}, Flags: 7, Props: []int{8, -9}, Globals: []int{10, 11, -12},
		Things: []api.Thing{
			{Text: -1, Props: []int{0, 0}},
			{Title: 1, Text: 2, Parent: 2, Flags: 13, Props: []int{14, 15}, Words: []string{"me", "myself"}, Adjs: []string{"old", "tall"}},
			{Title: 3, Text: 4, Flags: 1, Room: true, Props: []int{-16, 17}, Words: []string{"hall"}, Ways: []api.Way{{Dir: 1, To: 2, When: -1, Else: -1}, {Dir: 9, To: 3, When: 4, Else: 2}}},
		},
		Acts:  []api.Act{{Lines: [][]api.Slot{{slot(1, "take", "get"), slot(2), slot(1, "off")}, {slot(1, "grab"), slot(3)}}}, {Meta: true, Lines: [][]api.Slot{{slot(5)}}}},
		Deeds: []api.Deed{{Verb: 1, Phase: 2, Noun: 3, Second: 4, When: 5, Body: 6}, {Phase: 1, Noun: -1, Second: -1, When: -1}},
		Funcs: []int{18, 19}, Daemons: []int{20, 21}, Params: []int{22, 23, 1}, Locals: []int{24, 25, 3},
	}
}

// TestTables is that a book has the same tables.
func TestTables(t *testing.T) {
	check(t, "the tables", fold.Book(api.Book{Tables: full()}), api.Book{Tables: full()})
	check(t, "no tables", fold.Book(api.Book{}), api.Book{})
	one := [][]api.Stmt{block("say 1 + 1;")}
	check(t, "with a routine", fold.Book(api.Book{Tables: full(), Routines: one}).Tables, full())
	all := reflect.TypeFor[api.Tables]()
	for i := range all.NumField() {
		if reflect.ValueOf(full()).Field(i).IsZero() {
			t.Error("the tables are to have", all.Field(i).Name)
		}
		b := api.Book{}
		reflect.ValueOf(&b.Tables).Elem().Field(i).Set(reflect.ValueOf(full()).Field(i))
		check(t, all.Field(i).Name, fold.Book(b), b)
	}
}

// TestRoutines is that all routines of a book are folded, in order.
func TestRoutines(t *testing.T) {
	l, folded := block("if 1 + 1 { say 1 + 1; } while 0 { win; } a = 2 * 2;"), block("say 2; a = 4;")
	for _, row := range []struct{ routines, want [][]api.Stmt }{
		{nil, nil}, {[][]api.Stmt{}, nil}, {[][]api.Stmt{nil}, [][]api.Stmt{nil}}, {[][]api.Stmt{l}, [][]api.Stmt{folded}}, {[][]api.Stmt{l, l}, [][]api.Stmt{folded, folded}},
		{[][]api.Stmt{nil, l, nil, folded, block("if 0 { win; }"), l}, [][]api.Stmt{nil, folded, nil, folded, nil, folded}},
		{[][]api.Stmt{block("win;"), block("lose;"), block("look;")}, [][]api.Stmt{block("win;"), block("lose;"), block("look;")}},
	} {
		check(t, "the routines", fold.Book(api.Book{Tables: full(), Routines: row.routines}), api.Book{Tables: full(), Routines: row.want})
	}
	most := slices.Repeat([][]api.Stmt{l, block("return 1 + 1;")}, 1024)
	check(t, "2048 routines", fold.Book(api.Book{Routines: most}).Routines, slices.Repeat([][]api.Stmt{folded, block("return 2;")}, 1024))
	for _, row := range limits() {
		check(t, "a long routine", fold.Book(api.Book{Routines: [][]api.Stmt{row[0], l}}).Routines, [][]api.Stmt{row[1], folded})
	}
}

// TestWholeBook is what the book of base becomes.
func TestWholeBook(t *testing.T) {
	b := wholeBook()
	got := fold.Book(b)
	check(t, "the tables", got.Tables, b.Tables)
	x := api.Expr{Kind: local}
	check(t, "the routines", got.Routines, [][]api.Stmt{
		block("return 2;"), block("return a;"), // of the exits
		block("return 1;"), block("stop;"), block(`say "Tale", 2; lose;`), // of the rules
		block("return 3;"), {stmt(give, 0, bin(mul, x, num(5)))}, {block(`say "A hall.";`)[0], stmt(say, 0, x), stmt(give, 0, num(0))}, // of the funcs
		block("start tock in 6;"), block("if a { }"), // of the daemons
	})
	check(t, "the book, folded again", fold.Book(got), got)
	for i, l := range got.Routines {
		if !tree.BoundBlock(got.Tables, l, got.Tables.Locals[i]) {
			t.Fatalf("the routine %d is not that of a book: %+v", i, l)
		}
	}
}

// TestRandomBook is that Book folds each routine as Block does.
func TestRandomBook(t *testing.T) {
	d := &dice{state: 4}
	for range 300 {
		b := api.Book{Tables: full(), Routines: few(d, 0, 20, func() []api.Stmt { return d.block(3, 4) })}
		got := fold.Book(b)
		check(t, "the tables", got.Tables, full())
		check(t, "the routines", len(got.Routines), len(b.Routines))
		for i, l := range b.Routines {
			if !tree.SameBlock(got.Routines[i], readBlock(l)) {
				t.Fatalf("%+v\nbecomes\n%+v", l, got.Routines[i])
			}
		}
	}
}

// value is any value of that type.
func (d *dice) value(of reflect.Type, depth int) reflect.Value {
	v := reflect.New(of).Elem()
	switch of.Kind() {
	case reflect.Struct:
		for i := range v.NumField() {
			v.Field(i).Set(d.value(of.Field(i).Type, depth))
		}
	case reflect.Slice:
		for n := d.below(4); n > 0 && depth > 0; n-- {
			v = reflect.Append(v, d.value(of.Elem(), depth-1))
		}
	case reflect.Int:
		v.SetInt(int64(one(d, []int{0, 1, 1, 6, 6, 9, 10, 13, 14, d.below(26) - 1, -1, 256, 40000, math.MinInt, math.MaxInt})))
	case reflect.String:
		v.SetString(one(d, []string{"", "a", "hall", "\xff\x00"}))
	case reflect.Bool:
		v.SetBool(d.below(2) == 0)
	}
	return v
}

// TestAny is P1: all calls return for expressions, statements and books of any form.
func TestAny(t *testing.T) {
	d := &dice{state: 5}
	for i := range 2000 {
		e := d.value(reflect.TypeFor[api.Expr](), 1+i%5).Interface().(api.Expr)
		fold.Expr(e)
		l := d.value(reflect.TypeFor[[]api.Stmt](), 1+i%4).Interface().([]api.Stmt)
		fold.Block(l)
		fold.Book(d.value(reflect.TypeFor[api.Book](), 1+i%4).Interface().(api.Book))
		// Each kind with any number of operands, among which there are numbers.
		some := few(d, 0, 3, d.number)
		for kind := -1; kind < 26; kind++ {
			fold.Block([]api.Stmt{{Kind: kind, Args: some, Body: l, Else: l}})
			for op := -1; op < 17; op++ {
				fold.Expr(api.Expr{Kind: kind, Op: op, Args: some})
			}
		}
	}
	fold.Block(slices.Repeat([]api.Stmt{branches(true, 300)}, 1000))
}

// TestDeep is P1: all calls return for what is nested much too deep.
func TestDeep(t *testing.T) {
	x := expr("x")
	constant, variable := num(1), x
	var l, other []api.Stmt
	for i := range 60000 {
		constant, variable = of(neg, constant), of(not, variable)
		l, other = []api.Stmt{when(num(1), l, nil)}, []api.Stmt{when(x, nil, other)}
		if i%2 == 0 {
			l = []api.Stmt{when(num(0), nil, l[0].Body)}
		}
	}
	check(t, "a constant", fold.Expr(constant), num(1))
	check(t, "ifs that go away", fold.Block(l), []api.Stmt(nil))
	kept, inner := fold.Expr(variable), fold.Block(other)
	for range 60000 {
		kept = kept.Args[0]
	}
	check(t, "what is inside", kept, x)
	for range 60000 {
		inner = inner[0].Else
	}
	check(t, "what is inside", inner, []api.Stmt(nil))
	fold.Book(api.Book{Routines: [][]api.Stmt{l, other, {stmt(say, 0, constant, variable)}}})
}

// cloned is x in new memory; behind the elements of each list there is room for others.
func cloned[T any](x T) T {
	return copied(reflect.ValueOf(x)).Interface().(T)
}

func copied(v reflect.Value) reflect.Value {
	c := reflect.New(v.Type()).Elem()
	switch v.Kind() {
	case reflect.Struct:
		for i := range v.NumField() {
			c.Field(i).Set(copied(v.Field(i)))
		}
	case reflect.Slice:
		if !v.IsNil() {
			c.Set(reflect.MakeSlice(v.Type(), v.Len(), v.Len()+2))
		}
		for i := range v.Len() {
			c.Index(i).Set(copied(v.Index(i)))
		}
	default:
		c.Set(v)
	}
	return c
}

// unchanged reports whether two values are equal, also in whether a list is nil and in what stands behind the elements of lists.
func unchanged(a, b reflect.Value) bool {
	switch a.Kind() {
	case reflect.Struct:
		for i := range a.NumField() {
			if !unchanged(a.Field(i), b.Field(i)) {
				return false
			}
		}
		return true
	case reflect.Slice:
		if a.IsNil() != b.IsNil() || a.Len() != b.Len() || a.Cap() != b.Cap() {
			return false
		}
		for i := range a.Cap() {
			if !unchanged(a.Slice(0, a.Cap()).Index(i), b.Slice(0, b.Cap()).Index(i)) {
				return false
			}
		}
		return true
	}
	return a.Interface() == b.Interface()
}

// arguments is what calls are given.
type arguments struct {
	E api.Expr
	L []api.Stmt
	B api.Book
}

// asked is what they answer.
func (a arguments) asked() arguments {
	return arguments{fold.Expr(a.E), fold.Block(a.L), fold.Book(a.B)}
}

// someArguments is arguments by hand and at random.
func someArguments() []arguments {
	d := &dice{state: 6}
	var all []arguments
	for _, row := range limits() {
		all = append(all, arguments{expr("x + (1 + 2) * g(3 + 4)"), row[0], wholeBook()})
	}
	for i := range 300 {
		routines := few(d, 0, 5, func() []api.Stmt { return d.block(3, 4) })
		all = append(all, arguments{d.expr(1 + i%6), d.block(1+i%4, 5), api.Book{Tables: full(), Routines: routines}})
	}
	return all
}

// TestUnchanged is R3 and R4: the arguments of calls stay as they are, and calls answer the same in any order and at the same time.
func TestUnchanged(t *testing.T) {
	all := someArguments()
	var answers []arguments
	for _, a := range all {
		before, after := cloned(a), cloned(a)
		answers = append(answers, after.asked())
		if !unchanged(reflect.ValueOf(before), reflect.ValueOf(after)) {
			t.Fatalf("an argument is changed: %+v", a)
		}
	}
	var group sync.WaitGroup
	for range 4 {
		group.Go(func() {
			for i := range all {
				i = len(all) - 1 - i
				if got := all[i].asked(); !same(got, answers[i]) {
					t.Errorf("%+v, not %+v", got, answers[i])
				}
			}
		})
	}
	group.Wait()
}

// memory is where the elements of a list are, and what there is room for behind them.
type memory struct{ from, to uintptr }

// memoryOf is the memory of all lists in a value.
func memoryOf(v reflect.Value) []memory {
	var l []memory
	switch v.Kind() {
	case reflect.Struct:
		for i := range v.NumField() {
			l = append(l, memoryOf(v.Field(i))...)
		}
	case reflect.Slice:
		if size := uintptr(v.Cap()) * v.Type().Elem().Size(); size > 0 {
			l = append(l, memory{v.Pointer(), v.Pointer() + size})
		}
		for i := range v.Len() {
			l = append(l, memoryOf(v.Index(i))...)
		}
	}
	return l
}

// TestNewMemory is R3: the lists of an answer share nothing with the arguments, and nothing with one another.
func TestNewMemory(t *testing.T) {
	for _, a := range someArguments() {
		given := cloned(a)
		got := given.asked()
		l := append(memoryOf(reflect.ValueOf(given)), memoryOf(reflect.ValueOf(got))...)
		slices.SortFunc(l, func(a, b memory) int { return cmp.Compare(a.from, b.from) })
		for i := 1; i < len(l); i++ {
			if l[i].from < l[i-1].to {
				t.Fatal("two lists share memory")
			}
		}
		runtime.KeepAlive(given)
		runtime.KeepAlive(got)
	}
}
