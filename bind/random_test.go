package bind_test

import (
	"cmp"
	"fmt"
	"math"
	"reflect"
	"runtime"
	"slices"
	"sync"
	"testing"

	"clew/api"
	"clew/bind"
	"clew/decl"
	"clew/kinds"
	"clew/names"
	"clew/show"
	syntax "clew/tree"
)

// dice is a source of numbers that are the same in every run. It writes sources without a fault.
type dice struct {
	state uint64
	s     api.Source
	room  int // how many locals may still be created
}

func (d *dice) below(n int) int {
	d.state = d.state*6364136223846793005 + 1442695040888963407
	return int(d.state>>33) % n
}

// one is one of a list.
func one[T any](d *dice, l []T) T { return l[d.below(len(l))] }

// few is a list of from least to most elements.
func few[T any](d *dice, least, most int, element func() T) []T {
	return list(least+d.below(most-least+1), func(int) T { return element() })
}

// fresh is names that begin with that letter, in any order.
func (d *dice) fresh(letter string, least, most int) []string {
	l := named(letter, least+d.below(most-least+1))
	for i := range l {
		k := d.below(i + 1)
		l[i], l[k] = l[k], l[i]
	}
	return l
}

// text is one of a few texts.
func (d *dice) text() string {
	return one(d, []string{"", "a", "b", "c", "d", "e", "yourself", "A", "Hall", "me", "x" + fmt.Sprint(d.below(50))})
}

// number is a number that can be written.
func (d *dice) number() int { return one(d, []int{0, 1, 7, -1, 32767, -32767, d.below(100)}) }

// declare writes what the source declares, without what belongs to it.
func (d *dice) declare() {
	d.s = api.Source{Title: d.text(), By: d.text(), Release: d.below(9), Max: d.below(99), Flags: d.fresh("f", 1, 12)}
	for _, name := range d.fresh("p", 1, 5) {
		d.s.Props = append(d.s.Props, api.Pair{Name: name, Num: d.number()})
	}
	for _, name := range d.fresh("g", 1, 5) {
		d.s.Globals = append(d.s.Globals, api.Pair{Name: name, Num: d.number()})
	}
	for i, name := range d.fresh("o", 3, 12) {
		d.s.Objects = append(d.s.Objects, api.Object{Name: name, Title: d.text(), Text: d.text(), Room: i == 1 || d.below(3) == 0})
	}
	for _, name := range d.fresh("v", 1, 4) {
		d.s.Verbs = append(d.s.Verbs, api.Verb{Name: name, Meta: d.below(2) == 0})
	}
	for _, name := range d.fresh("u", 1, 4) {
		d.s.Funcs = append(d.s.Funcs, api.Func{Name: name, Params: d.fresh("a", 0, 8)})
	}
	for _, name := range d.fresh("d", 1, 4) {
		d.s.Daemons = append(d.s.Daemons, api.Func{Name: name})
	}
}

func (d *dice) flag() string {
	return one(d, append([]string{"lit", "open", "box", "hidden"}, d.s.Flags...))
}
func (d *dice) prop() string   { return one(d, d.s.Props).Name }
func (d *dice) global() string { return one(d, d.s.Globals).Name }
func (d *dice) thing() string  { return one(d, d.s.Objects).Name }
func (d *dice) daemon() string { return one(d, d.s.Daemons).Name }
func (d *dice) roomName() string {
	return one(d, slices.DeleteFunc(slices.Clone(d.s.Objects), func(o api.Object) bool { return !o.Room })).Name
}

// expr is an expression of about that depth, with these locals.
func (d *dice) expr(depth int, locals []string) api.Expr {
	if depth <= 1 || d.below(4) == 0 {
		names := append([]string{d.global(), d.thing()}, locals...)
		return one(d, []api.Expr{{Kind: 1, Num: d.below(100)}, {Kind: 12, Op: 1 + d.below(6)}, {Kind: 3, Name: one(d, names)}, {Kind: 3, Name: one(d, names)}})
	}
	below := func(count int) []api.Expr {
		return list(count, func(int) api.Expr { return d.expr(depth-1, locals) })
	}
	switch kind := 4 + d.below(8); kind {
	case 6:
		return api.Expr{Kind: 6, Op: 1 + d.below(14), Args: below(2)}
	case 7:
		return api.Expr{Kind: 7, Name: d.flag(), Args: below(1)}
	case 8:
		return api.Expr{Kind: 8, Name: d.prop(), Args: below(1)}
	case 9:
		f := one(d, d.s.Funcs)
		return api.Expr{Kind: 9, Name: f.Name, Args: below(len(f.Params))}
	case 10:
		return api.Expr{Kind: 10, Op: 1 + d.below(3), Args: below(1)}
	default:
		return api.Expr{Kind: kind, Args: below(1)}
	}
}

// item is what a say says.
func (d *dice) item(locals []string) api.Expr {
	return one(d, []api.Expr{{Kind: 2, Name: d.text()}, {Kind: 13, Args: []api.Expr{d.expr(2, locals)}}, d.expr(3, locals)})
}

// local is a name for a local that is not visible; it may be that of one that was.
func (d *dice) local(visible []string) string {
	for {
		if name := fmt.Sprint("b", d.below(20)); !slices.Contains(visible, name) {
			return name
		}
	}
}

// kind is a kind of a statement that can be in such a part.
func (d *dice) kind(where int) int {
	for {
		kind := one(d, []int{let, let, each, branch, branch, while, assign, assign, assign, 1 + d.below(22)})
		needs := map[int]int{let: 1, each: 2}[kind]
		if needs > d.room || kind == give && where != api.PartFunc || kind == stop && where != api.PartRule {
			continue
		}
		d.room -= needs
		return kind
	}
}

// stmt is a statement in such a part, with these locals.
func (d *dice) stmt(where, depth int, locals []string) api.Stmt {
	e := func() api.Expr { return d.expr(3, locals) }
	s := api.Stmt{Kind: d.kind(where), Args: []api.Expr{e()}}
	switch s.Kind {
	case say:
		s.Args = few(d, 1, 8, func() api.Expr { return d.item(locals) })
	case let:
		s.Name = d.local(locals)
	case assign:
		s.Name = one(d, append(slices.Clone(locals), d.global()))
	case put:
		s.Name, s.Args = d.prop(), append(s.Args, e())
	case set, unset:
		s.Name = d.flag()
	case move:
		s.Args = append(s.Args, e())
	case branch:
		s.Body, s.Else = d.block(where, depth-1, locals), d.block(where, depth-1, locals)
	case while:
		s.Body = d.block(where, depth-1, locals)
	case each:
		s.Name = d.local(locals)
		s.Body = d.block(where, depth-1, append(slices.Clone(locals), s.Name))
	case start:
		s.Name = d.daemon()
	case halt:
		s.Name, s.Args = d.daemon(), nil
	case calls:
		f := one(d, d.s.Funcs)
		s.Args = []api.Expr{{Kind: 9, Name: f.Name, Args: list(len(f.Params), func(int) api.Expr { return e() })}}
	case stop, win, lose, look:
		s.Args = nil
	}
	return s
}

// block is statements in such a part, with these locals.
func (d *dice) block(where, depth int, locals []string) []api.Stmt {
	visible := slices.Clone(locals)
	if depth < 1 {
		return nil
	}
	return few(d, 0, 5, func() api.Stmt {
		s := d.stmt(where, depth, visible)
		if s.Kind == let {
			visible = append(visible, s.Name)
		}
		return s
	})
}

// body is the statements of a routine.
func (d *dice) body(where int, params []string) []api.Stmt {
	d.room = 16
	return d.block(where, 4, params)
}

// when is a condition, or none.
func (d *dice) when() []api.Expr {
	return few(d, 0, 1, func() api.Expr { return d.expr(4, nil) })
}

// word is a dictionary word.
func (d *dice) word() string { return one(d, []string{"a", "lamp", "7-a", "o'neil", "b"}) }

// object fills in a room or a thing, whose In is an object ahead of it.
func (d *dice) object(i int, o *api.Object) {
	o.Words, o.Adjs, o.Flags = few(d, 0, 8, d.word), few(d, 0, 3, d.word), few(d, 0, 8, d.flag)
	o.Props = few(d, 0, 5, func() api.Pair { return api.Pair{Name: d.prop(), Num: d.number()} })
	if !o.Room {
		if i > 0 && d.below(4) > 0 {
			o.In = one(d, d.s.Objects[:i]).Name
		}
		return
	}
	for _, dir := range one(d, permutations(4)) {
		for _, dir := range []int{dir + 1, dir + 5, dir + 9} {
			if d.below(2) == 0 {
				o.Exits = append(o.Exits, api.Exit{Dir: dir, To: d.roomName(), When: d.when(), Else: d.text()})
			}
		}
	}
}

// source is a source without a fault.
func (d *dice) source() api.Source {
	d.declare()
	d.s.Start = d.roomName()
	for i := range d.s.Objects {
		d.object(i, &d.s.Objects[i])
	}
	for i := range d.s.Verbs {
		d.s.Verbs[i].Lines = few(d, 1, 8, func() []api.Slot { return slots(one(d, []string{"W", "WN", "WM", "WNWN", "D", "WD", "W#", "D#"})) })
	}
	d.s.Rules = few(d, 0, 6, func() api.Rule {
		return api.Rule{Verb: one(d, d.s.Verbs).Name, Phase: 1 + d.below(3), Noun: one(d, []string{"", d.thing()}), Second: one(d, []string{"", d.thing()}), When: d.when(), Body: d.body(api.PartRule, nil)}
	})
	for i := range d.s.Funcs {
		d.s.Funcs[i].Body = d.body(api.PartFunc, d.s.Funcs[i].Params)
	}
	for i := range d.s.Daemons {
		d.s.Daemons[i].Body = d.body(api.PartDaemon, nil)
	}
	return d.s
}

// TestRandom compares Texts and Book with the chapter for sources at random, whose routines have numbers for names alone.
func TestRandom(t *testing.T) {
	d := &dice{state: 17}
	for range 1000 {
		s := d.source()
		r := read(s)
		check(t, "the texts", bind.Texts(s), r.texts)
		got := book(t, s)
		check(t, "the book of\n"+show.Source(s), got, r.book())
		for i, l := range got.Routines {
			if !syntax.BoundBlock(got.Tables, l, got.Tables.Locals[i]) {
				t.Fatalf("the routine %d is not that of a book: %+v", i, l)
			}
		}
		if again, fail := decl.Read(show.Source(s)); fail == (api.Fail{}) {
			check(t, "the book of the source that is written and read", book(t, again), got)
		}
	}
}

// TestRandomBlocks compares Expr and Block with the chapter, behind locals some of which are there twice.
func TestRandomBlocks(t *testing.T) {
	d := &dice{state: 18}
	for range 2000 {
		s := d.source()
		r, n := read(s), made(s)
		locals := few(d, 0, 6, func() string { return one(d, []string{"b1", "b2", "b3", "c", d.global(), d.thing(), d.flag()}) })
		e := d.expr(6, locals)
		check(t, "an expression", bind.Expr(n, r.texts, locals, e), r.expr(e, locals))
		l := d.body(api.PartFunc, locals)
		r.texts = append(r.texts, namesOf(placesIn("", l), func(p place) string { return *p.text })...)
		check(t, fmt.Sprintf("statements with the locals %v: %+v", locals, l), bind.Block(n, r.texts, locals, l), r.block(l, locals, len(locals)))
	}
}

// TestAllLists compares Block with the chapter for every list without a fault of up to four statements out of a few that create and use locals.
func TestAllLists(t *testing.T) {
	inner := []string{"", "let a = 1; say a;", "let b = 2; b = 3;", "each a in 1 { count = a; }", "say a, b;"}
	next := []string{"let a = 1;", "let b = 2;", "say a;", "b = 3;"}
	for i, within := range inner {
		other := inner[(i+1)%len(inner)]
		next = append(next, "each a in 1 { "+within+" }", "if 1 { "+within+" } else { "+other+" }", "while 1 { "+within+" }", "if 1 { each b in 2 { "+within+" } } else { "+within+" }")
	}
	s := whole()
	r, n := read(s), made(s)
	for _, locals := range [][]string{nil, {"a"}, {"b", "b"}, {"b", "c", "b"}} {
		right := 0
		var extend func(l []api.Stmt, left int)
		extend = func(l []api.Stmt, left int) {
			if err, _ := kinds.Block(n, s, locals, api.PartRule, l); err != api.OK {
				return
			}
			right++
			if got, want := bind.Block(n, r.texts, locals, l), r.block(l, locals, len(locals)); !same(got, want) {
				t.Fatalf("%+v with the locals %v:\n%+v\nnot\n%+v", l, locals, got, want)
			}
			for _, text := range next {
				if left > 0 {
					extend(append(slices.Clone(l), block(text)...), left-1)
				}
			}
		}
		extend(nil, 4)
		if right < 100 {
			t.Errorf("only %d lists are right behind the locals %v", right, locals)
		}
	}
}

// value is any value of that type.
func (d *dice) value(of reflect.Type, depth int) reflect.Value {
	v := reflect.New(of).Elem()
	switch of.Kind() {
	case reflect.Struct:
		for i := range v.NumField() {
			v.Field(i).Set(d.value(of.Field(i).Type, depth))
		}
	case reflect.Slice:
		for n := d.below(4); n > 0 && depth > 0; n-- {
			v = reflect.Append(v, d.value(of.Elem(), depth-1))
		}
	case reflect.Int:
		v.SetInt(int64(one(d, []int{0, 1, 2, 3, d.below(26) - 1, -1, 13, 256, 40000, math.MinInt, math.MaxInt})))
	case reflect.String:
		v.SetString(one(d, []string{"", "a", "b", "hall", "lit", "in", "A", "\xff\x00"}))
	case reflect.Bool:
		v.SetBool(d.below(2) == 0)
	}
	return v
}

// TestAnySource is P1: all calls return for sources, names and texts of any form.
func TestAnySource(t *testing.T) {
	d := &dice{state: 19}
	foreign := []api.Name{{Name: "", Kind: 1, Num: -1}, {Name: "A", Kind: 2, Num: math.MaxInt}, {Name: "a", Kind: 1, Num: math.MinInt}, {Name: "b", Kind: 2, Num: -1}, {Name: "hall", Kind: 4, Num: -7}}
	for i := range 2000 {
		s := d.value(reflect.TypeFor[api.Source](), 1+i%5).Interface().(api.Source)
		own, _ := names.Make(s)
		for _, n := range [][]api.Name{own, nil, foreign, made(whole())} {
			bind.Book(s, n)
			for _, r := range s.Rules {
				bind.Block(n, s.Flags, s.Flags, r.Body)
				bind.Block(n, nil, nil, r.Body)
				for _, e := range r.When {
					bind.Expr(n, s.Flags, s.Flags, e)
				}
			}
		}
	}
	bind.Book(api.Source{}, nil)
}

// TestDeep is P1: all calls return for what is nested much too deep.
func TestDeep(t *testing.T) {
	e, l := api.Expr{Kind: 2, Name: "deep"}, block("let q = 1;")
	for range 60000 {
		e = of(neg, e)
		l = []api.Stmt{when(num(1), l, nil)}
	}
	l = append(l, api.Stmt{Kind: say, Args: []api.Expr{e}}, block("let r = 1;")[0])
	s := whole()
	s.Daemons[0].Body = l
	texts := bind.Texts(s)
	if !slices.Contains(texts, "deep") {
		t.Fatal("a deep text is missing")
	}
	got := bind.Book(s, made(s))
	if last := got.Routines[12][2]; last.Num != 1 || got.Tables.Locals[12] != 2 {
		t.Fatal("the let behind a deep one has the number", last.Num)
	}
	bound := bind.Expr(nil, texts, nil, e)
	for range 60000 {
		bound = bound.Args[0]
	}
	check(t, "a deep text", bound, text(slices.Index(texts, "deep")))
}

// cloned is x in new memory; behind the elements of each list there is room for others.
func cloned[T any](x T) T {
	return copied(reflect.ValueOf(x)).Interface().(T)
}

func copied(v reflect.Value) reflect.Value {
	c := reflect.New(v.Type()).Elem()
	switch v.Kind() {
	case reflect.Struct:
		for i := range v.NumField() {
			c.Field(i).Set(copied(v.Field(i)))
		}
	case reflect.Slice:
		if !v.IsNil() {
			c.Set(reflect.MakeSlice(v.Type(), v.Len(), v.Len()+2))
		}
		for i := range v.Len() {
			c.Index(i).Set(copied(v.Index(i)))
		}
	default:
		c.Set(v)
	}
	return c
}

// unchanged reports whether two values are equal, also in whether a list is nil and in what stands behind the elements of lists.
func unchanged(a, b reflect.Value) bool {
	switch a.Kind() {
	case reflect.Struct:
		for i := range a.NumField() {
			if !unchanged(a.Field(i), b.Field(i)) {
				return false
			}
		}
		return true
	case reflect.Slice:
		if a.IsNil() != b.IsNil() || a.Len() != b.Len() || a.Cap() != b.Cap() {
			return false
		}
		for i := range a.Cap() {
			if !unchanged(a.Slice(0, a.Cap()).Index(i), b.Slice(0, b.Cap()).Index(i)) {
				return false
			}
		}
		return true
	}
	return a.Interface() == b.Interface()
}

// arguments is what calls are given.
type arguments struct {
	S             api.Source
	N             []api.Name
	Texts, Locals []string
	E             api.Expr
	L             []api.Stmt
}

// answers is what they say.
type answers struct {
	Texts []string
	Book  api.Book
	Expr  api.Expr
	Block []api.Stmt
}

func (a arguments) asked() answers {
	return answers{bind.Texts(a.S), bind.Book(a.S, a.N), bind.Expr(a.N, a.Texts, a.Locals, a.E), bind.Block(a.N, a.Texts, a.Locals, a.L)}
}

// someArguments is arguments with base and with sources at random.
func someArguments() []arguments {
	d := &dice{state: 20}
	all := []arguments{{whole(), made(whole()), textsOfBase(), []string{"x"}, expr("x + add(1, lamp, key.size)"), block(`let a = 1; each b in a { let c = x; say "Gone."; } let c = 2;`)}}
	for range 300 {
		s := d.source()
		locals := []string{"x", "y", "x"}[:d.below(4)]
		all = append(all, arguments{s, made(s), bind.Texts(s), locals, d.expr(4, locals), d.body(api.PartFunc, locals)})
	}
	return all
}

// TestUnchanged is R3 and R4: the arguments of calls stay as they are, and calls answer the same in any order and at the same time.
func TestUnchanged(t *testing.T) {
	all := someArguments()
	var kept []answers
	for _, a := range all {
		before, after := cloned(a), cloned(a)
		kept = append(kept, after.asked())
		if !unchanged(reflect.ValueOf(before), reflect.ValueOf(after)) {
			t.Fatalf("an argument is changed:\n%s", show.Source(after.S))
		}
	}
	var group sync.WaitGroup
	for range 4 {
		group.Go(func() {
			for i := range all {
				i = len(all) - 1 - i
				if got := all[i].asked(); !same(got, kept[i]) {
					t.Errorf("%+v, not %+v", got, kept[i])
				}
			}
		})
	}
	group.Wait()
}

// memory is where the elements of a list are, and what there is room for behind them.
type memory struct{ from, to uintptr }

// memoryOf is the memory of all lists in a value.
func memoryOf(v reflect.Value) []memory {
	var l []memory
	switch v.Kind() {
	case reflect.Struct:
		for i := range v.NumField() {
			l = append(l, memoryOf(v.Field(i))...)
		}
	case reflect.Slice:
		if size := uintptr(v.Cap()) * v.Type().Elem().Size(); size > 0 {
			l = append(l, memory{v.Pointer(), v.Pointer() + size})
		}
		for i := range v.Len() {
			l = append(l, memoryOf(v.Index(i))...)
		}
	}
	return l
}

// TestNewMemory is R3: the lists of an answer share nothing with the arguments, and nothing with one another.
func TestNewMemory(t *testing.T) {
	for _, a := range someArguments() {
		given := cloned(a)
		got := given.asked()
		l := append(memoryOf(reflect.ValueOf(given)), memoryOf(reflect.ValueOf(got))...)
		slices.SortFunc(l, func(a, b memory) int { return cmp.Compare(a.from, b.from) })
		for i := 1; i < len(l); i++ {
			if l[i].from < l[i-1].to {
				t.Fatal("two lists share memory")
			}
		}
		runtime.KeepAlive(given)
		runtime.KeepAlive(got)
	}
}
