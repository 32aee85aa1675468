package kinds_test

import (
	"math"
	"reflect"
	"slices"
	"strconv"
	"sync"
	"testing"

	"clew/api"
	"clew/kinds"
	"clew/names"
	"clew/show"
	"clew/tree"
)

// dice is a source of numbers that are the same in every run. With luck, few of the names that it writes are wrong.
type dice struct {
	state uint64
	luck  int
	s     api.Source
}

func (d *dice) below(n int) int {
	d.state = d.state*6364136223846793005 + 1442695040888963407
	return int(d.state>>33) % n
}

// slip reports whether something wrong is due.
func (d *dice) slip() bool { return d.below(d.luck) == 0 }

// slipOften is slip where there are few occasions.
func (d *dice) slipOften() bool { return d.below(d.luck/10+1) == 0 }

// one is one of a list.
func one[T any](d *dice, l []T) T { return l[d.below(len(l))] }

// few is a list of from least to most elements.
func few[T any](d *dice, least, most int, element func() T) []T {
	return list(least+d.below(most-least+1), func(int) T { return element() })
}

// named is names that begin with that letter.
func (d *dice) named(letter string, least, most int) []string {
	return list(least+d.below(most-least+1), func(i int) string { return letter + strconv.Itoa(i) })
}

// declare writes what the source declares, without what belongs to it.
func (d *dice) declare() {
	d.s = api.Source{Flags: d.named("f", 1, 4)}
	for _, name := range d.named("p", 1, 4) {
		d.s.Props = append(d.s.Props, api.Pair{Name: name, Num: d.below(9)})
	}
	for _, name := range d.named("g", 1, 4) {
		d.s.Globals = append(d.s.Globals, api.Pair{Name: name, Num: d.below(9)})
	}
	for i, name := range d.named("o", 3, 12) {
		d.s.Objects = append(d.s.Objects, api.Object{Name: name, Room: i < 2 || d.below(3) == 0})
	}
	for _, name := range d.named("v", 1, 4) {
		d.s.Verbs = append(d.s.Verbs, api.Verb{Name: name})
	}
	for _, name := range d.named("u", 1, 4) {
		d.s.Funcs = append(d.s.Funcs, api.Func{Name: name, Params: d.named("a", 0, 4)})
	}
	for _, name := range d.named("d", 1, 4) {
		d.s.Daemons = append(d.s.Daemons, api.Func{Name: name})
	}
}

// any is any name, which may be one of the source, of a local or of nothing.
func (d *dice) any() string {
	return one(d, []string{"f", "p", "g", "o", "v", "u", "d", "a", "b"}) + strconv.Itoa(d.below(5))
}

// name is one of the names of l, or another one.
func (d *dice) name(l []string) string {
	if d.slip() || len(l) == 0 {
		return d.any()
	}
	return one(d, l)
}

func (d *dice) flag() string {
	return d.name(append([]string{"lit", "open", "box", "hidden"}, d.s.Flags...))
}
func (d *dice) prop() string {
	return d.name(namesOf(d.s.Props, func(p api.Pair) string { return p.Name }))
}
func (d *dice) global() string {
	return d.name(namesOf(d.s.Globals, func(p api.Pair) string { return p.Name }))
}
func (d *dice) thing() string {
	return d.name(namesOf(d.s.Objects, func(o api.Object) string { return o.Name }))
}
func (d *dice) room() string {
	rooms := slices.DeleteFunc(slices.Clone(d.s.Objects), func(o api.Object) bool { return !o.Room })
	return d.name(namesOf(rooms, func(o api.Object) string { return o.Name }))
}
func (d *dice) verb() string {
	return d.name(namesOf(d.s.Verbs, func(v api.Verb) string { return v.Name }))
}
func (d *dice) daemon() string {
	return d.name(namesOf(d.s.Daemons, func(f api.Func) string { return f.Name }))
}

// call is a call of a func.
func (d *dice) call(depth int, locals []string) api.Expr {
	f := one(d, d.s.Funcs)
	e := api.Expr{Kind: 9, Name: f.Name, Args: list(len(f.Params), func(int) api.Expr { return d.expr(depth-1, locals) })}
	if d.slip() {
		e.Name = d.any()
	}
	if d.slip() {
		e.Args = few(d, 0, 8, func() api.Expr { return d.expr(1, locals) })
	}
	return e
}

// expr is an expression of about that depth, with these locals.
func (d *dice) expr(depth int, locals []string) api.Expr {
	if depth <= 1 || d.below(4) == 0 {
		names := append([]string{d.global(), d.thing()}, locals...)
		return one(d, []api.Expr{{Kind: 1, Num: d.below(100)}, {Kind: 12, Op: 1 + d.below(6)}, {Kind: 3, Name: d.name(names)}, {Kind: 3, Name: d.name(names)}})
	}
	below := func(count int) []api.Expr {
		return list(count, func(int) api.Expr { return d.expr(depth-1, locals) })
	}
	switch kind := 4 + d.below(8); kind {
	case 6:
		return api.Expr{Kind: 6, Op: 1 + d.below(14), Args: below(2)}
	case 7:
		return api.Expr{Kind: 7, Name: d.flag(), Args: below(1)}
	case 8:
		return api.Expr{Kind: 8, Name: d.prop(), Args: below(1)}
	case 9:
		return d.call(depth, locals)
	case 10:
		return api.Expr{Kind: 10, Op: 1 + d.below(3), Args: below(1)}
	default:
		return api.Expr{Kind: kind, Args: below(1)}
	}
}

// item is what a say says.
func (d *dice) item(locals []string) api.Expr {
	return one(d, []api.Expr{{Kind: 2, Name: d.any()}, {Kind: 13, Args: []api.Expr{d.expr(2, locals)}}, d.expr(3, locals)})
}

// fresh is a name for a local, which can be one that is there already.
func (d *dice) fresh() string {
	if d.slipOften() {
		return d.any()
	}
	return "b" + strconv.Itoa(d.below(1000))
}

// stmt is a statement in such a part, with these locals.
func (d *dice) stmt(where, depth int, locals []string) api.Stmt {
	e := func() api.Expr { return d.expr(3, locals) }
	kind := 1 + d.below(22)
	if kind == 12 && where != partFunc || kind == 13 && where != partRule {
		if !d.slipOften() {
			kind = 2
		}
	}
	s := api.Stmt{Kind: kind}
	switch kind {
	case 1:
		s.Args = few(d, 1, 8, func() api.Expr { return d.item(locals) })
	case 2:
		s.Name, s.Args = d.fresh(), []api.Expr{e()}
	case 3:
		s.Name, s.Args = d.name(append(locals[:len(locals):len(locals)], d.global())), []api.Expr{e()}
	case 4:
		s.Name, s.Args = d.prop(), []api.Expr{e(), e()}
	case 5, 6:
		s.Name, s.Args = d.flag(), []api.Expr{e()}
	case 7:
		s.Args = []api.Expr{e(), e()}
	case 9:
		s.Args, s.Body, s.Else = []api.Expr{e()}, d.block(where, depth-1, locals), d.block(where, depth-1, locals)
	case 10:
		s.Args, s.Body = []api.Expr{e()}, d.block(where, depth-1, locals)
	case 11:
		s.Name, s.Args = d.fresh(), []api.Expr{e()}
		s.Body = d.block(where, depth-1, append(slices.Clone(locals), s.Name))
	case 17:
		s.Name, s.Args = d.daemon(), []api.Expr{e()}
	case 18:
		s.Name = d.daemon()
	case 19:
		s.Args = []api.Expr{d.call(2, locals)}
	case 13, 14, 15, 21:
	default:
		s.Args = []api.Expr{e()}
	}
	return s
}

// block is statements in such a part, with these locals.
func (d *dice) block(where, depth int, locals []string) []api.Stmt {
	visible := slices.Clone(locals)
	if depth < 1 {
		return nil
	}
	return few(d, 0, 5, func() api.Stmt {
		s := d.stmt(where, depth, visible)
		if s.Kind == 2 {
			visible = append(visible, s.Name)
		}
		return s
	})
}

// word is a dictionary word, or another text.
func (d *dice) word() string {
	if d.slip() {
		return one(d, badWords())
	}
	return one(d, goodWords())
}

// when is a condition, or none.
func (d *dice) when() []api.Expr {
	return few(d, 0, 1, func() api.Expr { return d.expr(4, nil) })
}

// object fills in a room or a thing, whose In is mostly an object ahead of it.
func (d *dice) object(i int, o *api.Object) {
	if !o.Room && d.below(4) > 0 {
		o.In = d.name(namesOf(d.s.Objects[:i], func(o api.Object) string { return o.Name }))
	}
	if !o.Room && d.slip() {
		o.In = d.thing()
	}
	o.Words, o.Adjs, o.Flags = few(d, 0, 3, d.word), few(d, 0, 3, d.word), few(d, 0, 3, d.flag)
	o.Props = few(d, 0, 3, func() api.Pair { return api.Pair{Name: d.prop(), Num: d.below(9)} })
	if !o.Room {
		return
	}
	for dir := range 12 {
		if d.below(3) == 0 {
			o.Exits = append(o.Exits, api.Exit{Dir: 1 + dir, To: d.room(), When: d.when()})
		}
	}
	if len(o.Exits) > 0 && d.slip() {
		one(d, []*api.Exit{&o.Exits[0], &o.Exits[len(o.Exits)-1]}).Dir = one(d, o.Exits).Dir
	}
}

// line is a line of a verb.
func (d *dice) line() []api.Slot {
	kinds := one(d, []string{"W", "WN", "WM", "WNWN", "D", "WD", "W#", "WMWN", "WWN#", "D#"})
	if d.slip() {
		kinds = one(d, []string{"", "E", "WE", "N", "WNNN", "W##", "WDD", "WMNM", "#", "NE"})
	}
	l := slots(kinds)
	for i := range l {
		if len(l[i].Words) > 0 {
			l[i].Words = few(d, 1, 4, d.word)
		}
	}
	return l
}

// source is a source whose parts have mostly nothing wrong.
func (d *dice) source(luck int) api.Source {
	d.luck = luck
	d.declare()
	d.s.Start = d.room()
	for i := range d.s.Objects {
		d.object(i, &d.s.Objects[i])
	}
	for i := range d.s.Verbs {
		d.s.Verbs[i].Lines = few(d, 1, 3, d.line)
		if d.slip() {
			d.s.Verbs[i].Lines = nil
		}
	}
	d.s.Rules = few(d, 0, 5, func() api.Rule {
		return api.Rule{Verb: d.verb(), Phase: 1 + d.below(3), Noun: one(d, []string{"", d.thing()}), Second: one(d, []string{"", d.thing()}), When: d.when(), Body: d.block(partRule, 3, nil)}
	})
	for i := range d.s.Funcs {
		f := &d.s.Funcs[i]
		f.Body = d.block(partFunc, 3, f.Params)
		if len(f.Params) > 0 && d.slipOften() {
			f.Params[d.below(len(f.Params))] = one(d, []string{d.any(), "in", "A", f.Params[0]})
		}
	}
	for i := range d.s.Daemons {
		d.s.Daemons[i].Body = d.block(partDaemon, 3, nil)
	}
	return d.s
}

// TestRandom compares Check with the chapter for sources at random.
func TestRandom(t *testing.T) {
	type about struct {
		err  api.Errno
		part int
	}
	d := &dice{state: 16}
	found := map[about]int{}
	for i := range 6000 {
		f := checkRead(t, d.source([]int{30, 300, 1000, 3000}[i%4]))
		found[about{f.Err, f.Part}]++
	}
	for _, a := range []about{
		{api.OK, 0}, {api.ErrNone, partStory}, {api.ErrKind, partStory}, {api.ErrNone, partObject}, {api.ErrKind, partObject}, {api.ErrState, partObject}, {api.ErrName, partObject}, {api.ErrTwice, partObject}, {api.ErrCount, partObject},
		{api.ErrShort, partVerb}, {api.ErrName, partVerb}, {api.ErrState, partVerb}, {api.ErrNone, partRule}, {api.ErrKind, partRule}, {api.ErrTwice, partRule}, {api.ErrCount, partRule}, {api.ErrState, partRule},
		{api.ErrName, partFunc}, {api.ErrNone, partFunc}, {api.ErrKind, partFunc}, {api.ErrTwice, partFunc}, {api.ErrCount, partFunc}, {api.ErrState, partFunc}, {api.ErrNone, partDaemon}, {api.ErrKind, partDaemon}, {api.ErrTwice, partDaemon}, {api.ErrCount, partDaemon}, {api.ErrState, partDaemon},
	} {
		if found[a] < 5 {
			t.Errorf("only %d sources with %v in part %d", found[a], a.err, a.part)
		}
	}
}

// TestRandomBlocks compares Expr and Block with the chapter, and 16.5: additional locals that occur nowhere else change nothing.
func TestRandomBlocks(t *testing.T) {
	d := &dice{state: 17}
	errs := map[api.Errno]int{}
	for i := range 3000 {
		d.luck = []int{20, 100, 1000, 100000}[i%4]
		d.declare()
		s, n := d.s, made(d.s)
		visible, where := d.named("b", 0, 4), parts()[i%3]
		more := slices.Concat([]string{"zz", "z"}, visible, []string{"zzz", "q_", "q9"})
		l := d.block(where, 4, visible)
		if !tree.RightBlock(l) {
			t.Fatalf("these statements are not right: %+v", l)
		}
		err := checkBlockRead(t, s, n, visible, where, l)
		errs[err]++
		if again, _ := kinds.Block(n, s, more, where, l); again != err {
			t.Fatalf("with more locals: %v, not %v", again, err)
		}
		e := d.expr(6, visible)
		err = checkExprRead(t, s, n, visible, e)
		if again, _ := kinds.Expr(n, s, more, e); again != err {
			t.Fatalf("with more locals: %v, not %v", again, err)
		}
	}
	for _, err := range []api.Errno{api.OK, api.ErrNone, api.ErrKind, api.ErrTwice, api.ErrCount, api.ErrState} {
		if errs[err] < 20 {
			t.Errorf("only %d lists of statements with %v", errs[err], err)
		}
	}
}

// value is any value of that type.
func (d *dice) value(of reflect.Type, depth int) reflect.Value {
	v := reflect.New(of).Elem()
	switch of.Kind() {
	case reflect.Struct:
		for i := range v.NumField() {
			v.Field(i).Set(d.value(of.Field(i).Type, depth))
		}
	case reflect.Slice:
		for n := d.below(4); n > 0 && depth > 0; n-- {
			v = reflect.Append(v, d.value(of.Elem(), depth-1))
		}
	case reflect.Int:
		v.SetInt(int64(one(d, []int{0, 1, 2, 3, d.below(26) - 1, -1, 13, 256, 40000, math.MinInt, math.MaxInt})))
	case reflect.String:
		v.SetString(one(d, []string{"", "a", "b", "hall", "lit", "in", "A", "\xff\x00"}))
	case reflect.Bool:
		v.SetBool(d.below(2) == 0)
	}
	return v
}

// TestAnySource is P1: all calls return for sources and names of any form.
func TestAnySource(t *testing.T) {
	d := &dice{state: 18}
	foreign := append(made(api.Source{Objects: []api.Object{{Name: "a"}, {Name: "b"}}, Funcs: []api.Func{{Name: "hall"}}}), made(whole())...)
	for i := range 2000 {
		s := d.value(reflect.TypeFor[api.Source](), 1+i%5).Interface().(api.Source)
		own, _ := names.Make(s)
		for _, n := range [][]api.Name{own, nil, foreign} {
			kinds.Check(s, n)
			for _, r := range s.Rules {
				kinds.Block(n, s, s.Flags, r.Phase, r.Body)
				kinds.Locals(r.Body)
				for _, e := range r.When {
					kinds.Expr(n, s, s.Flags, e)
				}
			}
		}
	}
}

// TestDeep is P1: all calls return for what is nested much too deep.
func TestDeep(t *testing.T) {
	e, l := expr("bad"), block("let q = 1;")
	for range 20000 {
		e = api.Expr{Kind: 5, Args: []api.Expr{e}}
		l = []api.Stmt{{Kind: 10, Args: []api.Expr{expr("1")}, Body: l}}
	}
	checkExpr(t, nil, expr("not bad"), api.ErrNone, "bad")
	s, n := shared()
	if err, name := kinds.Expr(n, s, nil, e); err != api.ErrNone || name != "bad" {
		t.Fatal("a deep expression:", err, name)
	}
	if err, name := kinds.Block(n, s, []string{"q"}, partRule, l); err != api.ErrTwice || name != "q" || kinds.Locals(l) != 1 {
		t.Fatal("a deep list:", err, name)
	}
}

// cloned is x in new memory; behind the elements of each list there is room for others.
func cloned[T any](x T) T {
	return copied(reflect.ValueOf(x)).Interface().(T)
}

func copied(v reflect.Value) reflect.Value {
	c := reflect.New(v.Type()).Elem()
	switch v.Kind() {
	case reflect.Struct:
		for i := range v.NumField() {
			c.Field(i).Set(copied(v.Field(i)))
		}
	case reflect.Slice:
		if !v.IsNil() {
			c.Set(reflect.MakeSlice(v.Type(), v.Len(), v.Len()+2))
		}
		for i := range v.Len() {
			c.Index(i).Set(copied(v.Index(i)))
		}
	default:
		c.Set(v)
	}
	return c
}

// unchanged reports whether two values are equal, also in whether a list is nil and in what stands behind the elements of lists.
func unchanged(a, b reflect.Value) bool {
	switch a.Kind() {
	case reflect.Struct:
		for i := range a.NumField() {
			if !unchanged(a.Field(i), b.Field(i)) {
				return false
			}
		}
		return true
	case reflect.Slice:
		if a.IsNil() != b.IsNil() || a.Len() != b.Len() || a.Cap() != b.Cap() {
			return false
		}
		for i := range a.Cap() {
			if !unchanged(a.Slice(0, a.Cap()).Index(i), b.Slice(0, b.Cap()).Index(i)) {
				return false
			}
		}
		return true
	}
	return a.Interface() == b.Interface()
}

// arguments is what calls are given.
type arguments struct {
	S      api.Source
	N      []api.Name
	Locals []string
	E      api.Expr
	L      []api.Stmt
}

// answers is what they say.
type answers struct {
	exprErr, blockErr   api.Errno
	exprName, blockName string
	locals              int
	fault               api.Fault
}

func (a arguments) asked() (l answers) {
	l.exprErr, l.exprName = kinds.Expr(a.N, a.S, a.Locals, a.E)
	l.blockErr, l.blockName = kinds.Block(a.N, a.S, a.Locals, partFunc, a.L)
	l.locals, l.fault = kinds.Locals(a.L), kinds.Check(a.S, a.N)
	return l
}

// TestUnchanged is R3 and R4: the arguments of calls stay as they are, and calls answer the same in any order and at the same time.
func TestUnchanged(t *testing.T) {
	d := &dice{state: 19}
	all := []arguments{{whole(), made(whole()), locals(), expr("x + 1"), block("let a = 1; each b in a { let c = 1; } let c = 2;")}}
	for i := range 300 {
		s := d.source([]int{30, 1000}[i%2])
		visible := d.named("b", 0, 3)
		all = append(all, arguments{s, made(s), visible, d.expr(4, visible), d.block(partFunc, 4, visible)})
	}
	var kept []answers
	for _, a := range all {
		before, after := cloned(a), cloned(a)
		kept = append(kept, after.asked())
		if !unchanged(reflect.ValueOf(before), reflect.ValueOf(after)) {
			t.Fatalf("an argument is changed:\n%s", show.Source(after.S))
		}
	}
	var group sync.WaitGroup
	for range 4 {
		group.Go(func() {
			for i := range all {
				i = len(all) - 1 - i
				if got := all[i].asked(); got != kept[i] {
					t.Errorf("%+v, not %+v", got, kept[i])
				}
			}
		})
	}
	group.Wait()
}
