package show_test

import (
	"math"
	"reflect"
	"strings"
	"sync"
	"testing"

	"clew/api"
	"clew/show"
)

// dice is a source of numbers that are the same in every run.
type dice struct{ state uint64 }

func (d *dice) below(n int) int {
	d.state = d.state*6364136223846793005 + 1442695040888963407
	return int(d.state>>33) % n
}

// one is one of a list.
func one[T any](d *dice, l []T) T { return l[d.below(len(l))] }

// few is a list of at most most elements, and at least least.
func few[T any](d *dice, least, most int, element func() T) []T {
	return list(least+d.below(most-least+1), func(int) T { return element() })
}

func (d *dice) name() string {
	const letters = "abcdefghijklmnopqrstuvwxyz0123456789_"
	s := letters[d.below(26):][:1]
	for d.below(3) > 0 && len(s) < mostName {
		s += letters[d.below(len(letters)):][:1]
	}
	for _, word := range keywords() {
		if s == word {
			return "a"
		}
	}
	return s
}

// choice is a name, or empty.
func (d *dice) choice() string { return one(d, []string{"", d.name()}) }

func (d *dice) text() string {
	s := ""
	for d.below(6) > 0 {
		s += one(d, []string{"\n", "\"", "\\", "n", "/", " ", ",", string(rune(' ' + d.below('~'-' '+1)))})
	}
	return s
}

func (d *dice) number() int {
	return one(d, []int{0, 1, 5, 10, 99, 32766, 32767, d.below(mostNumber + 1)})
}

func (d *dice) signed() int { return one(d, []int{-1, 1}) * d.number() }

func (d *dice) pair() api.Pair { return api.Pair{Name: d.name(), Num: d.signed()} }

// expr is an expression of at most that depth.
func (d *dice) expr(depth int) api.Expr {
	below := func() api.Expr { return d.expr(depth - 1) }
	if depth <= 1 || d.below(4) == 0 {
		return one(d, []api.Expr{number(d.number()), named(d.name()), self(1 + d.below(6)), call(d.name())})
	}
	switch d.below(8) {
	case 0:
		return neg(below())
	case 1:
		return not(below())
	case 2:
		return has(below(), d.name())
	case 3:
		return prop(below(), d.name())
	case 4:
		return call(d.name(), few(d, 0, 3, below)...)
	case 5:
		return one(d, []api.Expr{random(below()), treeOf(1+d.below(3), below())})
	}
	return bin(below(), 1+d.below(14), below())
}

// stmt is a statement that contains nothing of more than that depth.
func (d *dice) stmt(depth int) api.Stmt {
	e := func() api.Expr { return d.expr(min(depth, 1+d.below(5))) }
	switch kind := 1 + d.below(22); kind {
	case 1:
		return stmt(1, "", few(d, 1, 8, func() api.Expr { return one(d, []api.Expr{text(d.text()), title(d.expr(1)), e()}) })...)
	case 2, 3, 5, 6, 17:
		return stmt(kind, d.name(), e())
	case 4:
		return stmt(4, d.name(), e(), e())
	case 7:
		return stmt(7, "", e(), e())
	case 9:
		return ifOf(e(), d.block(depth-1), d.block(depth-1))
	case 10:
		return whileOf(e(), d.block(depth-1)...)
	case 11:
		return eachOf(d.name(), e(), d.block(depth-1)...)
	case 18:
		return stmt(18, d.name())
	case 19:
		return stmt(19, "", call(d.name(), few(d, 0, 3, e)...))
	case 13, 14, 15, 21:
		return stmt(kind, "")
	default:
		return stmt(kind, "", e())
	}
}

// block is a block of at most that depth.
func (d *dice) block(depth int) []api.Stmt {
	if depth <= 2 {
		return few(d, 0, min(max(depth-1, 0), 1), func() api.Stmt { return stmt(13+d.below(3), "") })
	}
	return few(d, 0, 3, func() api.Stmt { return d.stmt(depth - 2) })
}

func (d *dice) when() []api.Expr {
	return few(d, 0, 1, func() api.Expr { return d.expr(1 + d.below(5)) })
}

func (d *dice) body() []api.Stmt { return d.block(1 + d.below(6)) }

func (d *dice) exit() api.Exit {
	return api.Exit{Dir: 1 + d.below(12), To: d.name(), When: d.when(), Else: one(d, []string{"", d.text()})}
}

func (d *dice) object() api.Object {
	o := api.Object{Name: d.name(), Title: d.text(), Text: d.text(), Room: d.below(2) == 0, Words: few(d, 0, 3, d.text), Adjs: few(d, 0, 3, d.text), Flags: few(d, 0, 3, d.name), Props: few(d, 0, 3, d.pair)}
	if o.Room {
		o.Exits = few(d, 0, 4, d.exit)
	} else {
		o.In = d.choice()
	}
	return o
}

func (d *dice) slot() api.Slot {
	if d.below(2) == 0 {
		return words(few(d, 1, 4, d.text)...)
	}
	return slot(d.below(4))
}

func (d *dice) verb() api.Verb {
	line := func() []api.Slot { return few(d, 1, 4, d.slot) }
	return api.Verb{Name: d.name(), Meta: d.below(2) == 0, Lines: few(d, 1, 4, line)}
}

func (d *dice) rule() api.Rule {
	return api.Rule{Verb: d.name(), Phase: 1 + d.below(3), Noun: d.choice(), Second: d.choice(), When: d.when(), Body: d.body()}
}

func (d *dice) function() api.Func {
	return api.Func{Name: d.name(), Params: few(d, 0, 3, d.name), Body: d.body()}
}

func (d *dice) daemon() api.Func { return api.Func{Name: d.name(), Body: d.body()} }

// source is a valid source with at most most parts of each kind.
func (d *dice) source(most int) api.Source {
	return api.Source{Title: d.text(), By: d.text(), Start: d.name(), Release: d.number(), Max: d.number(), Flags: few(d, 0, most, d.name), Props: few(d, 0, most, d.pair), Globals: few(d, 0, most, d.pair),
		Objects: few(d, 0, most, d.object), Verbs: few(d, 0, most, d.verb), Rules: few(d, 0, most, d.rule), Funcs: few(d, 0, most, d.function), Daemons: few(d, 0, most, d.daemon)}
}

// TestPromise14_2SourcesAtRandom checks that valid sources are written as defined, and are read again.
func TestPromise14_2SourcesAtRandom(t *testing.T) {
	d := &dice{7}
	for i := range 3000 {
		s := d.source(i % 6)
		checkText(t, s, definedSource(s))
	}
}

// TestPromise14_2PartsAreWrittenByThemselves checks that the text of a source is its head, and behind it the texts of its parts.
func TestPromise14_2PartsAreWrittenByThemselves(t *testing.T) {
	d := &dice{8}
	for range 500 {
		s := d.source(6)
		s.Title, s.By, s.Start, s.Release, s.Max = "T", "A", "a", 0, 0
		want := ""
		for _, piece := range pieces(s) {
			want += strings.TrimPrefix(show.Source(piece), head)
		}
		checkText(t, s, head+want)
	}
}

// TestPromise14_1SameAtRandom checks that sources are the same as their copies, and not after a change at random.
func TestPromise14_1SameAtRandom(t *testing.T) {
	d := &dice{9}
	for range 1000 {
		s := d.source(4)
		c := cloned(s)
		checkSame(t, "a source at random and its copy", s, c, true)
		fields, paths := allFields(&c)
		i := d.below(len(fields))
		if l := others(fields[i]); len(l) > 0 {
			fields[i].Set(one(d, l))
			checkSame(t, paths[i], s, c, false)
		}
		other := d.source(4)
		checkSame(t, "two sources at random", s, other, equal(s, other))
	}
}

// value is any value of that type, valid or not, with lists of at most that depth.
func (d *dice) value(of reflect.Type, depth int) reflect.Value {
	v := reflect.New(of).Elem()
	switch of.Kind() {
	case reflect.Struct:
		for i := range of.NumField() {
			v.Field(i).Set(d.value(of.Field(i).Type, depth))
		}
	case reflect.Slice:
		for n := d.below(4); n > 0 && depth > 0; n-- {
			v = reflect.Append(v, d.value(of.Elem(), depth-1))
		}
	case reflect.Int:
		v.SetInt(int64(one(d, []int{0, 1, 2, 3, d.below(26) - 1, -1, 13, 256, 40000, math.MinInt, math.MaxInt})))
	case reflect.String:
		v.SetString(one(d, []string{"", "a", "in", "A", "\t", "\xff\x00", "é", strings.Repeat("n", 25), strings.Repeat("x", 1025), d.text()}))
	case reflect.Bool:
		v.SetBool(d.below(2) == 0)
	}
	return v
}

// TestP1AnySource checks that all calls return for sources of any form.
func TestP1AnySource(t *testing.T) {
	d := &dice{10}
	var last api.Source
	for i := range 1000 {
		s := d.value(reflect.TypeOf(last), 1+i%6).Interface().(api.Source)
		checkSame(t, "a source of any form and its copy", s, cloned(s), true)
		checkSame(t, "two sources of any form", s, last, equal(s, last))
		if text := show.Source(s); show.Right(s) && text != definedSource(s) {
			t.Fatalf("a valid source is printed as %s", text)
		}
		last = s
	}
	for _, number := range []int{math.MinInt, -1 << 40, -256, -2, -1, 0, 4, 5, 6, 12, 13, 14, 19, 20, 23, 255, 256, 257, 1 << 40, math.MaxInt} {
		s := whole()
		fields, _ := allFields(&s)
		for _, field := range fields {
			if field.Kind() == reflect.Int {
				field.SetInt(int64(number))
			}
		}
		checkRight(t, "a source in which all numbers are the same", s, false)
		checkSame(t, "a source in which all numbers are the same", s, cloned(s), true)
	}
}

// TestP1LargeAndDeepSources checks that all calls return for sources that are much too large, or much too deep.
func TestP1LargeAndDeepSources(t *testing.T) {
	const many = 20000
	e := chain(many, number(1), not)
	l := chain(many, block(stmt(13, "")), func(l []api.Stmt) []api.Stmt { return block(whileOf(number(1), l...)) })
	for _, s := range []api.Source{
		{Flags: list(many, name)}, {Props: list(many, pair)}, {Globals: list(many, pair)}, {Objects: list(many, room)}, {Verbs: list(many, verb)}, {Rules: list(many, rule)}, {Funcs: list(many, function)}, {Daemons: list(many, function)}, {Title: strings.Repeat("\"", many)},
		{Objects: []api.Object{{Name: "a", Room: true, Words: list(many, name), Adjs: list(many, name), Flags: list(many, name), Props: list(many, pair), Exits: list(many, exit)}}}, {Verbs: []api.Verb{{Name: "a", Lines: list(many, line)}, {Name: "b", Lines: [][]api.Slot{list(many, slot), {words(list(many, name)...)}}}}},
		{Funcs: []api.Func{{Name: "a", Params: list(many, name)}}}, {Rules: []api.Rule{{Verb: "a", Phase: 1, When: when(e)}}}, {Rules: []api.Rule{{Verb: "a", Phase: 1, Body: l}}}, {Funcs: []api.Func{{Name: "f", Body: block(stmt(12, "", e))}}}, {Daemons: []api.Func{{Name: "d", Body: l}}}, {Objects: []api.Object{{Name: "a", Room: true, Exits: []api.Exit{{Dir: 1, To: "a", When: when(e)}}}}},
	} {
		s.Start = "a"
		checkSame(t, "a large source", s, cloned(s), true)
		if text := show.Source(s); show.Right(s) || len(text) < many {
			t.Fatalf("Right is true, or there are only %d bytes of text", len(text))
		}
	}
}

// TestCallsChangeAndRememberNothing checks that the arguments of calls stay as they are, and that calls answer the same in any order and at the same time.
func TestCallsChangeAndRememberNothing(t *testing.T) {
	type answers struct {
		right, same bool
		text        string
	}
	d := &dice{11}
	all := append(samples(), full(100), d.source(3), d.source(5))
	var kept []answers
	for _, s := range all {
		before, after := cloned(s), cloned(s)
		kept = append(kept, answers{show.Right(after), show.Same(after, whole()), show.Source(after)})
		show.Same(whole(), after)
		show.Same(after, after)
		if !unchanged(reflect.ValueOf(before), reflect.ValueOf(after)) {
			t.Fatalf("an argument is changed:\n%+v\nwas\n%+v", after, before)
		}
	}
	var group sync.WaitGroup
	for range 4 {
		group.Go(func() {
			for i := range all {
				i = len(all) - 1 - i
				if got := (answers{show.Right(all[i]), show.Same(all[i], whole()), show.Source(all[i])}); got != kept[i] {
					t.Errorf("source %d gives another answer", i)
				}
			}
		})
	}
	group.Wait()
}
