package bind_test

import (
	"slices"

	"clew/api"
)

// reading is chapter 17 read to the letter, for sources without a fault.
type reading struct {
	s     api.Source
	texts []string
}

// read is the reading of a source.
func read(s api.Source) reading { return reading{s, textsRead(s)} }

// namesOf is the names of the elements of l.
func namesOf[T any](l []T, name func(element T) string) []string {
	return list(len(l), func(i int) string { return name(l[i]) })
}

func (r reading) flag(name string) int {
	return slices.Index(append([]string{"lit", "open", "box", "hidden"}, r.s.Flags...), name)
}
func (r reading) prop(name string) int {
	return slices.Index(namesOf(r.s.Props, func(p api.Pair) string { return p.Name }), name)
}
func (r reading) global(name string) int {
	return slices.Index(namesOf(r.s.Globals, func(p api.Pair) string { return p.Name }), name)
}
func (r reading) thing(name string) int { return thingNamed(r.s, name) }
func (r reading) verb(name string) int {
	return slices.Index(namesOf(r.s.Verbs, func(v api.Verb) string { return v.Name }), name)
}
func (r reading) function(name string) int {
	return slices.Index(namesOf(r.s.Funcs, func(f api.Func) string { return f.Name }), name)
}
func (r reading) daemon(name string) int {
	return slices.Index(namesOf(r.s.Daemons, func(f api.Func) string { return f.Name }), name)
}

// shown is the locals that can be seen; none is called like one that cannot, where its name is empty.
type shown []string

// with is the locals, and one more at an index.
func (l shown) with(name string, index int) shown {
	more := make(shown, max(len(l), index+1))
	copy(more, l)
	more[index] = name
	return more
}

// index is the last index of a name, or -1.
func (l shown) index(name string) int {
	last := -1
	for i, other := range l {
		if other == name {
			last = i
		}
	}
	return last
}

// exprs reads 17.3 about expressions.
func (r reading) exprs(l []api.Expr, locals shown) []api.Expr {
	return list(len(l), func(i int) api.Expr { return r.expr(l[i], locals) })
}

func (r reading) expr(e api.Expr, locals shown) api.Expr {
	args := r.exprs(e.Args, locals)
	switch e.Kind {
	case 2:
		return text(slices.Index(r.texts, e.Name))
	case 3:
		switch {
		case locals.index(e.Name) >= 0:
			return local(locals.index(e.Name))
		case r.global(e.Name) >= 0:
			return global(r.global(e.Name))
		}
		return num(r.thing(e.Name))
	case 7:
		return has(args[0], r.flag(e.Name))
	case 8:
		return prop(args[0], r.prop(e.Name))
	case 9:
		return call(r.function(e.Name), args...)
	}
	return api.Expr{Kind: e.Kind, Op: e.Op, Num: e.Num, Args: args}
}

// creates is how many locals statements create.
func creates(l ...api.Stmt) int {
	count := 0
	for _, s := range l {
		count += map[int]int{let: 1, each: 2}[s.Kind] + creates(s.Body...) + creates(s.Else...)
	}
	return count
}

// block reads 17.3 about statements ahead of which there have been so many locals.
func (r reading) block(l []api.Stmt, locals shown, count int) []api.Stmt {
	return list(len(l), func(i int) api.Stmt {
		visible := locals
		for k, earlier := range l[:i] {
			if earlier.Kind == let {
				visible = visible.with(earlier.Name, count+creates(l[:k]...))
			}
		}
		return r.stmt(l[i], visible, count+creates(l[:i]...))
	})
}

func (r reading) stmt(s api.Stmt, locals shown, count int) api.Stmt {
	bound := api.Stmt{Kind: s.Kind, Args: r.exprs(s.Args, locals)}
	inner, own := locals, 0
	switch s.Kind {
	case let:
		bound.Num = count
	case each:
		bound.Num, inner, own = count, locals.with(s.Name, count), 2
	case assign:
		bound.Num = locals.index(s.Name)
		if bound.Num < 0 {
			bound.Kind, bound.Num = assignGlobal, r.global(s.Name)
		}
	case put:
		bound.Num = r.prop(s.Name)
	case set, unset:
		bound.Num = r.flag(s.Name)
	case start, halt:
		bound.Num = r.daemon(s.Name)
	}
	bound.Body = r.block(s.Body, inner, count+own)
	bound.Else = r.block(s.Else, locals, count+own+creates(s.Body...))
	return bound
}

// routines reads the order of the routines in 17.2, and how many params and locals they have.
func (r reading) routines() (l [][]api.Stmt, params, locals []int) {
	add := func(given []string, body []api.Stmt) {
		l, params, locals = append(l, r.block(body, given, len(given))), append(params, len(given)), append(locals, len(given)+creates(body...))
	}
	addWhen := func(conditions []api.Expr) {
		for _, e := range conditions {
			add(nil, []api.Stmt{{Kind: give, Args: []api.Expr{e}}})
		}
	}
	for _, o := range r.s.Objects {
		for _, e := range o.Exits {
			addWhen(e.When)
		}
	}
	for _, rule := range r.s.Rules {
		addWhen(rule.When)
		add(nil, rule.Body)
	}
	for _, f := range append(slices.Clone(r.s.Funcs), r.s.Daemons...) {
		add(f.Params, f.Body)
	}
	return l, params, locals
}

// ways reads the ways of an object; so many routines are those of objects ahead of it.
func (r reading) ways(l []api.Exit, ahead int) []api.Way {
	var ways []api.Way
	for dir := 1; dir <= 12; dir++ {
		number := ahead
		for _, e := range l {
			if e.Dir == dir {
				w := api.Way{Dir: dir, To: r.thing(e.To), When: -1, Else: -1}
				if len(e.When) > 0 {
					w.When = number
				}
				if e.Else != "" {
					w.Else = slices.Index(r.texts, e.Else)
				}
				ways = append(ways, w)
			}
			number += len(e.When)
		}
	}
	return ways
}

// things reads the things of 17.2.
func (r reading) things() []api.Thing {
	defaults := list(len(r.s.Props), func(i int) int { return r.s.Props[i].Num })
	l := []api.Thing{{Text: -1, Props: make([]int, len(defaults))}, {Title: slices.Index(r.texts, "yourself"), Text: -1, Parent: r.thing(r.s.Start), Props: defaults, Words: []string{"me", "myself"}}}
	ahead := 0
	for _, o := range r.s.Objects {
		x := api.Thing{Title: slices.Index(r.texts, o.Title), Text: -1, Room: o.Room, Words: o.Words, Adjs: o.Adjs, Ways: r.ways(o.Exits, ahead)}
		if o.Text != "" {
			x.Text = slices.Index(r.texts, o.Text)
		}
		if o.In != "" {
			x.Parent = r.thing(o.In)
		}
		for bit := range 4 + len(r.s.Flags) {
			if slices.ContainsFunc(o.Flags, func(name string) bool { return r.flag(name) == bit }) {
				x.Flags += 1 << bit
			}
		}
		for i, value := range defaults {
			for _, given := range o.Props {
				if r.prop(given.Name) == i {
					value = given.Num
				}
			}
			x.Props = append(x.Props, value)
		}
		for _, e := range o.Exits {
			ahead += len(e.When)
		}
		l = append(l, x)
	}
	return l
}

// deeds reads the deeds of 17.2; so many routines are those of objects.
func (r reading) deeds(ahead int) []api.Deed {
	thing := func(name string) int {
		if name == "" {
			return -1
		}
		return r.thing(name)
	}
	return list(len(r.s.Rules), func(i int) api.Deed {
		rule := r.s.Rules[i]
		d := api.Deed{Verb: r.verb(rule.Verb), Phase: rule.Phase, Noun: thing(rule.Noun), Second: thing(rule.Second), When: -1, Body: ahead + len(rule.When)}
		if len(rule.When) > 0 {
			d.When = ahead
		}
		ahead = d.Body + 1
		return d
	})
}

// book reads 17.2.
func (r reading) book() api.Book {
	var b api.Book
	t := &b.Tables
	b.Routines, t.Params, t.Locals = r.routines()
	daemons := len(b.Routines) - len(r.s.Daemons)
	funcs := daemons - len(r.s.Funcs)
	ofRules := 0
	for _, rule := range r.s.Rules {
		ofRules += 1 + len(rule.When)
	}
	t.Title, t.By = 0, slices.Index(r.texts, r.s.By)
	t.Release, t.Max, t.Texts, t.Flags = r.s.Release, r.s.Max, r.texts, 4+len(r.s.Flags)
	t.Props = list(len(r.s.Props), func(i int) int { return r.s.Props[i].Num })
	t.Globals = list(len(r.s.Globals), func(i int) int { return r.s.Globals[i].Num })
	t.Acts = list(len(r.s.Verbs), func(i int) api.Act { return api.Act{Meta: r.s.Verbs[i].Meta, Lines: r.s.Verbs[i].Lines} })
	t.Things, t.Deeds = r.things(), r.deeds(funcs-ofRules)
	t.Funcs = list(len(r.s.Funcs), func(i int) int { return funcs + i })
	t.Daemons = list(len(r.s.Daemons), func(i int) int { return daemons + i })
	return b
}
