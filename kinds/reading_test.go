package kinds_test

import (
	"slices"
	"strings"
	"testing"

	"clew/api"
	"clew/kinds"
)

// keywords is the keywords of chapter 9.
const keywords = " story by release max start flag prop global room thing in verb meta on before after if func daemon text words adjs is exit to else say let set unset move remove while each return stop win lose award halt travel look list or and not has parent child next random title here player noun second number score any many dir north south east west northeast northwest southeast southwest up down out "

// reading is chapter 16 read to the letter: it goes on behind a fault, and so collects more of them than the first one.
type reading struct {
	s         api.Source
	part, num int
	created   int
	faults    []api.Fault
}

// first is the first fault of what has been read.
func (r *reading) first() api.Fault {
	if len(r.faults) == 0 {
		return api.Fault{}
	}
	return r.faults[0]
}

// must collects a fault unless something is so.
func (r *reading) must(so bool, err api.Errno, name string) {
	if !so {
		r.faults = append(r.faults, api.Fault{Err: err, Part: r.part, Num: r.num, Name: name})
	}
}

// declared is the kind of a name and its place in the list of the source; 0 if there is no such name.
func (r *reading) declared(name string) (kind, place int) {
	for i, l := range [][]string{
		append([]string{"lit", "open", "box", "hidden"}, r.s.Flags...), namesOf(r.s.Props, func(p api.Pair) string { return p.Name }), namesOf(r.s.Globals, func(p api.Pair) string { return p.Name }),
		namesOf(r.s.Objects, func(o api.Object) string { return o.Name }), namesOf(r.s.Verbs, func(v api.Verb) string { return v.Name }),
		namesOf(r.s.Funcs, func(f api.Func) string { return f.Name }), namesOf(r.s.Daemons, func(f api.Func) string { return f.Name }),
	} {
		if at := slices.Index(l, name); at >= 0 {
			return i + 1, at
		}
	}
	return 0, 0
}

// namesOf is the names of the elements of l.
func namesOf[T any](l []T, name func(element T) string) []string {
	return list(len(l), func(i int) string { return name(l[i]) })
}

// is reads a name that must be of that kind.
func (r *reading) is(kind int, name string) {
	got, _ := r.declared(name)
	r.must(got != 0, api.ErrNone, name)
	r.must(got == kind, api.ErrKind, name)
}

// isRoom reads a name that must be that of a room.
func (r *reading) isRoom(name string) {
	r.is(thingName, name)
	kind, place := r.declared(name)
	r.must(kind == thingName && r.s.Objects[place].Room, api.ErrKind, name)
}

// expr reads 16.1.
func (r *reading) expr(e api.Expr, locals []string) {
	kind, place := r.declared(e.Name)
	isLocal := slices.Contains(locals, e.Name)
	switch e.Kind {
	case 3:
		r.must(isLocal || kind != 0, api.ErrNone, e.Name)
		r.must(isLocal || kind == globalName || kind == thingName, api.ErrKind, e.Name)
	case 7:
		r.is(flagName, e.Name)
	case 8:
		r.is(propName, e.Name)
	case 9:
		r.is(funcName, e.Name)
		r.must(kind == funcName && len(e.Args) == len(r.s.Funcs[place].Params), api.ErrCount, e.Name)
	}
	for _, arg := range e.Args {
		r.expr(arg, locals)
	}
}

// block reads 16.2.
func (r *reading) block(l []api.Stmt, around []string) {
	for i, s := range l {
		visible := slices.Clone(around)
		for _, earlier := range l[:i] {
			if earlier.Kind == 2 {
				visible = append(visible, earlier.Name)
			}
		}
		for _, e := range s.Args {
			if e.Kind != 2 {
				r.expr(e, visible)
			}
		}
		r.stmt(s, visible)
		inside := slices.Clone(visible)
		if s.Kind == 11 {
			inside = append(inside, s.Name)
		}
		r.block(s.Body, inside)
		r.block(s.Else, visible)
	}
}

// stmt reads what 16.2 says about a statement itself.
func (r *reading) stmt(s api.Stmt, visible []string) {
	kind, _ := r.declared(s.Name)
	isLocal := slices.Contains(visible, s.Name)
	switch s.Kind {
	case 2, 11:
		r.must(!isLocal && kind == 0, api.ErrTwice, s.Name)
		r.created += map[int]int{2: 1, 11: 2}[s.Kind]
		r.must(r.created <= mostLocals, api.ErrCount, s.Name)
	case 3:
		r.must(isLocal || kind != 0, api.ErrNone, s.Name)
		r.must(isLocal || kind == globalName, api.ErrKind, s.Name)
	case 4:
		r.is(propName, s.Name)
	case 5, 6:
		r.is(flagName, s.Name)
	case 17, 18:
		r.is(daemonName, s.Name)
	case 13:
		r.must(r.part == partRule, api.ErrState, "")
	case 12:
		r.must(r.part == partFunc, api.ErrState, "")
	}
}

// routine reads the body of a routine.
func (r *reading) routine(l []api.Stmt, locals []string) {
	r.created = 0
	r.block(l, locals)
}

// source reads 16.4.
func (r *reading) source() {
	r.part = partStory
	r.isRoom(r.s.Start)
	for i, o := range r.s.Objects {
		r.part, r.num = partObject, i
		r.object(o)
	}
	for i, v := range r.s.Verbs {
		r.part, r.num = partVerb, i
		r.verb(v)
	}
	for i, rule := range r.s.Rules {
		r.part, r.num = partRule, i
		r.rule(rule)
	}
	for i, f := range r.s.Funcs {
		r.part, r.num = partFunc, i
		for k, p := range f.Params {
			r.must(isName(p), api.ErrName, p)
			kind, _ := r.declared(p)
			r.must(kind == 0 && slices.Index(f.Params, p) == k, api.ErrTwice, p)
		}
		r.routine(f.Body, f.Params)
	}
	for i, d := range r.s.Daemons {
		r.part, r.num = partDaemon, i
		r.routine(d.Body, nil)
	}
}

// object reads what 16.4 says about an object.
func (r *reading) object(o api.Object) {
	if o.In != "" {
		r.is(thingName, o.In)
		r.must(!r.contains(o), api.ErrState, o.In)
	}
	for _, word := range append(slices.Clone(o.Words), o.Adjs...) {
		r.must(isWord(word), api.ErrName, word)
	}
	for _, flag := range o.Flags {
		r.is(flagName, flag)
	}
	for _, p := range o.Props {
		r.is(propName, p.Name)
	}
	taken := map[int]bool{}
	for _, e := range o.Exits {
		r.must(!taken[e.Dir], api.ErrTwice, e.To)
		taken[e.Dir] = true
		r.isRoom(e.To)
		for _, when := range e.When {
			r.expr(when, nil)
		}
	}
}

// contains reports whether o is among all that contain it.
func (r *reading) contains(o api.Object) bool {
	around := map[string]bool{o.In: true}
	for range r.s.Objects {
		for _, outer := range r.s.Objects {
			if around[outer.Name] {
				around[outer.In] = true
			}
		}
	}
	return around[o.Name]
}

// verb reads what 16.4 says about a verb.
func (r *reading) verb(v api.Verb) {
	r.must(len(v.Lines) > 0, api.ErrShort, v.Name)
	for _, line := range v.Lines {
		kinds := ""
		for _, slot := range line {
			kinds += string("?WNM#D"[slot.Kind])
			r.must(slot.Kind != 1 || len(slot.Words) > 0, api.ErrShort, v.Name)
		}
		r.must(kinds != "", api.ErrShort, v.Name)
		for _, slot := range line {
			for _, word := range slot.Words {
				r.must(isWord(word), api.ErrName, word)
			}
		}
		r.must(strings.HasPrefix(kinds, "W") || strings.HasPrefix(kinds, "D"), api.ErrState, v.Name)
		r.must(strings.Count(kinds, "N")+strings.Count(kinds, "M") <= 2 && strings.Count(kinds, "#") <= 1 && strings.Count(kinds, "D") <= 1, api.ErrState, v.Name)
	}
}

// rule reads what 16.4 says about a rule.
func (r *reading) rule(rule api.Rule) {
	r.is(verbName, rule.Verb)
	if rule.Noun != "" {
		r.is(thingName, rule.Noun)
	}
	if rule.Second != "" {
		r.is(thingName, rule.Second)
	}
	for _, when := range rule.When {
		r.expr(when, nil)
	}
	r.routine(rule.Body, nil)
}

// isName reports whether s is a name and no keyword.
func isName(s string) bool {
	const first, later = "abcdefghijklmnopqrstuvwxyz", "abcdefghijklmnopqrstuvwxyz0123456789_"
	return s != "" && len(s) <= 24 && strings.Trim(s, later) == "" && strings.Trim(s[:1], first) == "" && !strings.Contains(keywords, " "+s+" ")
}

// isWord reports whether s is a dictionary word.
func isWord(s string) bool {
	const first, later = "abcdefghijklmnopqrstuvwxyz0123456789", "abcdefghijklmnopqrstuvwxyz0123456789-'"
	return s != "" && len(s) <= 9 && strings.Trim(s, later) == "" && strings.Trim(s[:1], first) == ""
}

// depth is how many expressions are nested in one another in e.
func depth(e api.Expr) int {
	most := 0
	for _, arg := range e.Args {
		most = max(most, depth(arg))
	}
	return 1 + most
}

// checkAnswer checks what Expr says without locals, or with those that exprAnswers may use.
func checkAnswer(t *testing.T, n []api.Name, s api.Source, e api.Expr, want answer) {
	t.Helper()
	var visible []string
	if want.text != "" {
		visible = locals()
	}
	if err, name := kinds.Expr(n, s, visible, e); err != want.err || name != want.name {
		t.Fatalf("%+v: %v and %q, not %v and %q", e, err, name, want.err, want.name)
	}
}

// checkExprRead checks that Expr says the same as the chapter.
func checkExprRead(t *testing.T, s api.Source, n []api.Name, locals []string, e api.Expr) api.Errno {
	t.Helper()
	r := reading{s: s}
	r.expr(e, locals)
	want := r.first()
	if err, name := kinds.Expr(n, s, locals, e); err != want.Err || name != want.Name {
		t.Fatalf("%+v: %v and %q, not %v and %q", e, err, name, want.Err, want.Name)
	}
	return want.Err
}

// checkBlockRead checks that Block says the same as the chapter.
func checkBlockRead(t *testing.T, s api.Source, n []api.Name, locals []string, where int, l []api.Stmt) api.Errno {
	t.Helper()
	r := reading{s: s, part: where}
	r.routine(l, locals)
	want := r.first()
	if err, name := kinds.Block(n, s, locals, where, l); err != want.Err || name != want.Name {
		t.Fatalf("in part %d with the locals %v: %v and %q, not %v and %q for\n%+v", where, locals, err, name, want.Err, want.Name, l)
	}
	return want.Err
}

// checkRead checks that Check says the same as the chapter, and 16.5 of that.
func checkRead(t *testing.T, s api.Source) api.Fault {
	t.Helper()
	r := reading{s: s}
	r.source()
	checkFault(t, "the chapter", s, r.first())
	return r.first()
}
