package kinds_test

import (
	"fmt"
	"testing"

	"clew/api"
)

// breaker is a change of the source that brings in a fault, and leaves apart what the others of another group change.
type breaker struct {
	change func(s *api.Source)
	want   api.Fault
	group  string
}

// breakers is a list of them.
type breakers []breaker

// add adds one whose fault has a name of its own, which set is given.
func (l *breakers) add(err api.Errno, part, num int, name string, set func(s *api.Source, name string)) {
	if name == "" {
		name = fmt.Sprintf("bad%d", len(*l))
	}
	*l = append(*l, breaker{func(s *api.Source) { set(s, name) }, fault(err, part, num, name), fmt.Sprint(len(*l))})
}

// together says that the last so many breakers change the same.
func (l breakers) together(count int) {
	for i := range count {
		l[len(l)-1-i].group = l[len(l)-1].group
	}
}

// wrongWord is a text that is no dictionary word, which is another one for each breaker.
func (l *breakers) wrongWord() string { return fmt.Sprintf("Bad%d", len(*l)) }

// addObject adds what can be wrong with an object, in the order of 16.4.
func (l *breakers) addObject(i int, o api.Object) {
	if o.In != "" {
		l.add(api.ErrNone, partObject, i, "", func(s *api.Source, name string) { s.Objects[i].In = name })
		l.add(api.ErrState, partObject, i, o.Name, func(s *api.Source, name string) { s.Objects[i].In = name })
		l.together(2)
	}
	for k := range o.Words {
		l.add(api.ErrName, partObject, i, l.wrongWord(), func(s *api.Source, name string) { s.Objects[i].Words[k] = name })
	}
	for k := range o.Adjs {
		l.add(api.ErrName, partObject, i, l.wrongWord(), func(s *api.Source, name string) { s.Objects[i].Adjs[k] = name })
	}
	for k := range o.Flags {
		l.add(api.ErrNone, partObject, i, "", func(s *api.Source, name string) { s.Objects[i].Flags[k] = name })
	}
	for k := range o.Props {
		l.add(api.ErrNone, partObject, i, "", func(s *api.Source, name string) { s.Objects[i].Props[k].Name = name })
	}
	for k, e := range o.Exits {
		if k > 0 {
			l.add(api.ErrTwice, partObject, i, e.To, func(s *api.Source, _ string) { s.Objects[i].Exits[k].Dir = o.Exits[k-1].Dir })
		}
		l.add(api.ErrNone, partObject, i, "", func(s *api.Source, name string) { s.Objects[i].Exits[k].To = name })
		l.together(min(k, 1) + 1)
		l.add(api.ErrNone, partObject, i, "", func(s *api.Source, name string) { s.Objects[i].Exits[k].When = []api.Expr{expr(name)} })
	}
}

// addVerb adds what can be wrong with a verb.
func (l *breakers) addVerb(i int, v api.Verb) {
	l.add(api.ErrShort, partVerb, i, v.Name, func(s *api.Source, _ string) { s.Verbs[i].Lines = nil })
	for k, line := range v.Lines {
		l.add(api.ErrShort, partVerb, i, v.Name, func(s *api.Source, _ string) { s.Verbs[i].Lines[k] = append(s.Verbs[i].Lines[k], slots("E")...) })
		for n, slot := range line {
			for m := range slot.Words {
				l.add(api.ErrName, partVerb, i, l.wrongWord(), func(s *api.Source, name string) { s.Verbs[i].Lines[k][n].Words[m] = name })
			}
		}
		l.add(api.ErrState, partVerb, i, v.Name, func(s *api.Source, _ string) { s.Verbs[i].Lines[k] = append(s.Verbs[i].Lines[k], slots("NNN")...) })
	}
}

// addRule adds what can be wrong with a rule.
func (l *breakers) addRule(i int) {
	l.add(api.ErrNone, partRule, i, "", func(s *api.Source, name string) { s.Rules[i].Verb = name })
	l.add(api.ErrNone, partRule, i, "", func(s *api.Source, name string) { s.Rules[i].Noun = name })
	l.add(api.ErrNone, partRule, i, "", func(s *api.Source, name string) { s.Rules[i].Second = name })
	l.add(api.ErrNone, partRule, i, "", func(s *api.Source, name string) { s.Rules[i].When = []api.Expr{expr(name)} })
	l.add(api.ErrNone, partRule, i, "", func(s *api.Source, name string) { s.Rules[i].Body = append(s.Rules[i].Body, block(name+" = 1;")...) })
}

// addFunc adds what can be wrong with a func.
func (l *breakers) addFunc(i int, f api.Func) {
	for k := range f.Params {
		l.add(api.ErrName, partFunc, i, l.wrongWord(), func(s *api.Source, name string) { s.Funcs[i].Params[k] = name })
	}
	l.add(api.ErrNone, partFunc, i, "", func(s *api.Source, name string) { s.Funcs[i].Body = append(s.Funcs[i].Body, block(name+" = 1;")...) })
}

// allBreakers is what can be wrong in each element of the source, in the order in which Check goes through it.
func allBreakers() breakers {
	var l breakers
	s := whole()
	l.add(api.ErrNone, partStory, 0, "", func(s *api.Source, name string) { s.Start = name })
	for i, o := range s.Objects {
		l.addObject(i, o)
	}
	for i, v := range s.Verbs {
		l.addVerb(i, v)
	}
	for i := range s.Rules {
		l.addRule(i)
	}
	for i, f := range s.Funcs {
		l.addFunc(i, f)
	}
	for i := range s.Daemons {
		l.add(api.ErrNone, partDaemon, i, "", func(s *api.Source, name string) {
			s.Daemons[i].Body = append(s.Daemons[i].Body, block(name+" = 1;")...)
		})
	}
	return l
}

// TestCheckEachFault is 16.4: each fault by itself, in each element of each part.
func TestCheckEachFault(t *testing.T) {
	found := map[int]int{}
	for _, b := range allBreakers() {
		checkFault(t, "a fault", changed(b.change), b.want)
		found[b.want.Part]++
	}
	for _, part := range []int{partStory, partObject, partVerb, partRule, partFunc, partDaemon} {
		if found[part] == 0 {
			t.Error("there is no fault in part", part)
		}
	}
}

// TestCheckOrder is 16.4 and R2: of each two faults, the first one is returned.
func TestCheckOrder(t *testing.T) {
	l := allBreakers()
	for i, first := range l {
		for k, second := range l[i+1:] {
			// Many of them are alike, so those in between stand for all.
			if first.group == second.group || k > 25 && (i+k)%7 != 0 {
				continue
			}
			checkFault(t, fmt.Sprint("two faults, ", first.want, " and ", second.want), changed(func(s *api.Source) {
				second.change(s)
				first.change(s)
			}), first.want)
		}
	}
}
