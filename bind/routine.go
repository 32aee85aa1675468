package bind

import (
	"clew/api"
	"clew/names"
)

// local is a local that statements can use.
type local struct {
	name  string
	index int
}

// routine replaces the names in the statements of one routine.
type routine struct {
	binder
	visible []local
	count   int // how many locals there are so far, visible or not
}

// routine returns a routine that begins with these locals.
func (b binder) routine(locals []string) *routine {
	r := &routine{binder: b}
	for _, name := range locals {
		r.show(name, r.create(1))
	}
	return r
}

// create makes that many locals, and returns the index of the first one.
func (r *routine) create(count int) int {
	first := r.count
	r.count += count
	return first
}

// show makes a local visible.
func (r *routine) show(name string, index int) {
	r.visible = append(r.visible, local{name, index})
}

// find returns the index of the visible local with that name.
func (r *routine) find(name string) (int, bool) {
	for i := len(r.visible) - 1; i >= 0; i-- {
		if r.visible[i].name == name {
			return r.visible[i].index, true
		}
	}
	return 0, false
}

// block binds a list of statements, where its own locals are visible beside those around it.
func (r *routine) block(l []api.Stmt, own ...local) []api.Stmt {
	around := len(r.visible)
	r.visible = append(r.visible, own...)
	bound := mapped(l, r.stmt)
	r.visible = r.visible[:around]
	return bound
}

// stmt binds a statement, and makes the local of a let visible to those behind it.
func (r *routine) stmt(s api.Stmt) api.Stmt {
	bound := api.Stmt{Args: mapped(s.Args, r.expr)}
	bound.Kind, bound.Num = r.target(s)
	if s.Kind == api.StEach {
		bound.Body = r.block(s.Body, local{s.Name, bound.Num})
	} else {
		bound.Body = r.block(s.Body)
	}
	bound.Else = r.block(s.Else)
	if s.Kind == api.StLet {
		r.show(s.Name, bound.Num)
	}
	return bound
}

// target returns the kind that s has in a book, and the number of what it refers to.
func (r *routine) target(s api.Stmt) (kind, num int) {
	switch s.Kind {
	case api.StLet:
		return s.Kind, r.create(1)
	case api.StEach:
		// The second local is for the thing that follows.
		return s.Kind, r.create(2)
	case api.StAssign:
		return r.assigned(s.Name)
	case api.StPut:
		return s.Kind, r.of(api.NameProp, s.Name)
	case api.StSet, api.StUnset:
		return s.Kind, r.of(api.NameFlag, s.Name)
	case api.StStart, api.StHalt:
		return s.Kind, r.of(api.NameDaemon, s.Name)
	}
	return s.Kind, s.Num
}

// assigned returns the kind of an assignment to name, and the number of the local or the global.
func (r *routine) assigned(name string) (kind, num int) {
	if index, found := r.find(name); found {
		return api.StAssign, index
	}
	return api.StGlobal, r.of(api.NameGlobal, name)
}

// expr binds an expression.
func (r *routine) expr(e api.Expr) api.Expr {
	bound := e
	bound.Name = ""
	bound.Args = mapped(e.Args, r.expr)
	switch e.Kind {
	case api.ExText:
		bound.Kind, bound.Num = api.ExTextN, r.texts[e.Name]
	case api.ExName:
		bound.Kind, bound.Num = r.value(e.Name)
	case api.ExHas:
		bound.Kind, bound.Num = api.ExHasN, r.of(api.NameFlag, e.Name)
	case api.ExProp:
		bound.Kind, bound.Num = api.ExPropN, r.of(api.NameProp, e.Name)
	case api.ExCall:
		bound.Kind, bound.Num = api.ExCallN, r.of(api.NameFunc, e.Name)
	}
	return bound
}

// value returns the kind of expression that stands for the value of name, and its number.
func (r *routine) value(name string) (kind, num int) {
	if index, found := r.find(name); found {
		return api.ExLocal, index
	}
	entry, _ := names.Find(r.names, name)
	if entry.Kind == api.NameGlobal {
		return api.ExGlobal, entry.Num
	}
	return api.ExNum, entry.Num
}
