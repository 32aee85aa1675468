package bind

import (
	"cmp"
	"slices"

	"clew/api"
	"clew/kinds"
	"clew/names"
)

// none is the number of a text, a thing or a routine that is not given.
const none = -1

// predefinedFlags is how many flags every story has.
const predefinedFlags = api.FlagHidden + 1

// writer writes a book. Its routines are numbered in the order in which it is asked for them.
type writer struct {
	binder
	book api.Book
}

// write writes the book of s, which has these texts.
func (w *writer) write(s api.Source, texts []string) {
	t := &w.book.Tables
	t.Title, t.By = w.texts[s.Title], w.texts[s.By]
	t.Release, t.Max = s.Release, s.Max
	t.Texts = texts
	t.Flags = predefinedFlags + len(s.Flags)
	t.Props, t.Globals = numbers(s.Props), numbers(s.Globals)
	t.Acts = mapped(s.Verbs, act)
	t.Things = w.things(s)
	t.Deeds = mapped(s.Rules, w.deed)
	t.Funcs = mapped(s.Funcs, w.function)
	t.Daemons = mapped(s.Daemons, w.function)
}

// numbers returns the numbers of l.
func numbers(l []api.Pair) []int {
	return mapped(l, func(p api.Pair) int { return p.Num })
}

// act returns a verb of the book.
func act(v api.Verb) api.Act {
	line := func(l []api.Slot) []api.Slot { return mapped(l, slot) }
	return api.Act{Meta: v.Meta, Lines: mapped(v.Lines, line)}
}

// slot returns s in new memory.
func slot(s api.Slot) api.Slot {
	return api.Slot{Kind: s.Kind, Words: slices.Clone(s.Words)}
}

// things returns the null thing, the player and the objects.
func (w *writer) things(s api.Source) []api.Thing {
	defaults := numbers(s.Props)
	null := api.Thing{Text: none, Props: make([]int, len(defaults))}
	player := api.Thing{
		Title:  w.texts[playerTitle],
		Text:   none,
		Parent: w.of(api.NameThing, s.Start),
		Props:  slices.Clone(defaults),
		Words:  []string{"me", "myself"},
	}
	object := func(o api.Object) api.Thing { return w.object(o, defaults) }
	return append([]api.Thing{null, player}, mapped(s.Objects, object)...)
}

// object returns a room or a thing of the book; the source has these default props.
func (w *writer) object(o api.Object, defaults []int) api.Thing {
	return api.Thing{
		Title:  w.texts[o.Title],
		Text:   w.textOrNone(o.Text),
		Parent: w.thingOr(0, o.In),
		Flags:  w.flags(o.Flags),
		Room:   o.Room,
		Props:  w.props(o.Props, defaults),
		Words:  slices.Clone(o.Words),
		Adjs:   slices.Clone(o.Adjs),
		Ways:   w.ways(o.Exits),
	}
}

// textOrNone returns the number of a text that may be left out.
func (w *writer) textOrNone(text string) int {
	if text == "" {
		return none
	}
	return w.texts[text]
}

// thingOr returns the thing with that name, or the substitute if the name is empty.
func (w *writer) thingOr(substitute int, name string) int {
	if name == "" {
		return substitute
	}
	return w.of(api.NameThing, name)
}

// flags returns the bit mask of the flags with these names.
func (w *writer) flags(l []string) int {
	mask := 0
	for _, name := range l {
		// A shift by a negative number would panic, and foreign names may have one.
		mask |= 1 << uint(w.of(api.NameFlag, name))
	}
	return mask
}

// props returns the props of an object to which l is given; later ones replace earlier ones.
func (w *writer) props(l []api.Pair, defaults []int) []int {
	props := slices.Clone(defaults)
	for _, given := range l {
		prop, err := names.Of(w.names, api.NameProp, given.Name)
		if err == api.OK && prop >= 0 && prop < len(props) {
			props[prop] = given.Num
		}
	}
	return props
}

// ways returns the ways of a room, sorted by direction.
func (w *writer) ways(l []api.Exit) []api.Way {
	// The routines are numbered as the exits occur, so sorting comes last.
	ways := mapped(l, w.way)
	slices.SortStableFunc(ways, func(a, b api.Way) int { return cmp.Compare(a.Dir, b.Dir) })
	return ways
}

// way returns a way of the book.
func (w *writer) way(e api.Exit) api.Way {
	return api.Way{
		Dir:  e.Dir,
		To:   w.of(api.NameThing, e.To),
		When: w.when(e.When),
		Else: w.textOrNone(e.Else),
	}
}

// deed returns a rule of the book.
func (w *writer) deed(r api.Rule) api.Deed {
	when := w.when(r.When)
	return api.Deed{
		Verb:   w.of(api.NameVerb, r.Verb),
		Phase:  r.Phase,
		Noun:   w.thingOr(none, r.Noun),
		Second: w.thingOr(none, r.Second),
		When:   when,
		Body:   w.add(nil, r.Body),
	}
}

// function adds the routine of a function or a daemon, and returns its number.
func (w *writer) function(f api.Func) int {
	return w.add(f.Params, f.Body)
}

// when adds the routine of a condition, and returns its number.
func (w *writer) when(l []api.Expr) int {
	if len(l) == 0 {
		return none
	}
	return w.add(nil, []api.Stmt{{Kind: api.StReturn, Args: l[:1]}})
}

// add adds a routine with these params, and returns its number.
func (w *writer) add(params []string, body []api.Stmt) int {
	number := len(w.book.Routines)
	t := &w.book.Tables
	t.Params = append(t.Params, len(params))
	t.Locals = append(t.Locals, len(params)+kinds.Locals(body))
	w.book.Routines = append(w.book.Routines, w.routine(params).block(body))
	return number
}
