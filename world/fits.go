package world

import (
	"slices"

	"clew/api"
	"clew/letter"
	"clew/num"
)

// Limits that api does not name as they are counted here.
const (
	leastFlags  = api.FlagHidden + 1 // those that every story has
	leastThings = 3                  // the nothing, the player and a room
	mostLocals  = api.MaxArgs + api.MaxLocals
	mostChoices = 4 // words of a slot
	mostNouns   = 2 // slots of a line that stand for things
	none        = -1
)

// references are the checks of numbers that refer to something in tables.
type references struct {
	text, thing, room, act, routine check[int]
	plain                           check[int] // a routine without params
}

// Fits reports whether t are valid tables.
func Fits(t api.Tables) bool {
	is := referencesOf(t)
	return headFits(t, is) && routinesFit(t, is) && thingsFit(t, is) && actsFit(t.Acts) && deedsFit(t.Deeds, is)
}

// referencesOf returns the checks of numbers that refer to something in t.
func referencesOf(t api.Tables) references {
	thing, routine := thingCheck(len(t.Things)), within(0, len(t.Params)-1)
	return references{
		text:    within(0, len(t.Texts)-1),
		thing:   thing,
		room:    func(n int) bool { return thing(n) && t.Things[n].Room },
		act:     within(0, len(t.Acts)-1),
		routine: routine,
		plain:   func(n int) bool { return routine(n) && t.Params[n] == 0 },
	}
}

// headFits reports whether the texts of t and what holds for the whole story are valid.
func headFits(t api.Tables, is references) bool {
	count := within(0, greatest)
	flags := within(leastFlags, api.MaxFlags)
	texts := list(0, api.MaxTexts, letter.IsText)
	props := list(0, api.MaxProps, num.Is)
	globals := list(0, api.MaxGlobals, num.Is)
	return texts(t.Texts) && is.text(t.Title) && is.text(t.By) && count(t.Release) && count(t.Max) &&
		flags(t.Flags) && props(t.Props) && globals(t.Globals)
}

// routinesFit reports whether the params and locals of the routines of t are valid, and which of them are funcs and daemons.
func routinesFit(t api.Tables, is references) bool {
	params := list(0, api.MaxRoutines, within(0, api.MaxArgs))
	funcs := list(0, api.MaxFuncs, is.routine)
	daemons := list(0, api.MaxDaemons, is.plain)
	locals := func(params, locals int) bool { return params <= locals && locals <= mostLocals }
	return params(t.Params) && sameList(t.Params, t.Locals, locals) && funcs(t.Funcs) && daemons(t.Daemons)
}

// thingsFit reports whether the things of t are valid; t has valid Flags.
func thingsFit(t api.Tables, is references) bool {
	if len(t.Things) == 0 {
		return false
	}
	nothing, others := t.Things[0], t.Things[1:]
	things := list(leastThings-1, api.MaxThings-1, validThing(t, is))
	return isNothing(nothing, len(t.Props)) && things(others) && parentsFit(parentsOf(t.Things), is)
}

// parentsFit reports whether things are where they may be.
func parentsFit(parents []int, is references) bool {
	return rooted(parents) && !is.room(api.Player) && is.room(top(parents, api.Player))
}

// isNothing reports whether x is the null thing, with that many props.
func isNothing(x api.Thing, count int) bool {
	props := list(count, count, within(0, 0))
	return x.Title == 0 && x.Text == none && x.Parent == 0 && x.Flags == 0 && !x.Room && props(x.Props) &&
		len(x.Words) == 0 && len(x.Adjs) == 0 && len(x.Ways) == 0
}

// validThing returns the check of a thing of t, but for where it is.
func validThing(t api.Tables, is references) check[api.Thing] {
	text := or(none, is.text)
	flags := flagsCheck(t.Flags)
	props := list(len(t.Props), len(t.Props), num.Is)
	words := list(0, api.MaxWords, letter.IsWord)
	ways := validWays(is)
	return func(x api.Thing) bool {
		if x.Room && x.Parent != 0 || !x.Room && len(x.Ways) > 0 {
			return false
		}
		return is.text(x.Title) && text(x.Text) && flags(x.Flags) && props(x.Props) &&
			words(x.Words) && words(x.Adjs) && ways(x.Ways)
	}
}

// validWays returns the check of the ways of a room.
func validWays(is references) check[[]api.Way] {
	when, otherwise := or(none, is.plain), or(none, is.text)
	return func(l []api.Way) bool {
		last := 0
		for _, way := range l {
			later := within(last+1, api.Out)
			if !later(way.Dir) || !is.room(way.To) || !when(way.When) || !otherwise(way.Else) {
				return false
			}
			last = way.Dir
		}
		return true
	}
}

// actsFit reports whether the verbs of a story are valid.
func actsFit(l []api.Act) bool {
	lines := list(1, api.MaxLines, validLine)
	acts := list(0, api.MaxVerbs, func(a api.Act) bool { return lines(a.Lines) })
	return acts(l)
}

// validLine reports whether the line l of a verb is valid.
func validLine(l []api.Slot) bool {
	count := func(kinds ...int) int {
		n := 0
		for _, s := range l {
			if slices.Contains(kinds, s.Kind) {
				n++
			}
		}
		return n
	}
	slots := list(1, api.MaxSlots, validSlot)
	return slots(l) && (l[0].Kind == api.SlotWord || l[0].Kind == api.SlotDir) &&
		count(api.SlotNoun, api.SlotMany) <= mostNouns && count(api.SlotNumber) <= 1 && count(api.SlotDir) <= 1
}

// validSlot reports whether a slot of a line is valid.
func validSlot(s api.Slot) bool {
	switch s.Kind {
	case api.SlotWord:
		words := list(1, mostChoices, letter.IsWord)
		return words(s.Words)
	case api.SlotNoun, api.SlotMany, api.SlotNumber, api.SlotDir:
		return len(s.Words) == 0
	}
	return false
}

// deedsFit reports whether the rules of a story are valid.
func deedsFit(l []api.Deed, is references) bool {
	phase := within(api.Before, api.After)
	noun, when := or(none, is.thing), or(none, is.plain)
	deeds := list(0, api.MaxRules, func(d api.Deed) bool {
		return is.act(d.Verb) && phase(d.Phase) && noun(d.Noun) && noun(d.Second) && when(d.When) && is.plain(d.Body)
	})
	return deeds(l)
}
