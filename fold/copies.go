package fold

import (
	"slices"

	"clew/api"
)

// mapped returns what convert makes of each element of l, in order.
func mapped[T any](l []T, convert func(element T) T) []T {
	var converted []T
	for _, element := range l {
		converted = append(converted, convert(element))
	}
	return converted
}

// copyOf returns t in new memory.
func copyOf(t api.Tables) api.Tables {
	t.Texts = slices.Clone(t.Texts)
	t.Things = mapped(t.Things, thing)
	t.Acts = mapped(t.Acts, act)
	t.Deeds = slices.Clone(t.Deeds)
	for _, l := range []*[]int{&t.Props, &t.Globals, &t.Funcs, &t.Daemons, &t.Params, &t.Locals} {
		*l = slices.Clone(*l)
	}
	return t
}

// thing returns t in new memory.
func thing(t api.Thing) api.Thing {
	t.Props, t.Ways = slices.Clone(t.Props), slices.Clone(t.Ways)
	t.Words, t.Adjs = slices.Clone(t.Words), slices.Clone(t.Adjs)
	return t
}

// act returns a in new memory.
func act(a api.Act) api.Act {
	a.Lines = mapped(a.Lines, line)
	return a
}

// line returns l in new memory.
func line(l []api.Slot) []api.Slot {
	return mapped(l, slot)
}

// slot returns s in new memory.
func slot(s api.Slot) api.Slot {
	s.Words = slices.Clone(s.Words)
	return s
}
