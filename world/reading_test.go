package world_test

import (
	"reflect"
	"regexp"
	"slices"

	"clew/api"
)

// sentence is one of those that must hold for something that is valid.
type sentence[T any] struct {
	text  string
	holds func(v T) bool
}

// brokenBy are the texts of the sentences that do not hold for v.
func brokenBy[T any](sentences []sentence[T], v T) []string {
	var broken []string
	for _, s := range sentences {
		if !s.holds(v) {
			broken = append(broken, s.text)
		}
	}
	return broken
}

var (
	textForm = regexp.MustCompile(`\A[ -~\n]*\z`)
	wordForm = regexp.MustCompile(`\A[a-z0-9][a-z0-9'-]{0,8}\z`)
)

func isText(s string) bool            { return len(s) <= 1024 && textForm.MatchString(s) }
func isWord(s string) bool            { return wordForm.MatchString(s) }
func isValue(n int) bool              { return between(n, -32768, 32767) }
func between(n, a, b int) bool        { return a <= n && n <= b }
func isIndex(n, length int) bool      { return between(n, 0, length-1) }
func orNone(n int, is bool) bool      { return n == -1 || is }
func atMost[T any](l []T, n int) bool { return len(l) <= n }

// every is that all elements of l are so.
func every[T any](l []T, so func(v T) bool) bool {
	for _, v := range l {
		if !so(v) {
			return false
		}
	}
	return true
}

func isThing(t api.Tables, n int) bool { return between(n, 1, len(t.Things)-1) }
func isRoom(t api.Tables, n int) bool  { return isThing(t, n) && t.Things[n].Room }
func noParams(t api.Tables, n int) bool {
	return isIndex(n, len(t.Params)) && t.Params[n] == 0
}

// ofThings is a sentence about every thing but the null thing.
func ofThings(text string, so func(t api.Tables, x api.Thing) bool) sentence[api.Tables] {
	return sentence[api.Tables]{text, func(t api.Tables) bool {
		return every(t.Things[min(1, len(t.Things)):], func(x api.Thing) bool { return so(t, x) })
	}}
}

// ofWays is a sentence about every way of a room.
func ofWays(text string, so func(t api.Tables, w api.Way) bool) sentence[api.Tables] {
	return ofThings(text, func(t api.Tables, x api.Thing) bool {
		return !x.Room || every(x.Ways, func(w api.Way) bool { return so(t, w) })
	})
}

// ofLines is a sentence about every line of a verb.
func ofLines(text string, so func(l []api.Slot) bool) sentence[api.Tables] {
	return sentence[api.Tables]{text, func(t api.Tables) bool {
		return every(t.Acts, func(a api.Act) bool { return every(a.Lines, so) })
	}}
}

// ofSlots is a sentence about every slot.
func ofSlots(text string, so func(s api.Slot) bool) sentence[api.Tables] {
	return ofLines(text, func(l []api.Slot) bool { return every(l, so) })
}

// ofDeeds is a sentence about every deed.
func ofDeeds(text string, so func(t api.Tables, d api.Deed) bool) sentence[api.Tables] {
	return sentence[api.Tables]{text, func(t api.Tables) bool {
		return every(t.Deeds, func(d api.Deed) bool { return so(t, d) })
	}}
}

// slotsOf is how many slots of these kinds a line has.
func slotsOf(l []api.Slot, kinds ...int) int {
	n := 0
	for _, s := range l {
		if slices.Contains(kinds, s.Kind) {
			n++
		}
	}
	return n
}

// isNull is that x is the null thing of t.
func isNull(t api.Tables, x api.Thing) bool {
	if len(x.Words)+len(x.Adjs)+len(x.Ways) > 0 || !slices.Equal(x.Props, make([]int, len(t.Props))) {
		return false
	}
	x.Words, x.Adjs, x.Ways, x.Props = nil, nil, nil, nil
	return reflect.DeepEqual(x, api.Thing{Text: -1})
}

// ascending is that the directions of ways ascend.
func ascending(l []api.Way) bool {
	for i := range l {
		for j := range i {
			if l[j].Dir >= l[i].Dir {
				return false
			}
		}
	}
	return true
}

// inside is whether something is inside itself: what is left when the things whose parents do not lead on are taken away, again and again.
func inside(parents []int) bool {
	left := map[int]bool{}
	for x := 1; x < len(parents); x++ {
		left[x] = true
	}
	for range parents {
		for x := range parents {
			if left[x] && !left[parents[x]] {
				delete(left, x)
			}
		}
	}
	return len(left) > 0
}

// reachesRoom is that the player's parents lead to a room.
func reachesRoom(t api.Tables, parents []int) bool {
	at := 1
	for range parents {
		if isRoom(t, at) {
			return true
		}
		if !isIndex(at, len(parents)) {
			return false
		}
		at = parents[at]
	}
	return false
}

func parentsIn(t api.Tables) []int {
	var l []int
	for _, x := range t.Things {
		l = append(l, x.Parent)
	}
	return l
}

// tableSentences are those of the definition of valid tables.
func tableSentences() []sentence[api.Tables] {
	return slices.Concat(headSentences(), thingSentences(), actSentences(), deedSentences())
}

func headSentences() []sentence[api.Tables] {
	return []sentence[api.Tables]{
		{"at most 4096 texts", func(t api.Tables) bool { return atMost(t.Texts, 4096) }},
		{"texts", func(t api.Tables) bool { return every(t.Texts, isText) }},
		{"title", func(t api.Tables) bool { return isIndex(t.Title, len(t.Texts)) }},
		{"by", func(t api.Tables) bool { return isIndex(t.By, len(t.Texts)) }},
		{"release", func(t api.Tables) bool { return between(t.Release, 0, 32767) }},
		{"max", func(t api.Tables) bool { return between(t.Max, 0, 32767) }},
		{"flags", func(t api.Tables) bool { return between(t.Flags, 4, 16) }},
		{"at most 16 props", func(t api.Tables) bool { return atMost(t.Props, 16) }},
		{"props are values", func(t api.Tables) bool { return every(t.Props, isValue) }},
		{"at most 64 globals", func(t api.Tables) bool { return atMost(t.Globals, 64) }},
		{"globals are values", func(t api.Tables) bool { return every(t.Globals, isValue) }},
		{"as many locals as params", func(t api.Tables) bool { return len(t.Params) == len(t.Locals) }},
		{"at most 2048 routines", func(t api.Tables) bool { return atMost(t.Params, 2048) }},
		{"params", func(t api.Tables) bool { return every(t.Params, func(n int) bool { return between(n, 0, 8) }) }},
		{"locals", func(t api.Tables) bool {
			for i, n := range t.Locals {
				if n > 24 || i < len(t.Params) && n < t.Params[i] {
					return false
				}
			}
			return true
		}},
	}
}

func thingSentences() []sentence[api.Tables] {
	return []sentence[api.Tables]{
		{"3 to 128 things", func(t api.Tables) bool { return between(len(t.Things), 3, 128) }},
		{"null thing", func(t api.Tables) bool { return len(t.Things) == 0 || isNull(t, t.Things[0]) }},
		ofThings("title of a thing", func(t api.Tables, x api.Thing) bool { return isIndex(x.Title, len(t.Texts)) }),
		ofThings("text of a thing", func(t api.Tables, x api.Thing) bool { return orNone(x.Text, isIndex(x.Text, len(t.Texts))) }),
		ofThings("flags of a thing", func(t api.Tables, x api.Thing) bool {
			return x.Flags >= 0 && (t.Flags > 60 || x.Flags>>max(t.Flags, 0) == 0)
		}),
		ofThings("as many props of a thing", func(t api.Tables, x api.Thing) bool { return len(x.Props) == len(t.Props) }),
		ofThings("props of a thing are values", func(t api.Tables, x api.Thing) bool { return every(x.Props, isValue) }),
		ofThings("at most 8 words", func(t api.Tables, x api.Thing) bool { return atMost(x.Words, 8) }),
		ofThings("words", func(t api.Tables, x api.Thing) bool { return every(x.Words, isWord) }),
		ofThings("at most 8 adjs", func(t api.Tables, x api.Thing) bool { return atMost(x.Adjs, 8) }),
		ofThings("adjs", func(t api.Tables, x api.Thing) bool { return every(x.Adjs, isWord) }),
		ofThings("a room has no parent", func(t api.Tables, x api.Thing) bool { return !x.Room || x.Parent == 0 }),
		ofThings("only rooms have ways", func(t api.Tables, x api.Thing) bool { return x.Room || len(x.Ways) == 0 }),
		ofThings("parent", func(t api.Tables, x api.Thing) bool { return x.Room || x.Parent == 0 || isThing(t, x.Parent) }),
		{"not inside itself", func(t api.Tables) bool { return !inside(parentsIn(t)) }},
		{"the player is no room", func(t api.Tables) bool { return !isRoom(t, 1) }},
		{"the player is in a room", func(t api.Tables) bool { return reachesRoom(t, parentsIn(t)) }},
		ofThings("ways ascend", func(t api.Tables, x api.Thing) bool { return !x.Room || ascending(x.Ways) }),
		ofWays("dir", func(t api.Tables, w api.Way) bool { return between(w.Dir, 1, 12) }),
		ofWays("to", func(t api.Tables, w api.Way) bool { return isRoom(t, w.To) }),
		ofWays("when of a way", func(t api.Tables, w api.Way) bool { return orNone(w.When, noParams(t, w.When)) }),
		ofWays("else", func(t api.Tables, w api.Way) bool { return orNone(w.Else, isIndex(w.Else, len(t.Texts))) }),
	}
}

func actSentences() []sentence[api.Tables] {
	return []sentence[api.Tables]{
		{"at most 64 acts", func(t api.Tables) bool { return atMost(t.Acts, 64) }},
		{"1 to 8 lines", func(t api.Tables) bool {
			return every(t.Acts, func(a api.Act) bool { return between(len(a.Lines), 1, 8) })
		}},
		ofLines("1 to 8 slots", func(l []api.Slot) bool { return between(len(l), 1, 8) }),
		ofSlots("kind of a slot", func(s api.Slot) bool { return between(s.Kind, 1, 5) }),
		ofSlots("1 to 4 words of a slot", func(s api.Slot) bool { return s.Kind != wordSlot || between(len(s.Words), 1, 4) }),
		ofSlots("words of a slot", func(s api.Slot) bool { return s.Kind != wordSlot || every(s.Words, isWord) }),
		ofSlots("only word slots have words", func(s api.Slot) bool { return !between(s.Kind, 2, 5) || len(s.Words) == 0 }),
		ofLines("the first slot", func(l []api.Slot) bool { return len(l) == 0 || !between(l[0].Kind, nounSlot, numberSlot) }),
		ofLines("at most two nouns", func(l []api.Slot) bool { return slotsOf(l, nounSlot, manySlot) <= 2 }),
		ofLines("at most one number", func(l []api.Slot) bool { return slotsOf(l, numberSlot) <= 1 }),
		ofLines("at most one dir", func(l []api.Slot) bool { return slotsOf(l, dirSlot) <= 1 }),
	}
}

func deedSentences() []sentence[api.Tables] {
	return []sentence[api.Tables]{
		{"at most 512 deeds", func(t api.Tables) bool { return atMost(t.Deeds, 512) }},
		ofDeeds("verb", func(t api.Tables, d api.Deed) bool { return isIndex(d.Verb, len(t.Acts)) }),
		ofDeeds("phase", func(t api.Tables, d api.Deed) bool { return between(d.Phase, 1, 3) }),
		ofDeeds("noun", func(t api.Tables, d api.Deed) bool { return orNone(d.Noun, isThing(t, d.Noun)) }),
		ofDeeds("second", func(t api.Tables, d api.Deed) bool { return orNone(d.Second, isThing(t, d.Second)) }),
		ofDeeds("when of a deed", func(t api.Tables, d api.Deed) bool { return orNone(d.When, noParams(t, d.When)) }),
		ofDeeds("body", func(t api.Tables, d api.Deed) bool { return noParams(t, d.Body) }),
		{"at most 64 funcs", func(t api.Tables) bool { return atMost(t.Funcs, 64) }},
		{"funcs", func(t api.Tables) bool { return every(t.Funcs, func(n int) bool { return isIndex(n, len(t.Params)) }) }},
		{"at most 16 daemons", func(t api.Tables) bool { return atMost(t.Daemons, 16) }},
		{"daemons", func(t api.Tables) bool { return every(t.Daemons, func(n int) bool { return noParams(t, n) }) }},
	}
}

// follow is the list that starts with the Child of x, and whether it consists of things and ends.
func follow(w api.World, x int) (l []int, ends bool) {
	for y := w.Child[x]; y != 0; y = w.Next[y] {
		if !between(y, 1, len(w.Parent)-1) || len(l) > len(w.Parent) {
			return l, false
		}
		l = append(l, y)
	}
	return l, true
}

// treeSentences are those of the definition of a valid containment tree; but for the first one they need it to hold.
func treeSentences() []sentence[api.World] {
	l := []sentence[api.World]{
		{"elements 0", func(w api.World) bool { return w.Parent[0] == 0 && w.Child[0] == 0 && w.Next[0] == 0 }},
		{"parents", func(w api.World) bool {
			return every(w.Parent[1:], func(x int) bool { return between(x, 0, len(w.Parent)-1) })
		}},
		{"nothing behind what has no parent", func(w api.World) bool {
			return every(thingsOf(w), func(x int) bool { return w.Parent[x] != 0 || w.Next[x] == 0 })
		}},
		{"children", func(w api.World) bool {
			return every(thingsOf(w), func(x int) bool {
				l, ends := follow(w, x)
				return ends && every(l, func(y int) bool {
					return w.Parent[y] == x && slices.Index(l, y) == len(l)-1-slices.Index(reversed(l), y)
				})
			})
		}},
		{"listed", func(w api.World) bool {
			return every(thingsOf(w), func(x int) bool {
				if !between(w.Parent[x], 1, len(w.Parent)-1) {
					return true
				}
				l, _ := follow(w, w.Parent[x])
				return slices.Contains(l, x)
			})
		}},
		{"not inside itself", func(w api.World) bool { return !inside(w.Parent) }},
	}
	lengths := func(w api.World) bool {
		return len(w.Parent) >= 1 && len(w.Child) == len(w.Parent) && len(w.Next) == len(w.Parent)
	}
	for i, s := range l {
		l[i].holds = func(w api.World) bool { return !lengths(w) || s.holds(w) }
	}
	return append(l, sentence[api.World]{"as many children and nexts as parents", lengths})
}

func reversed(l []int) []int {
	r := slices.Clone(l)
	slices.Reverse(r)
	return r
}

// thingsOf is the things of w.
func thingsOf(w api.World) []int {
	var l []int
	for x := 1; x < len(w.Parent); x++ {
		l = append(l, x)
	}
	return l
}

// worldSentences are those of what a valid world of t is.
func worldSentences(t api.Tables) []sentence[api.World] {
	things := len(t.Things)
	return append(treeSentences(), []sentence[api.World]{
		{"lengths", func(w api.World) bool {
			return len(w.Globals) == len(t.Globals) && len(w.Parent) == things && len(w.Child) == things && len(w.Next) == things &&
				len(w.Flags) == things && len(w.Props) == things*len(t.Props) && len(w.Timers) == len(t.Daemons)
		}},
		{"globals are values", func(w api.World) bool { return every(w.Globals, isValue) }},
		{"props are values", func(w api.World) bool { return every(w.Props, isValue) }},
		{"flags", func(w api.World) bool { return every(w.Flags, func(n int) bool { return n >= 0 && n>>t.Flags == 0 }) }},
		{"timers", func(w api.World) bool { return every(w.Timers, func(n int) bool { return between(n, 0, 32767) }) }},
		{"score", func(w api.World) bool { return isValue(w.Score) }},
		{"turns", func(w api.World) bool { return between(w.Turns, 0, 2147483647) }},
		{"over", func(w api.World) bool { return between(w.Over, 0, 3) }},
		{"it", func(w api.World) bool { return w.It == 0 || isThing(t, w.It) }},
		{"go", func(w api.World) bool { return between(w.Go, 0, 12) }},
		{"a room has no parent", func(w api.World) bool {
			return every(thingsOf(w), func(x int) bool { return !isRoom(t, x) || w.Parent[x] == 0 })
		}},
		{"the player is in a room", func(w api.World) bool { return reachesRoom(t, w.Parent) }},
	}...)
}
