package tests

import (
	"fmt"
	"slices"
	"testing"

	"loop.example/tatting/impl"
)

// checkWorldRefused is the one fixed answer of each function at a world that is not ok.
func checkWorldRefused(t *testing.T, name string, w World) {
	t.Helper()
	if impl.WorldOk(w) {
		t.Fatalf("%q should not be ok: %v", name, w)
	}
	for _, e := range []Event{{}, putAt(1, 0, 'a'), takeAt(1, 0), event(impl.EvPull, 1), event(impl.EvPush, 1), event(impl.EvBring, 0), event(impl.EvLose, 0), event(impl.EvTwice, 0), event(impl.EvKeep, 0), event(impl.EvFall, 0), event(impl.EvRise, 0)} {
		if got := impl.WorldDo(w, e); !sameWorld(got, World{}) {
			t.Fatalf("%q: WorldDo of %v: %v", name, e, got)
		}
	}
	for _, rounds := range []int{-1, 0, 1, 20, 21} {
		if got := impl.WorldCalm(w, rounds); !sameWorld(got, World{}) {
			t.Fatalf("%q: WorldCalm of %v: %v", name, rounds, got)
		}
	}
	if all := impl.WorldAll(w); len(all) != 0 {
		t.Fatalf("%q: WorldAll: %v", name, all)
	}
}

// ofReps are empty desks of those Reps.
func ofReps(reps ...int) World {
	w := World{Hub: impl.HubNew()}
	for _, rep := range reps {
		w.Desks = append(w.Desks, Desk{Rep: rep, Known: []int{0, 0, 0}})
	}
	return w
}

// threeDesks is a world of which each desk did something, and has all; the hub, too, and keeps it.
func threeDesks() World {
	ops := threeOps()
	w := ofReps(1, 2, 3)
	for place := range w.Desks {
		w.Desks[place].Doc.Ops = slices.Clone(ops)
	}
	w.Hub = upHub(slices.Clone(ops), slices.Clone(ops))
	return w
}

func threeOps() []Op {
	return []Op{
		put(id(1, 1), 'a', right, nothing), put(id(1, 2), 'b', right, id(1, 1)), take(id(1, 3), id(1, 1)),
		put(id(2, 1), 'x', left, id(1, 2)), put(id(2, 2), 'y', right, id(2, 1)),
		put(id(3, 1), 'q', right, nothing), take(id(3, 2), id(2, 1)),
	}
}

// wrongReps are worlds with desks of wrong Reps, or of a wrong number.
func wrongReps() map[string]World {
	worlds := map[string]World{"nothing": {}, "no desks": ofReps(), "no desks, down": {Desks: []Desk{}}, "many": ofReps(make([]int, 3000)...)}
	for _, reps := range [][]int{{0}, {2}, {3}, {4}, {-1}, {257}, {2, 1}, {1, 1}, {1, 3}, {2, 3}, {0, 1}, {1, 4}, {1, 2, 2}, {1, 3, 2}, {1, 1, 2}, {3, 2, 1}, {2, 3, 1}, {1, 2, 4}, {1, 2, 0}, {0, 1, 2}, {1, 2, 3, 4}, {1, 2, 3, 3}, {1, 2, 3, 1}, {1, 2, 3, 1, 2, 3}, {1, 2, 3, 0}} {
		worlds[fmt.Sprint("Reps ", reps)] = ofReps(reps...)
	}
	return worlds
}

func TestP78WrongReps(t *testing.T) {
	for name, w := range wrongReps() {
		checkWorldRefused(t, name, w)
		w.Hub, w.Nets = Hub{}, []Word{pull(1, 0, 0, 0)}
		checkWorldRefused(t, name+", down, and a word", w)
	}
	for _, reps := range [][]int{{1}, {1, 2}, {1, 2, 3}} {
		checkWorld(t, "good", ofReps(reps...), ofReps(reps...))
	}
}

func TestP78PartsThatAreNotOk(t *testing.T) {
	t.Parallel()
	many := 0
	for name, d := range wrongDesks() {
		for place := range 3 {
			w := threeDesks()
			if d.Rep == place+1 || many%7 == 0 {
				w.Desks[place] = d
				checkWorldRefused(t, "desk: "+name, w)
			}
			many++
		}
	}
	for name, h := range wrongHubs() {
		w := threeDesks()
		w.Hub = h
		checkWorldRefused(t, "hub: "+name, w)
		many++
	}
	for rep := 1; rep <= 3; rep++ {
		for name, word := range wrongWords(rep) {
			w := threeDesks()
			w.Nets = slices.Repeat([]Word{pull(1, 0, 0, 0)}, many%10)
			w.Nets = slices.Insert(w.Nets, many%(len(w.Nets)+1), word)
			checkWorldRefused(t, "word: "+name, w)
			many++
		}
	}
	for name, word := range wrongHubWords() {
		w := threeDesks()
		w.Nets = []Word{word}
		checkWorldRefused(t, "word: "+name, w)
		w.Nets = []Word{pull(1, 0, 0, 0), word, pull(2, 0, 0, 0)}
		checkWorldRefused(t, "word: "+name, w)
		many++
	}
	if many < 6000 {
		t.Error("too few", many)
	}
}

func TestP78TooManyWords(t *testing.T) {
	for _, word := range []Word{pull(1, 0, 0, 0), give(2, []int{0, 0, 0}), push(3), push(2, threeOps()[:5]...)} {
		for _, many := range []int{0, 1, 9, 10, 11, 12, 20, 3000} {
			w := threeDesks()
			w.Nets = slices.Repeat([]Word{word}, many)
			if many <= 10 {
				checkWorld(t, "not too many", w, w)
				checkWorld(t, "nothing happens", done(w, Event{}), w)
				continue
			}
			checkWorldRefused(t, fmt.Sprint(many, " words"), w)
		}
	}
}

func TestP78WordsOfNoSuchDesk(t *testing.T) {
	for many := 1; many <= 3; many++ {
		for rep := -1; rep <= 5; rep++ {
			for _, word := range []Word{pull(rep, 0, 0, 0), give(rep, []int{0, 0, 0}), push(rep)} {
				w := wantNew(many)
				w.Nets = []Word{pull(1, 0, 0, 0), word}
				if rep >= 1 && rep <= many {
					checkWorld(t, "there is such a desk", w, w)
				} else {
					checkWorldRefused(t, fmt.Sprint("a word of ", rep, ", of so many desks: ", many), w)
				}
			}
		}
	}
}

// placesToTell are all places in which a thing may be told that somebody did; each puts one there, so that nothing but that may be wrong.
func placesToTell() map[string]func(w *World, op Op) {
	told := map[string]func(w *World, op Op){
		"hub":                 func(w *World, op Op) { w.Hub.Doc = heard(w.Hub.Doc, op) },
		"hub, down, and kept": func(w *World, op Op) { w.Hub = downHub(heard(w.Hub.Doc, op).Ops) },
		"hub, up, and kept": func(w *World, op Op) {
			w.Hub.Doc = heard(w.Hub.Doc, op)
			w.Hub.Kept = slices.Clone(w.Hub.Doc.Ops)
		},
	}
	for place := range 3 {
		told[fmt.Sprint("desk ", place+1)] = func(w *World, op Op) {
			if place < len(w.Desks) && op.Id.Rep != place+1 {
				w.Desks[place].Doc = heard(w.Desks[place].Doc, op)
			}
		}
		for many := range 5 {
			told[fmt.Sprint("word ", place, many)] = func(w *World, op Op) {
				some := append(slices.Clone(threeOps()[:many*len(w.Desks)/3]), op)
				word := []Word{push(1, some...), give(1, []int{1, 0, 0}, some...)}[many%2]
				w.Nets = slices.Insert([]Word{pull(1, 0, 0, 0), push(1)}, place, word)
			}
		}
	}
	return told
}

func TestP78ThingsThatNobodyDid(t *testing.T) {
	t.Parallel()
	// The first is what could be done behind all, the others wait: for the one ahead, for their Ref, or for both.
	notDone := []Op{
		put(id(1, 4), 'z', right, nothing), put(id(2, 3), 'z', right, id(1, 1)), take(id(3, 3), id(1, 2)),
		put(id(1, 5), 'z', right, nothing), put(id(2, 12), 'z', right, nothing), put(id(3, 3), 'z', left, id(3, 4)), take(id(1, 6), id(2, 9)),
		put(id(1, 4), 'z', right, id(3, 1)), take(id(2, 3), id(2, 1)), take(id(2, 5), id(1, 1)),
	}
	refused, stayed := 0, 0
	for name, tell := range placesToTell() {
		for _, op := range notDone {
			w := threeDesks()
			tell(&w, op)
			if !slices.Contains(slices.Concat(toldIn(w)...), op) {
				checkWorld(t, "not told there", w, clonedWorld(w))
				stayed++
				continue
			}
			checkWorldRefused(t, name+": "+fmt.Sprint(op), w)
			refused++
		}
		for _, op := range threeOps() {
			w := threeDesks()
			tell(&w, op)
			checkWorld(t, name+", as it was done", w, clonedWorld(w))
		}
	}
	if refused < 150 || stayed > 25 {
		t.Error("too few", refused, stayed)
	}
}

func TestP78ThingsThatOnlyTheirOwnDeskHasNot(t *testing.T) {
	// All others have it, waiting or not; who did it has it not.
	ops := threeOps()
	for rep := 1; rep <= 3; rep++ {
		for place := range 4 {
			for _, waits := range []bool{false, true} {
				own := id(rep, doneBy(ops, rep)+1)
				if waits {
					own.Num++
				}
				w := threeDesks()
				for one := range w.Desks {
					if one != rep-1 && place != 3 {
						w.Desks[one].Doc = heard(w.Desks[one].Doc, put(own, 'm', right, nothing))
					}
				}
				if place == 3 {
					w.Hub.Doc = heard(w.Hub.Doc, put(own, 'm', right, nothing))
				}
				if !hubIsOk(w.Hub) || slices.ContainsFunc(w.Desks, func(d Desk) bool { return !deskIsOk(d) }) {
					t.Fatal("all of it is ok", w)
				}
				checkWorldRefused(t, fmt.Sprint(own), w)
			}
		}
	}
}

func TestP78ThingsOfWhomThereIsNoDesk(t *testing.T) {
	for many := 1; many <= 3; many++ {
		for rep := 1; rep <= 3; rep++ {
			op := put(id(rep, 1), 'z', right, nothing)
			later := put(id(rep, 2), 'z', right, nothing)
			for _, one := range []Op{op, later} {
				worlds := []World{wantNew(many), wantNew(many), wantNew(many)}
				worlds[0].Hub.Doc = heard(Doc{}, one)
				worlds[1].Nets = []Word{push(1, one)}
				worlds[2].Nets = []Word{give(1, []int{0, 0, 0}, one)}
				for place := range many {
					if place+1 != rep {
						w := wantNew(many)
						w.Desks[place].Doc = heard(Doc{}, one)
						worlds = append(worlds, w)
					}
				}
				for _, w := range worlds {
					checkWorldRefused(t, fmt.Sprint(one, " of ", many, " desks"), w)
					if rep <= many {
						// As soon as he did it, it is.
						w.Desks[rep-1].Doc = Doc{Ops: []Op{op, later}}
						checkWorld(t, "he did it", w, clonedWorld(w))
					}
				}
			}
		}
	}
}

func TestP78ThingsThatWereDoneOtherwise(t *testing.T) {
	t.Parallel()
	many := 0
	for name, two := range fieldChanges() {
		for _, pair := range [][2][]Op{two, {two[1], two[0]}} {
			for rep := 1; rep <= 3; rep++ {
				own, other := pair[0], pair[1]
				// Each desk has the one, and so has all else, but for one that has the other.
				w := ofReps(1, 2, 3)
				for place := range w.Desks {
					w.Desks[place].Doc.Ops = own
				}
				w.Hub = upHub(own, nil)
				if !worldIsOk(w) {
					t.Fatal("made", name, w)
				}
				checkWorld(t, "all the same", w, clonedWorld(w))
				changed := clonedWorld(w)
				changed.Desks[rep-1].Doc.Ops = other
				if !worldIsOk(changed) {
					checkWorldRefused(t, name+", at a desk", changed)
					many++
				}
				changed = clonedWorld(w)
				changed.Hub.Doc.Ops = other
				if !worldIsOk(changed) {
					checkWorldRefused(t, name+", at the hub", changed)
					many++
				}
				for at := range other {
					changed = clonedWorld(w)
					changed.Nets = []Word{push(rep, other[at:min(at+5, len(other))]...)}
					if impl.WorldOk(changed) != worldIsOk(changed) {
						t.Fatal(name, changed)
					}
					if !worldIsOk(changed) {
						checkWorldRefused(t, name+", in a word", changed)
						many++
					}
				}
			}
		}
	}
	if many < 150 {
		t.Error("too few", many)
	}
}

func TestP78ThingsThatWaitAndWereDoneOtherwise(t *testing.T) {
	row := rowBy(1, 5)
	others := []Op{put(id(1, 4), 'z', right, id(1, 3)), put(id(1, 4), 'd', left, id(1, 3)), put(id(1, 4), 'd', right, id(1, 2)), put(id(1, 4), 'd', right, nothing), take(id(1, 4), id(1, 3)), take(id(1, 4), id(1, 1))}
	for place := range 3 {
		for _, op := range append(others, row[3]) {
			w := ofReps(1, 2, 3)
			w.Desks[0].Doc.Ops = row
			if place > 0 {
				w.Desks[place].Doc = Doc{Ops: row[:2], Wait: []Op{op, row[4]}}
			} else {
				w.Hub.Doc = Doc{Ops: row[:2], Wait: []Op{op, row[4]}}
			}
			if op == row[3] {
				checkWorld(t, "it waits, as it was done", w, clonedWorld(w))
				checkTexts(t, "and is done in the end", impl.WorldCalm(w, 3), "abcde", "abcde", "abcde", "abcde")
			} else {
				checkWorldRefused(t, "it waits, and was done otherwise", w)
			}
		}
	}
}

// changedWorld is the world with something at random made otherwise; it may still be ok.
func changedWorld(d *dice, w World) World {
	out := clonedWorld(w)
	desk := &out.Desks[d.below(len(out.Desks))]
	switch d.below(12) {
	case 0:
		desk.Doc.Ops = changed(d, desk.Doc.Ops)
	case 1:
		desk.Doc.Ops = lacking(d, desk.Doc.Ops, 1)
	case 2:
		desk.Doc.Wait = with(desk.Doc.Wait, someOps(d, 1)...)
	case 3:
		desk.Doc = heardAll(desk.Doc, someOps(d, 1))
	case 4:
		desk.Known = desk.Known[:d.below(4)]
	case 5:
		out.Hub.Doc.Ops = changed(d, out.Hub.Doc.Ops)
	case 6:
		out.Hub.Doc = heardAll(out.Hub.Doc, someOps(d, 1))
	case 7:
		out.Hub.Kept = lacking(d, out.Hub.Kept, 1)
	case 8:
		out.Hub.Up = !out.Hub.Up
	case 9:
		out.Nets = append(out.Nets, push(d.below(3)+1, someOps(d, d.below(3))...))
	case 10:
		out.Nets = append(out.Nets, give(d.below(4), []int{d.below(14), 0, 0}, part(d, desk.Doc.Ops, 1)...))
	case 11:
		desk.Rep = d.below(4)
	}
	return out
}

func TestP78OkIsAsTheDocumentSays(t *testing.T) {
	t.Parallel()
	d := &dice{state: 619}
	var worlds []World
	for _, p := range somePlays() {
		worlds = append(worlds, p.worlds[d.below(len(p.worlds))])
	}
	good, bad := 0, 0
	for _, w := range append(worlds, someWorlds()...) {
		for range 12 {
			got := changedWorld(d, w)
			if impl.WorldOk(got) != worldIsOk(got) {
				t.Fatal(impl.WorldOk(got), got)
			}
			if worldIsOk(got) {
				checkWorld(t, "good", done(got, Event{}), got)
				good++
				continue
			}
			bad++
			if bad%20 == 0 {
				checkWorldRefused(t, "changed", got)
			}
		}
	}
	if good < 2000 || bad < 2000 {
		t.Error("too few", good, bad)
	}
}

func TestP78GoodWorlds(t *testing.T) {
	some := threeDesks()
	some.Desks[0].Known, some.Desks[2].Known = []int{12, 12, 12}, []int{0, 12, 0}
	some.Desks[1].Doc.Ops = deskWithItsOwn(threeOps(), 2).Doc.Ops
	down := threeDesks()
	down.Hub.Up = false
	lists := ofReps(1)
	lists.Desks[0].Doc, lists.Nets, lists.Hub = Doc{Ops: []Op{}, Wait: []Op{}}, []Word{}, Hub{Doc: Doc{Ops: []Op{}, Wait: []Op{}}, Kept: []Op{}}
	none := threeDesks()
	none.Hub = Hub{}
	for _, w := range []World{some, down, lists, none, threeDesks()} {
		checkWorld(t, "good", w, clonedWorld(w))
		checkWorld(t, "and nothing happens", impl.WorldDo(w, Event{}), w)
		checkWorld(t, "and no round goes by", impl.WorldCalm(w, 0), w)
	}
}
