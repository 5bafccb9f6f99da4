package tests

import (
	"fmt"
	"math"
	"slices"
	"testing"

	"loop.example/tatting/impl"
)

func TestP77NewWorld(t *testing.T) {
	for many := 1; many <= impl.RepMax; many++ {
		w := newWorld(t, many)
		checkWorld(t, "new", w, wantNew(many))
		if len(w.Desks) != many || len(w.Nets) != 0 || !w.Hub.Up || len(w.Hub.Kept) != 0 {
			t.Error("so many desks, a new hub, and nothing under way", w)
		}
		checkTexts(t, "nothing is written", w, make([]string, many+1)...)
		if all := impl.WorldAll(w); len(all) != 0 {
			t.Error("nothing was done", all)
		}
		for rounds := range impl.CalmMax + 1 {
			checkWorld(t, "nothing comes of a calm", impl.WorldCalm(w, rounds), w)
		}
	}
}

func checkNoWorld(t *testing.T, name string, got World, ok bool) {
	t.Helper()
	if ok || !sameWorld(got, World{}) {
		t.Fatal(name, "should be nothing and false", got, ok)
	}
}

func TestP77NoSuchWorld(t *testing.T) {
	for _, many := range append([]int{math.MinInt + 1, -3, 4, 5, 256, 257, 1<<32 + 1, 1<<32 + 3}, farNumbers...) {
		w, ok := impl.WorldNew(many)
		if many >= 1 && many <= 3 {
			checkWorld(t, "new", w, wantNew(many))
			continue
		}
		checkNoWorld(t, fmt.Sprint("WorldNew of ", many), w, ok)
		for _, events := range [][]Event{nil, {}, {putAt(1, 0, 'a')}, make([]Event, 70), make([]Event, 71)} {
			w, ok = impl.WorldPlay(many, events)
			checkNoWorld(t, fmt.Sprint("WorldPlay of ", many), w, ok)
		}
	}
}

// checkDone is WorldDo as the document says, with promise 78 of it, of a world that is ok.
func checkDone(t *testing.T, w World, e Event, want World) World {
	t.Helper()
	got := impl.WorldDo(w, e)
	checkWorld(t, fmt.Sprint("WorldDo of ", e), got, want)
	before, behind := wantAll(w), wantAll(got)
	for place, d := range w.Desks {
		if !isIn(d.Doc.Ops, got.Desks[place].Doc.Ops) {
			t.Fatal("what was done at a desk goes", e, w)
		}
	}
	more := slices.DeleteFunc(behind, func(op Op) bool { return slices.Contains(before, op) })
	if len(more) > 1 || len(more) == 1 && (more[0].Id.Rep != e.A || e.Kind != impl.EvPut && e.Kind != impl.EvTake) {
		t.Fatal("at most one thing more was done, by whose desk it is", more, e, w)
	}
	return got
}

func TestP78EventsAreAsTheDocumentSays(t *testing.T) {
	t.Parallel()
	changes := map[int]int{}
	stayed := 0
	for _, p := range somePlays() {
		w := newWorld(t, p.many)
		for n, e := range p.events {
			got := checkDone(t, w, e, p.worlds[n+1])
			if sameWorld(got, w) {
				stayed++
			} else {
				changes[e.Kind]++
			}
			w = got
		}
	}
	for kind := impl.EvPut; kind <= impl.EvRise; kind++ {
		if changes[kind] < 150 {
			t.Error("too few", kind, changes)
		}
	}
	if stayed < 5000 {
		t.Error("too few", stayed)
	}
}

func TestP78EventsInWorldsMadeByHand(t *testing.T) {
	t.Parallel()
	d := &dice{state: 613}
	changes := map[int]int{}
	for n, w := range someWorlds() {
		checkWorld(t, "made", w, w)
		for range 20 {
			e := someEvent(d, w, lifeSorts[n%len(lifeSorts)])
			got := checkDone(t, w, e, wantDo(w, e))
			if !sameWorld(got, w) {
				changes[e.Kind]++
			}
			w = got
		}
	}
	for kind := impl.EvPut; kind <= impl.EvRise; kind++ {
		if changes[kind] < 40 {
			t.Error("too few", kind, changes)
		}
	}
}

func TestP78EachKind(t *testing.T) {
	w := done(newWorld(t, 2), runAt(1, 0, "ab")...)
	checkTexts(t, "EvPut", w, "ab", "", "")
	w = done(w, takeAt(1, 0))
	checkTexts(t, "EvTake", w, "b", "", "")
	if len(w.Nets) != 0 {
		t.Fatal("nothing is said of itself", w)
	}
	w = done(w, event(impl.EvPush, 1))
	ops := w.Desks[0].Doc.Ops
	if len(ops) != 3 || len(w.Nets) != 1 || !sameWord(w.Nets[0], push(1, ops...)) {
		t.Fatal("EvPush", w)
	}
	w = done(w, event(impl.EvPull, 2))
	if len(w.Nets) != 2 || !sameWord(w.Nets[1], pull(2, 0, 0, 0)) {
		t.Fatal("EvPull goes behind", w)
	}
	w = done(w, event(impl.EvTwice, 0))
	if len(w.Nets) != 3 || !sameWord(w.Nets[0], w.Nets[2]) || w.Nets[1].Kind != impl.WordPull {
		t.Fatal("EvTwice goes behind, and the word stays", w)
	}
	w = done(w, event(impl.EvLose, 2))
	if len(w.Nets) != 2 || w.Nets[0].Kind != impl.WordPush {
		t.Fatal("EvLose", w)
	}
	checkTexts(t, "nobody heard it", w, "b", "", "")
	w = done(w, event(impl.EvBring, 0))
	checkTexts(t, "EvBring to the hub", w, "b", "", "b")
	w = done(w, event(impl.EvBring, 0))
	if len(w.Nets) != 1 || !sameWord(w.Nets[0], give(2, []int{3, 0, 0}, ops...)) {
		t.Fatal("what the hub answers goes under way", w)
	}
	checkTexts(t, "not there yet", w, "b", "", "b")
	w = done(w, event(impl.EvBring, 0))
	checkTexts(t, "EvBring to a desk", w, "b", "b", "b")
	if len(w.Nets) != 0 || !slices.Equal(w.Desks[1].Known, []int{3, 0, 0}) || !slices.Equal(w.Desks[0].Known, []int{0, 0, 0}) {
		t.Fatal("just that desk heard it", w)
	}
	kept := done(w, event(impl.EvKeep, 0))
	checkHub(t, "EvKeep", kept.Hub, upHub(ops, ops))
	checkHub(t, "EvFall, kept", done(kept, event(impl.EvFall, 0)).Hub, downHub(ops))
	fallen := done(w, event(impl.EvFall, 0))
	checkHub(t, "EvFall", fallen.Hub, Hub{})
	checkHub(t, "EvRise", done(fallen, event(impl.EvRise, 0)).Hub, impl.HubNew())
}

func TestP78WordsForAHubThatIsDownAreLost(t *testing.T) {
	w := played(t, 2, runAt(1, 0, "ab"), []Event{event(impl.EvPush, 1), event(impl.EvPull, 2), event(impl.EvFall, 0)})
	w = done(w, event(impl.EvBring, 1), event(impl.EvBring, 0))
	if len(w.Nets) != 0 || len(w.Hub.Doc.Ops) != 0 {
		t.Fatal("it heard nothing, and answers nothing", w)
	}
	w = done(w, event(impl.EvRise, 0))
	checkTexts(t, "nor does it hear of it later", w, "ab", "", "")
	// A word to a desk comes, whether the hub is up or not.
	w = played(t, 2, runAt(1, 0, "ab"), told(1), []Event{event(impl.EvPull, 2), event(impl.EvBring, 0), event(impl.EvFall, 0), event(impl.EvBring, 0)})
	checkTexts(t, "the desk hears it", w, "ab", "ab", "")
}

func TestP78NetMax(t *testing.T) {
	w := played(t, 3, runAt(1, 0, "ab"))
	for many := range impl.NetMax {
		if len(w.Nets) != many {
			t.Fatal("so many words", many, w)
		}
		w = done(w, event([]int{impl.EvPull, impl.EvPush}[many%2], 1))
	}
	if len(w.Nets) != 10 {
		t.Fatal("NetMax words", w)
	}
	for _, lost := range []Event{event(impl.EvPull, 2), event(impl.EvPush, 1), event(impl.EvTwice, 0), event(impl.EvTwice, 9)} {
		checkWorld(t, "one more is lost", done(w, lost), w)
	}
	// Brought, the word leaves room for the answer; lost, for another one.
	got := done(w, event(impl.EvBring, 0))
	if len(got.Nets) != 10 || !sameWord(got.Nets[9], give(1, []int{0, 0, 0})) || !sameWord(got.Nets[0], w.Nets[1]) {
		t.Fatal("what the hub answers", got)
	}
	got = done(w, event(impl.EvLose, 4), event(impl.EvPull, 3), event(impl.EvPull, 2))
	if len(got.Nets) != 10 || !sameWord(got.Nets[9], pull(3, 0, 0, 0)) || !sameWord(got.Nets[4], w.Nets[5]) {
		t.Fatal("room for one", got)
	}
	// What can be done without a word still can be.
	got = done(w, putAt(2, 0, 'x'), event(impl.EvKeep, 0), event(impl.EvFall, 0))
	if len(got.Nets) != 10 || len(got.Desks[1].Doc.Ops) != 1 || got.Hub.Up {
		t.Fatal("no word, no room", got)
	}
}

func TestP78WordsAtAnyPlace(t *testing.T) {
	w := played(t, 3, runAt(1, 0, "a"), runAt(2, 0, "b"), []Event{event(impl.EvPush, 1), event(impl.EvPull, 3), event(impl.EvPush, 2), event(impl.EvPull, 1)})
	for place, word := range w.Nets {
		gone := slices.Delete(slices.Clone(w.Nets), place, place+1)
		lost := done(w, event(impl.EvLose, place))
		if !slices.EqualFunc(lost.Nets, gone, sameWord) || !sameHub(lost.Hub, w.Hub) {
			t.Fatal("just that word is lost", place, lost)
		}
		twice := done(w, event(impl.EvTwice, place))
		if !slices.EqualFunc(twice.Nets, append(slices.Clone(w.Nets), word), sameWord) {
			t.Fatal("just that word is doubled", place, twice)
		}
		brought := done(w, event(impl.EvBring, place))
		if word.Kind == impl.WordPull {
			gone = append(gone, give(word.Rep, []int{0, 0, 0}))
		}
		if !slices.EqualFunc(brought.Nets, gone, sameWord) || len(brought.Hub.Doc.Ops) != len(word.Ops) {
			t.Fatal("just that word is brought", place, brought)
		}
	}
}

func TestP78GivesComeToWhomTheyAreFor(t *testing.T) {
	w := played(t, 3, runAt(2, 0, "xy"), told(2))
	for rep := 1; rep <= 3; rep++ {
		got := done(w, asked(rep)...)
		for place, d := range got.Desks {
			if place+1 != rep {
				checkDesk(t, "it was not asked for", d, w.Desks[place])
			}
		}
		checkDesk(t, "asked for", got.Desks[rep-1], Desk{Rep: rep, Doc: Doc{Ops: w.Desks[1].Doc.Ops}, Known: []int{0, 2, 0}})
	}
}

func TestP79WhatCannotBeChangesNothing(t *testing.T) {
	t.Parallel()
	var worlds []World
	for n, p := range somePlays() {
		if n%9 == 0 {
			worlds = append(worlds, p.end(), p.worlds[len(p.events)/2])
		}
	}
	for n, w := range someWorlds() {
		if n%20 == 0 {
			worlds = append(worlds, w)
		}
	}
	many := 0
	for _, w := range append(worlds, wantNew(1), wantNew(2), wantNew(3)) {
		for _, e := range noEvents(w) {
			checkWorld(t, fmt.Sprint("changes nothing ", e), impl.WorldDo(w, e), w)
			many++
		}
	}
	if many < 20000 {
		t.Error("too few", many)
	}
}

// noEvents are such as cannot be in that world: of no kind, desk, word, place, or sign.
func noEvents(w World) []Event {
	var events []Event
	for _, kind := range append([]int{math.MinInt + 1, 256 + 1, 1<<32 + 8, 10 + 1, 20}, farNumbers...) {
		if kind < 1 || kind > 10 {
			events = append(events, Event{Kind: kind, A: 1, Sign: 'a'}, Event{Kind: kind})
		}
	}
	for _, far := range append([]int{len(w.Desks) + 1, len(w.Nets), len(w.Nets) + 1, 256 + 1, 1<<32 + 1, 1 << 32}, farNumbers...) {
		if far < 1 || far > len(w.Desks) {
			events = append(events, putAt(far, 0, 'a'), takeAt(far, 0), event(impl.EvPull, far), event(impl.EvPush, far))
		}
		if far < 0 || far >= len(w.Nets) {
			events = append(events, event(impl.EvBring, far), event(impl.EvLose, far), event(impl.EvTwice, far))
		}
		for place, d := range w.Desks {
			long := len(textOf(standing(d.Doc.Ops)))
			for _, at := range []int{far, long + far} {
				if at < 0 || at > long {
					events = append(events, putAt(place+1, at, 'a'))
				}
				if at < 0 || at >= long {
					events = append(events, takeAt(place+1, at))
				}
			}
		}
	}
	for _, sign := range []int{math.MinInt, -1, 0, 'a' - 1, 'z' + 1, 'A', ' ', '\n', 'a' + 256, 1<<32 + 'a', math.MaxInt} {
		for place := range w.Desks {
			events = append(events, putAt(place+1, 0, sign))
		}
	}
	return events
}

func TestP79PartsThatAreNotAskedFor(t *testing.T) {
	// What an event of a kind does not need does not matter to it.
	w := played(t, 2, runAt(1, 0, "ab"), told(1), asked(2), []Event{event(impl.EvPull, 1)})
	for _, far := range farNumbers {
		for kind := impl.EvKeep; kind <= impl.EvRise; kind++ {
			checkWorld(t, "a hub's", impl.WorldDo(w, Event{Kind: kind, A: far, At: far, Sign: far}), impl.WorldDo(w, Event{Kind: kind}))
		}
		for kind := impl.EvPull; kind <= impl.EvTwice; kind++ {
			a := 0
			if kind <= impl.EvPush {
				a = 1
			}
			checkWorld(t, "no place, and no sign", impl.WorldDo(w, Event{Kind: kind, A: a, At: far, Sign: far}), wantDo(w, event(kind, a)))
		}
		checkWorld(t, "no sign", impl.WorldDo(w, Event{Kind: impl.EvTake, A: 2, At: 1, Sign: far}), wantDo(w, takeAt(2, 1)))
	}
}

func TestP79DeskThatMayDoNoMore(t *testing.T) {
	w := played(t, 2, runAt(1, 0, someLetters))
	checkTexts(t, "all that it may", w, someLetters, "", "")
	for place := range 13 {
		checkWorld(t, "one more", done(w, putAt(1, place, 'z')), w)
		checkWorld(t, "one more", done(w, takeAt(1, place)), w)
	}
	checkWorld(t, "one more, in a play", played(t, 2, runAt(1, 0, someLetters+"zzz")), w)
	// The other one may, and what it may not do it still hears of.
	w = done(w, slices.Concat(runAt(2, 0, "xy"), told(2), asked(1))...)
	checkTexts(t, "the other one", w, someLetters+"xy", "xy", "xy")
	checkWorld(t, "still", done(w, takeAt(1, 13)), w)
}

func TestP79TextOfWhichAllWasTakenAway(t *testing.T) {
	w := played(t, 2, runAt(1, 0, "abc"), []Event{takeAt(1, 2), takeAt(1, 0), takeAt(1, 0)})
	checkTexts(t, "nothing is left", w, "", "", "")
	for _, place := range []int{-1, 0, 1, 2, 3} {
		checkWorld(t, "nothing is to be taken", done(w, takeAt(1, place)), w)
		if place != 0 {
			checkWorld(t, "no such place", done(w, putAt(1, place, 'z')), w)
		}
	}
	checkTexts(t, "at the beginning", done(w, putAt(1, 0, 'z')), "z", "", "")
	calm := impl.WorldCalm(w, impl.CalmMax)
	checkTexts(t, "nothing, of six things", calm, "", "", "")
	if len(impl.WorldAll(calm)) != 6 || len(calm.Hub.Kept) != 6 || len(calm.Desks[1].Doc.Ops) != 6 {
		t.Fatal("all have all", calm)
	}
	checkTexts(t, "typed by the other one", impl.WorldCalm(done(calm, runAt(2, 0, "xyz")...), 2), "xyz", "xyz", "xyz")
}

func TestP80PlayIsEachEvent(t *testing.T) {
	t.Parallel()
	d := &dice{state: 617}
	for _, p := range somePlays() {
		for _, many := range []int{len(p.events), d.below(len(p.events) + 1)} {
			got, ok := impl.WorldPlay(p.many, p.events[:many])
			if !ok {
				t.Fatal("can be played", p.many, many)
			}
			checkWorld(t, "WorldPlay", got, p.worlds[many])
		}
		checkWorld(t, "by WorldDo", done(newWorld(t, p.many), p.events...), p.end())
	}
}

func TestP80PlayMax(t *testing.T) {
	for many := 1; many <= 3; many++ {
		for _, some := range []int{0, 1, 69, 70, 71, 72, 140, 5000} {
			events := make([]Event, some)
			w, ok := impl.WorldPlay(many, events)
			if some > 70 {
				checkNoWorld(t, fmt.Sprint(some, " events"), w, ok)
				continue
			}
			if !ok {
				t.Fatal("can be played", some)
			}
			checkWorld(t, "nothing happens", w, wantNew(many))
		}
		w, ok := impl.WorldPlay(many, nil)
		if !ok {
			t.Fatal("no events can be played", many)
		}
		checkWorld(t, "no events", w, wantNew(many))
	}
	// The last one that may be is done.
	events := slices.Repeat([]Event{event(impl.EvKeep, 0)}, 69)
	checkTexts(t, "the last one", played(t, 1, events, runAt(1, 0, "a")), "a", "")
	w, ok := impl.WorldPlay(1, append(slices.Concat(events, runAt(1, 0, "a")), Event{}))
	checkNoWorld(t, "one more, though it is of no kind", w, ok)
	// Only a play has so few of them.
	w = done(newWorld(t, 1), slices.Concat(events, events, runAt(1, 0, "a"))...)
	checkTexts(t, "one behind the other", w, "a", "")
}

func TestP90AllIsAsTheDocumentSays(t *testing.T) {
	t.Parallel()
	var worlds []World
	for n, p := range somePlays() {
		worlds = append(worlds, p.end(), calmWorlds()[n])
	}
	several := 0
	for _, w := range append(worlds, someWorlds()...) {
		all := impl.WorldAll(w)
		if !slices.Equal(all, wantAll(w)) || !doneOk(all) || !impl.OpsOk(all) {
			t.Fatal("WorldAll", all, w)
		}
		for _, d := range w.Desks {
			if !isIn(d.Doc.Ops, all) {
				t.Fatal("it has all of each desk", all, d)
			}
			if !slices.Equal(slices.DeleteFunc(slices.Clone(all), notBy(d.Rep)), slices.DeleteFunc(slices.Clone(d.Doc.Ops), notBy(d.Rep))) {
				t.Fatal("of each just what his desk has of him", all, d)
			}
			if len(all) > len(d.Doc.Ops) {
				several++
			}
		}
	}
	if several < 800 {
		t.Error("too few", several)
	}
}

func notBy(rep int) func(Op) bool {
	return func(op Op) bool { return op.Id.Rep != rep }
}

func TestP90Examples(t *testing.T) {
	w := played(t, 3, runAt(1, 0, "ab"), runAt(2, 0, "x"), runAt(3, 0, "q"), told(1), asked(3), []Event{takeAt(3, 0)})
	want := okOps(t, "1.1 put a right 0.0\n1.2 put b right 1.1\n2.1 put x right 0.0\n3.1 put q right 0.0\n3.2 take 1.1\n")
	if all := impl.WorldAll(w); !slices.Equal(all, want) || impl.TreeText(all) != "bxq" {
		t.Error(impl.OpsText(all))
	}
	// What was done may be at no other desk, and at no hub.
	checkTexts(t, "away", w, "ab", "x", "bq", "ab")
	if all := impl.WorldAll(newWorld(t, 3)); len(all) != 0 {
		t.Error(all)
	}
	full := World{Hub: impl.HubNew()}
	for rep := 1; rep <= 3; rep++ {
		full.Desks = append(full.Desks, Desk{Rep: rep, Doc: Doc{Ops: fullOps()}, Known: []int{0, 0, 0}})
	}
	if all := impl.WorldAll(full); !slices.Equal(all, fullOps()) {
		t.Error("all that may be", all)
	}
}
