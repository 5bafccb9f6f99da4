package tests

import (
	"fmt"
	"slices"
	"testing"

	"loop.example/tatting/impl"
)

// eachStep goes by the worlds of a play by the program, from the one that is new on.
func eachStep(t *testing.T, p play, each func(n int, w World)) {
	t.Helper()
	w := newWorld(t, p.many)
	each(0, w)
	for n, e := range p.events {
		w = impl.WorldDo(w, e)
		each(n+1, w)
	}
}

// typedNow is what was done at the desk of an event by it, if anything.
func typedNow(before World, e Event, w World) []Op {
	if e.Kind != impl.EvPut && e.Kind != impl.EvTake || e.A < 1 || e.A > len(w.Desks) {
		return nil
	}
	had := before.Desks[e.A-1].Doc.Ops
	return slices.DeleteFunc(slices.Clone(w.Desks[e.A-1].Doc.Ops), func(op Op) bool { return slices.Contains(had, op) })
}

func TestP81NobodyIsToldToHaveDoneWhatHeDidNot(t *testing.T) {
	t.Parallel()
	many := 0
	for _, p := range somePlays() {
		var did []Op
		before := World{}
		eachStep(t, p, func(n int, w World) {
			if n > 0 {
				did = append(did, typedNow(before, p.events[n-1], w)...)
			}
			for _, op := range slices.Concat(toldIn(w)...) {
				if !wasDone(w, op) || !slices.Contains(did, op) {
					t.Fatal("nobody did that", op, p.events[:n])
				}
				many++
			}
			before = w
		})
		for _, op := range did {
			if !wasDone(before, op) {
				t.Fatal("he did it, and has it no more", op, p.events)
			}
		}
	}
	if many < 500000 {
		t.Error("too few", many)
	}
}

func TestP82WhoHasSeenAsMuchShowsTheSame(t *testing.T) {
	t.Parallel()
	same, different := 0, 0
	for _, p := range somePlays() {
		eachStep(t, p, func(n int, w World) {
			docs := [][]Op{w.Hub.Doc.Ops, w.Hub.Kept}
			for _, d := range w.Desks {
				docs = append(docs, d.Doc.Ops)
			}
			for i, a := range docs {
				for _, b := range docs[:i] {
					if len(a) == 0 || !slices.Equal(impl.OpsSeen(a), impl.OpsSeen(b)) {
						different++
						continue
					}
					if impl.TreeText(a) != impl.TreeText(b) || !slices.Equal(a, b) {
						t.Fatal("not the same", a, b, p.events[:n])
					}
					same++
				}
			}
		})
	}
	if same < 8000 || different < 8000 {
		t.Error("too few", same, different)
	}
}

func TestP83AllSignsStandInTheOrderOfAll(t *testing.T) {
	t.Parallel()
	many := 0
	for _, p := range somePlays() {
		eachStep(t, p, func(n int, w World) {
			if n%7 != 0 && n != len(p.events) {
				return
			}
			all := impl.WorldAll(w)
			for _, d := range w.Desks {
				checkOrderStays(t, d.Doc.Ops, all)
			}
			checkOrderStays(t, w.Hub.Doc.Ops, all)
			checkOrderStays(t, w.Hub.Kept, all)
			many += len(w.Hub.Doc.Ops)
		})
	}
	if many < 10000 {
		t.Error("too few", many)
	}
}

func TestP86WhatWasDoneStays(t *testing.T) {
	t.Parallel()
	many := 0
	for _, p := range somePlays() {
		had := make([][]Op, p.many)
		own := make([][]Op, p.many)
		eachStep(t, p, func(n int, w World) {
			for place, d := range w.Desks {
				if !impl.OpsIn(had[place], d.Doc.Ops) {
					t.Fatal("it is there no more", had[place], d, p.events[:n])
				}
				now := slices.DeleteFunc(slices.Clone(d.Doc.Ops), notBy(d.Rep))
				if len(now) < len(own[place]) || !slices.Equal(now[:len(own[place])], own[place]) {
					t.Fatal("his own is otherwise", own[place], d, p.events[:n])
				}
				had[place], own[place] = d.Doc.Ops, now
				many += len(now)
			}
		})
	}
	if many < 100000 {
		t.Error("too few", many)
	}
}

func TestP86WhateverFallsOrIsLost(t *testing.T) {
	w := played(t, 2, runAt(1, 0, "ab"), told(1), asked(2), runAt(2, 1, "x"), []Event{takeAt(2, 0)})
	checkTexts(t, "done", w, "ab", "xb", "ab")
	fallen := done(w, event(impl.EvPush, 1), event(impl.EvPush, 2), event(impl.EvFall, 0), event(impl.EvBring, 0), event(impl.EvLose, 0), event(impl.EvRise, 0))
	checkTexts(t, "stays at the desks alone", fallen, "ab", "xb", "")
	// The hub has less than it was known to have: told so once more, the desk knows that it has nothing.
	if word, some := impl.DeskPush(done(w, asked(1)...).Desks[0]); some {
		t.Fatal("it knows the hub to have all", word)
	}
	fallen = done(fallen, slices.Concat(asked(1), told(1))...)
	checkTexts(t, "told once more", fallen, "ab", "xb", "ab")
	calm := impl.WorldCalm(fallen, 2)
	checkTexts(t, "in a calm", calm, "xb", "xb", "xb")
}

// checkTwice is promise 87 of one word of a world: doubled, and both brought, in either order; and says whether it could be asked for.
func checkTwice(t *testing.T, w World, place int) bool {
	t.Helper()
	word := w.Nets[place]
	if len(word.Ops) == 0 || len(w.Nets) >= impl.NetMax {
		return false
	}
	once := done(w, event(impl.EvBring, place))
	last := len(w.Nets)
	twice := done(w, event(impl.EvTwice, place), event(impl.EvBring, place), event(impl.EvBring, last-1))
	other := done(w, event(impl.EvTwice, place), event(impl.EvBring, last), event(impl.EvBring, place))
	whole := w.Hub.Up && hubHearsWhole(w.Hub, word) || !w.Hub.Up
	if word.Kind == impl.WordGive {
		d := w.Desks[word.Rep-1]
		heard := wantHeard(d, word)
		whole = !slices.ContainsFunc(word.Ops, func(op Op) bool {
			return op.Id.Rep != d.Rep && !hasId(heard.Doc.Ops, op.Id) && !hasId(heard.Doc.Wait, op.Id)
		})
	}
	if !whole {
		return false
	}
	checkWorld(t, "brought twice", twice, once)
	checkWorld(t, "brought twice, the other one first", other, once)
	return true
}

func TestP87TwiceIsOnce(t *testing.T) {
	t.Parallel()
	d := &dice{state: 631}
	gives, pushes, waits := 0, 0, 0
	var worlds []World
	for _, p := range somePlays() {
		worlds = append(worlds, p.end(), p.worlds[d.below(len(p.worlds))], p.worlds[d.below(len(p.worlds))])
	}
	for _, w := range append(worlds, someWorlds()...) {
		for place, word := range w.Nets {
			if !checkTwice(t, w, place) {
				continue
			}
			if word.Kind == impl.WordGive {
				gives++
			} else {
				pushes++
			}
			if len(w.Hub.Doc.Wait) > 0 {
				waits++
			}
		}
	}
	if gives < 500 || pushes < 500 || waits < 200 {
		t.Error("too few", gives, pushes, waits)
	}
}

func TestP87ThingsThatAreHeardOfLater(t *testing.T) {
	// Between both other words come; then what was told twice is there once.
	w := played(t, 2, runAt(1, 0, "ab"), runAt(2, 0, "xy"), toldTwice(1), []Event{event(impl.EvPush, 2)})
	w = done(w, event(impl.EvBring, 0), event(impl.EvBring, 1))
	checkTexts(t, "one of each", w, "ab", "xy", "abxy")
	got := done(w, event(impl.EvBring, 0))
	w.Nets = nil
	checkWorld(t, "the same once more", got, w)
	// Behind a fall it is told once more by it.
	w = done(played(t, 1, runAt(1, 0, "ab"), toldTwice(1)), event(impl.EvBring, 0), event(impl.EvFall, 0), event(impl.EvRise, 0))
	checkTexts(t, "fallen", w, "ab", "")
	checkTexts(t, "told once more", done(w, event(impl.EvBring, 0)), "ab", "ab")
}

// typedText is what becomes of a text by puts and takes alone, as long as so much may be done.
func typedText(events []Event) string {
	text, many := "", 0
	for _, e := range events {
		switch {
		case e.A != 1 || many >= impl.NumMax || e.At < 0 || e.At > len(text):
		case e.Kind == 1 && e.Sign >= 'a' && e.Sign <= 'z':
			text = text[:e.At] + string(rune(e.Sign)) + text[e.At:]
			many++
		case e.Kind == 2 && e.At < len(text):
			text = text[:e.At] + text[e.At+1:]
			many++
		}
	}
	return text
}

func TestP93OneDesk(t *testing.T) {
	t.Parallel()
	d := &dice{state: 641}
	long, full := 0, 0
	for round := range 500 {
		p := livedPlay(d, 1, d.below(impl.PlayMax+1), lifeSorts[round%len(lifeSorts)])
		w := played(t, 1, p.events)
		want := typedText(p.events)
		if text := impl.TreeText(w.Desks[0].Doc.Ops); text != want {
			t.Fatalf("%q instead of %q, of %v", text, want, p.events)
		}
		calm := impl.WorldCalm(w, impl.CalmMax)
		checkTexts(t, "behind a calm", calm, want, want)
		if len(want) > 5 {
			long++
		}
		if len(w.Desks[0].Doc.Ops) == 12 {
			full++
		}
	}
	if long < 100 || full < 50 {
		t.Error("too few", long, full)
	}
}

func TestP96KeptIsPartOfWhatIsPartOfAll(t *testing.T) {
	t.Parallel()
	less, lesser := 0, 0
	for _, p := range somePlays() {
		eachStep(t, p, func(n int, w World) {
			all := impl.WorldAll(w)
			if !impl.OpsIn(w.Hub.Kept, w.Hub.Doc.Ops) || !impl.OpsIn(w.Hub.Doc.Ops, all) {
				t.Fatal("it is no part", w, p.events[:n])
			}
			if len(w.Hub.Kept) > 0 && len(w.Hub.Kept) < len(w.Hub.Doc.Ops) {
				less++
			}
			if len(w.Hub.Doc.Ops) > 0 && len(w.Hub.Doc.Ops) < len(all) {
				lesser++
			}
		})
	}
	if less < 500 || lesser < 3000 {
		t.Error("too few", less, lesser)
	}
}

// waitingPlay has PlayMax events: the hub falls, and two desks that heard late how much it had tell it, of which it has nothing, as much as may wait; then a third one tells one thing more.
func waitingPlay() []Event {
	say := func(kind int, rep int, under int) []Event {
		return []Event{event(kind, rep), event(impl.EvBring, under)}
	}
	hear := func(under int) []Event { return []Event{event(impl.EvBring, under)} }
	return slices.Concat(
		// What the hub says when it has 1 and 6 of the first one, and then of the second one, stays under way.
		runAt(1, 0, "a"), told(1), say(impl.EvPull, 1, 0),
		runAt(1, 1, "bcdef"), say(impl.EvPush, 1, 1), say(impl.EvPull, 1, 1), hear(1), say(impl.EvPush, 1, 1), say(impl.EvPull, 1, 1),
		runAt(2, 0, "n"), say(impl.EvPush, 2, 2), say(impl.EvPull, 2, 2),
		runAt(2, 1, "opqrs"), say(impl.EvPush, 2, 3), say(impl.EvPull, 2, 3), hear(3), say(impl.EvPush, 2, 3), say(impl.EvPull, 2, 3),
		say(impl.EvPull, 3, 4), hear(4), runAt(3, 5, "z"),
		[]Event{event(impl.EvFall, 0), event(impl.EvRise, 0)},
		runAt(1, 6, "ghijkl"), runAt(2, 11, "tuvwxy"),
		hear(0), say(impl.EvPush, 1, 3), hear(0), say(impl.EvPush, 1, 2),
		hear(0), say(impl.EvPush, 2, 1), hear(0), say(impl.EvPush, 2, 0),
		say(impl.EvPush, 3, 0),
	)
}

func TestP81AsMuchAsMayWait(t *testing.T) {
	events := waitingPlay()
	if len(events) != 70 {
		t.Fatal("PlayMax", len(events))
	}
	ahead := played(t, 3, events[:69])
	if len(ahead.Hub.Doc.Ops) != 0 || len(ahead.Hub.Doc.Wait) != 20 || len(ahead.Nets) != 1 || len(ahead.Nets[0].Ops) != 1 {
		t.Fatal("WaitMax wait, and one thing more is told", ahead)
	}
	w := played(t, 3, events)
	want := clonedWorld(ahead)
	want.Nets = nil
	checkWorld(t, "it cannot wait, too", w, want)
	for _, op := range w.Hub.Doc.Wait {
		if !wasDone(w, op) {
			t.Fatal("nobody did that", op)
		}
	}
	if !slices.Equal(w.Desks[0].Known, []int{6, 0, 0}) || !slices.Equal(w.Desks[1].Known, []int{6, 6, 0}) {
		t.Fatal("it was known to have more than it has", w)
	}
	calm := impl.WorldCalm(w, impl.CalmMax)
	checkCalm(t, "all of it comes to all", calm, impl.WorldAll(w))
	if text := texts(calm)[3]; len(text) != 25 {
		t.Error(text)
	}
}

func TestP81KeptAndLost(t *testing.T) {
	for many := range impl.NumMax {
		w := played(t, 2, runAt(1, 0, someLetters[:many+1]), told(1), []Event{event(impl.EvKeep, 0)}, asked(1), told(1), []Event{event(impl.EvFall, 0), event(impl.EvRise, 0)})
		kept := min(many+1, 5)
		if len(w.Hub.Doc.Ops) != kept || len(w.Hub.Kept) != kept || impl.TreeText(w.Hub.Kept) != someLetters[:kept] {
			t.Fatal(fmt.Sprint("kept, of ", many+1), w)
		}
		// A fall where nothing was kept.
		w = played(t, 2, runAt(1, 0, someLetters[:many+1]), told(1), []Event{event(impl.EvFall, 0), event(impl.EvRise, 0)})
		checkHub(t, "nothing was kept", w.Hub, impl.HubNew())
		checkTexts(t, "and comes back", impl.WorldCalm(w, impl.CalmMax), slices.Repeat([]string{someLetters[:many+1]}, 3)...)
	}
}
