package tests

import (
	"fmt"
	"math"
	"slices"
	"testing"

	"loop.example/tatting/impl"
)

// checkCalm asks that each desk, and the hub, has all, that the hub keeps it, that each desk knows it to, and that nothing is to be said.
func checkCalm(t *testing.T, name string, w World, all []Op) {
	t.Helper()
	checkHub(t, name, w.Hub, upHub(all, all))
	for place, d := range w.Desks {
		checkDesk(t, name, d, Desk{Rep: place + 1, Doc: Doc{Ops: all}, Known: seenOf(all)})
	}
	if len(w.Nets) != 0 {
		t.Fatal(name, "nothing is under way", w)
	}
	if !slices.Equal(impl.WorldAll(w), all) {
		t.Fatal(name, "and no more was done", w)
	}
}

func TestP84EachHasAll(t *testing.T) {
	t.Parallel()
	behind := 0
	for n, p := range somePlays() {
		all := wantAll(p.end())
		checkCalm(t, "behind a calm", calmWorlds()[n], all)
		if len(all) > len(p.end().Hub.Doc.Ops) {
			behind++
		}
	}
	if behind < 500 {
		t.Error("too few", behind)
	}
}

// farWorld is one of which each desk has done all that it may, and nobody has told anything.
func farWorld(t *testing.T) World {
	t.Helper()
	return played(t, 3, runAt(1, 0, "abcdefghijkl"), runAt(2, 0, "mnopqrstuvwx"), runAt(3, 0, "yzabcdefghij"))
}

func TestP84AllThatMayBeDone(t *testing.T) {
	w := farWorld(t)
	checkCalm(t, "all that may be done", impl.WorldCalm(w, impl.CalmMax), impl.WorldAll(w))
	checkTexts(t, "all that may be done", impl.WorldCalm(w, impl.CalmMax), slices.Repeat([]string{"abcdefghijklmnopqrstuvwxyzabcdefghij"}, 4)...)
	// Few rounds are too few: a round tells GiveMax things to each, and hears as many of each.
	for rounds := range impl.CalmMax + 1 {
		calm := impl.WorldCalm(w, rounds)
		checkWorld(t, "by so many rounds", calm, wantCalm(w, rounds))
		if want := min(36, 15*rounds); len(calm.Hub.Doc.Ops) != want || len(calm.Hub.Kept) != want {
			t.Error("of each desk GiveMax things a round", rounds, len(calm.Hub.Doc.Ops))
		}
	}
}

func TestP84RoundsAreAsTheDocumentSays(t *testing.T) {
	t.Parallel()
	d := &dice{state: 643}
	for n, p := range somePlays() {
		if n%3 == 0 {
			w := p.worlds[d.below(len(p.worlds))]
			checkWorld(t, "one round", impl.WorldCalm(w, 1), wantRound(w))
			rounds := d.below(21)
			checkWorld(t, fmt.Sprint(rounds, " rounds"), impl.WorldCalm(w, rounds), wantCalm(w, rounds))
		}
	}
	for n, w := range someWorlds() {
		checkWorld(t, "one round", impl.WorldCalm(w, 1), wantRound(w))
		if n%5 == 0 {
			checkWorld(t, "CalmMax rounds", impl.WorldCalm(w, 20), wantCalm(w, 20))
		}
	}
}

func TestP84OneRound(t *testing.T) {
	// The hub rises, and hears what is under way; each desk is told ahead of telling; the hub keeps it.
	w := played(t, 2, runAt(1, 0, "ab"), []Event{event(impl.EvPush, 1), event(impl.EvFall, 0)}, runAt(2, 0, "x"))
	calm := impl.WorldCalm(w, 1)
	checkTexts(t, "one round", calm, "ab", "abx", "abx")
	checkHub(t, "it keeps all", calm.Hub, upHub(impl.WorldAll(w), impl.WorldAll(w)))
	if !slices.Equal(calm.Desks[0].Known, []int{2, 0, 0}) || !slices.Equal(calm.Desks[1].Known, []int{2, 0, 0}) {
		t.Fatal("as they asked it had so much", calm)
	}
	checkTexts(t, "two rounds", impl.WorldCalm(w, 2), "abx", "abx", "abx")
	// Words that are under way are brought the first one first: the later one is known last.
	w = newWorld(t, 1)
	w.Nets = []Word{give(1, []int{5, 5, 5}), give(1, []int{3, 4, 5}), pull(1, 0, 0, 0)}
	checkDesk(t, "known last", done(w, event(impl.EvBring, 0), event(impl.EvBring, 0)).Desks[0], Desk{Rep: 1, Known: []int{3, 4, 5}})
	checkWorld(t, "what the hub says in the round comes last", impl.WorldCalm(w, 1), newWorld(t, 1))
}

func TestP85BehindAFallAndAllWordsLost(t *testing.T) {
	t.Parallel()
	less := 0
	for n, p := range somePlays() {
		w := done(p.end(), event(impl.EvFall, 0))
		for range len(w.Nets) {
			w = done(w, event(impl.EvLose, n%len(w.Nets)))
		}
		if w.Hub.Up || len(w.Nets) != 0 || len(w.Hub.Doc.Wait) != 0 {
			t.Fatal("fallen, and all words lost", w)
		}
		checkCalm(t, "behind a fall", impl.WorldCalm(w, impl.CalmMax), wantAll(p.end()))
		if slices.ContainsFunc(w.Desks, func(d Desk) bool { return knowsMore(d, w.Hub) }) {
			less++
		}
	}
	if less < 300 {
		t.Error("too few", less)
	}
}

// knowsMore says whether a desk knows the hub to have more than it has.
func knowsMore(d Desk, h Hub) bool {
	for place, many := range seenOf(h.Doc.Ops) {
		if d.Known[place] > many {
			return true
		}
	}
	return false
}

func TestP85HubThatHasLessThanItWasKnownToHave(t *testing.T) {
	for kept := range 3 {
		for _, rise := range []bool{false, true} {
			// All have all; then the hub falls, and has but what it kept then.
			parts := [][]Event{runAt(1, 0, "abc"), told(1)}
			if kept > 0 {
				parts = append(parts, []Event{event(impl.EvKeep, 0)})
			}
			parts = append(parts, runAt(2, 0, "xyz"), told(2))
			if kept > 1 {
				parts = append(parts, []Event{event(impl.EvKeep, 0)})
			}
			parts = append(parts, asked(1), asked(2), []Event{event(impl.EvFall, 0)})
			if rise {
				parts = append(parts, []Event{event(impl.EvRise, 0)})
			}
			w := played(t, 3, parts...)
			if len(w.Hub.Doc.Ops) != 3*kept || knowsMore(w.Desks[0], w.Hub) != (kept < 2) {
				t.Fatal("it has less than it was known to have", w)
			}
			if _, some := impl.DeskPush(w.Desks[0]); some {
				t.Fatal("whoever does not know that tells it nothing", w)
			}
			checkWorld(t, "nor says it anything", done(w, event(impl.EvPush, 1), event(impl.EvPush, 2)), w)
			calm := impl.WorldCalm(w, 1)
			checkTexts(t, "one round", calm, "abcxyz", "abcxyz", []string{"", "abc", "abcxy"}[kept], []string{"abcxy", "abcxyz", "abcxyz"}[kept])
			checkCalm(t, "three rounds", impl.WorldCalm(w, 3), impl.WorldAll(w))
		}
	}
}

func TestP85OldWordsThatComeBehindAFall(t *testing.T) {
	// What the hub said ahead of its fall comes behind it: the desk knows it to have what it has not, until it asks in the round.
	w := played(t, 2, runAt(1, 0, "abc"), told(1), []Event{event(impl.EvPull, 1), event(impl.EvBring, 0), event(impl.EvTwice, 0), event(impl.EvFall, 0), event(impl.EvRise, 0)}, asked(2))
	w = done(w, event(impl.EvBring, 0))
	if !knowsMore(w.Desks[0], w.Hub) || len(w.Hub.Doc.Ops) != 0 {
		t.Fatal("it knows it to have more", w)
	}
	checkTexts(t, "one round", impl.WorldCalm(w, 1), "abc", "", "abc")
	checkCalm(t, "two rounds", impl.WorldCalm(w, 2), impl.WorldAll(w))
	// Others have what only the hub lost; who did it does not have to tell it.
	w = played(t, 2, runAt(1, 0, "abc"), told(1), asked(2), []Event{event(impl.EvFall, 0), event(impl.EvRise, 0)}, asked(2), told(2))
	checkTexts(t, "told by another one", w, "abc", "abc", "abc")
}

func TestP88MoreRoundsChangeNothing(t *testing.T) {
	t.Parallel()
	worlds := slices.Clone(calmWorlds())
	for n, w := range someWorlds() {
		if n%2 == 0 {
			worlds = append(worlds, impl.WorldCalm(w, impl.CalmMax))
		}
	}
	for n, w := range worlds {
		checkWorld(t, "one more", impl.WorldCalm(w, 1), w)
		if n%10 == 0 {
			checkWorld(t, "as many more", impl.WorldCalm(w, impl.CalmMax), w)
		}
	}
}

func TestP89SomeRoundsAndTheOthers(t *testing.T) {
	t.Parallel()
	d := &dice{state: 647}
	var worlds []World
	for n, p := range somePlays() {
		if n%4 == 0 {
			worlds = append(worlds, p.end(), p.worlds[d.below(len(p.worlds))])
		}
	}
	for n, w := range someWorlds() {
		if n%8 == 0 {
			worlds = append(worlds, w)
		}
	}
	for _, w := range append(worlds, farWorld(t), played(t, 3, waitingPlay())) {
		rounds := d.below(21)
		some := d.below(rounds + 1)
		if rounds > 12 {
			some = d.below(4)
		}
		checkWorld(t, fmt.Sprint(some, " and others of ", rounds), impl.WorldCalm(impl.WorldCalm(w, some), rounds-some), impl.WorldCalm(w, rounds))
	}
}

func TestP89NoRoundAndCalmMax(t *testing.T) {
	w := farWorld(t)
	w = done(w, event(impl.EvPush, 1), event(impl.EvFall, 0))
	checkWorld(t, "no round", impl.WorldCalm(w, 0), w)
	checkCalm(t, "CalmMax", impl.WorldCalm(w, 20), impl.WorldAll(w))
	for _, rounds := range []int{math.MinInt, math.MinInt + 1, -21, -2, -1, 21, 22, 40, 256, 1 << 32, 1<<32 + 1, math.MaxInt} {
		if got := impl.WorldCalm(w, rounds); !sameWorld(got, World{}) {
			t.Error("so many rounds are nothing", rounds, got)
		}
	}
}

// typesRun types a run at a place of a desk, forward, as far as that may be, and says which signs it put.
func typesRun(w World, rep int, at int, run string) (World, []Id) {
	had := doneBy(w.Desks[rep-1].Doc.Ops, rep)
	w = done(w, runAt(rep, at, run)...)
	var put []Id
	for num := had + 1; num <= doneBy(w.Desks[rep-1].Doc.Ops, rep); num++ {
		put = append(put, id(rep, num))
	}
	return w, put
}

// checkRun asks that signs stand one behind the other in the text, without any other one between.
func checkRun(t *testing.T, ops []Op, run []Id) {
	t.Helper()
	shown := shownOf(impl.TreeLeaves(ops))
	for i := range run {
		first := slices.IndexFunc(shown, func(l Leaf) bool { return l.Id == run[0] })
		if first < 0 || first+i >= len(shown) || shown[first+i].Id != run[i] {
			t.Fatal("mixed", run, shown)
		}
	}
}

func TestP91RunsDoNotMix(t *testing.T) {
	t.Parallel()
	d := &dice{state: 653}
	both := 0
	for n, calm := range calmWorlds() {
		if len(calm.Desks) < 2 {
			continue
		}
		text := texts(calm)[0]
		for range 2 {
			at := d.below(len(text) + 1)
			one, other := d.below(len(calm.Desks))+1, 1
			if one == other {
				other = 2
			}
			w, first := typesRun(calm, one, at, someLetters[:1+d.below(6)])
			w, second := typesRun(w, other, at, someLetters[6:][:1+d.below(6)])
			w = impl.WorldCalm(w, impl.CalmMax)
			all := impl.WorldAll(w)
			checkCalm(t, "calm again", w, all)
			checkRun(t, all, first)
			checkRun(t, all, second)
			if got := impl.TreeText(all); got[:at] != text[:at] || got[at+len(first)+len(second):] != text[at:] {
				t.Fatal("both stand there", got, text, at, n)
			}
			if len(first) > 1 && len(second) > 1 {
				both++
			}
		}
	}
	if both < 200 {
		t.Error("too few", both)
	}
}

func TestP91Examples(t *testing.T) {
	w := impl.WorldCalm(played(t, 3, runAt(1, 0, "ab")), 2)
	both := done(w, slices.Concat(runAt(3, 1, "xyz"), runAt(2, 1, "pqr"))...)
	checkTexts(t, "away", both, "ab", "apqrb", "axyzb", "ab")
	checkTexts(t, "calm", impl.WorldCalm(both, 3), slices.Repeat([]string{"apqrxyzb"}, 4)...)
	// Whose words come first does not matter, nor that one of them is lost with the hub.
	late := done(both, slices.Concat(told(3), asked(1), []Event{event(impl.EvFall, 0)})...)
	checkTexts(t, "only one of both is there yet", late, "axyzb", "apqrb", "axyzb", "ab")
	checkTexts(t, "calm", impl.WorldCalm(late, 3), slices.Repeat([]string{"apqrxyzb"}, 4)...)
	// What a third one types into one of them stands in it.
	late = impl.WorldCalm(done(late, runAt(1, 2, "mm")...), 4)
	checkTexts(t, "calm", late, slices.Repeat([]string{"apqrxmmyzb"}, 4)...)
}

func TestP92NoDeskShowsWhatWasTakenAway(t *testing.T) {
	t.Parallel()
	takings, back := 0, 0
	for n, p := range somePlays() {
		end, calm := p.end(), calmWorlds()[n]
		for _, d := range end.Desks {
			for _, op := range d.Doc.Ops {
				if op.Kind != impl.OpTake {
					continue
				}
				takings++
				for place, other := range calm.Desks {
					for _, l := range impl.TreeLeaves(other.Doc.Ops) {
						if l.Id == op.Ref && !l.Gone {
							t.Fatal("it shows still", l, other, p.events)
						}
					}
					if slices.ContainsFunc(standing(end.Desks[place].Doc.Ops), func(l Leaf) bool { return l.Id == op.Ref && !l.Gone }) {
						back++
					}
				}
			}
		}
	}
	if takings < 1000 || back < 200 {
		t.Error("too few", takings, back)
	}
}

func TestP92Examples(t *testing.T) {
	w := played(t, 2, runAt(1, 0, "abc"), told(1), asked(2), []Event{takeAt(1, 1), takeAt(2, 1), takeAt(2, 0), event(impl.EvFall, 0)})
	checkTexts(t, "away", w, "ac", "c", "")
	checkTexts(t, "calm", impl.WorldCalm(w, 3), "c", "c", "c")
	// What one types beside a sign that another one takes away meanwhile stays.
	w = played(t, 2, runAt(1, 0, "abc"), told(1), asked(2), []Event{takeAt(1, 1), putAt(2, 2, 'x')})
	checkTexts(t, "away", w, "ac", "abxc", "abc")
	checkTexts(t, "calm", impl.WorldCalm(w, 3), "axc", "axc", "axc")
}

func TestP94MarksAreToldAtTheSamePlace(t *testing.T) {
	t.Parallel()
	marks, moved := 0, 0
	for n, p := range somePlays() {
		calm := calmWorlds()[n]
		for _, d := range p.end().Desks {
			for at := range len(impl.TreeText(d.Doc.Ops)) + 1 {
				mark, ok := impl.MarkAt(d.Doc.Ops, at)
				if !ok {
					t.Fatal("there is such a mark", at, d)
				}
				want := markPlace(t, calm.Hub.Doc.Ops, mark)
				for _, other := range calm.Desks {
					if got := markPlace(t, other.Doc.Ops, mark); got != want {
						t.Fatal("at another place", got, want, mark)
					}
				}
				marks++
				if want != at {
					moved++
				}
			}
		}
	}
	if marks < 5000 || moved < 1000 {
		t.Error("too few", marks, moved)
	}
}

func TestP94Examples(t *testing.T) {
	w := played(t, 2, runAt(1, 0, "abc"), told(1), asked(2), runAt(2, 0, "xy"), []Event{takeAt(1, 1)})
	mark, ok := impl.MarkAt(w.Desks[1].Doc.Ops, 4)
	if !ok || mark != id(1, 2) {
		t.Fatal("behind the b", mark, ok)
	}
	calm := impl.WorldCalm(w, 2)
	checkTexts(t, "calm", calm, "xyac", "xyac", "xyac")
	for _, d := range calm.Desks {
		if place := markPlace(t, d.Doc.Ops, mark); place != 3 {
			t.Error("where the b stood", place)
		}
	}
}

func TestP95DesksKnowTheHubToHaveAll(t *testing.T) {
	t.Parallel()
	for _, w := range calmWorlds() {
		all := impl.WorldAll(w)
		for _, d := range w.Desks {
			if !slices.Equal(d.Known, impl.OpsSeen(all)) || !slices.Equal(d.Known, impl.OpsSeen(w.Hub.Doc.Ops)) {
				t.Fatal("just what it has, which is all", d, w.Hub)
			}
			if word, some := impl.DeskPush(d); some {
				t.Fatal("it has nothing to tell", word)
			}
			if got := impl.WorldDo(w, event(impl.EvPush, d.Rep)); len(got.Nets) != 0 {
				t.Fatal("it has nothing to tell", got)
			}
		}
	}
}

func TestP97EachShowsTheTextOfAll(t *testing.T) {
	t.Parallel()
	other := 0
	for n, p := range somePlays() {
		text := impl.TreeText(impl.WorldAll(p.end()))
		checkTexts(t, "the text of all", calmWorlds()[n], slices.Repeat([]string{text}, p.many+1)...)
		if text != textOf(standing(wantAll(p.end()))) {
			t.Fatal("TreeText", text)
		}
		if slices.ContainsFunc(texts(p.end()), func(one string) bool { return one != text }) {
			other++
		}
	}
	if other < 500 {
		t.Error("too few", other)
	}
}
