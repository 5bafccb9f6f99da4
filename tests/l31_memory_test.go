package tests

import (
	"runtime"
	"slices"
	"sync"
	"testing"

	"loop.example/tatting/impl"
)

func worldLists(w World) lists {
	all := hubLists(w.Hub)
	for _, d := range w.Desks {
		all = all.with(deskLists(d))
	}
	for _, word := range w.Nets {
		all = all.with(wordLists(word))
	}
	return all
}

// worldWith is that world with those lists, as worldLists has them; behind its desks and words there is room that holds something to be found again.
func worldWith(w World, with lists) World {
	out := World{Hub: Hub{Up: w.Hub.Up, Doc: Doc{Ops: with.ops[0], Wait: with.ops[1]}, Kept: with.ops[2]}}
	ops, numbers := with.ops[3:], with.numbers
	for _, d := range w.Desks {
		out.Desks = append(out.Desks, Desk{Rep: d.Rep, Doc: Doc{Ops: ops[0], Wait: ops[1]}, Known: numbers[0]})
		ops, numbers = ops[2:], numbers[1:]
	}
	for _, word := range w.Nets {
		out.Nets = append(out.Nets, Word{Kind: word.Kind, Rep: word.Rep, Seen: numbers[0], Ops: ops[0]})
		ops, numbers = ops[1:], numbers[1:]
	}
	many, words := len(out.Desks), len(out.Nets)
	out.Desks = append(out.Desks, Desk{Rep: -5}, Desk{Rep: -5})[:many]
	out.Nets = append(out.Nets, Word{Rep: -5}, Word{Rep: -5})[:words]
	return out
}

// checkWorldMemory asks of a function of a world that it is not changed, and that no list of what it answers shares memory with anything.
func checkWorldMemory(t *testing.T, name string, w World, call func(w World) World) {
	t.Helper()
	checkMemory(t, name, worldLists(w), func(args lists) lists {
		given := worldWith(w, args)
		answer := call(given)
		if given.Desks[:len(given.Desks)+1][len(given.Desks)].Rep != -5 || given.Nets[:len(given.Nets)+1][len(given.Nets)].Rep != -5 {
			t.Fatal(name, "wrote behind the end of its argument", w)
		}
		if !sameWorld(given, w) {
			t.Fatal(name, "changed its argument", w)
		}
		out := worldLists(clonedOutside(answer))
		for _, d := range answer.Desks[:cap(answer.Desks)] {
			if d.Rep == -5 {
				t.Fatal(name, "has the room of its argument", w)
			}
		}
		spoilOutside(answer)
		if !sameWorld(given, w) {
			t.Fatal(name, "answers with memory of its argument", w)
		}
		return out
	})
}

// clonedOutside has desks and words of its own, with the same lists.
func clonedOutside(w World) World {
	return World{Desks: slices.Clone(w.Desks), Hub: w.Hub, Nets: slices.Clone(w.Nets)}
}

// spoilOutside writes into all desks and words and all their spare room.
func spoilOutside(w World) {
	for i := range cap(w.Desks) {
		w.Desks[:cap(w.Desks)][i] = Desk{Rep: -6}
	}
	for i := range cap(w.Nets) {
		w.Nets[:cap(w.Nets)][i] = Word{Rep: -6}
	}
}

// memoryWorlds are ok ones and ones that are not, and beside each events that may be.
func memoryWorlds() ([]World, [][]Event) {
	d := &dice{state: 661}
	var worlds []World
	for n, p := range somePlays() {
		if n%12 == 0 {
			worlds = append(worlds, p.end(), p.worlds[d.below(len(p.worlds))])
		}
	}
	for n, w := range someWorlds() {
		if n%12 == 0 {
			worlds = append(worlds, w, changedWorld(d, w))
		}
	}
	var events [][]Event
	for _, w := range worlds {
		some := []Event{{}, putAt(1, 0, 'm'), takeAt(len(w.Desks), 0), event(impl.EvKeep, 0), event(impl.EvFall, 0), event(impl.EvRise, 0)}
		for kind := impl.EvPull; kind <= impl.EvTwice; kind++ {
			some = append(some, event(kind, 1), event(kind, 0), event(kind, len(w.Nets)-1))
		}
		events = append(events, some)
	}
	return worlds, events
}

func TestWorldMemory(t *testing.T) {
	t.Parallel()
	worlds, events := memoryWorlds()
	for n, w := range worlds {
		for _, e := range events[n] {
			checkWorldMemory(t, "WorldDo", w, func(w World) World { return impl.WorldDo(w, e) })
		}
		for _, rounds := range []int{-1, 0, 1, 2} {
			checkWorldMemory(t, "WorldCalm", w, func(w World) World { return impl.WorldCalm(w, rounds) })
		}
		checkWorldMemory(t, "WorldOk", w, func(w World) World {
			impl.WorldOk(w)
			return World{}
		})
		checkWorldMemory(t, "WorldAll", w, func(w World) World {
			return World{Hub: Hub{Kept: impl.WorldAll(w)}}
		})
	}
}

func TestNewWorldMemory(t *testing.T) {
	t.Parallel()
	for many := 1; many <= 3; many++ {
		first, second := newWorld(t, many), newWorld(t, many)
		worldLists(first).spoil(-9)
		spoilOutside(first)
		checkWorld(t, "another one", second, wantNew(many))
		checkWorld(t, "a new one", newWorld(t, many), wantNew(many))
	}
	for n, p := range somePlays() {
		if n%10 != 0 {
			continue
		}
		events := append(slices.Clone(p.events), Event{Kind: -5})[:len(p.events)]
		first, second := played(t, p.many, events), played(t, p.many, events)
		if !slices.Equal(events[:len(events)+1], append(slices.Clone(p.events), Event{Kind: -5})) {
			t.Fatal("WorldPlay wrote into its argument", p.events)
		}
		all := worldLists(first)
		for i := range all.ops {
			spoil(all.ops[i], -9)
			for j := range all.ops {
				if j != i && isSpoilt(all.ops[j], -9) {
					t.Fatal("WorldPlay has two lists that share memory", p.events)
				}
			}
			spoil(all.ops[i], -7)
		}
		all.spoil(-9)
		spoilOutside(first)
		checkWorld(t, "another one", second, p.end())
	}
}

func TestWorldMemoryOfOneList(t *testing.T) {
	// The same memory is handed in as all that was done, everywhere.
	ops, seen := guarded(chain(30)), guardedNumbers([]int{12, 12, 6})
	w := ofReps(1, 2, 3)
	for place := range w.Desks {
		w.Desks[place] = Desk{Rep: place + 1, Doc: Doc{Ops: ops}, Known: seen}
	}
	w.Hub = upHub(ops, ops)
	word := give(1, seen, ops[:5]...)
	w.Nets = []Word{word, word, pull(2, seen...), push(3, ops[25:]...)}
	for name, call := range map[string]func() World{
		"WorldDo":   func() World { return impl.WorldDo(w, event(impl.EvTwice, 0)) },
		"WorldCalm": func() World { return impl.WorldCalm(w, 0) },
		"of rounds": func() World { return impl.WorldCalm(w, 2) },
		"of none":   func() World { return impl.WorldDo(w, Event{}) },
	} {
		all := worldLists(call())
		for i := range all.ops {
			spoil(all.ops[i], -9)
			for j := range all.ops {
				if j != i && isSpoilt(all.ops[j], -9) {
					t.Fatal(name, "has two lists that share memory")
				}
			}
			spoil(all.ops[i], -7)
		}
		for i := range all.numbers {
			lists{numbers: all.numbers[i : i+1]}.spoil(-9)
			for j := range all.numbers {
				if j != i && (lists{numbers: all.numbers[j : j+1]}).isSpoilt(-9) {
					t.Fatal(name, "has two lists that share memory")
				}
			}
			lists{numbers: all.numbers[i : i+1]}.spoil(-7)
		}
		checkGuarded(t, name, ops, chain(30))
		checkNumbers(t, name, seen, []int{12, 12, 6})
	}
}

func TestWorldAnswersTheSameAgain(t *testing.T) {
	t.Parallel()
	for n, p := range somePlays() {
		if n%5 != 0 {
			continue
		}
		w := p.worlds[len(p.events)*2/3]
		calm, all := impl.WorldCalm(w, 3), impl.WorldAll(w)
		impl.WorldCalm(played(t, 3, waitingPlay()), 20)
		impl.WorldDo(World{}, event(impl.EvKeep, 0))
		checkWorld(t, "something is kept from call to call", impl.WorldCalm(clonedWorld(w), 3), calm)
		checkWorld(t, "something is kept from call to call", played(t, p.many, p.events), p.end())
		if !slices.Equal(impl.WorldAll(clonedWorld(w)), all) {
			t.Fatal("something is kept from call to call", w)
		}
	}
}

// TestWorldAtOnce calls from many goroutines what makes up words in goroutines of its own: none waits for another one's, and all have ended with the call.
func TestWorldAtOnce(t *testing.T) {
	w := farWorld(t)
	want := wantCalm(w, 4)
	var group sync.WaitGroup
	got := make([]World, 40)
	for n := range got {
		group.Add(1)
		go func() {
			defer group.Done()
			got[n] = impl.WorldCalm(w, 4)
		}()
	}
	group.Wait()
	for _, one := range got {
		checkWorld(t, "at once", one, want)
	}
	before := runtime.NumGoroutine()
	for range 50 {
		impl.WorldCalm(w, 1)
	}
	// One that has told its word may still be on its way out when the call answers.
	for range 10000 {
		if runtime.NumGoroutine() <= before {
			return
		}
		runtime.Gosched()
	}
	t.Error("goroutines stay", before, runtime.NumGoroutine())
}
