package tests

import (
	"slices"
	"testing"

	"loop.example/tatting/impl"
)

// tellHub tells a hub all of a list, as who has it does, so much at a time, and says how many words that took.
func tellHub(t *testing.T, h Hub, ops []Op) (Hub, int) {
	t.Helper()
	for words := 0; ; words++ {
		told := impl.OpsPast(ops, impl.OpsSeen(h.Doc.Ops), impl.GiveMax)
		if len(told) == 0 {
			return h, words
		}
		h = hubHears(t, h, push(1+words%3, told...))
		if words > 8 {
			t.Fatal("it never has all", h, ops)
		}
	}
}

// askHub is what who has nothing has in the end, who asks till he is told no more, and how many words told something.
func askHub(t *testing.T, h Hub, rep int) (Doc, int) {
	t.Helper()
	var d Doc
	for words := 0; ; words++ {
		w := hubGives(t, h, pull(rep, impl.OpsSeen(d.Ops)...))
		if len(w.Ops) == 0 {
			return d, words
		}
		d = impl.DocAll(d, w.Ops)
		if len(d.Wait) > 0 || words > 8 {
			t.Fatal("it waits, or never ends", d, h)
		}
	}
}

func TestP74ToldAllAndAskedForAll(t *testing.T) {
	for n, ops := range oneByOne() {
		h, words := tellHub(t, impl.HubNew(), ops)
		checkHub(t, "told all", h, upHub(ops, nil))
		if words != (len(ops)+4)/5 {
			t.Fatal("GiveMax at a time", words, len(ops))
		}
		d, words := askHub(t, h, 1+n%3)
		checkDoc(t, "asked for all", d, Doc{Ops: ops})
		if words != (len(ops)+4)/5 {
			t.Fatal("GiveMax at a time", words, len(ops))
		}
		d, _ = askHub(t, impl.HubRise(impl.HubFall(impl.HubKeep(h))), 1+n%3)
		checkDoc(t, "kept, and asked for all", d, Doc{Ops: ops})
	}
}

func TestP74InAnyOrder(t *testing.T) {
	r := &dice{state: 541}
	heardOf, lost := 0, 0
	for _, ops := range oneByOne() {
		for _, order := range [][]Op{ops, backwards(ops), shuffled(r, ops), shuffled(r, ops)} {
			h := impl.HubNew()
			for _, some := range partsOf(order, 1+r.below(5)) {
				h = hubHears(t, h, push(r.below(3)+1, some...))
			}
			if hearsAll(order) {
				checkHub(t, "any order", h, upHub(ops, nil))
				heardOf++
			} else {
				checkHub(t, "more than may wait", h, Hub{Up: true, Doc: heardAll(Doc{}, order)})
				lost++
			}
		}
	}
	if heardOf < 300 || lost < 10 {
		t.Error("too few", heardOf, lost)
	}
}

func TestP74DesksTellAndAsk(t *testing.T) {
	one, two := typed(t, 1, "abcdefg"), typed(t, 2, "xyz")
	h := impl.HubNew()
	for _, d := range []Desk{one, two} {
		for range 4 {
			w, some := impl.DeskPush(d)
			if !some {
				break
			}
			h = hubHears(t, h, w)
			p, _ := impl.DeskPull(d)
			d = impl.DeskHear(d, hubGives(t, h, p))
		}
	}
	all := together(t, one.Doc.Ops, two.Doc.Ops)
	checkHub(t, "told by both", h, upHub(all, nil))
	d, _ := impl.DeskNew(3)
	for range 3 {
		p, _ := impl.DeskPull(d)
		d = impl.DeskHear(d, hubGives(t, h, p))
	}
	checkDesk(t, "told of both", d, Desk{Rep: 3, Doc: Doc{Ops: all}, Known: []int{7, 3, 0}})
	if impl.TreeText(d.Doc.Ops) != "abcdefgxyz" {
		t.Error(impl.TreeText(d.Doc.Ops))
	}
	// The hub falls, and has nothing: the third desk tells it what the others did.
	h = impl.HubRise(impl.HubFall(h))
	checkHub(t, "nothing was kept", h, impl.HubNew())
	for range 3 {
		p, _ := impl.DeskPull(d)
		d = impl.DeskHear(d, hubGives(t, h, p))
		w, some := impl.DeskPush(d)
		if !some {
			break
		}
		h = hubHears(t, h, w)
	}
	checkHub(t, "told once more, by one", h, upHub(all, nil))
}

func TestP74ThingsThatCannotBeToldFirst(t *testing.T) {
	// Ok all together, but none of both can be done behind the other: they wait, and are not told.
	ops := okOps(t, "1.1 put a right 1.2\n1.2 put b right 0.0\n")
	h := hubHears(t, impl.HubNew(), push(1, ops...))
	checkHub(t, "each waits for the other one", h, Hub{Up: true, Doc: Doc{Wait: ops}})
	if w := hubGives(t, upHub(ops, ops), pull(2, 0, 0, 0)); !sameWord(w, give(2, []int{2, 0, 0})) {
		t.Error(w)
	}
	checkHub(t, "kept, they stay", impl.HubFall(upHub(ops, ops)), downHub(ops))
}

// liveOn lets anything happen to a hub, by the program and apart from it; words come at any time, again, and late.
func liveOn(t *testing.T, r *dice, h Hub, want Hub, w Word) (Hub, Hub) {
	t.Helper()
	switch r.below(14) {
	case 0:
		return impl.HubKeep(h), wantKept(want)
	case 1:
		return impl.HubFall(h), wantFallen(want)
	case 2, 3:
		return impl.HubRise(h), wantRisen(want)
	}
	got, answer, ok := impl.HubHear(h, w)
	wanted, some := wantAnswer(want, w)
	if ok != some || !sameWord(answer, wanted) {
		t.Fatalf("%v %v instead of %v %v, of %v", answer, ok, wanted, some, want)
	}
	return got, wantHub(want, w)
}

func TestP69ToP76WholeLives(t *testing.T) {
	r := &dice{state: 547}
	falls, grown := 0, 0
	for _, ops := range oneByOne() {
		words := append(hubWords(r, ops, shuffled(r, ops)), hubWords(r, ops, ops)...)
		h, want := impl.HubNew(), Hub{Up: true}
		for range 120 {
			got, next := liveOn(t, r, h, want, words[r.below(len(words))])
			checkHub(t, "in a life", got, next)
			for _, op := range h.Kept {
				if !slices.Contains(got.Kept, op) || !slices.Contains(got.Doc.Ops, op) {
					t.Fatal("what is kept goes", op, got, h)
				}
			}
			if len(got.Doc.Ops) < len(h.Doc.Ops) {
				falls++
			}
			if len(got.Doc.Ops) > len(h.Doc.Ops) {
				grown++
			}
			h, want = got, next
		}
	}
	if falls < 100 || grown < 300 {
		t.Error("too few", falls, grown)
	}
}
