package tests

import (
	"fmt"
	"slices"
	"testing"

	"loop.example/tatting/impl"
)

func TestP74NewHub(t *testing.T) {
	checkHub(t, "new", impl.HubNew(), Hub{Up: true})
	checkHub(t, "new, kept", impl.HubKeep(impl.HubNew()), Hub{Up: true})
	checkHub(t, "new, fallen", impl.HubFall(impl.HubNew()), Hub{})
	checkHub(t, "new, risen", impl.HubRise(impl.HubNew()), Hub{Up: true})
	for rep := 1; rep <= impl.RepMax; rep++ {
		for _, seen := range [][]int{{0, 0, 0}, {12, 12, 12}, {3, 0, 7}} {
			if w := hubGives(t, impl.HubNew(), pull(rep, seen...)); !sameWord(w, give(rep, []int{0, 0, 0})) {
				t.Error("it has nothing, and says so", w)
			}
		}
	}
}

func TestP72FallIsAsTheDocumentSays(t *testing.T) {
	hubs, _ := someHubs()
	lost, waited, whole := 0, 0, 0
	for _, h := range hubs {
		got := impl.HubFall(h)
		checkHub(t, "HubFall", got, wantFallen(h))
		if got.Up || len(got.Doc.Wait) > 0 || !slices.Equal(got.Doc.Ops, h.Kept) || !slices.Equal(got.Kept, h.Kept) {
			t.Fatal("it is down, with just what is kept", got, h)
		}
		checkHub(t, "twice is once", impl.HubFall(got), got)
		checkHub(t, "kept ahead of it, with all", impl.HubFall(impl.HubKeep(h)), downHub(h.Doc.Ops))
		switch {
		case len(h.Kept) < len(h.Doc.Ops):
			lost++
		case len(h.Doc.Wait) > 0:
			waited++
		default:
			whole++
		}
	}
	if lost < 300 || waited < 100 || whole < 100 {
		t.Error("too few", lost, waited, whole)
	}
}

func TestP72WhatWasNotKeptIsLost(t *testing.T) {
	row := rowBy(1, 7)
	h := impl.HubKeep(hubHears(t, impl.HubNew(), push(1, row[:3]...)))
	checkHub(t, "kept", h, upHub(row[:3], row[:3]))
	h = hubHears(t, h, push(1, row[3:5]...))
	h = hubHears(t, h, push(1, row[6]))
	checkHub(t, "more", h, Hub{Up: true, Doc: Doc{Ops: row[:5], Wait: row[6:]}, Kept: row[:3]})
	fallen := impl.HubFall(h)
	checkHub(t, "fallen", fallen, downHub(row[:3]))
	// What it lost does not come back by itself, and it can be told once more.
	again := impl.HubRise(fallen)
	checkHub(t, "risen", again, upHub(row[:3], row[:3]))
	if w := hubGives(t, again, pull(2, 0, 0, 0)); !sameWord(w, give(2, []int{3, 0, 0}, row[:3]...)) {
		t.Error("it knows of no more than was kept", w)
	}
	checkHub(t, "the last one alone waits", hubHears(t, again, push(1, row[5:]...)), Hub{Up: true, Doc: Doc{Ops: row[:3], Wait: row[5:]}, Kept: row[:3]})
	checkHub(t, "told once more", hubHears(t, again, push(1, row[3:]...)), upHub(row, row[:3]))
}

func TestP72Examples(t *testing.T) {
	row := rowBy(2, 12)
	for many := range 13 {
		h := hubHears(t, impl.HubNew(), push(2, row[:min(many, 5)]...))
		checkHub(t, "nothing was kept", impl.HubFall(h), Hub{})
		checkHub(t, "and twice", impl.HubFall(impl.HubFall(h)), Hub{})
		for kept := range many + 1 {
			fallen := impl.HubFall(upHub(row[:many], row[:kept]))
			checkHub(t, "some was kept", fallen, downHub(row[:kept]))
			checkHub(t, "and twice", impl.HubFall(fallen), fallen)
			checkHub(t, "kept, then more heard of", impl.HubFall(impl.HubKeep(upHub(row[:many], row[:kept]))), downHub(row[:many]))
		}
	}
	for many := range impl.WaitMax + 1 {
		checkHub(t, "all waited", impl.HubFall(waitingHub(many)), Hub{})
		checkHub(t, "what waits is not kept", impl.HubFall(impl.HubKeep(waitingHub(many))), Hub{})
	}
	full := upHub(fullOps(), fullOps())
	checkHub(t, "all that may be", impl.HubFall(full), downHub(fullOps()))
	checkHub(t, "none of all that may be", impl.HubFall(upHub(fullOps(), nil)), Hub{})
	checkHub(t, "a fall where it is down already", impl.HubFall(downHub(fullOps())), downHub(fullOps()))
	checkHub(t, "a fall of nothing", impl.HubFall(Hub{}), Hub{})
	// What is kept is whole things, in the order of what was done, whoever did them.
	ops := okOps(t, "1.1 put a right 2.1\n1.2 take 1.1\n2.1 put b right 0.0\n2.2 put c left 1.1\n3.1 take 2.2\n")
	kept := okOps(t, "1.1 put a right 2.1\n2.1 put b right 0.0\n2.2 put c left 1.1\n")
	checkHub(t, "some of each", impl.HubFall(upHub(ops, kept)), downHub(kept))
	if text := impl.TreeText(impl.HubFall(upHub(ops, kept)).Doc.Ops); text != "bca" {
		t.Error("nothing is taken away any more", text)
	}
}

func TestP73RiseAndKeepAreAsTheDocumentSays(t *testing.T) {
	hubs, _ := someHubs()
	up, down, more := 0, 0, 0
	for _, h := range hubs {
		checkHub(t, "made", h, h)
		risen := impl.HubRise(h)
		checkHub(t, "HubRise", risen, wantRisen(h))
		if !risen.Up || !sameDoc(risen.Doc, h.Doc) || !slices.Equal(risen.Kept, h.Kept) {
			t.Fatal("it is up, all else as it was", risen, h)
		}
		checkHub(t, "a rise of one that is up", impl.HubRise(risen), risen)
		kept := impl.HubKeep(h)
		checkHub(t, "HubKeep", kept, wantKept(h))
		if kept.Up != h.Up || !sameDoc(kept.Doc, h.Doc) || !slices.Equal(kept.Kept, h.Doc.Ops) {
			t.Fatal("it keeps all, all else as it was", kept, h)
		}
		switch {
		case !h.Up:
			checkHub(t, "one that is down has no more to keep", kept, h)
			down++
		case sameHub(kept, h):
			checkHub(t, "a rise of one that is up", risen, h)
			up++
		default:
			more++
		}
	}
	if up < 100 || down < 100 || more < 300 {
		t.Error("too few", up, down, more)
	}
}

func TestP73Examples(t *testing.T) {
	checkHub(t, "nothing rises to a new hub", impl.HubRise(Hub{}), impl.HubNew())
	row := rowBy(3, 4)
	h := Hub{Up: true, Doc: Doc{Ops: row, Wait: []Op{put(id(3, 9), 'z', right, nothing)}}, Kept: row[:1]}
	checkHub(t, "up", impl.HubRise(h), h)
	h.Kept = nil
	checkHub(t, "keeps all that was done, not what waits", impl.HubKeep(h), Hub{Up: true, Doc: h.Doc, Kept: row})
	checkHub(t, "down, and keeps", impl.HubKeep(downHub(row)), downHub(row))
	checkHub(t, "down, and rises", impl.HubRise(downHub(row)), upHub(row, row))
	full := waitingHub(impl.WaitMax)
	checkHub(t, "WaitMax wait", impl.HubKeep(full), full)
	checkHub(t, "WaitMax wait, and it rises", impl.HubRise(full), full)
}

func TestP73HubThatIsDownHearsNothing(t *testing.T) {
	hubs, words := someHubs()
	many := 0
	for n, h := range hubs {
		h = wantFallen(h)
		for _, w := range words[n] {
			checkHub(t, "down", hubHears(t, h, w), h)
			many++
		}
	}
	for name, w := range wrongHubWords() {
		checkHub(t, name, hubHears(t, downHub(fullOps()), w), downHub(fullOps()))
	}
	if many < 3000 {
		t.Error("too few", many)
	}
	// Not even asked for what it keeps, or told what it has, until it rises.
	row := rowBy(1, 3)
	down := downHub(row[:2])
	checkHub(t, "asked", hubHears(t, down, pull(2, 0, 0, 0)), down)
	checkHub(t, "told", hubHears(t, down, push(1, row[2])), down)
	checkHub(t, "told what it has", hubHears(t, down, push(1, row[:2]...)), down)
	checkHub(t, "told what would wait", hubHears(t, Hub{}, push(1, row[1:]...)), Hub{})
	if w := hubGives(t, impl.HubRise(down), pull(2, 0, 0, 0)); !sameWord(w, give(2, []int{2, 0, 0}, row[:2]...)) {
		t.Error("it rose", w)
	}
	checkHub(t, "it rose", hubHears(t, impl.HubRise(down), push(1, row[2])), upHub(row, row[:2]))
}

func TestP75KeepAndFall(t *testing.T) {
	hubs, words := someHubs()
	for n, h := range hubs {
		kept := impl.HubKeep(h)
		checkHub(t, "twice is once", impl.HubKeep(kept), kept)
		checkHub(t, "a fall, and a rise", impl.HubRise(impl.HubFall(kept)), upHub(h.Doc.Ops, h.Doc.Ops))
		again := impl.HubRise(impl.HubFall(h))
		checkHub(t, "without it", again, upHub(h.Kept, h.Kept))
		if len(again.Doc.Wait) > 0 || !slices.Equal(again.Kept, h.Kept) {
			t.Fatal("nothing kept is lost, and nothing waits", again, h)
		}
		// What comes between is not kept.
		later := kept
		for _, w := range words[n] {
			later, _, _ = impl.HubHear(later, w)
		}
		checkHub(t, "kept, then more heard of", impl.HubRise(impl.HubFall(later)), upHub(h.Doc.Ops, h.Doc.Ops))
	}
}

func TestP75Examples(t *testing.T) {
	row := rowBy(1, 5)
	h := hubHears(t, impl.HubNew(), push(1, row[:2]...))
	h = impl.HubKeep(h)
	h = hubHears(t, h, push(1, row[2], row[4]))
	checkHub(t, "one more is done, and one waits", h, Hub{Up: true, Doc: Doc{Ops: row[:3], Wait: row[4:]}, Kept: row[:2]})
	checkHub(t, "without it", impl.HubRise(impl.HubFall(h)), upHub(row[:2], row[:2]))
	h = impl.HubKeep(impl.HubKeep(h))
	checkHub(t, "what waits stays", h, Hub{Up: true, Doc: Doc{Ops: row[:3], Wait: row[4:]}, Kept: row[:3]})
	h = impl.HubRise(impl.HubFall(h))
	checkHub(t, "with it", h, upHub(row[:3], row[:3]))
	h = hubHears(t, h, push(1, row[3]))
	checkHub(t, "what waited does so no more", h, upHub(row[:4], row[:3]))
}

// wrongHubs are not ok, one for each way that there is, with something to tell if it were not for that.
func wrongHubs() map[string]Hub {
	ops := []Op{put(id(1, 1), 'a', right, nothing), take(id(1, 2), id(1, 1)), put(id(2, 1), 'b', left, id(1, 1))}
	waits := []Op{put(id(3, 2), 'c', right, nothing)}
	hubs := map[string]Hub{
		"nothing was done, and something is kept":    {Up: true, Kept: ops},
		"it waits, and is kept":                      {Up: true, Doc: Doc{Ops: ops, Wait: []Op{put(id(2, 2), 'd', right, id(3, 1))}}, Kept: with(ops, put(id(2, 2), 'd', right, id(3, 1)))},
		"more is kept":                               upHub(ops, with(ops, put(id(3, 1), 'c', right, nothing))),
		"more is kept, of who did nothing else":      upHub(ops[:2], ops),
		"another thing is kept":                      upHub(ops, []Op{put(id(1, 1), 'b', right, nothing)}),
		"as much is kept, of another one":            upHub(rowBy(1, 3), rowBy(2, 3)),
		"down, and nothing is kept":                  {Doc: Doc{Ops: ops}},
		"down, and has more":                         {Doc: Doc{Ops: ops}, Kept: ops[:2]},
		"down, and has one more":                     {Doc: Doc{Ops: rowBy(1, 12)}, Kept: rowBy(1, 11)},
		"down, and has less":                         {Doc: Doc{Ops: ops[:2]}, Kept: ops},
		"down, has nothing, and something is kept":   {Kept: ops},
		"down, and has another thing":                {Doc: Doc{Ops: rowBy(1, 1)}, Kept: []Op{put(id(1, 1), 'b', right, nothing)}},
		"down, and something waits":                  {Doc: Doc{Ops: ops, Wait: waits}, Kept: ops},
		"down, has nothing, and something waits":     {Doc: Doc{Wait: waits}},
		"down, and WaitMax wait":                     {Doc: fullWait(impl.WaitMax)},
		"down, something waits, and has more":        {Doc: Doc{Ops: ops, Wait: waits}, Kept: ops[:2]},
		"down, as many wait as are kept, and has it": {Doc: Doc{Wait: rowBy(1, 3)[1:]}, Kept: rowBy(2, 2)},
	}
	for name, two := range fieldChanges() {
		hubs["Kept is not the same: "+name] = upHub(two[0], two[1])
		hubs["Kept is not the same, the other way: "+name] = upHub(two[1], two[0])
		hubs["down, and Kept is not the same: "+name] = Hub{Doc: Doc{Ops: two[0]}, Kept: two[1]}
	}
	for name, list := range wrongLists() {
		hubs["Kept: "+name] = upHub(ops, list)
		hubs["Kept, of all that may be: "+name] = upHub(fullOps(), list)
		hubs["Ops and Kept: "+name] = upHub(list, list)
		hubs["down, Ops and Kept: "+name] = downHub(list)
		hubs["Kept, of nothing: "+name] = Hub{Up: true, Kept: list}
	}
	for name, doc := range wrongDocs() {
		hubs["Doc: "+name] = Hub{Up: true, Doc: doc}
		hubs["down, Doc: "+name] = Hub{Doc: doc, Kept: doc.Ops}
	}
	return hubs
}

// checkHubRefused is the one fixed answer of each function at a hub that is not ok.
func checkHubRefused(t *testing.T, name string, h Hub) {
	t.Helper()
	if impl.HubOk(h) {
		t.Errorf("%q should not be ok: %v", name, h)
	}
	for called, got := range map[string]Hub{"HubKeep": impl.HubKeep(h), "HubFall": impl.HubFall(h), "HubRise": impl.HubRise(h)} {
		if !sameHub(got, Hub{}) {
			t.Errorf("%q: %s: %v", name, called, got)
		}
	}
	a := put(id(1, 1), 'a', right, nothing)
	for _, w := range []Word{{}, pull(1, 0, 0, 0), pull(3, 12, 12, 12), push(1, a), push(2), give(1, []int{0, 0, 0}, a), pull(4, 0, 0, 0), push(1, Op{})} {
		if got, answer, ok := impl.HubHear(h, w); ok || !sameHub(got, Hub{}) || !sameWord(answer, Word{}) {
			t.Errorf("%q: HubHear of %v: %v %v %v", name, w, got, answer, ok)
		}
	}
}

func TestP69ToP76WrongHubs(t *testing.T) {
	hubs := wrongHubs()
	for name, h := range hubs {
		if hubIsOk(h) {
			t.Fatal("is ok", name, h)
		}
		checkHubRefused(t, name, h)
	}
	if len(hubs) < 2500 {
		t.Error("too few", len(hubs))
	}
}

func TestP70GoodHubs(t *testing.T) {
	ops := okOps(t, "1.1 put a right 0.0\n1.2 take 1.1\n2.1 put b left 1.1\n")
	good := []Hub{
		{}, {Up: true}, {Doc: Doc{Ops: []Op{}, Wait: []Op{}}, Kept: []Op{}}, {Up: true, Doc: Doc{Ops: []Op{}, Wait: []Op{}}, Kept: []Op{}},
		upHub(ops, nil), upHub(ops, ops[:1]), upHub(ops, ops[:2]), upHub(ops, ops), downHub(ops),
		upHub(ops, []Op{ops[0], ops[2]}), upHub(fullOps(), nil), upHub(fullOps(), fullOps()), downHub(fullOps()),
		{Up: true, Doc: Doc{Ops: ops, Wait: []Op{put(id(2, 3), 'c', right, nothing)}}, Kept: ops},
	}
	for many := range impl.WaitMax + 1 {
		good = append(good, waitingHub(many))
	}
	for _, h := range good {
		if !hubIsOk(h) || !impl.HubOk(h) {
			t.Error("should be ok", h)
		}
		checkHub(t, "good", hubHears(t, h, Word{}), h)
	}
}

func TestP70OkIsAsTheDocumentSays(t *testing.T) {
	r := &dice{state: 521}
	hubs, _ := someHubs()
	good, bad := 0, 0
	for _, hub := range hubs {
		for round := range 7 {
			h := clonedHub(hub)
			switch round {
			case 0:
				h.Up = !h.Up
			case 1:
				h.Doc.Ops = changed(r, h.Doc.Ops)
			case 2:
				h.Doc.Wait = with(h.Doc.Wait, someOps(r, 1)...)
			case 3:
				h.Kept = changed(r, h.Kept)
			case 4:
				h.Kept = lacking(r, h.Kept, 1)
			case 5:
				h.Kept = h.Kept[:r.below(len(h.Kept)+1)]
			case 6:
				h.Doc.Ops = lacking(r, h.Doc.Ops, 1)
			}
			if impl.HubOk(h) != hubIsOk(h) {
				t.Fatal(impl.HubOk(h), h)
			}
			if hubIsOk(h) {
				good++
				continue
			}
			bad++
			if bad%20 == 0 {
				checkHubRefused(t, fmt.Sprint("changed ", round), h)
			}
		}
	}
	if good < 500 || bad < 500 {
		t.Error("too few", good, bad)
	}
}
