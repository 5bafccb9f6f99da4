package tests

import (
	"fmt"
	"math"
	"slices"
	"testing"

	"loop.example/tatting/impl"
)

func TestP60NewDesk(t *testing.T) {
	for rep := 1; rep <= impl.RepMax; rep++ {
		d, ok := impl.DeskNew(rep)
		if !ok {
			t.Fatal("there is such a Rep", rep)
		}
		checkDesk(t, "new", d, Desk{Rep: rep, Known: []int{0, 0, 0}})
		if impl.TreeText(d.Doc.Ops) != "" {
			t.Error("the text is empty", d)
		}
		if w, ok := impl.DeskPush(d); ok || !sameWord(w, Word{}) {
			t.Error("it has nothing to tell", w)
		}
		if w, ok := impl.DeskPull(d); !ok || !sameWord(w, Word{Kind: 1, Rep: rep, Seen: []int{0, 0, 0}}) {
			t.Error("it asks for all", w)
		}
		if _, ok := impl.DeskTake(d, 0); ok {
			t.Error("there is nothing to take away", rep)
		}
	}
}

func TestP60NoSuchRep(t *testing.T) {
	for _, rep := range append([]int{math.MinInt + 1, -3, 4, 5, 255, 256, 257, 1 << 32, 1<<32 + 1}, farNumbers...) {
		d, ok := impl.DeskNew(rep)
		if rep >= 1 && rep <= 3 {
			checkDesk(t, "new", d, Desk{Rep: rep, Known: []int{0, 0, 0}})
			continue
		}
		checkNoDesk(t, fmt.Sprint("DeskNew of ", rep), d, ok)
	}
}

// placesOf are each place of the text, those around them, and far ones.
func placesOf(ops []Op) []int {
	places := []int{math.MinInt, -2, -1, 36, 37, math.MaxInt}
	for at := range len(textOf(standing(ops))) + 3 {
		places = append(places, at)
	}
	return places
}

func TestP61PutIsAsTheDocumentSays(t *testing.T) {
	desks, _ := someDesks()
	can, cannot := 0, 0
	for n, d := range desks {
		for _, at := range placesOf(d.Doc.Ops) {
			sign := 'a' + (n+at)&15
			want, ok := wantDeskPut(d, at, sign)
			got, done := impl.DeskPut(d, at, sign)
			if !ok {
				checkNoDesk(t, "DeskPut", got, done)
				cannot++
				continue
			}
			if !done {
				t.Fatal("can be put", at, d)
			}
			checkDesk(t, "DeskPut", got, want)
			can++
		}
	}
	if can < 2000 || cannot < 2000 {
		t.Error("too few", can, cannot)
	}
}

// waitFor says whether something waits for a thing of that id.
func waitFor(d Desk, own Id) bool {
	return slices.ContainsFunc(d.Doc.Wait, func(op Op) bool { return op.Ref == own })
}

func TestP61TextIsAsTyped(t *testing.T) {
	desks, _ := someDesks()
	typedAt, waits := 0, 0
	for _, d := range desks {
		text := impl.TreeText(d.Doc.Ops)
		own := id(d.Rep, doneBy(d.Doc.Ops, d.Rep)+1)
		for at := range len(text) + 1 {
			got, ok := impl.DeskPut(d, at, 'k')
			if ok != (own.Num <= 12) {
				t.Fatal("put just if it may do more", ok, d)
			}
			if !ok {
				continue
			}
			if !impl.DeskOk(got) || got.Rep != d.Rep || !slices.Equal(got.Known, d.Known) || impl.OpsFind(got.Doc.Ops, own) < 0 {
				t.Fatal("is ok, of that Rep, has done it, and knows what it knew", d, got)
			}
			// What waited for this very sign is done with it, and may show more.
			if waitFor(d, own) {
				waits++
				continue
			}
			if impl.TreeText(got.Doc.Ops) != text[:at]+"k"+text[at:] {
				t.Fatal(impl.TreeText(got.Doc.Ops), text, at)
			}
			if !slices.Equal(got.Doc.Wait, d.Doc.Wait) || len(got.Doc.Ops) != len(d.Doc.Ops)+1 {
				t.Fatal("just one thing more is done", d, got)
			}
			typedAt++
		}
	}
	if typedAt < 2000 || waits < 20 {
		t.Error("too few", typedAt, waits)
	}
}

func TestP61Examples(t *testing.T) {
	d := typed(t, 2, "hi")
	checkDesk(t, "typed", d, Desk{Rep: 2, Known: []int{0, 0, 0}, Doc: Doc{Ops: okOps(t, "2.1 put h right 0.0\n2.2 put i right 2.1\n")}})
	d = impl.DeskHear(d, give(2, []int{1, 2, 0}, put(id(1, 1), 'o', right, nothing)))
	for at, want := range []string{"xohi", "oxhi", "ohxi", "ohix"} {
		got, ok := impl.DeskPut(d, at, 'x')
		if !ok || impl.TreeText(got.Doc.Ops) != want || !slices.Equal(got.Known, []int{1, 2, 0}) || impl.OpsFind(got.Doc.Ops, id(2, 3)) < 0 {
			t.Error(got, ok, want)
		}
	}
	for _, at := range []int{math.MinInt, -1, 4, 5, math.MaxInt} {
		got, ok := impl.DeskPut(d, at, 'x')
		checkNoDesk(t, "no such place", got, ok)
	}
	for _, sign := range []int{0, 'a' - 1, 'z' + 1, 'A', ' ', -1, 'a' + 256, 'a' - 256, 'a' + 1<<32, math.MinInt, math.MaxInt} {
		got, ok := impl.DeskPut(d, 0, sign)
		checkNoDesk(t, "no letter", got, ok)
	}
	for _, sign := range []int{'a', 'z'} {
		if got, ok := impl.DeskPut(d, 3, sign); !ok || impl.TreeText(got.Doc.Ops) != "ohi"+string(rune(sign)) {
			t.Error(got, ok)
		}
	}
}

func TestP61WhatWaitsForItIsDone(t *testing.T) {
	x, y, z := put(id(1, 1), 'x', right, id(2, 1)), put(id(3, 1), 'y', left, id(1, 1)), put(id(1, 3), 'z', right, id(2, 1))
	d, _ := impl.DeskNew(2)
	d = impl.DeskHear(d, give(2, []int{3, 1, 1}, z, y, x))
	checkDesk(t, "all wait", d, Desk{Rep: 2, Doc: Doc{Wait: []Op{x, z, y}}, Known: []int{3, 1, 1}})
	got, ok := impl.DeskPut(d, 0, 'h')
	if !ok || impl.TreeText(got.Doc.Ops) != "hyx" {
		t.Fatal(got)
	}
	checkDesk(t, "done", got, Desk{Rep: 2, Doc: Doc{Ops: []Op{x, put(id(2, 1), 'h', right, nothing), y}, Wait: []Op{z}}, Known: []int{3, 1, 1}})
	// A sign waits for a sign: where that is a taking it waits on.
	d = typed(t, 2, "h")
	d = impl.DeskHear(d, give(2, []int{1, 2, 0}, put(id(1, 1), 'x', right, id(2, 2))))
	got, ok = impl.DeskTake(d, 0)
	if !ok || impl.TreeText(got.Doc.Ops) != "" || len(got.Doc.Wait) != 1 {
		t.Error(got)
	}
}

func TestP61WhileWaitMaxWait(t *testing.T) {
	full := waitingDesk(impl.WaitMax)
	got, ok := impl.DeskPut(full, 0, 'h')
	if !ok {
		t.Fatal("what can be done is, however much waits")
	}
	want, _ := wantDeskPut(full, 0, 'h')
	checkDesk(t, "WaitMax wait", got, want)
	if full.Doc.Wait[0].Id.Num != 2 || len(got.Doc.Wait) != 20 || len(got.Doc.Ops) != 1 {
		t.Fatal(got)
	}
	got = impl.DeskHear(got, give(2, []int{1, 1, 1}, put(id(1, 1), 'a', right, nothing), put(id(3, 1), 'b', right, nothing)))
	if len(got.Doc.Wait) != 0 || len(got.Doc.Ops) != 23 {
		t.Fatal(got)
	}
}

func TestP62TakeIsAsTheDocumentSays(t *testing.T) {
	desks, _ := someDesks()
	can, cannot := 0, 0
	for _, d := range desks {
		for _, at := range placesOf(d.Doc.Ops) {
			want, ok := wantDeskTake(d, at)
			got, done := impl.DeskTake(d, at)
			if !ok {
				checkNoDesk(t, "DeskTake", got, done)
				cannot++
				continue
			}
			if !done {
				t.Fatal("can be taken away", at, d)
			}
			checkDesk(t, "DeskTake", got, want)
			can++
		}
	}
	if can < 1500 || cannot < 2000 {
		t.Error("too few", can, cannot)
	}
}

func TestP62TextIsAsTyped(t *testing.T) {
	desks, _ := someDesks()
	many := 0
	for _, d := range desks {
		text := impl.TreeText(d.Doc.Ops)
		own := id(d.Rep, doneBy(d.Doc.Ops, d.Rep)+1)
		for at := range len(text) {
			got, ok := impl.DeskTake(d, at)
			if ok != (own.Num <= 12) {
				t.Fatal("taken just if it may do more", ok, d)
			}
			if !ok {
				continue
			}
			if !impl.DeskOk(got) || got.Rep != d.Rep || !slices.Equal(got.Known, d.Known) || !slices.Equal(got.Doc.Wait, d.Doc.Wait) {
				t.Fatal("is ok, of that Rep, and all else stays", d, got)
			}
			if impl.TreeText(got.Doc.Ops) != text[:at]+text[at+1:] || len(got.Doc.Ops) != len(d.Doc.Ops)+1 {
				t.Fatal(impl.TreeText(got.Doc.Ops), text, at)
			}
			many++
		}
	}
	if many < 1500 {
		t.Error("too few", many)
	}
}

func TestP62Examples(t *testing.T) {
	d := typed(t, 3, "abc")
	for at, want := range []string{"bc", "ac", "ab"} {
		got, ok := impl.DeskTake(d, at)
		if !ok || impl.TreeText(got.Doc.Ops) != want || !slices.Contains(got.Doc.Ops, take(id(3, 4), id(3, at+1))) {
			t.Error(got, ok, want)
		}
	}
	for _, at := range []int{math.MinInt, -1, 3, 4, math.MaxInt} {
		got, ok := impl.DeskTake(d, at)
		checkNoDesk(t, "no such place", got, ok)
	}
	// What another one put may be taken away, too.
	d = impl.DeskHear(d, give(3, []int{1, 0, 0}, put(id(1, 1), 'o', right, nothing)))
	got, ok := impl.DeskTake(d, 0)
	if !ok || impl.TreeText(got.Doc.Ops) != "abc" || !slices.Contains(got.Doc.Ops, take(id(3, 4), id(1, 1))) || !slices.Equal(got.Known, []int{1, 0, 0}) {
		t.Error(got, ok)
	}
}

func TestP61AndP62DeskThatMayDoNoMore(t *testing.T) {
	for rep := 1; rep <= 3; rep++ {
		d := fullDesk(t, rep)
		if len(d.Doc.Ops) != 12 || impl.TreeText(d.Doc.Ops) != someLetters {
			t.Fatal("NumMax may be met", d)
		}
		for at := range 14 {
			got, ok := impl.DeskPut(d, at, 'x')
			checkNoDesk(t, "put", got, ok)
			got, ok = impl.DeskTake(d, at)
			checkNoDesk(t, "take", got, ok)
		}
		// The last thing that it may do may be a taking, and others still are heard of.
		d = typed(t, rep, someLetters[:11])
		d, ok := impl.DeskTake(d, 10)
		if !ok || impl.TreeText(d.Doc.Ops) != someLetters[:10] {
			t.Fatal(d)
		}
		got, ok := impl.DeskTake(d, 0)
		checkNoDesk(t, "take", got, ok)
		other := put(id(rep%3+1, 1), 'o', right, nothing)
		d = impl.DeskHear(d, give(rep, []int{0, 0, 0}, other))
		if !slices.Contains(d.Doc.Ops, other) || len(d.Doc.Ops) != 13 {
			t.Error(d)
		}
	}
	// What others have done is no bound to it.
	d, _ := impl.DeskNew(1)
	d.Doc.Ops = rowBy(2, 12)
	if got, ok := impl.DeskPut(d, 12, 'x'); !ok || len(got.Doc.Ops) != 13 {
		t.Error(got, ok)
	}
}

func TestP66PullIsAsTheDocumentSays(t *testing.T) {
	desks, _ := someDesks()
	for _, d := range desks {
		was := clonedDesk(d)
		w, ok := impl.DeskPull(d)
		if !ok || !sameWord(w, wantPull(d)) || !wordIsInForm(w) {
			t.Fatal(w, ok, d)
		}
		if w.Kind != impl.WordPull || w.Rep != d.Rep || !slices.Equal(w.Seen, impl.OpsSeen(d.Doc.Ops)) || len(w.Ops) != 0 {
			t.Fatal(w, d)
		}
		if !sameDesk(was, d) {
			t.Fatal("it changes nothing", d)
		}
	}
}

func TestP66Examples(t *testing.T) {
	d := typed(t, 2, "hi")
	d = impl.DeskHear(d, give(2, []int{7, 8, 9}, put(id(1, 1), 'a', right, nothing), put(id(3, 3), 'b', right, nothing)))
	// Neither what waits counts, nor what the hub has.
	if w, ok := impl.DeskPull(d); !ok || !sameWord(w, Word{Kind: 1, Rep: 2, Seen: []int{1, 2, 0}}) {
		t.Error(w, ok)
	}
	if w, ok := impl.DeskPull(fullDesk(t, 3)); !ok || !sameWord(w, Word{Kind: 1, Rep: 3, Seen: []int{0, 0, 12}}) {
		t.Error(w, ok)
	}
	d = impl.DeskHear(waitingDesk(impl.WaitMax), give(2, []int{0, 0, 0}))
	if w, ok := impl.DeskPull(d); !ok || !sameWord(w, Word{Kind: 1, Rep: 2, Seen: []int{0, 0, 0}}) {
		t.Error(w, ok)
	}
}

func TestP63PushIsAsTheDocumentSays(t *testing.T) {
	r := &dice{state: 419}
	desks, _ := someDesks()
	full, fewer, none := 0, 0, 0
	for _, d := range desks {
		for _, known := range append(someKnowns(r, d.Doc.Ops), d.Known) {
			d.Known = known
			want, some := wantPush(d)
			was := clonedDesk(d)
			w, ok := impl.DeskPush(d)
			if ok != some || !sameWord(w, want) {
				t.Fatalf("%v %v instead of %v, of %v", w, ok, want, d)
			}
			if !sameDesk(was, d) {
				t.Fatal("it changes nothing", d)
			}
			switch {
			case !ok:
				none++
			case len(w.Ops) == impl.GiveMax:
				full++
			default:
				fewer++
			}
			if ok && !wordIsInForm(w) || len(w.Ops) > 5 {
				t.Fatal("not in form", w)
			}
			for _, op := range w.Ops {
				if !slices.Contains(d.Doc.Ops, op) || saw(known, op.Id) {
					t.Fatal("has not done it, nor seen, or knows the hub to have it", op, d)
				}
			}
		}
	}
	if full < 1000 || fewer < 300 || none < 1000 {
		t.Error("too few", full, fewer, none)
	}
}

func TestP63NoneJustIfTheHubHasAll(t *testing.T) {
	r := &dice{state: 421}
	told, none := 0, 0
	for _, ops := range oneByOne() {
		for _, has := range [][]Op{nil, ops, part(r, ops, 1), part(r, ops, 2), lacking(r, ops, 5), lacking(r, ops, 1)} {
			for rep := 1; rep <= 3; rep++ {
				w, ok := impl.DeskPush(Desk{Rep: rep, Doc: Doc{Ops: ops}, Known: seenOf(has)})
				if ok != (len(has) < len(ops)) || len(w.Ops) != min(5, len(ops)-len(has)) {
					t.Fatal(w, ok, has, ops)
				}
				if ok {
					told++
				} else {
					none++
				}
			}
		}
	}
	if told < 300 || none < 100 {
		t.Error("too few", told, none)
	}
}

func TestP63GiveMax(t *testing.T) {
	for many := range 13 {
		d := typed(t, 1, someLetters[:many])
		for known := range 13 {
			d.Known = []int{known, 0, 0}
			w, ok := impl.DeskPush(d)
			if want := max(0, min(5, many-known)); ok != (want > 0) || len(w.Ops) != want {
				t.Fatal(w, many, known)
			}
			if ok && (w.Ops[0].Id != id(1, known+1) || w.Kind != impl.WordPush || w.Rep != 1 || len(w.Seen) != 0) {
				t.Fatal(w, many, known)
			}
		}
	}
	// One known more each time: five at once, five, two, and none.
	d := fullDesk(t, 3)
	for _, many := range []int{5, 5, 2, 0, 0} {
		w, ok := impl.DeskPush(d)
		if ok != (many > 0) || len(w.Ops) != many {
			t.Fatal(w, d.Known)
		}
		d.Known[2] += many
	}
}

func TestP63TellsWhatItHasSeenOfOthersToo(t *testing.T) {
	d := typed(t, 2, "hi")
	o, p := put(id(1, 1), 'o', right, nothing), put(id(3, 1), 'p', right, id(2, 2))
	waits := put(id(3, 3), 'q', right, nothing)
	d = impl.DeskHear(d, give(2, []int{0, 1, 0}, o, p, waits))
	w, ok := impl.DeskPush(d)
	if !ok || !slices.Equal(w.Ops, []Op{o, put(id(2, 2), 'i', right, id(2, 1)), p}) {
		t.Error("all that was done there, but not what waits", w)
	}
	// It says nothing of what refers to what the hub may not have, as long as that is not told.
	d.Known = []int{1, 0, 0}
	d.Doc.Ops = okOps(t, "2.1 put a right 2.2\n2.2 put b right 0.0\n3.1 put c left 2.2\n3.2 put d right 0.0\n")
	d.Doc.Wait = nil
	if w, ok := impl.DeskPush(d); ok || !sameWord(w, Word{}) {
		t.Error("of what can never be told nothing is", w)
	}
	d.Known = []int{0, 1, 0}
	if w, ok := impl.DeskPush(d); !ok || !slices.Equal(w.Ops, d.Doc.Ops[1:]) {
		t.Error(w)
	}
}

func TestP63PushedTillNoneIsLeft(t *testing.T) {
	desks, _ := livedDesks()
	for _, d := range desks {
		var hub Doc
		d.Known = []int{0, 0, 0}
		for words := 0; ; words++ {
			w, ok := impl.DeskPush(d)
			if !ok {
				break
			}
			hub = heardAll(hub, w.Ops)
			d.Known = seenOf(hub.Ops)
			if words > 8 {
				t.Fatal("it never ends", d)
			}
		}
		checkDoc(t, "pushed", hub, Doc{Ops: d.Doc.Ops})
	}
}

// wrongDesks are not ok, one for each way that there is, with something to tell if it were not for that.
func wrongDesks() map[string]Desk {
	ops := []Op{put(id(1, 1), 'a', right, nothing), put(id(2, 1), 'b', left, id(1, 1)), put(id(3, 1), 'c', right, nothing)}
	known := []int{1, 0, 0}
	one := Doc{Ops: ops}
	desks := map[string]Desk{
		"nothing":               {},
		"nothing, of a Rep":     {Rep: 1},
		"no numbers":            {Rep: 1, Doc: one, Known: []int{}},
		"one number":            {Rep: 1, Doc: one, Known: []int{1}},
		"two numbers":           {Rep: 1, Doc: one, Known: []int{1, 0}},
		"four numbers":          {Rep: 1, Doc: one, Known: []int{1, 0, 0, 0}},
		"many numbers":          {Rep: 1, Doc: one, Known: make([]int, 5000)},
		"waits, and of its own": {Rep: 2, Doc: Doc{Ops: ops, Wait: []Op{put(id(2, 3), 'd', right, nothing)}}, Known: known},
		"waits, the last one":   {Rep: 3, Doc: Doc{Ops: ops, Wait: []Op{put(id(1, 3), 'd', right, nothing), put(id(3, 2), 'e', right, id(1, 3))}}, Known: known},
		"waits, the first one":  {Rep: 1, Doc: Doc{Ops: ops, Wait: []Op{take(id(1, 12), id(1, 1)), put(id(3, 3), 'e', right, id(1, 3))}}, Known: known},
		"all that waits is its": {Rep: 1, Doc: fullWait(11), Known: known},
	}
	for _, rep := range []int{math.MinInt, -1, 0, 4, 5, 256 + 1, 1<<32 + 1, math.MaxInt} {
		desks[fmt.Sprint("Rep ", rep)] = Desk{Rep: rep, Doc: one, Known: known}
	}
	for _, many := range []int{math.MinInt, -12, -1, 13, 14, 256, 1 << 32, math.MaxInt} {
		for place := range 3 {
			out := []int{1, 0, 12}
			out[place] = many
			desks[fmt.Sprint("Known ", out)] = Desk{Rep: 1, Doc: one, Known: out}
		}
	}
	for name, doc := range wrongDocs() {
		if len(desks) < 400 || len(doc.Wait) > 1 {
			desks["Doc: "+name] = Desk{Rep: 2, Doc: doc, Known: known}
		}
	}
	return desks
}

// checkDeskRefused is the one fixed answer of each function at a desk that is not ok.
func checkDeskRefused(t *testing.T, name string, d Desk) {
	t.Helper()
	if impl.DeskOk(d) {
		t.Errorf("%q should not be ok: %v", name, d)
	}
	for _, at := range []int{-1, 0, 1, 2, 40} {
		got, ok := impl.DeskPut(d, at, 'x')
		checkNoDesk(t, name+": DeskPut", got, ok)
		got, ok = impl.DeskTake(d, at)
		checkNoDesk(t, name+": DeskTake", got, ok)
	}
	if w, ok := impl.DeskPull(d); ok || !sameWord(w, Word{}) {
		t.Errorf("%q: DeskPull: %v %v", name, w, ok)
	}
	if w, ok := impl.DeskPush(d); ok || !sameWord(w, Word{}) {
		t.Errorf("%q: DeskPush: %v %v", name, w, ok)
	}
	for _, w := range []Word{{}, give(d.Rep, []int{1, 2, 3}), give(d.Rep, []int{0, 0, 0}, put(id(1, 1), 'a', right, nothing)), give(2, []int{1, 1, 1}), wantPull(d)} {
		if got := impl.DeskHear(d, w); !sameDesk(got, Desk{}) {
			t.Errorf("%q: DeskHear of %v: %v", name, w, got)
		}
	}
}

func TestP60ToP68WrongDesks(t *testing.T) {
	desks := wrongDesks()
	for name, d := range desks {
		checkDeskRefused(t, name, d)
	}
	if len(desks) < 350 {
		t.Error("too few", len(desks))
	}
}

func TestP60GoodDesks(t *testing.T) {
	ops := okOps(t, "1.1 put a right 0.0\n2.1 put b left 1.1\n3.1 put c right 0.0\n")
	for _, known := range [][]int{{0, 0, 0}, {12, 12, 12}, {0, 12, 0}, {1, 1, 1}, {11, 0, 7}} {
		for rep := 1; rep <= 3; rep++ {
			for _, doc := range []Doc{{}, {Ops: ops}, {Ops: fullOps()}, {Ops: ops, Wait: []Op{put(id(rep%3+1, 3), 'd', right, nothing)}}} {
				d := Desk{Rep: rep, Doc: doc, Known: known}
				checkDesk(t, "good", impl.DeskHear(d, Word{}), d)
			}
		}
	}
	for many := range impl.WaitMax + 1 {
		if !impl.DeskOk(waitingDesk(many)) {
			t.Error("should be ok", many)
		}
	}
}

func TestP60OkIsAsTheDocumentSays(t *testing.T) {
	r := &dice{state: 431}
	desks, _ := someDesks()
	good, bad := 0, 0
	for _, desk := range desks {
		for round := range 6 {
			d := clonedDesk(desk)
			switch round {
			case 0:
				d.Rep = r.below(6) - 1
			case 1:
				d.Doc.Ops = changed(r, d.Doc.Ops)
			case 2:
				d.Doc.Wait = with(d.Doc.Wait, someOps(r, 1)...)
			case 3:
				d.Known[r.below(3)] = r.below(17) - 2
			case 4:
				d.Known = d.Known[:r.below(4)]
			case 5:
				d.Doc.Wait = changed(r, d.Doc.Wait)
			}
			if impl.DeskOk(d) != deskIsOk(d) {
				t.Fatal(impl.DeskOk(d), d)
			}
			if deskIsOk(d) {
				good++
				continue
			}
			bad++
			if bad%20 == 0 {
				checkDeskRefused(t, "changed", d)
			}
		}
	}
	if good < 500 || bad < 500 {
		t.Error("too few", good, bad)
	}
}
