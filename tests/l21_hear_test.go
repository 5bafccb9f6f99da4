package tests

import (
	"fmt"
	"math"
	"slices"
	"testing"

	"loop.example/tatting/impl"
)

func TestP64HearingIsAsTheDocumentSays(t *testing.T) {
	desks, words := someDesks()
	learnt, stayed := 0, 0
	for n, d := range desks {
		for _, w := range words[n] {
			if !wordIsInForm(w) {
				t.Fatal("not in form", w)
			}
			want := wantHeard(d, w)
			got := impl.DeskHear(d, w)
			checkDesk(t, "DeskHear", got, want)
			if sameDesk(got, d) {
				stayed++
			} else {
				learnt++
			}
			d = got
		}
	}
	if learnt < 1500 || stayed < 1000 {
		t.Error("too few", learnt, stayed)
	}
}

func TestP64NothingGoesAndItsOwnStays(t *testing.T) {
	desks, words := someDesks()
	done, waits, lost := 0, 0, 0
	for n, d := range desks {
		for _, w := range words[n] {
			if w.Kind != impl.WordGive || w.Rep != d.Rep {
				continue
			}
			got := impl.DeskHear(d, w)
			if got.Rep != d.Rep || !slices.Equal(got.Known, w.Seen) {
				t.Fatal("it knows what was said last", got, w)
			}
			own := func(ops []Op) []Op {
				return slices.DeleteFunc(slices.Clone(ops), func(op Op) bool { return op.Id.Rep != d.Rep })
			}
			if !slices.Equal(own(got.Doc.Ops), own(d.Doc.Ops)) || slices.ContainsFunc(got.Doc.Wait, isBy(d.Rep)) {
				t.Fatal("what it did itself is as it was", got, d)
			}
			for _, op := range d.Doc.Ops {
				if !slices.Contains(got.Doc.Ops, op) {
					t.Fatal("what was done goes", op, d)
				}
			}
			for _, op := range d.Doc.Wait {
				if !slices.Contains(got.Doc.Ops, op) && !slices.Contains(got.Doc.Wait, op) {
					t.Fatal("what waits goes", op, d)
				}
			}
			for _, op := range w.Ops {
				switch {
				case op.Id.Rep == d.Rep || hasId(d.Doc.Ops, op.Id) || hasId(d.Doc.Wait, op.Id):
				case hasId(got.Doc.Ops, op.Id):
					done++
				case hasId(got.Doc.Wait, op.Id):
					waits++
				default:
					lost++
				}
			}
			d = got
		}
	}
	if done < 500 || waits < 500 || lost < 30 {
		t.Error("too few", done, waits, lost)
	}
}

func TestP64Examples(t *testing.T) {
	d := typed(t, 2, "hi")
	o := put(id(1, 1), 'o', right, nothing)
	d = impl.DeskHear(d, give(2, []int{1, 2, 0}, o))
	if impl.TreeText(d.Doc.Ops) != "ohi" || !slices.Equal(d.Known, []int{1, 2, 0}) {
		t.Error(d)
	}
	if _, ok := impl.DeskPush(d); ok {
		t.Error("all is known")
	}
	// What it knows is what was said last, also if that is less: the hub may have fallen.
	d = impl.DeskHear(d, give(2, []int{0, 1, 0}))
	if impl.TreeText(d.Doc.Ops) != "ohi" || !slices.Equal(d.Known, []int{0, 1, 0}) {
		t.Error(d)
	}
	if w, ok := impl.DeskPush(d); !ok || !slices.Equal(w.Ops, []Op{o, put(id(2, 2), 'i', right, id(2, 1))}) {
		t.Error("it tells again what the hub lost", w)
	}
	// It takes the word for it, whatever it has itself, and to the limits.
	for _, seen := range [][]int{{12, 12, 12}, {0, 0, 0}, {12, 0, 12}} {
		checkDesk(t, "said", impl.DeskHear(d, give(2, seen)), Desk{Rep: 2, Doc: d.Doc, Known: seen})
	}
	// In the order of the word: the first one of an id counts.
	x, y := put(id(3, 1), 'x', right, nothing), put(id(3, 1), 'y', right, nothing)
	if got := impl.DeskHear(d, give(2, []int{0, 0, 0}, x, y)); impl.TreeText(got.Doc.Ops) != "ohix" {
		t.Error(got)
	}
	if got := impl.DeskHear(d, give(2, []int{0, 0, 0}, y, x)); impl.TreeText(got.Doc.Ops) != "ohiy" {
		t.Error(got)
	}
	// Takings are heard of like signs.
	if got := impl.DeskHear(d, give(2, []int{0, 0, 1}, take(id(3, 1), id(2, 1)))); impl.TreeText(got.Doc.Ops) != "oi" {
		t.Error(got)
	}
}

func TestP64WhatCannotBeDoneWaits(t *testing.T) {
	row := rowBy(1, 3)
	d := typed(t, 2, "z")
	d = impl.DeskHear(d, give(2, []int{3, 1, 0}, row[2], row[1]))
	checkDesk(t, "waits", d, Desk{Rep: 2, Doc: Doc{Ops: d.Doc.Ops, Wait: row[1:]}, Known: []int{3, 1, 0}})
	d = impl.DeskHear(d, give(2, []int{3, 1, 0}, row[0]))
	checkDesk(t, "done", d, Desk{Rep: 2, Doc: Doc{Ops: with(row, put(id(2, 1), 'z', right, nothing))}, Known: []int{3, 1, 0}})
	// What refers to a thing of its own that it has not done waits till it has.
	d, _ = impl.DeskNew(3)
	x := put(id(1, 1), 'x', left, id(3, 2))
	d = impl.DeskHear(d, give(3, []int{1, 0, 2}, x, put(id(3, 1), 'p', right, nothing), put(id(3, 2), 'q', right, id(3, 1))))
	checkDesk(t, "waits for its own", d, Desk{Rep: 3, Doc: Doc{Wait: []Op{x}}, Known: []int{1, 0, 2}})
	d, _ = impl.DeskPut(d, 0, 'a')
	checkDesk(t, "still waits", d, Desk{Rep: 3, Doc: Doc{Ops: []Op{put(id(3, 1), 'a', right, nothing)}, Wait: []Op{x}}, Known: []int{1, 0, 2}})
	d, _ = impl.DeskPut(d, 1, 'b')
	if impl.TreeText(d.Doc.Ops) != "axb" || len(d.Doc.Wait) != 0 {
		t.Error(d)
	}
}

func TestP64GiveMax(t *testing.T) {
	row := rowBy(1, 8)
	d, _ := impl.DeskNew(3)
	for many := range 9 {
		w := give(3, []int{8, 0, 0}, row[:many]...)
		want := d
		if many <= 5 {
			want = Desk{Rep: 3, Doc: Doc{Ops: row[:many]}, Known: []int{8, 0, 0}}
		}
		checkDesk(t, fmt.Sprint("GiveMax ", many), impl.DeskHear(d, w), want)
	}
	// One more than may be told is not in form, also if it is of its own, or known.
	for _, more := range []Op{put(id(3, 1), 'x', right, nothing), row[0], row[4]} {
		checkDesk(t, "one more", impl.DeskHear(d, give(3, []int{8, 0, 0}, append(row[:5:5], more)...)), d)
	}
	checkDesk(t, "far more", impl.DeskHear(d, give(3, []int{8, 0, 0}, slices.Repeat(row, 500)...)), d)
}

func TestP64WaitMax(t *testing.T) {
	more := []Op{take(id(3, 11), id(2, 1)), take(id(3, 12), id(2, 1))}
	d := waitingDesk(19)
	got := impl.DeskHear(d, give(2, []int{4, 5, 6}, more...))
	checkDesk(t, "the last one that may wait", got, Desk{Rep: 2, Doc: Doc{Wait: with(d.Doc.Wait, more[0])}, Known: []int{4, 5, 6}})
	got = impl.DeskHear(d, give(2, []int{4, 5, 6}, more[1], more[0]))
	checkDesk(t, "in the order of the word", got, Desk{Rep: 2, Doc: Doc{Wait: with(d.Doc.Wait, more[1])}, Known: []int{4, 5, 6}})
	full := waitingDesk(20)
	a := put(id(3, 1), 'a', right, nothing)
	got = impl.DeskHear(full, give(2, []int{4, 5, 6}, more[0], a, more[1]))
	checkDesk(t, "what can be done is", got, Desk{Rep: 2, Doc: Doc{Ops: []Op{a}, Wait: full.Doc.Wait}, Known: []int{4, 5, 6}})
	// What waits for a thing of its own goes when that is done, and leaves room.
	want, _ := wantDeskPut(got, 0, 'b')
	d, ok := impl.DeskPut(got, 0, 'b')
	checkDesk(t, "its own is done", d, want)
	if !ok || len(d.Doc.Wait) >= 20 {
		t.Fatal(d)
	}
	other := put(id(3, 12), 'z', right, nothing)
	got = impl.DeskHear(d, give(2, []int{4, 5, 6}, other))
	checkDesk(t, "there is room", got, Desk{Rep: 2, Doc: Doc{Ops: d.Doc.Ops, Wait: with(d.Doc.Wait, other)}, Known: []int{4, 5, 6}})
}

// wrongWords are to that desk, one for each way not to be in form, each telling of something new if it were not for that.
func wrongWords(rep int) map[string]Word {
	seen := []int{3, 4, 5}
	a := put(id(rep%3+1, 1), 'a', right, nothing)
	five := []Op{a, a, a, a, a}
	words := map[string]Word{
		"nothing":          {},
		"no kind":          {Rep: rep, Seen: seen, Ops: []Op{a}},
		"no Rep":           {Kind: impl.WordGive, Seen: seen, Ops: []Op{a}},
		"seen nothing":     give(rep, nil, a),
		"seen empty":       give(rep, []int{}, a),
		"one number":       give(rep, []int{3}, a),
		"two numbers":      give(rep, []int{3, 4}, a),
		"four numbers":     give(rep, []int{3, 4, 5, 0}, a),
		"many numbers":     give(rep, make([]int, 5000), a),
		"six things":       give(rep, seen, append(five, a)...),
		"a pull that asks": {Kind: impl.WordPull, Rep: rep, Seen: seen, Ops: []Op{a}},
		"a pull of less":   {Kind: impl.WordPull, Rep: rep, Seen: seen[:2]},
		"a push that saw":  {Kind: impl.WordPush, Rep: rep, Seen: seen, Ops: []Op{a}},
		"a push of six":    {Kind: impl.WordPush, Rep: rep, Ops: append(five, a)},
	}
	for _, far := range []int{math.MinInt, -2, -1, 0, 4, 5, 256 + 1, 256 + 2, 1<<32 + 2, math.MaxInt} {
		words[fmt.Sprint("Rep ", far)] = give(far, seen, a)
		words[fmt.Sprint("kind ", far)] = Word{Kind: far, Rep: rep, Seen: seen, Ops: []Op{a}}
		words[fmt.Sprint("kind ", far, ", of nothing")] = Word{Kind: far, Rep: rep, Seen: seen}
	}
	for _, far := range []int{math.MinInt, -12, -1, 13, 14, 256, 1 << 32, math.MaxInt} {
		for place := range 3 {
			out := []int{0, 12, 6}
			out[place] = far
			words[fmt.Sprint("seen ", out)] = give(rep, out, a)
		}
	}
	for _, op := range notInForm() {
		words["tells "+fmt.Sprint(op)] = give(rep, seen, op)
		words["tells something, and "+fmt.Sprint(op)] = give(rep, seen, a, op)
	}
	words["the last one is not in form"] = give(rep, seen, a, a, a, a, Op{})
	words["the first one is not in form"] = give(rep, seen, Op{}, a, a, a, a)
	own := put(id(rep, 12), 'a'-1, right, nothing)
	words["its own is not in form"] = give(rep, seen, a, own)
	return words
}

func TestP65WordsThatAreNotInForm(t *testing.T) {
	desks, _ := livedDesks()
	for rep := 1; rep <= 3; rep++ {
		words := wrongWords(rep)
		if len(words) < 800 {
			t.Error("too few", len(words))
		}
		some := []Desk{{Rep: rep, Known: []int{0, 0, 0}}, {Rep: rep, Doc: Doc{Ops: chain(36)}, Known: []int{9, 9, 9}}, fullDesk(t, rep)}
		for _, d := range desks[len(desks)-12:] {
			if d.Rep == rep {
				some = append(some, d)
			}
		}
		for name, w := range words {
			if wordIsInForm(w) {
				t.Fatal("is in form", name, w)
			}
			for _, d := range some {
				checkDesk(t, name, impl.DeskHear(d, w), d)
			}
		}
	}
}

func TestP65WordsOfAnotherKindOrToAnotherDesk(t *testing.T) {
	desks, _ := someDesks()
	for n, d := range desks {
		rep, other := d.Rep, d.Rep%3+1
		a := []Op{put(id(other, 12), 'a', right, nothing), put(id(other, doneBy(d.Doc.Ops, other)%12+1), 'b', right, nothing)}
		for _, w := range []Word{
			{Kind: impl.WordPull, Rep: rep, Seen: []int{n % 13, 12, 0}},
			{Kind: impl.WordPull, Rep: other, Seen: []int{n % 13, 12, 0}},
			{Kind: impl.WordPush, Rep: rep, Ops: a},
			{Kind: impl.WordPush, Rep: rep},
			{Kind: impl.WordPush, Rep: other, Ops: a},
			give(other, []int{n % 13, 12, 0}, a...),
			give(other%3+1, []int{n % 13, 12, 0}, a...),
			give(other, []int{n % 13, 12, 0}),
		} {
			if !wordIsInForm(w) {
				t.Fatal("not in form", w)
			}
			checkDesk(t, "it stays", impl.DeskHear(d, w), d)
		}
		pull, _ := impl.DeskPull(d)
		checkDesk(t, "its own pull", impl.DeskHear(d, pull), d)
		push, _ := impl.DeskPush(d)
		checkDesk(t, "its own push", impl.DeskHear(d, push), d)
	}
}

// hearsWhole says whether nothing of a word is lost at a desk as too much waits, apart from the program.
func hearsWhole(d Desk, w Word) bool {
	got := wantHeard(d, w)
	return !slices.ContainsFunc(w.Ops, func(op Op) bool {
		return op.Id.Rep != d.Rep && !hasId(got.Doc.Ops, op.Id) && !hasId(got.Doc.Wait, op.Id)
	})
}

func TestP65OnceMore(t *testing.T) {
	desks, words := someDesks()
	many, lost := 0, 0
	for n, d := range desks {
		for _, w := range words[n] {
			once := impl.DeskHear(d, w)
			again := impl.DeskHear(once, w)
			if hearsWhole(d, w) {
				checkDesk(t, "once more", again, once)
				many++
			} else {
				checkDesk(t, "once more, as not all could wait", again, wantHeard(once, w))
				lost++
			}
			d = once
		}
	}
	if many < 2000 || lost < 20 {
		t.Error("too few", many, lost)
	}
}

func TestP65OnceMoreWhenMoreWaitsThanMay(t *testing.T) {
	// All wait for 2.1, and x does; the first time there is no room for it, the second time there is.
	full := waitingDesk(20)
	full.Rep = 3
	full.Doc.Wait = slices.DeleteFunc(fullWait(20).Wait, isBy(3))
	for num := 3; len(full.Doc.Wait) < 20; num++ {
		full.Doc.Wait = append(full.Doc.Wait, put(id(2, num), 'a', right, nothing))
	}
	x, two := put(id(1, 1), 'x', left, id(3, 1)), put(id(2, 1), 'y', right, nothing)
	w := give(3, []int{1, 1, 0}, x, two, put(id(2, 2), 'z', right, nothing))
	once := impl.DeskHear(full, w)
	checkDesk(t, "x is lost", once, wantHeard(full, w))
	if hasId(once.Doc.Wait, x.Id) || hasId(once.Doc.Ops, x.Id) || len(once.Doc.Wait) >= 20 {
		t.Fatal(once)
	}
	again := impl.DeskHear(once, w)
	if !hasId(again.Doc.Wait, x.Id) {
		t.Fatal("x waits", again)
	}
	checkDesk(t, "from then on it stays", impl.DeskHear(again, w), again)
}

// partsOf is a list in parts of so many at most.
func partsOf(list []Op, most int) [][]Op {
	var parts [][]Op
	for len(list) > most {
		parts = append(parts, list[:most])
		list = list[most:]
	}
	return append(parts, list)
}

// deskWithItsOwn has of all that was done just what its Rep did, and what that cannot be without.
func deskWithItsOwn(all []Op, rep int) Desk {
	own := slices.DeleteFunc(slices.Clone(all), func(op Op) bool { return op.Id.Rep != rep })
	for more := true; more; {
		more = false
		for _, op := range own {
			for _, needed := range []Id{op.Ref, id(op.Id.Rep, op.Id.Num-1)} {
				at := slices.IndexFunc(all, func(one Op) bool { return one.Id == needed })
				if at >= 0 && !hasId(own, needed) {
					own, more = with(own, all[at]), true
				}
			}
		}
	}
	return Desk{Rep: rep, Doc: Doc{Ops: own}, Known: []int{0, 0, 0}}
}

func TestP67AsksTillItHasAll(t *testing.T) {
	lists := oneByOne()
	for n, all := range lists {
		for rep := 1; rep <= 3; rep++ {
			d := deskWithItsOwn(all, rep)
			if n%2 == 0 {
				d.Doc.Ops = lacking(&dice{state: uint64(n)}, all, 9)
				d.Doc.Ops = with(nil, together(t, d.Doc.Ops, deskWithItsOwn(all, rep).Doc.Ops)...)
			}
			lacks := len(all) - len(d.Doc.Ops)
			words := 0
			for {
				pull, ok := impl.DeskPull(d)
				if !ok {
					t.Fatal("not ok", d)
				}
				told := pastOf(all, pull.Seen, impl.GiveMax)
				d = impl.DeskHear(d, give(rep, seenOf(all), told...))
				if len(told) == 0 {
					break
				}
				if words++; words > 8 {
					t.Fatal("it never has all", d)
				}
			}
			checkDesk(t, "has all", d, Desk{Rep: rep, Doc: Doc{Ops: all}, Known: seenOf(all)})
			if words != (lacks+4)/5 {
				t.Fatal("as many words as need be", words, lacks)
			}
			if w, ok := impl.DeskPush(d); ok {
				t.Fatal("it knows the hub to have all", w)
			}
		}
	}
}

func TestP67PartByPartInAnyOrder(t *testing.T) {
	r := &dice{state: 433}
	heardOf, lost := 0, 0
	for _, all := range oneByOne() {
		for rep := 1; rep <= 3; rep++ {
			for round := range 4 {
				d := deskWithItsOwn(all, rep)
				order := [][]Op{all, backwards(all), shuffled(r, all), shuffled(r, all)}[round]
				var others []Op
				for _, op := range order {
					if round%2 == 1 || op.Id.Rep != rep {
						others = append(others, op)
					}
				}
				whole := true
				for _, part := range partsOf(others, 1+r.below(5)) {
					w := give(rep, seenOf(all), part...)
					whole = whole && hearsWhole(d, w)
					d = impl.DeskHear(d, w)
				}
				if !whole {
					lost++
					continue
				}
				checkDesk(t, "has all", d, Desk{Rep: rep, Doc: Doc{Ops: all}, Known: seenOf(all)})
				heardOf++
			}
		}
	}
	if heardOf < 1000 || lost < 1 {
		t.Error("too few", heardOf, lost)
	}
}

func TestP67Examples(t *testing.T) {
	from := typeRun(t, nil, 1, 0, "ad")
	all := together(t, typeRun(t, from, 1, 1, "bc"), typeRun(t, from, 2, 1, "xy"))
	d := deskWithItsOwn(all, 2)
	if impl.TreeText(d.Doc.Ops) != "axyd" {
		t.Fatal(d)
	}
	d = impl.DeskHear(d, give(2, []int{4, 2, 0}, all[3]))
	d = impl.DeskHear(d, give(2, []int{4, 2, 0}, all[2]))
	if impl.TreeText(d.Doc.Ops) != "abcxyd" || len(d.Doc.Wait) != 0 || !slices.Equal(d.Known, []int{4, 2, 0}) {
		t.Error(d)
	}
	three, _ := impl.DeskNew(3)
	for _, part := range partsOf(backwards(all), 2) {
		three = impl.DeskHear(three, give(3, []int{4, 2, 0}, part...))
	}
	checkDesk(t, "who did nothing", three, Desk{Rep: 3, Doc: Doc{Ops: all}, Known: []int{4, 2, 0}})
}

func TestP68NothingOfItsOwnIsDoneOrWaits(t *testing.T) {
	r := &dice{state: 439}
	desks, _ := someDesks()
	told := 0
	for _, d := range desks {
		next := doneBy(d.Doc.Ops, d.Rep) + 1
		a := put(id(d.Rep%3+1, 12), 'a', right, nothing)
		for _, own := range []Op{
			put(id(d.Rep, 1), 'q', right, nothing),
			put(id(d.Rep, min(next, 12)), 'q', right, nothing),
			put(id(d.Rep, min(next+1, 12)), 'q', right, nothing),
			put(id(d.Rep, 12), 'q', left, id(d.Rep%3+1, 1)),
			take(id(d.Rep, min(next, 12)), id(d.Rep%3+1, 1)),
		} {
			seen := []int{r.below(13), r.below(13), r.below(13)}
			got := impl.DeskHear(d, give(d.Rep, seen, own))
			checkDesk(t, "only its own", got, Desk{Rep: d.Rep, Doc: d.Doc, Known: seen})
			got = impl.DeskHear(d, give(d.Rep, seen, own, a, own))
			checkDesk(t, "among others", got, Desk{Rep: d.Rep, Doc: heard(d.Doc, a), Known: seen})
			told++
		}
	}
	if told < 2000 {
		t.Error("too few", told)
	}
}

func TestP68Examples(t *testing.T) {
	d, _ := impl.DeskNew(2)
	fresh := put(id(2, 1), 'h', right, nothing)
	got := impl.DeskHear(d, give(2, []int{0, 1, 0}, fresh))
	checkDesk(t, "it could be done", got, Desk{Rep: 2, Known: []int{0, 1, 0}})
	got = impl.DeskHear(d, give(2, []int{0, 2, 0}, put(id(2, 2), 'i', right, id(2, 1))))
	checkDesk(t, "it would wait", got, Desk{Rep: 2, Known: []int{0, 2, 0}})

	// What it did comes back, the same and otherwise: it stays as it did it.
	d = typed(t, 2, "hi")
	for _, back := range []Op{d.Doc.Ops[0], d.Doc.Ops[1], put(id(2, 1), 'x', right, nothing), put(id(2, 2), 'i', left, id(2, 1)), take(id(2, 2), id(2, 1)), take(id(2, 3), id(2, 1))} {
		got = impl.DeskHear(d, give(2, []int{0, 3, 0}, back))
		checkDesk(t, "comes back", got, Desk{Rep: 2, Doc: d.Doc, Known: []int{0, 3, 0}})
		if impl.TreeText(got.Doc.Ops) != "hi" {
			t.Error(got)
		}
	}
	// Its next thing is its own, whatever was told of it.
	got, ok := impl.DeskPut(impl.DeskHear(d, give(2, []int{0, 3, 0}, put(id(2, 3), 'x', right, nothing))), 2, 'j')
	if !ok || impl.TreeText(got.Doc.Ops) != "hij" || !slices.Contains(got.Doc.Ops, put(id(2, 3), 'j', right, id(2, 2))) {
		t.Error(got)
	}
	// What others put beside what it did not do waits, though that is told in the same word.
	o := put(id(1, 1), 'o', right, id(2, 3))
	got = impl.DeskHear(d, give(2, []int{1, 3, 0}, put(id(2, 3), 'x', right, nothing), o))
	checkDesk(t, "beside what it did not do", got, Desk{Rep: 2, Doc: Doc{Ops: d.Doc.Ops, Wait: []Op{o}}, Known: []int{1, 3, 0}})
	// For its own there is no need of room: with WaitMax waiting others still are heard of.
	full := waitingDesk(20)
	a := put(id(3, 1), 'a', right, nothing)
	got = impl.DeskHear(full, give(2, []int{0, 1, 1}, put(id(2, 5), 'x', right, nothing), fresh, a))
	checkDesk(t, "WaitMax wait", got, Desk{Rep: 2, Doc: Doc{Ops: []Op{a}, Wait: full.Doc.Wait}, Known: []int{0, 1, 1}})
}

func TestP68BackFromTheHub(t *testing.T) {
	r := &dice{state: 443}
	for range 150 {
		l := newLived()
		for range 40 {
			l.happen(r)
		}
		for _, d := range l.desks {
			for _, w := range l.gives {
				if w.Rep != d.Rep {
					continue
				}
				// As if the hub told a desk all that it did itself, too.
				w.Ops = append(slices.DeleteFunc(slices.Clone(d.Doc.Ops), func(op Op) bool { return op.Id.Rep != d.Rep }), w.Ops...)
				w.Ops = w.Ops[:min(5, len(w.Ops))]
				got := impl.DeskHear(d, w)
				checkDesk(t, "back", got, wantHeard(d, w))
				if doneBy(got.Doc.Ops, d.Rep) != doneBy(d.Doc.Ops, d.Rep) || slices.ContainsFunc(got.Doc.Wait, isBy(d.Rep)) {
					t.Fatal("something of its own is done, or waits", got, d)
				}
			}
		}
	}
}
