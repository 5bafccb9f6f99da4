package tests

import (
	"fmt"
	"math"
	"slices"
	"testing"

	"loop.example/tatting/impl"
)

func TestP69PullIsAnsweredAsTheDocumentSays(t *testing.T) {
	hubs, words := someHubs()
	full, fewer, none := 0, 0, 0
	for n, h := range hubs {
		for _, w := range words[n] {
			if w.Kind != impl.WordPull || !h.Up {
				continue
			}
			want, _ := wantAnswer(h, w)
			got := hubGives(t, h, w)
			if !sameWord(got, want) || !wordIsInForm(got) {
				t.Fatalf("%v instead of %v, of %v", got, want, h)
			}
			if got.Kind != impl.WordGive || got.Rep != w.Rep || !slices.Equal(got.Seen, impl.OpsSeen(h.Doc.Ops)) {
				t.Fatal("to who asked: how much it has", got, w, h)
			}
			for _, op := range got.Ops {
				if !slices.Contains(h.Doc.Ops, op) || saw(w.Seen, op.Id) {
					t.Fatal("it does not have it, or it was seen", op, w, h)
				}
			}
			switch {
			case len(got.Ops) == impl.GiveMax:
				full++
			case len(got.Ops) > 0:
				fewer++
			default:
				none++
			}
		}
	}
	if full < 500 || fewer < 300 || none < 500 {
		t.Error("too few", full, fewer, none)
	}
}

func TestP69GiveMax(t *testing.T) {
	for many := range 13 {
		h := upHub(rowBy(1, many), nil)
		for seen := range 13 {
			w := hubGives(t, h, pull(2, seen, 0, 0))
			want := rowBy(1, many)[min(many, seen):]
			if !sameWord(w, give(2, []int{many, 0, 0}, want[:min(5, len(want))]...)) {
				t.Fatal(w, many, seen)
			}
		}
	}
	// Five at once, seven times, and the last one.
	h := upHub(chain(36), nil)
	for _, seen := range []int{0, 1, 5, 11, 12} {
		if w := hubGives(t, h, pull(3, 12, seen, 0)); len(w.Ops) != 5 || w.Ops[0].Id != id(2+seen/12, seen%12+1) {
			t.Error(w, seen)
		}
	}
	for seen := 7; seen <= 12; seen++ {
		if w := hubGives(t, h, pull(3, 12, 12, seen)); len(w.Ops) != 12-seen {
			t.Error(w, seen)
		}
	}
}

func TestP69Examples(t *testing.T) {
	a, b, x, c := put(id(1, 1), 'a', right, nothing), put(id(1, 2), 'b', right, id(1, 1)), put(id(2, 1), 'x', left, id(1, 2)), take(id(3, 1), id(2, 1))
	h := upHub([]Op{a, b, x, c}, []Op{a})
	for _, one := range []struct {
		seen []int
		want []Op
	}{
		{[]int{0, 0, 0}, []Op{a, b, x, c}},
		{[]int{1, 0, 0}, []Op{b, x, c}},
		{[]int{2, 0, 0}, []Op{x, c}},
		{[]int{2, 1, 0}, []Op{c}},
		{[]int{2, 1, 1}, nil},
		{[]int{12, 12, 12}, nil},
		{[]int{0, 1, 0}, []Op{a, b, c}},
		{[]int{0, 0, 1}, []Op{a, b, x}},
		{[]int{2, 0, 12}, []Op{x}},
	} {
		for rep := 1; rep <= 3; rep++ {
			if w := hubGives(t, h, pull(rep, one.seen...)); !sameWord(w, give(rep, []int{2, 1, 1}, one.want...)) {
				t.Error(w, one.seen)
			}
		}
	}
	// What refers to a later one is told behind that; what waits, and what is kept, does not matter.
	h = Hub{Up: true, Doc: Doc{Ops: okOps(t, "1.1 put a right 2.2\n2.1 put b right 0.0\n2.2 put c right 2.1\n"), Wait: []Op{put(id(3, 2), 'w', right, nothing)}}}
	if w := hubGives(t, h, pull(1, 0, 0, 0)); !sameWord(w, give(1, []int{1, 2, 0}, h.Doc.Ops[1], h.Doc.Ops[2], h.Doc.Ops[0])) {
		t.Error(w)
	}
	if w := hubGives(t, h, pull(3, 0, 2, 0)); !sameWord(w, give(3, []int{1, 2, 0}, h.Doc.Ops[0])) {
		t.Error(w)
	}
	// Who asks is told of his own things, too, and of none that can never be told.
	h = upHub(okOps(t, "1.1 put a right 1.2\n1.2 put b right 0.0\n2.1 put c right 0.0\n"), nil)
	if w := hubGives(t, h, pull(2, 0, 0, 0)); !sameWord(w, give(2, []int{2, 1, 0}, h.Doc.Ops[2])) {
		t.Error(w)
	}
	for many := range impl.WaitMax + 1 {
		if w := hubGives(t, waitingHub(many), pull(3, 0, 0, 0)); !sameWord(w, give(3, []int{0, 0, 0})) {
			t.Error("what waits was not done", w)
		}
	}
}

func TestP70PushIsHeardAsTheDocumentSays(t *testing.T) {
	hubs, words := someHubs()
	done, waits, lost, stayed := 0, 0, 0, 0
	for n, h := range hubs {
		if !h.Up {
			continue
		}
		for _, w := range words[n] {
			if !wordIsInForm(w) {
				t.Fatal("not in form", w)
			}
			got, _, _ := impl.HubHear(h, w)
			checkHub(t, "HubHear", got, wantHub(h, w))
			if w.Kind != impl.WordPush {
				stayed++
				continue
			}
			hubHears(t, h, w)
			if !sameDoc(got.Doc, impl.DocAll(h.Doc, w.Ops)) || !got.Up || !slices.Equal(got.Kept, h.Kept) {
				t.Fatal("its doc is DocAll of that, all else stays", got, h, w)
			}
			for _, op := range w.Ops {
				switch {
				case hasId(h.Doc.Ops, op.Id) || hasId(h.Doc.Wait, op.Id):
				case hasId(got.Doc.Ops, op.Id):
					done++
				case hasId(got.Doc.Wait, op.Id):
					waits++
				default:
					lost++
				}
			}
			h = got
		}
	}
	if done < 500 || waits < 500 || lost < 30 || stayed < 1000 {
		t.Error("too few", done, waits, lost, stayed)
	}
}

func TestP70NothingGoes(t *testing.T) {
	hubs, words := someHubs()
	for n, h := range hubs {
		for _, w := range words[n] {
			got, _, _ := impl.HubHear(h, w)
			if !hubIsOk(got) || !impl.HubOk(got) || got.Up != h.Up {
				t.Fatal("it is ok, and up if it was", got, h)
			}
			for _, op := range h.Doc.Ops {
				if !slices.Contains(got.Doc.Ops, op) {
					t.Fatal("what was done goes", op, h, w)
				}
			}
			for _, op := range h.Doc.Wait {
				if !slices.Contains(got.Doc.Ops, op) && !slices.Contains(got.Doc.Wait, op) {
					t.Fatal("what waits goes", op, h, w)
				}
			}
			if !slices.Equal(got.Kept, h.Kept) {
				t.Fatal("what is kept is as it was", got, h, w)
			}
			h = got
		}
	}
}

func TestP70Examples(t *testing.T) {
	ops := typeRun(t, nil, 1, 0, "abcdefg")
	h := hubHears(t, impl.HubNew(), push(1, ops[:5]...))
	checkHub(t, "GiveMax", h, upHub(ops[:5], nil))
	checkHub(t, "one more", hubHears(t, impl.HubNew(), push(1, ops[:6]...)), impl.HubNew())
	h = impl.HubKeep(h)
	if w := hubGives(t, h, pull(3, 2, 0, 0)); !sameWord(w, give(3, []int{5, 0, 0}, ops[2:5]...)) {
		t.Error(w)
	}
	h = hubHears(t, h, push(1, ops[6]))
	checkHub(t, "waits", h, Hub{Up: true, Doc: Doc{Ops: ops[:5], Wait: ops[6:]}, Kept: ops[:5]})
	h = hubHears(t, h, push(2, ops[5]))
	checkHub(t, "whoever tells of it", h, upHub(ops, ops[:5]))
	// In the order of the word: the first one of an id counts, and of what was done nothing is done otherwise.
	x, y := put(id(3, 1), 'x', right, nothing), put(id(3, 1), 'y', right, nothing)
	for _, two := range [][]Op{{x, y}, {y, x}} {
		got := hubHears(t, h, push(3, two...))
		checkHub(t, "the first one", got, upHub(with(ops, two[0]), ops[:5]))
		checkHub(t, "it stays so", hubHears(t, got, push(3, two[1])), got)
	}
	checkHub(t, "of none", hubHears(t, h, push(1)), h)
	checkHub(t, "seen empty", hubHears(t, h, Word{Kind: impl.WordPush, Rep: 3, Seen: []int{}, Ops: []Op{x}}), upHub(with(ops, x), ops[:5]))
	checkHub(t, "a taking", hubHears(t, h, push(2, take(id(2, 1), id(1, 1)))), upHub(with(ops, take(id(2, 1), id(1, 1))), ops[:5]))
	// One lets the others go, that waited.
	row := rowBy(2, 6)
	h = hubHears(t, impl.HubNew(), push(2, backwards(row[1:])...))
	checkHub(t, "all wait", h, Hub{Up: true, Doc: Doc{Wait: row[1:]}})
	checkHub(t, "all are done", hubHears(t, h, push(2, row[0])), upHub(row, nil))
}

func TestP70WaitMax(t *testing.T) {
	more := []Op{take(id(3, 11), id(2, 1)), take(id(3, 12), id(2, 1))}
	h := waitingHub(19)
	checkHub(t, "the last one that may wait", hubHears(t, h, push(3, more...)), Hub{Up: true, Doc: Doc{Wait: with(h.Doc.Wait, more[0])}})
	checkHub(t, "in the order of the word", hubHears(t, h, push(3, backwards(more)...)), Hub{Up: true, Doc: Doc{Wait: with(h.Doc.Wait, more[1])}})
	full := waitingHub(20)
	checkHub(t, "one more than WaitMax", hubHears(t, full, push(3, more[0])), full)
	a := put(id(3, 1), 'a', right, nothing)
	got := hubHears(t, full, push(3, more[0], a, more[1]))
	checkHub(t, "what can be done is", got, Hub{Up: true, Doc: Doc{Ops: []Op{a}, Wait: full.Doc.Wait}})
	got = hubHears(t, full, push(2, put(id(2, 1), 'b', right, nothing), more[0]))
	if len(got.Doc.Ops) != 1 || len(got.Doc.Wait) != 20 || hasId(got.Doc.Wait, more[0].Id) {
		t.Fatal("all wait for the ones ahead still", got)
	}
	got = hubHears(t, full, push(2, put(id(2, 1), 'b', right, nothing), put(id(1, 1), 'a', right, nothing), more[0]))
	checkHub(t, "what waited is done, and leaves room", got, Hub{Up: true, Doc: heardAll(full.Doc, []Op{put(id(2, 1), 'b', right, nothing), put(id(1, 1), 'a', right, nothing), more[0]})})
	if !hasId(got.Doc.Wait, more[0].Id) || len(got.Doc.Ops) != 13 {
		t.Fatal(got)
	}
}

// hubHearsWhole says whether nothing of a word is lost at a hub as too much waits, apart from the program.
func hubHearsWhole(h Hub, w Word) bool {
	got := wantHub(h, w)
	return !slices.ContainsFunc(w.Ops, func(op Op) bool { return !hasId(got.Doc.Ops, op.Id) && !hasId(got.Doc.Wait, op.Id) })
}

func TestP71OnceMore(t *testing.T) {
	hubs, words := someHubs()
	many, lost := 0, 0
	for n, h := range hubs {
		for _, w := range words[n] {
			once, first, _ := impl.HubHear(h, w)
			again, second, _ := impl.HubHear(once, w)
			if !sameWord(first, second) {
				t.Fatal("another answer", first, second, h)
			}
			if w.Kind != impl.WordPush || !h.Up || hubHearsWhole(h, w) {
				checkHub(t, "once more", again, once)
				many++
			} else {
				checkHub(t, "once more, as not all could wait", again, wantHub(once, w))
				lost++
			}
			h = once
		}
	}
	if many < 3000 || lost < 20 {
		t.Error("too few", many, lost)
	}
}

func TestP71OnceMoreWhenMoreWaitsThanMay(t *testing.T) {
	// All wait for 2.1, and x does; the first time there is no room for it, the second time there is.
	full := waitingHub(20)
	x, row := put(id(3, 12), 'x', left, id(2, 1)), []Op{put(id(2, 1), 'y', right, nothing), put(id(1, 1), 'z', right, nothing)}
	w := push(2, append([]Op{x}, row...)...)
	once := hubHears(t, full, w)
	checkHub(t, "x is lost", once, wantHub(full, w))
	if hasId(once.Doc.Wait, x.Id) || len(once.Doc.Wait) >= 20 {
		t.Fatal(once)
	}
	again := hubHears(t, once, w)
	if !hasId(again.Doc.Wait, x.Id) {
		t.Fatal("x waits", again)
	}
	checkHub(t, "from then on it stays", hubHears(t, again, w), again)
}

// wrongHubWords are not in form, one for each way, each asking, or telling of something new, if it were not for that.
func wrongHubWords() map[string]Word {
	a := put(id(1, 1), 'a', right, nothing)
	row := rowBy(1, 6)
	words := map[string]Word{
		"nothing":              {},
		"no kind, asking":      {Rep: 1, Seen: []int{0, 0, 0}},
		"no kind, telling":     {Rep: 1, Ops: []Op{a}},
		"no Rep, asking":       {Kind: impl.WordPull, Seen: []int{0, 0, 0}},
		"no Rep, telling":      {Kind: impl.WordPush, Ops: []Op{a}},
		"a pull that tells":    {Kind: impl.WordPull, Rep: 1, Seen: []int{0, 0, 0}, Ops: []Op{a}},
		"a push of six":        push(1, row...),
		"a push of far more":   push(1, slices.Repeat(row, 500)...),
		"a push of six, twice": push(1, append(row[:5:5], row[0])...),
		"six, the last no one": push(1, append(row[:5:5], Op{})...),
	}
	for many, seen := range map[int][]int{0: nil, 1: {0}, 2: {0, 0}, 3: {0, 0, 0}, 4: {0, 0, 0, 0}, 5000: make([]int, 5000)} {
		if many != 3 {
			words[fmt.Sprint("a pull of ", many)] = pull(1, seen...)
		}
		if many != 0 {
			words[fmt.Sprint("a push that saw ", many)] = Word{Kind: impl.WordPush, Rep: 1, Seen: seen, Ops: []Op{a}}
		}
	}
	words["a pull that is empty"] = Word{Kind: impl.WordPull, Rep: 1, Seen: []int{}}
	for _, far := range []int{math.MinInt, -2, -1, 0, 4, 5, 256 + 1, 256 + 3, 1<<32 + 1, 1<<32 + 3, math.MaxInt} {
		words[fmt.Sprint("asks, Rep ", far)] = pull(far, 0, 0, 0)
		words[fmt.Sprint("tells, Rep ", far)] = push(far, a)
		words[fmt.Sprint("asks, kind ", far)] = Word{Kind: far, Rep: 1, Seen: []int{0, 0, 0}}
		words[fmt.Sprint("tells, kind ", far)] = Word{Kind: far, Rep: 1, Ops: []Op{a}}
	}
	for _, far := range []int{math.MinInt, -12, -1, 13, 14, 256, 1 << 32, math.MaxInt} {
		for place := range 3 {
			out := []int{0, 12, 0}
			out[place] = far
			words[fmt.Sprint("seen ", out)] = pull(1, out...)
		}
	}
	for _, op := range notInForm() {
		words["tells "+fmt.Sprint(op)] = push(1, op)
		words["tells something, and "+fmt.Sprint(op)] = push(1, a, op)
	}
	words["the last one is not in form"] = push(1, row[0], row[1], row[2], row[3], Op{})
	words["the first one is not in form"] = push(1, Op{}, row[0], row[1], row[2], row[3])
	return words
}

func TestP76WordsThatAreNotInForm(t *testing.T) {
	words := wrongHubWords()
	if len(words) < 800 {
		t.Error("too few", len(words))
	}
	hubs := []Hub{impl.HubNew(), upHub(rowBy(2, 9), rowBy(2, 4)), waitingHub(7), upHub(chain(36), chain(36)), upHub(fullOps(), nil)}
	for name, w := range words {
		if wordIsInForm(w) {
			t.Fatal("is in form", name, w)
		}
		for _, h := range hubs {
			checkHub(t, name, hubHears(t, h, w), h)
		}
	}
	for _, w := range wrongWords(2) {
		for _, h := range hubs {
			checkHub(t, "not in form, to a desk", hubHears(t, h, w), h)
		}
	}
}

func TestP76Give(t *testing.T) {
	r := &dice{state: 523}
	hubs, _ := someHubs()
	for _, h := range hubs {
		rep := r.below(3) + 1
		next := put(id(rep, doneBy(h.Doc.Ops, rep)%12+1), 'a', right, nothing)
		for _, w := range []Word{
			give(rep, []int{0, 0, 0}),
			give(rep, []int{12, 12, 12}, next),
			give(rep, seenOf(h.Doc.Ops), someOps(r, 5)...),
			give(rep, []int{r.below(13), r.below(13), r.below(13)}, h.Doc.Ops[:min(5, len(h.Doc.Ops))]...),
		} {
			if !wordIsInForm(w) {
				t.Fatal("not in form", w)
			}
			checkHub(t, "it stays", hubHears(t, h, w), h)
		}
		// Nor does it hear what it said itself.
		if h.Up {
			checkHub(t, "its own", hubHears(t, h, hubGives(t, h, pull(rep, 0, 0, 0))), h)
		}
	}
}
