package tests

import (
	"slices"
	"testing"

	"loop.example/tatting/impl"
)

type Hub = impl.Hub

// hubIsOk says by the document's words what is HubOk, apart from the program.
func hubIsOk(h Hub) bool {
	if !docIsOk(h.Doc) || !isIn(h.Kept, h.Doc.Ops) {
		return false
	}
	return h.Up || slices.Equal(h.Doc.Ops, h.Kept) && len(h.Doc.Wait) == 0
}

// wantHub is by the document's words what a hub that is ok is behind HubHear.
func wantHub(h Hub, w Word) Hub {
	out := clonedHub(h)
	if h.Up && w.Kind == 3 && wordIsInForm(w) {
		out.Doc = heardAll(h.Doc, w.Ops)
	}
	return out
}

// wantAnswer is by the document's words what a hub that is ok answers.
func wantAnswer(h Hub, w Word) (Word, bool) {
	if !h.Up || w.Kind != 1 || !wordIsInForm(w) {
		return Word{}, false
	}
	return give(w.Rep, seenOf(h.Doc.Ops), pastOf(h.Doc.Ops, w.Seen, 5)...), true
}

func wantKept(h Hub) Hub {
	out := clonedHub(h)
	out.Kept = slices.Clone(h.Doc.Ops)
	return out
}

func wantFallen(h Hub) Hub {
	return Hub{Doc: Doc{Ops: slices.Clone(h.Kept)}, Kept: slices.Clone(h.Kept)}
}

func wantRisen(h Hub) Hub {
	out := clonedHub(h)
	out.Up = true
	return out
}

func clonedHub(h Hub) Hub {
	return Hub{Up: h.Up, Doc: cloned(h.Doc), Kept: slices.Clone(h.Kept)}
}

func sameHub(a Hub, b Hub) bool {
	return a.Up == b.Up && sameDoc(a.Doc, b.Doc) && slices.Equal(a.Kept, b.Kept)
}

func checkHub(t *testing.T, name string, got Hub, want Hub) {
	t.Helper()
	if !sameHub(got, want) {
		t.Fatalf("%s:\n%v instead of\n%v", name, got, want)
	}
	if !hubIsOk(got) || !impl.HubOk(got) {
		t.Fatal(name, "is not ok", got)
	}
}

// hubHears is HubHear where there must be no answer.
func hubHears(t *testing.T, h Hub, w Word) Hub {
	t.Helper()
	got, answer, ok := impl.HubHear(h, w)
	if ok || !sameWord(answer, Word{}) {
		t.Fatal("there should be no answer", answer, ok, w)
	}
	return got
}

// hubGives is HubHear where the hub must answer, and stay.
func hubGives(t *testing.T, h Hub, w Word) Word {
	t.Helper()
	got, answer, ok := impl.HubHear(h, w)
	if !ok {
		t.Fatal("there should be an answer", w, h)
	}
	checkHub(t, "asked", got, h)
	return answer
}

func push(rep int, ops ...Op) Word {
	return Word{Kind: impl.WordPush, Rep: rep, Ops: ops}
}

func pull(rep int, seen ...int) Word {
	return Word{Kind: impl.WordPull, Rep: rep, Seen: seen}
}

// upHub is up, has done so much, and kept so much of it.
func upHub(ops []Op, kept []Op) Hub {
	return Hub{Up: true, Doc: Doc{Ops: ops}, Kept: kept}
}

func downHub(kept []Op) Hub {
	return Hub{Doc: Doc{Ops: kept}, Kept: kept}
}

// waitingHub has nothing, and at it so many wait for the first of the second Rep.
func waitingHub(many int) Hub {
	return Hub{Up: true, Doc: fullWait(many)}
}

// someKeeps are parts of what a hub has that may be kept: nothing, some, most, and all.
func someKeeps(d *dice, ops []Op) [][]Op {
	return [][]Op{nil, part(d, ops, 1+d.below(2)), lacking(d, ops, 1+d.below(9)), ops}
}

// hubWords are words in form that a hub may hear, telling of that list, and asking for parts of what it has.
func hubWords(d *dice, ops []Op, list []Op) []Word {
	words := []Word{push(d.below(3) + 1), give(d.below(3)+1, []int{d.below(13), 1, 2}, someOps(d, 3)...)}
	list = slices.DeleteFunc(slices.Clone(list), func(op Op) bool { return !formOk(op) })
	for _, some := range partsOf(list, 1+d.below(5)) {
		words = append(words, push(d.below(3)+1, some...))
	}
	for _, seen := range someKnowns(d, ops) {
		words = append(words, pull(d.below(3)+1, seen...))
	}
	if len(words) > 4 {
		words = append(words, words[2])
	}
	return append(words, push(d.below(3)+1, ops[:min(5, len(ops))]...))
}

// livedHubs are hubs as they come to be, up and down, and beside each words that were said in the same life.
func livedHubs() ([]Hub, [][]Word) {
	d := &dice{state: 503}
	var hubs []Hub
	var words [][]Word
	for round := range 60 {
		l := newLived()
		for range round + 5 {
			l.happen(d)
		}
		said := slices.Clone(l.gives[:min(2, len(l.gives))])
		for _, desk := range l.desks {
			said = append(said, wantPull(desk))
			if w, some := wantPush(desk); some {
				said = append(said, w)
			}
		}
		hubs = append(hubs, Hub{Up: true, Doc: l.hub, Kept: l.kept}, downHub(l.kept))
		words = append(words, said, said)
	}
	return hubs, words
}

// someHubs are ok hubs of many kinds, made apart from the program, and beside each words that it may hear.
func someHubs() ([]Hub, [][]Word) {
	d := &dice{state: 509}
	hubs, words := livedHubs()
	docs, lists := someDocs()
	for n, doc := range docs {
		keeps := someKeeps(d, doc.Ops)
		some := []Hub{{Up: true, Doc: doc, Kept: keeps[n%4]}, {Up: true, Doc: doc, Kept: keeps[d.below(4)]}}
		if n%3 == 0 {
			some = append(some, downHub(doc.Ops))
		}
		for _, h := range some {
			hubs = append(hubs, h)
			words = append(words, hubWords(d, doc.Ops, lists[n]))
		}
	}
	return hubs, words
}
