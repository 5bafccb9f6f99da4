package tests

import (
	"slices"
	"testing"

	"loop.example/tatting/impl"
)

type (
	Desk = impl.Desk
	Word = impl.Word
)

func numbersAre(list []int) bool {
	return len(list) == 3 && !slices.ContainsFunc(list, func(many int) bool { return many < 0 || many > 12 })
}

func isBy(rep int) func(Op) bool {
	return func(op Op) bool { return op.Id.Rep == rep }
}

// deskIsOk says by the document's words what is DeskOk, apart from the program.
func deskIsOk(d Desk) bool {
	return d.Rep >= 1 && d.Rep <= 3 && docIsOk(d.Doc) && !slices.ContainsFunc(d.Doc.Wait, isBy(d.Rep)) && numbersAre(d.Known)
}

// wordIsInForm says by the document's words what words are in form.
func wordIsInForm(w Word) bool {
	if w.Rep < 1 || w.Rep > 3 || len(w.Ops) > 5 || slices.ContainsFunc(w.Ops, func(op Op) bool { return !formOk(op) }) {
		return false
	}
	switch w.Kind {
	case 1:
		return numbersAre(w.Seen) && len(w.Ops) == 0
	case 2:
		return numbersAre(w.Seen)
	case 3:
		return len(w.Seen) == 0
	}
	return false
}

// wantTyped is by the document's words what DeskPut and DeskTake are of an ok desk, by what is typed.
func wantTyped(d Desk, op Op, can bool) (Desk, bool) {
	if !can {
		return Desk{}, false
	}
	return Desk{Rep: d.Rep, Doc: heard(d.Doc, op), Known: slices.Clone(d.Known)}, true
}

func wantDeskPut(d Desk, at int, sign int) (Desk, bool) {
	op, can := wantPut(d.Doc.Ops, standing(d.Doc.Ops), d.Rep, at, sign)
	return wantTyped(d, op, can)
}

func wantDeskTake(d Desk, at int) (Desk, bool) {
	op, can := wantTake(d.Doc.Ops, standing(d.Doc.Ops), d.Rep, at)
	return wantTyped(d, op, can)
}

func wantPull(d Desk) Word {
	return Word{Kind: 1, Rep: d.Rep, Seen: seenOf(d.Doc.Ops)}
}

func wantPush(d Desk) (Word, bool) {
	told := pastOf(d.Doc.Ops, d.Known, 5)
	if len(told) == 0 {
		return Word{}, false
	}
	return Word{Kind: 3, Rep: d.Rep, Ops: told}, true
}

// wantHeard is by the document's words what DeskHear is of an ok desk.
func wantHeard(d Desk, w Word) Desk {
	if w.Kind != 2 || w.Rep != d.Rep || !wordIsInForm(w) {
		return clonedDesk(d)
	}
	others := slices.DeleteFunc(slices.Clone(w.Ops), isBy(d.Rep))
	return Desk{Rep: d.Rep, Doc: heardAll(d.Doc, others), Known: slices.Clone(w.Seen)}
}

func clonedDesk(d Desk) Desk {
	return Desk{Rep: d.Rep, Doc: cloned(d.Doc), Known: slices.Clone(d.Known)}
}

func sameDesk(a Desk, b Desk) bool {
	return a.Rep == b.Rep && sameDoc(a.Doc, b.Doc) && slices.Equal(a.Known, b.Known)
}

func sameWord(a Word, b Word) bool {
	return a.Kind == b.Kind && a.Rep == b.Rep && slices.Equal(a.Seen, b.Seen) && slices.Equal(a.Ops, b.Ops)
}

func checkDesk(t *testing.T, name string, got Desk, want Desk) {
	t.Helper()
	if !sameDesk(got, want) {
		t.Fatalf("%s:\n%v instead of\n%v", name, got, want)
	}
	if !deskIsOk(got) || !impl.DeskOk(got) {
		t.Fatal(name, "is not ok", got)
	}
}

// checkNoDesk is the fixed answer of what cannot be.
func checkNoDesk(t *testing.T, name string, got Desk, ok bool) {
	t.Helper()
	if ok || !sameDesk(got, Desk{}) {
		t.Fatal(name, "should be nothing and false", got, ok)
	}
}

// typed is a desk at which so many things were typed one behind the other, of which it heard no other ones.
func typed(t *testing.T, rep int, run string) Desk {
	t.Helper()
	d, ok := impl.DeskNew(rep)
	for at := range len(run) {
		if ok {
			d, ok = impl.DeskPut(d, at, int(run[at]))
		}
	}
	if !ok {
		t.Fatal("not typed", rep, run)
	}
	return d
}

func give(rep int, seen []int, ops ...Op) Word {
	return Word{Kind: impl.WordGive, Rep: rep, Seen: seen, Ops: ops}
}

// someKnowns are nothing, all, what was done there, and any numbers that there may be.
func someKnowns(d *dice, ops []Op) [][]int {
	return [][]int{
		{0, 0, 0}, {12, 12, 12}, seenOf(ops), seenOf(part(d, ops, 1+d.below(2))), seenOf(lacking(d, ops, 1+d.below(9))),
		{d.below(13), d.below(13), d.below(13)}, {d.below(4), d.below(4), d.below(4)},
	}
}

// lived is desks and a hub's doc while they live, apart from the program, and all that was told to the desks.
type lived struct {
	desks []Desk
	hub   Doc
	kept  []Op
	gives []Word
}

func newLived() *lived {
	l := &lived{}
	for rep := 1; rep <= 3; rep++ {
		l.desks = append(l.desks, Desk{Rep: rep, Known: []int{0, 0, 0}})
	}
	return l
}

// happen lets anything happen that may: words that were told come again, and late, and the hub falls.
func (l *lived) happen(d *dice) {
	one := d.below(3)
	desk := l.desks[one]
	leaves := standing(desk.Doc.Ops)
	many := len(textOf(leaves))
	next, can := desk, false
	switch d.below(10) {
	case 0, 1, 2:
		next, can = wantDeskPut(desk, d.below(many+1), 'a'+d.below(26))
	case 3:
		next, can = wantDeskTake(desk, d.below(many+1))
	case 4, 5:
		l.gives = append(l.gives, give(one+1, seenOf(l.hub.Ops), pastOf(l.hub.Ops, seenOf(desk.Doc.Ops), 5)...))
		next, can = wantHeard(desk, l.gives[len(l.gives)-1]), true
	case 6:
		w, _ := wantPush(desk)
		l.hub = heardAll(l.hub, w.Ops)
	case 7:
		w, _ := wantPush(desk)
		l.hub = heardAll(l.hub, backwards(w.Ops))
	case 8:
		if len(l.gives) > 0 {
			w := l.gives[d.below(len(l.gives))]
			one = w.Rep - 1
			next, can = wantHeard(l.desks[one], w), true
		}
	case 9:
		switch d.below(4) {
		case 0:
			l.hub = Doc{Ops: slices.Clone(l.kept)}
		case 1:
			l.kept = slices.Clone(l.hub.Ops)
		}
	}
	if can {
		l.desks[one] = next
	}
}

// livedDesks are desks as they come to be, and beside each words that were told in the same life, to it and to others.
func livedDesks() ([]Desk, [][]Word) {
	d := &dice{state: 401}
	var desks []Desk
	var words [][]Word
	for round := range 60 {
		l := newLived()
		for range round + 5 {
			l.happen(d)
		}
		for _, desk := range l.desks {
			desks = append(desks, desk)
			some := []Word{give(desk.Rep, seenOf(l.hub.Ops), pastOf(l.hub.Ops, seenOf(desk.Doc.Ops), 5)...)}
			for range 4 {
				if len(l.gives) > 0 {
					some = append(some, l.gives[d.below(len(l.gives))])
				}
			}
			words = append(words, some)
		}
	}
	return desks, words
}

// someWords is words in form, most to that desk, telling of those things, some of them its own.
func someWords(d *dice, rep int, list []Op) []Word {
	list = slices.DeleteFunc(slices.Clone(list), func(op Op) bool { return !formOk(op) })
	var words []Word
	for len(list) > 0 {
		many := min(len(list), d.below(6))
		to := rep
		if d.below(6) == 0 {
			to = d.below(3) + 1
		}
		words = append(words, give(to, []int{d.below(13), d.below(13), d.below(13)}, list[:many]...))
		list = list[many:]
	}
	return append(words, wantPull(Desk{Rep: rep}), Word{Kind: impl.WordPush, Rep: rep, Ops: someOps(d, 3)}, give(rep, []int{1, 2, 3}))
}

// someDesks are ok desks of many kinds, made apart from the program, and beside each words that it may hear.
func someDesks() ([]Desk, [][]Word) {
	d := &dice{state: 409}
	desks, words := livedDesks()
	docs, lists := someDocs()
	for n, doc := range docs {
		for rep := 1; rep <= 3; rep++ {
			knowns := someKnowns(d, doc.Ops)
			desk := Desk{Rep: rep, Doc: doc, Known: knowns[d.below(len(knowns))]}
			if deskIsOk(desk) {
				desks = append(desks, desk)
				words = append(words, someWords(d, rep, append(slices.Clone(lists[n]), doc.Ops[:min(3, len(doc.Ops))]...)))
			}
		}
	}
	return desks, words
}

// waitingDesk is a desk of the second Rep, with nothing done, at which so many wait for what it did not do yet.
func waitingDesk(many int) Desk {
	return Desk{Rep: 2, Doc: fullWait(many), Known: []int{0, 0, 0}}
}

// fullDesk has done all that it may, each sign but the first put on the right of the one ahead.
func fullDesk(t *testing.T, rep int) Desk {
	t.Helper()
	return typed(t, rep, someLetters)
}
