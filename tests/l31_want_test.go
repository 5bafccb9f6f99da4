package tests

import (
	"slices"
	"sync"
	"testing"

	"loop.example/tatting/impl"
)

type (
	World = impl.World
	Event = impl.Event
)

// toldIn is all lists of a world in which things are told.
func toldIn(w World) [][]Op {
	told := [][]Op{w.Hub.Doc.Ops, w.Hub.Doc.Wait, w.Hub.Kept}
	for _, d := range w.Desks {
		told = append(told, d.Doc.Ops, d.Doc.Wait)
	}
	for _, word := range w.Nets {
		told = append(told, word.Ops)
	}
	return told
}

// wasDone says whether the desk of who is told to have done it did just that.
func wasDone(w World, op Op) bool {
	return op.Id.Rep >= 1 && op.Id.Rep <= len(w.Desks) && slices.Contains(w.Desks[op.Id.Rep-1].Doc.Ops, op)
}

// worldIsOk says by the document's words what is WorldOk, apart from the program.
func worldIsOk(w World) bool {
	if len(w.Desks) < 1 || len(w.Desks) > 3 || len(w.Nets) > 10 || !hubIsOk(w.Hub) {
		return false
	}
	for place, d := range w.Desks {
		if d.Rep != place+1 || !deskIsOk(d) {
			return false
		}
	}
	for _, word := range w.Nets {
		if word.Rep > len(w.Desks) || !wordIsInForm(word) {
			return false
		}
	}
	for _, op := range slices.Concat(toldIn(w)...) {
		if !wasDone(w, op) {
			return false
		}
	}
	return true
}

func clonedWord(w Word) Word {
	return Word{Kind: w.Kind, Rep: w.Rep, Seen: slices.Clone(w.Seen), Ops: slices.Clone(w.Ops)}
}

func clonedWorld(w World) World {
	out := World{Hub: clonedHub(w.Hub)}
	for _, d := range w.Desks {
		out.Desks = append(out.Desks, clonedDesk(d))
	}
	for _, word := range w.Nets {
		out.Nets = append(out.Nets, clonedWord(word))
	}
	return out
}

func sameWorld(a World, b World) bool {
	return slices.EqualFunc(a.Desks, b.Desks, sameDesk) && sameHub(a.Hub, b.Hub) && slices.EqualFunc(a.Nets, b.Nets, sameWord)
}

// checkWorld asks for that world, which must be ok.
func checkWorld(t *testing.T, name string, got World, want World) {
	t.Helper()
	if !sameWorld(got, want) {
		t.Fatalf("%s:\n%v instead of\n%v", name, got, want)
	}
	if !worldIsOk(got) || !impl.WorldOk(got) {
		t.Fatal(name, "is not ok", got)
	}
}

// wantNew is by the document's words a world at the beginning.
func wantNew(many int) World {
	w := World{Hub: Hub{Up: true}}
	for rep := 1; rep <= many; rep++ {
		w.Desks = append(w.Desks, Desk{Rep: rep, Known: []int{0, 0, 0}})
	}
	return w
}

// underWay puts a word behind all others, unless that would be one too many.
func underWay(words []Word, word Word, some bool) []Word {
	if !some || len(words) >= 10 {
		return words
	}
	return append(words, clonedWord(word))
}

// wantDo is by the document's words what WorldDo is of a world that is ok.
func wantDo(w World, e Event) World {
	out := clonedWorld(w)
	switch {
	case e.Kind >= 1 && e.Kind <= 4 && e.A >= 1 && e.A <= len(w.Desks):
		wantAtDesk(&out, e)
	case e.Kind >= 5 && e.Kind <= 7 && e.A >= 0 && e.A < len(w.Nets):
		wantWithWord(&out, e)
	case e.Kind == 8:
		out.Hub = wantKept(w.Hub)
	case e.Kind == 9:
		out.Hub = wantFallen(w.Hub)
	case e.Kind == 10:
		out.Hub = wantRisen(w.Hub)
	}
	return out
}

func wantAtDesk(w *World, e Event) {
	d := w.Desks[e.A-1]
	next, can := d, false
	switch e.Kind {
	case 1:
		next, can = wantDeskPut(d, e.At, e.Sign)
	case 2:
		next, can = wantDeskTake(d, e.At)
	case 3:
		w.Nets = underWay(w.Nets, wantPull(d), true)
	case 4:
		word, some := wantPush(d)
		w.Nets = underWay(w.Nets, word, some)
	}
	if can {
		w.Desks[e.A-1] = next
	}
}

func wantWithWord(w *World, e Event) {
	word := w.Nets[e.A]
	if e.Kind == 7 {
		w.Nets = underWay(w.Nets, word, true)
		return
	}
	w.Nets = slices.Delete(slices.Clone(w.Nets), e.A, e.A+1)
	if e.Kind == 6 {
		return
	}
	if word.Kind == 2 {
		w.Desks[word.Rep-1] = wantHeard(w.Desks[word.Rep-1], word)
		return
	}
	answer, some := wantAnswer(w.Hub, word)
	w.Hub = wantHub(w.Hub, word)
	w.Nets = underWay(w.Nets, answer, some)
}

// wantRound is by the document's words one calm round of a world that is ok.
func wantRound(w World) World {
	bringAll := func() {
		for len(w.Nets) > 0 {
			w = wantDo(w, Event{Kind: 5})
		}
	}
	each := func(kind int) {
		for rep := range w.Desks {
			w = wantDo(w, Event{Kind: kind, A: rep + 1})
		}
	}
	w = wantDo(w, Event{Kind: 10})
	bringAll()
	each(3)
	bringAll()
	each(4)
	bringAll()
	return wantDo(w, Event{Kind: 8})
}

func wantCalm(w World, rounds int) World {
	for range rounds {
		w = wantRound(w)
	}
	return w
}

// wantAll is by the document's words what WorldAll is of a world that is ok.
func wantAll(w World) []Op {
	var all []Op
	for _, d := range w.Desks {
		all, _ = merged(all, d.Doc.Ops)
	}
	return all
}

// event is one of that kind, at a desk, or with a word.
func event(kind int, a int) Event { return Event{Kind: kind, A: a} }

func putAt(rep int, place int, sign int) Event {
	return Event{Kind: impl.EvPut, A: rep, At: place, Sign: sign}
}

func takeAt(rep int, place int) Event {
	return Event{Kind: impl.EvTake, A: rep, At: place}
}

// runAt is a run of letters that are typed at a desk, one behind the other.
func runAt(rep int, place int, run string) []Event {
	var events []Event
	for i := range len(run) {
		events = append(events, putAt(rep, place+i, int(run[i])))
	}
	return events
}

// told is what a desk does so that the hub is told, once, and hears it, if nothing else is under way.
func told(rep int) []Event {
	return []Event{event(impl.EvPush, rep), event(impl.EvBring, 0)}
}

// asked is what a desk does to be told, once, if nothing else is under way.
func asked(rep int) []Event {
	return []Event{event(impl.EvPull, rep), event(impl.EvBring, 0), event(impl.EvBring, 0)}
}

// toldTwice is two words under way that tell the same: what the desk has for the hub.
func toldTwice(rep int) []Event {
	return []Event{event(impl.EvPush, rep), event(impl.EvTwice, 0)}
}

func newWorld(t *testing.T, many int) World {
	t.Helper()
	w, ok := impl.WorldNew(many)
	if !ok {
		t.Fatal("there can be so many desks", many)
	}
	return w
}

// played is the world behind all that, which must be so few events that they may be played.
func played(t *testing.T, many int, parts ...[]Event) World {
	t.Helper()
	w, ok := impl.WorldPlay(many, slices.Concat(parts...))
	if !ok {
		t.Fatal("not played", many, parts)
	}
	return w
}

// done is the world behind that many events more.
func done(w World, events ...Event) World {
	for _, e := range events {
		w = impl.WorldDo(w, e)
	}
	return w
}

func texts(w World) []string {
	var all []string
	for _, d := range w.Desks {
		all = append(all, impl.TreeText(d.Doc.Ops))
	}
	return append(all, impl.TreeText(w.Hub.Doc.Ops))
}

// checkTexts asks for the texts of the desks, and then the hub's.
func checkTexts(t *testing.T, name string, w World, want ...string) {
	t.Helper()
	if !slices.Equal(texts(w), want) {
		t.Fatalf("%s: %q instead of %q", name, texts(w), want)
	}
}

// play is how many desks there are, what happens, and the world at the beginning and behind each event, apart from the program.
type play struct {
	many   int
	events []Event
	worlds []World
}

// end is the world behind all of it.
func (p play) end() World { return p.worlds[len(p.worlds)-1] }

// lifeSorts are lives of several sorts: of how many of a hundred events each kind is.
var lifeSorts = [][impl.EvRise]int{
	{26, 6, 10, 12, 36, 2, 2, 2, 2, 2},
	{55, 10, 5, 8, 18, 1, 1, 0, 1, 1},
	{20, 3, 12, 16, 38, 2, 2, 1, 3, 3},
	{20, 4, 20, 26, 12, 4, 9, 1, 2, 2},
	{24, 6, 8, 8, 36, 8, 6, 1, 1, 2},
	{28, 10, 10, 12, 40, 0, 0, 0, 0, 0},
	{16, 14, 13, 14, 36, 1, 1, 2, 1, 2},
	{34, 2, 6, 11, 34, 1, 3, 2, 3, 4},
}

// someEvent is one that mostly can be.
func someEvent(d *dice, w World, sort [impl.EvRise]int) Event {
	if d.below(25) == 0 {
		return wildEvent(d)
	}
	kind, which := 0, d.below(100)
	for which >= 0 && kind < impl.EvRise {
		which -= sort[kind]
		kind++
	}
	e := Event{Kind: kind, A: d.below(len(w.Desks)) + 1, Sign: 'a' + d.below(26)}
	if kind >= impl.EvBring && kind <= impl.EvTwice {
		// The first one mostly, else any: so words come out of turn.
		e.A = max(0, d.below(2*len(w.Nets)+1)-len(w.Nets))
		return e
	}
	if kind == impl.EvPut || kind == impl.EvTake {
		e.At = somePlace(d, w, e.A)
	}
	return e
}

func somePlace(d *dice, w World, rep int) int {
	return d.below(len(textOf(standing(w.Desks[rep-1].Doc.Ops))) + 1)
}

// wildEvent may be of no kind, desk, word, place, or sign that there is.
func wildEvent(d *dice) Event {
	one := func() int {
		if d.below(3) == 0 {
			return farNumbers[d.below(len(farNumbers))]
		}
		return d.below(14) - 1
	}
	return Event{Kind: one(), A: one(), At: one(), Sign: 'a' - 3 + d.below(32)}
}

// someEvents are one, or some that belong together, if nothing else is under way.
func someEvents(d *dice, w World, sort [impl.EvRise]int) []Event {
	rep := d.below(len(w.Desks)) + 1
	switch d.below(20) {
	case 0:
		return runAt(rep, somePlace(d, w, rep), someLetters[:1+d.below(5)])
	case 1:
		return told(rep)
	case 2:
		return asked(rep)
	case 3:
		return slices.Concat(asked(rep), told(rep))
	case 4:
		if d.below(4) == 0 {
			return slices.Concat([]Event{{Kind: impl.EvFall}, {Kind: impl.EvRise}}, told(rep))
		}
	}
	return []Event{someEvent(d, w, sort)}
}

// livedPlay is a play of so many events, of that sort.
func livedPlay(d *dice, many int, length int, sort [impl.EvRise]int) play {
	p := play{many: many, worlds: []World{wantNew(many)}}
	for len(p.events) < length {
		for _, e := range someEvents(d, p.end(), sort) {
			if len(p.events) < length {
				p.worlds = append(p.worlds, wantDo(p.end(), e))
				p.events = append(p.events, e)
			}
		}
	}
	return p
}

// somePlays are made but once; what they are is not to be changed.
var somePlays = sync.OnceValue(func() []play {
	d := &dice{state: 601}
	var plays []play
	for round := range 1000 {
		length := impl.PlayMax
		if round%4 == 0 {
			length = d.below(impl.PlayMax + 1)
		}
		plays = append(plays, livedPlay(d, []int{3, 2, 3, 1, 2, 3, 2}[round%7], length, lifeSorts[round%len(lifeSorts)]))
	}
	return plays
})

// calmWorlds are the worlds that somePlays come to behind CalmMax calm rounds, by the program.
var calmWorlds = sync.OnceValue(func() []World {
	var calm []World
	for _, p := range somePlays() {
		calm = append(calm, impl.WorldCalm(clonedWorld(p.end()), impl.CalmMax))
	}
	return calm
})

// someWorld is made by hand of what was done: all parts have what they may, and words tell and ask for anything.
func someWorld(d *dice, all []Op) World {
	w := World{Hub: Hub{Up: true}}
	many := len(all)
	for rep := 1; rep <= 3; rep++ {
		desk := deskWithItsOwn(all, rep)
		if d.below(2) == 0 {
			others := slices.DeleteFunc(shuffled(d, all), isBy(rep))
			desk.Doc = heardAll(desk.Doc, others[:d.below(len(others)+1)])
		}
		desk.Known = []int{d.below(13), d.below(13), d.below(13)}
		w.Desks = append(w.Desks, desk)
	}
	w.Hub.Doc = heardAll(Doc{Ops: part(d, all, d.below(4))}, shuffled(d, all)[:d.below(many+1)])
	w.Hub.Kept = part(d, w.Hub.Doc.Ops, d.below(5))
	if d.below(4) == 0 {
		w.Hub = wantFallen(w.Hub)
	}
	for range d.below(11) {
		rep, seen := d.below(3)+1, []int{d.below(13), d.below(13), d.below(13)}
		some := shuffled(d, all)[:d.below(min(5, many)+1)]
		w.Nets = append(w.Nets, []Word{pull(rep, seen...), give(rep, seen, some...), push(rep, some...)}[d.below(3)])
	}
	return w
}

// fewerDesks leaves all that later desks did out, if nothing of the others hangs on it, and says so.
func fewerDesks(w World, many int) (World, bool) {
	out := clonedWorld(w)
	out.Desks = out.Desks[:many]
	out.Nets = slices.DeleteFunc(out.Nets, func(word Word) bool { return word.Rep > many })
	return out, worldIsOk(out)
}

// someWorlds are ok worlds made by hand, such as may not come to be by any events, among them some whose things can never be told.
var someWorlds = sync.OnceValue(func() []World {
	d := &dice{state: 607}
	var worlds []World
	for n, all := range slices.Concat(oneByOne(), okLists(), okLists()) {
		w := someWorld(d, all)
		worlds = append(worlds, w)
		if fewer, ok := fewerDesks(w, 1+n%2); ok {
			worlds = append(worlds, fewer)
		}
	}
	return worlds
})
