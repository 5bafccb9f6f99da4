package tests

import (
	"math"
	"slices"
	"testing"

	"loop.example/tatting/impl"
)

// shownOf is those of leaves that are not gone.
func shownOf(leaves []Leaf) []Leaf {
	return slices.DeleteFunc(slices.Clone(leaves), func(l Leaf) bool { return l.Gone })
}

// wantAt is by the document's words what MarkAt tells of what is ok and stands so, apart from the program.
func wantAt(leaves []Leaf, at int) (Id, bool) {
	shown := shownOf(leaves)
	if at < 0 || at > len(shown) {
		return nothing, false
	}
	if at == 0 {
		return nothing, true
	}
	return shown[at-1].Id, true
}

// wantPlace is the same of MarkPlace.
func wantPlace(leaves []Leaf, mark Id) (int, bool) {
	if mark == nothing {
		return 0, true
	}
	stands := slices.IndexFunc(leaves, func(l Leaf) bool { return l.Id == mark })
	if stands < 0 {
		return 0, false
	}
	return len(textOf(leaves[:stands+1])), true
}

// wantSpan is the same of MarkSpan.
func wantSpan(leaves []Leaf, a Id, b Id) string {
	from, fromTold := wantPlace(leaves, a)
	to, toTold := wantPlace(leaves, b)
	span := ""
	for place, l := range shownOf(leaves) {
		if fromTold && toTold && from <= place && place < to {
			span += string(rune(l.Sign))
		}
	}
	return span
}

// marksOf are all marks of signs that stand so: nothing, and behind each, gone or not.
func marksOf(leaves []Leaf) []Id {
	marks := []Id{nothing}
	for _, l := range leaves {
		marks = append(marks, l.Id)
	}
	return marks
}

// markPlace is MarkPlace where it must be told.
func markPlace(t *testing.T, ops []Op, mark Id) int {
	t.Helper()
	place, ok := impl.MarkPlace(ops, mark)
	if !ok {
		t.Fatal("not told", mark, ops)
	}
	return place
}

func checkAt(t *testing.T, ops []Op, at int, want Id) {
	t.Helper()
	if mark, ok := impl.MarkAt(ops, at); !ok || mark != want {
		t.Errorf("%v %v instead of %v, at %d of\n%s", mark, ok, want, at, impl.OpsText(ops))
	}
}

func checkNotAt(t *testing.T, ops []Op, at int) {
	t.Helper()
	if mark, ok := impl.MarkAt(ops, at); ok || mark != nothing {
		t.Errorf("%v %v instead of nothing and false, at %d of\n%s", mark, ok, at, impl.OpsText(ops))
	}
}

func checkPlace(t *testing.T, ops []Op, mark Id, want int) {
	t.Helper()
	if place, ok := impl.MarkPlace(ops, mark); !ok || place != want {
		t.Errorf("%d %v instead of %d, of %v in\n%s", place, ok, want, mark, impl.OpsText(ops))
	}
}

func checkNoPlace(t *testing.T, ops []Op, mark Id) {
	t.Helper()
	if place, ok := impl.MarkPlace(ops, mark); ok || place != 0 {
		t.Errorf("%d %v instead of 0 and false, of %v in\n%s", place, ok, mark, impl.OpsText(ops))
	}
}

func checkSpan(t *testing.T, ops []Op, a Id, b Id, want string) {
	t.Helper()
	if span := impl.MarkSpan(ops, a, b); span != want {
		t.Errorf("%q instead of %q, from %v to %v of\n%s", span, want, a, b, impl.OpsText(ops))
	}
}

// holedOps is of six signs the text bd: a, c, and both at the end are gone, and each was taken away in another way.
func holedOps(t *testing.T) []Op {
	t.Helper()
	return okOps(t, "1.1 put a right 0.0\n1.2 put b right 1.1\n1.3 put c right 1.2\n1.4 put d right 1.3\n1.5 put e right 1.4\n1.6 put f right 1.5\n"+
		"2.1 take 1.1\n2.2 take 1.3\n2.3 take 1.5\n3.1 take 1.3\n3.2 take 1.6\n")
}

func TestP52PlaceOfAtIsThePlace(t *testing.T) {
	all := 0
	for _, ops := range typeLists() {
		for at := range len(impl.TreeText(ops)) + 1 {
			mark, ok := impl.MarkAt(ops, at)
			if !ok {
				t.Fatal("there is such a place", at, ops)
			}
			if place := markPlace(t, ops, mark); place != at {
				t.Fatal(place, at, mark, ops)
			}
			all++
		}
	}
	if all < 3000 {
		t.Error("too few", all)
	}
}

func TestP52AtIsAsTheDocumentSays(t *testing.T) {
	for _, ops := range typeLists() {
		leaves := standing(ops)
		for _, at := range append(slices.Clone(farNumbers), 5, 7, 9, len(leaves)-1, len(leaves), len(leaves)+1) {
			want, can := wantAt(leaves, at)
			if mark, ok := impl.MarkAt(ops, at); ok != can || mark != want {
				t.Fatal(mark, ok, want, can, at, ops)
			}
		}
	}
}

func TestP52AtOfPlacesThatThereAreNot(t *testing.T) {
	for _, ops := range mostly(typeLists(), 3) {
		long := len(impl.TreeText(ops))
		for _, at := range []int{math.MinInt, math.MinInt + 1, -2, -1, long + 1, long + 2, math.MaxInt - 1, math.MaxInt} {
			checkNotAt(t, ops, at)
		}
		checkAt(t, ops, 0, nothing)
		if _, ok := impl.MarkAt(ops, long); !ok {
			t.Fatal("the end is a place", ops)
		}
	}
}

func TestP52AtExamples(t *testing.T) {
	row := typeRun(t, nil, 2, 0, "abc")
	for at, want := range []Id{nothing, id(2, 1), id(2, 2), id(2, 3)} {
		checkAt(t, row, at, want)
	}
	checkNotAt(t, row, -1)
	checkNotAt(t, row, 4)
	for _, none := range [][]Op{nil, {}} {
		checkAt(t, none, 0, nothing)
		checkNotAt(t, none, 1)
		checkNotAt(t, none, -1)
	}
	// Neither the one that is gone ahead of all, nor those between, nor those at the end are ever told.
	holed := holedOps(t)
	for at, want := range []Id{nothing, id(1, 2), id(1, 4)} {
		checkAt(t, holed, at, want)
	}
	checkNotAt(t, holed, 3)
	// The sign ahead is the one that stands there, not the one that was put last, or first.
	turned := typeBackwards(t, nil, 3, 0, "abc")
	for at, want := range []Id{nothing, id(3, 3), id(3, 2), id(3, 1)} {
		checkAt(t, turned, at, want)
	}
}

func TestP52PlaceIsAsTheDocumentSays(t *testing.T) {
	signs, none := 0, 0
	for n, ops := range typeLists() {
		leaves := standing(ops)
		marks := marksOf(leaves)
		if n%8 == 0 {
			marks = append(marks, someIds()...)
		}
		for _, mark := range marks {
			want, can := wantPlace(leaves, mark)
			if place, ok := impl.MarkPlace(ops, mark); ok != can || place != want {
				t.Fatal(place, ok, want, can, mark, ops)
			}
			if can {
				signs++
			} else {
				none++
			}
		}
	}
	if signs < 5000 || none < 2000 {
		t.Error("too few", signs, none)
	}
}

func TestP52PlaceBehindSignsThatAreGone(t *testing.T) {
	holed := holedOps(t)
	// a and c and e and f are gone: behind the first one, one between, and several, and the last one.
	for num, want := range []int{0, 0, 1, 1, 2, 2, 2} {
		mark := id(1, num)
		if num == 0 {
			mark = nothing
		}
		checkPlace(t, holed, mark, want)
	}
	// All that is there is gone.
	all := with(holed, take(id(3, 3), id(1, 2)), take(id(3, 4), id(1, 4)))
	for num := 1; num <= 6; num++ {
		checkPlace(t, all, id(1, num), 0)
		checkSpan(t, all, nothing, id(1, num), "")
		checkSpan(t, all, id(1, num), id(1, 7-num), "")
	}
	checkAt(t, all, 0, nothing)
	checkNotAt(t, all, 1)
	// A sign that is gone has signs on both of its sides that are not: those on its left are up to it.
	const mid = "1.1 put m right 0.0\n1.2 take 1.1\n"
	sides := okOps(t, mid+"2.1 put l left 1.1\n2.2 put r right 1.1\n3.1 put k left 1.1\n")
	for _, c := range []struct {
		mark Id
		want int
	}{{nothing, 0}, {id(2, 1), 1}, {id(3, 1), 2}, {id(1, 1), 2}, {id(2, 2), 3}} {
		checkPlace(t, sides, c.mark, c.want)
	}
	// Taken away twice is gone once.
	checkPlace(t, okOps(t, mid+"2.1 take 1.1\n2.2 put r right 1.1\n3.1 take 1.1\n"), id(1, 1), 0)
	checkPlace(t, okOps(t, mid+"2.1 take 1.1\n2.2 put r right 1.1\n3.1 take 1.1\n"), id(2, 2), 1)
}

func TestP52NoSuchMark(t *testing.T) {
	holed := holedOps(t)
	none := []Id{
		id(2, 1), id(2, 2), id(3, 2), // took a sign away
		id(1, 7), id(2, 4), id(3, 3), id(1, 12), id(3, 12), // nothing was done of it
		id(0, 1), id(1, 0), id(0, -1), id(-1, 0), id(-1, -1), id(4, 1), id(1, 13), id(1, -2), // are none
		id(math.MaxInt, 1), id(1, math.MaxInt), id(math.MinInt, math.MinInt), id(1, 1+1<<32),
	}
	for _, mark := range none {
		checkNoPlace(t, holed, mark)
		for _, other := range append(none, nothing, id(1, 1), id(1, 2), id(1, 6)) {
			checkSpan(t, holed, mark, other, "")
			checkSpan(t, holed, other, mark, "")
		}
	}
	for _, ops := range [][]Op{nil, {}} {
		checkPlace(t, ops, nothing, 0)
		for _, mark := range append(farIds(), id(1, 1), id(2, 3)) {
			if mark != nothing {
				checkNoPlace(t, ops, mark)
			}
			checkSpan(t, ops, nothing, mark, "")
			checkSpan(t, ops, mark, nothing, "")
		}
	}
}

func TestP52ToldJustIfItIsASignOrNothing(t *testing.T) {
	for n, ops := range typeLists() {
		if n%5 > 0 {
			continue
		}
		signs := putOf(ops)
		for _, mark := range farIds() {
			_, put := signs[mark]
			if _, ok := impl.MarkPlace(ops, mark); ok != (put || mark == nothing) {
				t.Fatal(ok, mark, ops)
			}
		}
		for _, op := range ops {
			if _, ok := impl.MarkPlace(ops, op.Id); ok != (op.Kind == impl.OpPut) {
				t.Fatal(ok, op, ops)
			}
		}
	}
}

func TestP56PutRefersToTheMarkOrTheLeafBehindIt(t *testing.T) {
	rights, lefts, away := 0, 0, 0
	for _, ops := range mostly(typeLists(), 2) {
		leaves := impl.TreeLeaves(ops)
		for at := range len(impl.TreeText(ops)) + 1 {
			mark, _ := impl.MarkAt(ops, at)
			op, ok := impl.TypePut(ops, at%impl.RepMax+1, at, 'q')
			if !ok {
				continue
			}
			if len(impl.TreeKids(ops, mark, right)) == 0 {
				rights++
				if op.Ref != mark || op.Side != right {
					t.Fatal("not on its right", op, mark, ops)
				}
				continue
			}
			lefts++
			next := slices.Index(marksOf(leaves), mark)
			if next < 0 || next >= len(leaves) || op.Ref != leaves[next].Id || op.Side != left {
				t.Fatal("not on the left of the next", op, mark, ops)
			}
			if leaves[next].Gone {
				away++
			}
		}
	}
	if rights < 500 || lefts < 500 || away < 100 {
		t.Error("too few", rights, lefts, away)
	}
}

func TestP56Examples(t *testing.T) {
	for _, c := range []struct {
		text string
		at   int
		mark Id
		want Op
	}{
		{"", 0, nothing, put(id(3, 1), 'q', right, nothing)},
		{"1.1 put a right 0.0\n", 0, nothing, put(id(3, 1), 'q', left, id(1, 1))},
		{"1.1 put a right 0.0\n", 1, id(1, 1), put(id(3, 1), 'q', right, id(1, 1))},
		{"1.1 put a right 0.0\n1.2 put b right 1.1\n", 1, id(1, 1), put(id(3, 1), 'q', left, id(1, 2))},
		{"1.1 put a right 0.0\n1.2 put b right 1.1\n2.1 take 1.2\n", 1, id(1, 1), put(id(3, 1), 'q', left, id(1, 2))},
		{"1.1 put a right 0.0\n1.2 put b right 0.0\n2.1 take 1.2\n", 1, id(1, 1), put(id(3, 1), 'q', right, id(1, 1))},
		{"1.1 put a right 0.0\n1.2 take 1.1\n", 0, nothing, put(id(3, 1), 'q', left, id(1, 1))},
	} {
		ops := okOps(t, c.text)
		checkAt(t, ops, c.at, c.mark)
		op, ok := impl.TypePut(ops, 3, c.at, 'q')
		if !ok || op != c.want {
			t.Error(op, ok, c.want)
		}
		// The mark there stays there; the new sign's own mark is one place on.
		all := with(ops, op)
		checkPlace(t, all, c.mark, c.at)
		checkPlace(t, all, op.Id, c.at+1)
		checkAt(t, all, c.at+1, op.Id)
		checkSpan(t, all, c.mark, op.Id, "q")
	}
}

func TestP57LastAndFirstSign(t *testing.T) {
	goneFirst, goneLast := 0, 0
	for _, ops := range typeLists() {
		leaves := impl.TreeLeaves(ops)
		if len(leaves) == 0 {
			continue
		}
		first, last := leaves[0], leaves[len(leaves)-1]
		if place := markPlace(t, ops, last.Id); place != len(impl.TreeText(ops)) {
			t.Fatal("last", place, ops)
		}
		want := 1
		if first.Gone {
			want = 0
			goneFirst++
		}
		if last.Gone {
			goneLast++
		}
		if place := markPlace(t, ops, first.Id); place != want {
			t.Fatal("first", place, ops)
		}
	}
	if goneFirst < 30 || goneLast < 30 {
		t.Error("too few", goneFirst, goneLast)
	}
}

func TestP57AsManyMarksAsPlaces(t *testing.T) {
	for _, ops := range typeLists() {
		many := len(impl.TreeText(ops)) + 1
		met := map[Id]int{}
		for at := -3; at < len(ops)+4; at++ {
			mark, ok := impl.MarkAt(ops, at)
			if ok {
				met[mark]++
			}
			if met[mark] > 1 || ok != (0 <= at && at < many) {
				t.Fatal(mark, ok, at, ops)
			}
			if ok && mark != nothing && takenAway(ops, mark) {
				t.Fatal("is gone", mark, at, ops)
			}
		}
		if len(met) != many {
			t.Fatal(met, many, ops)
		}
	}
}

// checkMarkRefused is the one fixed answer of each function at what is not ok.
func checkMarkRefused(t *testing.T, name string, ops []Op) {
	t.Helper()
	for _, at := range []int{0, 1, 2, -1, math.MinInt, math.MaxInt} {
		if mark, ok := impl.MarkAt(ops, at); ok || mark != nothing {
			t.Error(name, "MarkAt", at, mark, ok)
		}
	}
	marks := []Id{nothing, id(1, 1), id(1, 2), id(2, 1), id(3, 1), id(4, 1), id(0, 1), id(-1, -1)}
	for _, mark := range marks {
		if place, ok := impl.MarkPlace(ops, mark); ok || place != 0 {
			t.Error(name, "MarkPlace", mark, place, ok)
		}
		for _, other := range marks {
			if span := impl.MarkSpan(ops, mark, other); span != "" {
				t.Error(name, "MarkSpan", mark, other, span)
			}
		}
	}
}

func TestP52ToP59WrongLists(t *testing.T) {
	for name, ops := range wrongLists() {
		checkMarkRefused(t, name, ops)
	}
	for n, ops := range anyLists() {
		if n%12 == 0 && !doneOk(ops) {
			checkMarkRefused(t, "changed", ops)
		}
	}
	checkMarkRefused(t, "long", make([]Op, 100000))
	checkMarkRefused(t, "long and repeated", slices.Repeat(fullOps(), 3000))
}

func TestMarkArgumentsStay(t *testing.T) {
	lists := mostly(typeLists(), 3)
	for _, ops := range wrongLists() {
		lists = append(lists, ops)
	}
	for _, ops := range lists {
		room := guarded(ops)
		marks := []Id{nothing, id(1, 1), id(2, 2), id(3, 1), id(3, 90), id(-7, 0)}
		for n, mark := range marks {
			impl.MarkAt(room, n)
			checkGuarded(t, "MarkAt", room, ops)
			impl.MarkPlace(room, mark)
			checkGuarded(t, "MarkPlace", room, ops)
			for _, other := range marks {
				impl.MarkSpan(room, mark, other)
				checkGuarded(t, "MarkSpan", room, ops)
			}
		}
	}
}

func TestMarkAnswersAreNewMemory(t *testing.T) {
	for _, ops := range mostly(typeLists(), 3) {
		leaves := standing(ops)
		marks := marksOf(leaves)
		last := marks[len(marks)-1]
		room := guarded(ops)
		at, _ := impl.MarkAt(room, len(textOf(leaves)))
		place, _ := impl.MarkPlace(room, last)
		span := impl.MarkSpan(room, nothing, last)
		spoil(room, -8)
		want, _ := wantAt(leaves, len(textOf(leaves)))
		if at != want || place != len(textOf(leaves)) || span != textOf(leaves) {
			t.Fatal("shares memory with its argument", at, place, span, ops)
		}
	}
}

func TestMarkAnswersTheSameAgain(t *testing.T) {
	for _, ops := range mostly(typeLists(), 3) {
		marks := marksOf(standing(ops))
		for n, mark := range marks {
			at, told := impl.MarkAt(ops, n)
			place, found := impl.MarkPlace(ops, mark)
			span := impl.MarkSpan(ops, marks[n/2], mark)
			impl.MarkAt(fullOps(), 7)
			impl.MarkPlace(chain(36), id(3, 12))
			impl.MarkSpan(rowBy(2, 5), nothing, id(2, 4))
			room := guarded(ops)
			atAgain, toldAgain := impl.MarkAt(room, n)
			placeAgain, foundAgain := impl.MarkPlace(room, mark)
			if at != atAgain || told != toldAgain || place != placeAgain || found != foundAgain || span != impl.MarkSpan(room, marks[n/2], mark) {
				t.Fatal("something is kept between calls", mark, ops)
			}
		}
	}
}
