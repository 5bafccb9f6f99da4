package tests

import (
	"slices"
	"testing"

	"loop.example/tatting/impl"
)

// moreThings are some that can be done behind what was done: signs beside nothing and beside some, and takings.
func moreThings(d *dice, ops []Op) []Op {
	refs := signsOf(ops)
	var more []Op
	for rep := 1; rep <= impl.RepMax; rep++ {
		own := id(rep, doneBy(ops, rep)+1)
		if own.Num > impl.NumMax {
			continue
		}
		more = append(more, put(own, 'q', right, nothing))
		for range min(2, len(refs)) {
			ref := refs[d.below(len(refs))].Id
			more = append(more, put(own, 'q', left, ref), put(own, 'q', right, ref), take(own, ref))
		}
	}
	return more
}

// checkMarksStay is promise 53 of what was done, and of the same with something more, of every mark; and says what it met.
func checkMarksStay(t *testing.T, ops []Op, op Op) (int, int, int) {
	t.Helper()
	all, ok := impl.OpsWith(ops, op)
	if !ok {
		t.Fatal("cannot be done", op, ops)
	}
	now := marksOf(standing(all))
	on, stay, back := 0, 0, 0
	for _, mark := range marksOf(standing(ops)) {
		was, is := markPlace(t, ops, mark), markPlace(t, all, mark)
		text, then := impl.MarkSpan(ops, nothing, mark), impl.MarkSpan(all, nothing, mark)
		about := op.Id
		if op.Kind == impl.OpTake {
			about = op.Ref
		}
		ahead := slices.Index(now, about) < slices.Index(now, mark) || about == mark
		switch {
		case op.Kind == impl.OpPut && ahead:
			on++
			at := markPlace(t, all, op.Id) - 1
			if is != was+1 || then != text[:at]+string(rune(op.Sign))+text[at:] {
				t.Fatal("put ahead of it", mark, was, is, op, ops)
			}
		case op.Kind == impl.OpTake && ahead && !takenAway(ops, about):
			back++
			at := markPlace(t, ops, about) - 1
			if is != was-1 || then != text[:at]+text[at+1:] {
				t.Fatal("taken away ahead of it", mark, was, is, op, ops)
			}
		default:
			stay++
			if is != was || then != text {
				t.Fatal("behind it, or gone already", mark, was, is, op, ops)
			}
		}
	}
	return on, stay, back
}

func TestP53MarksStayWhateverIsDone(t *testing.T) {
	d := &dice{state: 401}
	ons, stays, backs := 0, 0, 0
	for n, ops := range typeLists() {
		if n%4 > 0 {
			continue
		}
		for _, op := range moreThings(d, ops) {
			on, stay, back := checkMarksStay(t, ops, op)
			ons, stays, backs = ons+on, stays+stay, backs+back
		}
	}
	if ons < 1000 || stays < 1000 || backs < 300 {
		t.Error("too few", ons, stays, backs)
	}
}

func TestP53MarksStayAsIsTyped(t *testing.T) {
	d := &dice{state: 409}
	for range 12 {
		var ops []Op
		for range 40 {
			rep, at := d.below(impl.RepMax)+1, d.below(len(impl.TreeText(ops))+1)
			op, ok := impl.TypePut(ops, rep, at, 'a'+d.below(26))
			if d.below(3) == 0 {
				op, ok = impl.TypeTake(ops, rep, at)
			}
			if !ok {
				continue
			}
			checkMarksStay(t, ops, op)
			// Whoever types at a mark's place types behind it.
			if mark, told := impl.MarkAt(ops, at); told && op.Kind == impl.OpPut {
				checkPlace(t, with(ops, op), mark, at)
			}
			ops = with(ops, op)
		}
	}
}

func TestP53Examples(t *testing.T) {
	from := typeRun(t, nil, 1, 0, "abc")
	mark := id(1, 2)
	checkPlace(t, from, mark, 2)
	for _, c := range []struct {
		at   int
		want int
		text string
	}{{0, 3, "xab"}, {1, 3, "axb"}, {2, 2, "ab"}, {3, 2, "ab"}} {
		all := typeRun(t, from, 2, c.at, "x")
		checkPlace(t, all, mark, c.want)
		checkSpan(t, all, nothing, mark, c.text)
		checkPlace(t, all, nothing, 0)
	}
	for at, want := range []int{1, 1, 2} {
		op, _ := impl.TypeTake(from, 2, at)
		checkPlace(t, with(from, op), mark, want)
	}
}

func TestP53MarkBehindASignThatIsGone(t *testing.T) {
	from := typeRun(t, nil, 1, 0, "abc")
	away := with(from, take(id(2, 1), id(1, 2)))
	mark := id(1, 2)
	checkPlace(t, away, mark, 1)
	checkSpan(t, away, nothing, mark, "a")
	checkSpan(t, away, mark, id(1, 3), "c")
	// Put ahead of the sign that is gone, at its side or further off, and behind it, on its right.
	for _, c := range []struct {
		op   Op
		want int
		text string
	}{
		{put(id(3, 1), 'x', left, id(1, 2)), 2, "ax"},
		{put(id(3, 1), 'x', left, id(1, 1)), 2, "xa"},
		{put(id(3, 1), 'x', right, id(1, 2)), 1, "a"},
		{put(id(3, 1), 'x', left, id(1, 3)), 1, "a"},
		{put(id(3, 1), 'x', right, id(1, 3)), 1, "a"},
		{put(id(3, 1), 'x', right, nothing), 1, "a"},
		{take(id(3, 1), id(1, 1)), 0, ""},
		{take(id(3, 1), id(1, 2)), 1, "a"},
		{take(id(3, 1), id(1, 3)), 1, "a"},
	} {
		all := with(away, c.op)
		checkPlace(t, all, mark, c.want)
		checkSpan(t, all, nothing, mark, c.text)
	}
	// At place 1 two marks are: behind a, which stays, and behind b, which is gone: x is typed ahead of that one.
	all := typeRun(t, away, 3, 1, "x")
	checkPlace(t, all, id(1, 1), 1)
	checkPlace(t, all, id(1, 2), 2)
	checkSpan(t, all, id(1, 1), id(1, 2), "x")
	checkSpan(t, all, id(1, 2), id(1, 1), "")
	checkAt(t, all, 2, id(3, 1))
}

func TestP54WhoStandsAheadTellsNoLaterPlace(t *testing.T) {
	check := func(name string, ops []Op) {
		last := 0
		for _, l := range impl.TreeLeaves(ops) {
			place := markPlace(t, ops, l.Id)
			step := 1
			if l.Gone {
				step = 0
			}
			if place != last+step {
				t.Fatal(name, l, place, last, ops)
			}
			last = place
		}
	}
	for _, ops := range typeLists() {
		check("one", ops)
	}
	eachPair(419, mostly(wholes(), 4), func(a []Op, b []Op) {
		check("merged", mergedOps(t, a, b))
	})
}

// checkOrderOfMarks is promises 54 and 58 of one, and of that one merged with another; and says how many of its marks had one place and have two.
func checkOrderOfMarks(t *testing.T, one []Op, all []Op) int {
	t.Helper()
	marks := marksOf(standing(one))
	apart := 0
	for n, mark := range marks[1:] {
		was, before := markPlace(t, one, mark), markPlace(t, one, marks[n])
		is, then := markPlace(t, all, mark), markPlace(t, all, marks[n])
		if was < before || is < then {
			t.Fatal("the order of their places", marks[n], mark, one, all)
		}
		if was == before && is > then {
			apart++
		}
		if grown := len(impl.MarkSpan(all, marks[n], mark)); grown != is-then {
			t.Fatal("between them", grown, marks[n], mark, all)
		}
	}
	return apart
}

func TestP58MarksOfOneAreToldInBoth(t *testing.T) {
	apart, more := 0, 0
	eachPair(421, mostly(wholes(), 4), func(a []Op, b []Op) {
		all := mergedOps(t, a, b)
		apart += checkOrderOfMarks(t, a, all) + checkOrderOfMarks(t, b, all)
		if len(all) > max(len(a), len(b)) {
			more++
		}
	})
	if apart < 30 || more < 100 {
		t.Error("too few", apart, more)
	}
}

func TestP58AllMarksOfOneKeepTheirOrder(t *testing.T) {
	d := &dice{state: 431}
	for n, ops := range wholes() {
		if n%6 > 0 {
			continue
		}
		one := part(d, ops, 2)
		all := mergedOps(t, one, part(d, ops, 2))
		marks := marksOf(standing(one))
		for _, a := range marks {
			for _, b := range marks {
				if markPlace(t, one, a) < markPlace(t, one, b) && markPlace(t, all, a) > markPlace(t, all, b) {
					t.Fatal(a, b, one, all)
				}
			}
		}
	}
}

func TestP58Examples(t *testing.T) {
	from := typeRun(t, nil, 1, 0, "abcd")
	one := with(typeRun(t, from, 2, 1, "xy"), take(id(2, 3), id(1, 3)))
	two := with(typeRun(t, from, 3, 3, "z"), take(id(3, 2), id(1, 2)))
	if impl.TreeText(one) != "axybd" || impl.TreeText(two) != "aczd" {
		t.Fatal(impl.TreeText(one), impl.TreeText(two))
	}
	all := mergedOps(t, one, two)
	if impl.TreeText(all) != "axyzd" {
		t.Fatal(impl.TreeText(all))
	}
	for _, c := range []struct {
		mark        Id
		a, b, merge int
	}{
		{nothing, 0, 0, 0},
		{id(1, 1), 1, 1, 1},
		{id(2, 1), 2, -1, 2},
		{id(2, 2), 3, -1, 3},
		{id(1, 2), 4, 1, 3},
		{id(1, 3), 4, 2, 3},
		{id(3, 1), -1, 3, 4},
		{id(1, 4), 5, 4, 5},
	} {
		for n, ops := range [][]Op{one, two, all} {
			if want := []int{c.a, c.b, c.merge}[n]; want < 0 {
				checkNoPlace(t, ops, c.mark)
			} else {
				checkPlace(t, ops, c.mark, want)
			}
		}
	}
	// In order at the one, and at one place in both together, as what was between is gone there.
	checkSpan(t, two, id(1, 2), id(1, 3), "c")
	checkSpan(t, all, id(1, 2), id(1, 3), "")
	// At one place at the one, as b is gone, and apart in both together, as x was put between.
	away := with(from, take(id(2, 1), id(1, 2)))
	checkPlace(t, away, id(1, 1), 1)
	checkPlace(t, away, id(1, 2), 1)
	all = mergedOps(t, away, typeRun(t, from, 3, 1, "x"))
	checkPlace(t, all, id(1, 1), 1)
	checkPlace(t, all, id(1, 2), 2)
	checkSpan(t, all, id(1, 1), id(1, 2), "x")
}

func TestP55SpanIsAsTheDocumentSays(t *testing.T) {
	some, none := 0, 0
	for n, ops := range typeLists() {
		if n%6 > 0 {
			continue
		}
		leaves := standing(ops)
		marks := append(marksOf(leaves), id(1, 12), id(3, 11), id(0, 1), id(4, 1))
		for _, a := range marks {
			for _, b := range marks {
				span := impl.MarkSpan(ops, a, b)
				if want := wantSpan(leaves, a, b); span != want {
					t.Fatal(span, want, a, b, ops)
				}
				if span == "" {
					none++
				} else {
					some++
				}
			}
		}
	}
	if some < 3000 || none < 3000 {
		t.Error("too few", some, none)
	}
}

func TestP55SpanByWayOfAMark(t *testing.T) {
	d := &dice{state: 433}
	both := 0
	for _, ops := range mostly(typeLists(), 2) {
		marks := marksOf(impl.TreeLeaves(ops))
		for range len(marks) {
			mid := d.below(len(marks))
			end := mid + d.below(len(marks)-mid)
			first, second := impl.MarkSpan(ops, nothing, marks[mid]), impl.MarkSpan(ops, marks[mid], marks[end])
			if first+second != impl.MarkSpan(ops, nothing, marks[end]) {
				t.Fatal(first, second, marks[mid], marks[end], ops)
			}
			if first != "" && second != "" {
				both++
			}
		}
	}
	if both < 1000 {
		t.Error("too few", both)
	}
}

func TestP55SpanExamples(t *testing.T) {
	row := typeRun(t, nil, 3, 0, "abcde")
	for _, c := range []struct {
		from, to int
		want     string
	}{{0, 0, ""}, {0, 1, "a"}, {0, 5, "abcde"}, {1, 4, "bcd"}, {4, 5, "e"}, {3, 3, ""}, {5, 5, ""}, {4, 1, ""}, {5, 0, ""}, {1, 0, ""}} {
		a, b := id(3, c.from), id(3, c.to)
		if c.from == 0 {
			a = nothing
		}
		if c.to == 0 {
			b = nothing
		}
		checkSpan(t, row, a, b, c.want)
	}
	holed := holedOps(t) // a, c, e, f are gone
	for _, c := range []struct {
		a, b Id
		want string
	}{
		{nothing, nothing, ""},
		{nothing, id(1, 1), ""},
		{nothing, id(1, 2), "b"},
		{id(1, 1), nothing, ""},
		{id(1, 1), id(1, 2), "b"},
		{id(1, 1), id(1, 1), ""},
		{id(1, 3), id(1, 3), ""},
		{id(1, 2), id(1, 3), ""},
		{id(1, 3), id(1, 2), ""},
		{id(1, 3), id(1, 6), "d"},
		{id(1, 1), id(1, 5), "bd"},
		{id(1, 5), id(1, 6), ""},
		{id(1, 6), id(1, 5), ""},
		{id(1, 6), id(1, 2), ""},
		{id(1, 4), id(1, 2), ""},
		{id(1, 6), nothing, ""},
		// One that is not told makes it empty, whichever it is.
		{id(2, 1), id(1, 6), ""},
		{nothing, id(2, 1), ""},
		{nothing, id(1, 7), ""},
		{id(1, 7), id(1, 6), ""},
		{id(0, 1), id(1, 6), ""},
		{id(1, 0), id(1, 6), ""},
	} {
		checkSpan(t, holed, c.a, c.b, c.want)
	}
}

func TestP55TwoMarksThatTellTheSamePlaceAreOneToASpan(t *testing.T) {
	same := 0
	for n, ops := range typeLists() {
		if n%6 > 0 {
			continue
		}
		marks := marksOf(standing(ops))
		last := marks[len(marks)-1]
		for _, mark := range marks {
			twin, _ := impl.MarkAt(ops, markPlace(t, ops, mark))
			if twin != mark {
				same++
			}
			if impl.MarkSpan(ops, mark, twin) != "" || impl.MarkSpan(ops, twin, mark) != "" || impl.MarkSpan(ops, mark, mark) != "" {
				t.Fatal("something between", mark, twin, ops)
			}
			if impl.MarkSpan(ops, nothing, mark) != impl.MarkSpan(ops, nothing, twin) || impl.MarkSpan(ops, mark, last) != impl.MarkSpan(ops, twin, last) {
				t.Fatal("not the same", mark, twin, ops)
			}
		}
	}
	if same < 100 {
		t.Error("too few", same)
	}
}

func TestP59SpanToTheLastIsTheText(t *testing.T) {
	away := 0
	for _, ops := range mostly(typeLists(), 2) {
		leaves, text := impl.TreeLeaves(ops), impl.TreeText(ops)
		marks := marksOf(leaves)
		last := marks[len(marks)-1]
		if span := impl.MarkSpan(ops, nothing, last); span != text {
			t.Fatal(span, text, ops)
		}
		for _, mark := range marks {
			first, second := impl.MarkSpan(ops, nothing, mark), impl.MarkSpan(ops, mark, last)
			if first+second != text || len(first) != markPlace(t, ops, mark) {
				t.Fatal(first, second, text, mark, ops)
			}
			if takenAway(ops, mark) {
				away++
			}
		}
	}
	if away < 500 {
		t.Error("too few", away)
	}
}

func TestP59FullTexts(t *testing.T) {
	for _, ops := range [][]Op{fullOps(), chain(36), rowOps(func(int) int { return left }), rowOps(func(place int) int { return place % 2 })} {
		text := impl.TreeText(ops)
		if len(text) != impl.RepMax*impl.NumMax {
			t.Fatal(text)
		}
		for at := range len(text) + 1 {
			mark, ok := impl.MarkAt(ops, at)
			if !ok {
				t.Fatal(at, ops)
			}
			end, _ := impl.MarkAt(ops, len(text))
			checkPlace(t, ops, mark, at)
			checkSpan(t, ops, nothing, mark, text[:at])
			checkSpan(t, ops, mark, end, text[at:])
		}
		checkNotAt(t, ops, len(text)+1)
	}
}
