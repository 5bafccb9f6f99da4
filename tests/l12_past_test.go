package tests

import (
	"math"
	"slices"
	"testing"

	"loop.example/tatting/impl"
)

// saw says by the document's words whether a thing of that id was seen, apart from the program.
func saw(seen []int, own Id) bool {
	return own.Rep > 0 && own.Rep <= len(seen) && own.Num <= seen[own.Rep-1]
}

// uptoOf is by the document's words what OpsUpto is.
func uptoOf(ops []Op, seen []int) []Op {
	if !doneOk(ops) {
		return nil
	}
	return slices.DeleteFunc(slices.Clone(ops), func(op Op) bool { return !saw(seen, op.Id) })
}

// pastOf is by the document's words what OpsPast is: again and again the first that can be told.
func pastOf(ops []Op, seen []int, most int) []Op {
	if !doneOk(ops) {
		return nil
	}
	var told []Op
	there := func(own Id) bool { return own.Num == 0 || saw(seen, own) || hasId(told, own) }
	for len(told) < most {
		first := slices.IndexFunc(ops, func(op Op) bool {
			return !saw(seen, op.Id) && !hasId(told, op.Id) && there(id(op.Id.Rep, op.Id.Num-1)) && there(op.Ref)
		})
		if first < 0 {
			break
		}
		told = append(told, ops[first])
	}
	return told
}

func checkPast(t *testing.T, name string, ops []Op, seen []int, most int) []Op {
	t.Helper()
	got, want := impl.OpsPast(ops, seen, most), pastOf(ops, seen, most)
	if !slices.Equal(got, want) {
		t.Fatalf("%s: OpsPast, seen %v, at most %d: %v instead of %v, of\n%v", name, seen, most, got, want, ops)
	}
	return got
}

func checkUpto(t *testing.T, name string, ops []Op, seen []int) []Op {
	t.Helper()
	got, want := impl.OpsUpto(ops, seen), uptoOf(ops, seen)
	if !slices.Equal(got, want) {
		t.Fatalf("%s: OpsUpto, seen %v: %v instead of %v, of\n%v", name, seen, got, want, ops)
	}
	return got
}

func seenOf(ops []Op) []int {
	return []int{doneBy(ops, 1), doneBy(ops, 2), doneBy(ops, 3)}
}

// edgeSeens are nothing, shorter and longer than RepMax, with numbers below 0, above NumMax, and far from both.
func edgeSeens() [][]int {
	return [][]int{
		nil, {}, {0}, {1}, {12}, {13}, {-1}, {0, 0}, {0, 1}, {12, 12}, {2, -3},
		{0, 0, 0}, {1, 1, 1}, {12, 12, 12}, {13, 13, 13}, {-1, -1, -1}, {-1, 2, 1}, {3, 0, -2}, {0, 12, 0}, {11, 11, 11},
		{math.MinInt, math.MinInt, math.MinInt}, {math.MaxInt, math.MaxInt, math.MaxInt}, {math.MinInt, 1, math.MaxInt}, {1000, -1000, 3},
		{0, 0, 0, 12}, {0, 0, 0, 0}, {2, 2, 2, -1, 7}, {1, 2, 3, math.MaxInt, math.MinInt, 9, 9, 9, 9, 9, 9, 9, 9}, slices.Repeat([]int{1}, 500),
	}
}

// someSeens are the edges, any numbers, and what parts of it have.
func someSeens(d *dice, ops []Op) [][]int {
	seens := append(edgeSeens(), seenOf(ops))
	for range 6 {
		seens = append(seens, []int{d.below(14) - 1, d.below(14) - 1, d.below(14) - 1})
		seens = append(seens, seenOf(part(d, ops, 1+d.below(2))), seenOf(lacking(d, ops, d.below(9))))
	}
	return seens
}

// someMosts are below 0, 0, 1, as many as there are, one less and more, and far more.
func someMosts(many int) []int {
	return []int{math.MinInt, -1, 0, 1, 2, 5, many - 1, many, many + 1, 36, 37, math.MaxInt}
}

func TestP44PastIsAsTheDocumentSays(t *testing.T) {
	d := &dice{state: 307}
	told := 0
	for _, ops := range mostly(wholes(), 2) {
		for _, seen := range someSeens(d, ops) {
			for _, most := range someMosts(len(ops))[d.below(3):] {
				if d.below(2) == 0 && len(checkPast(t, "past", ops, seen, most)) > 0 {
					told++
				}
			}
		}
	}
	if told < 5000 {
		t.Error("too few", told)
	}
}

func TestP44EachCanBeDoneBehindThoseAhead(t *testing.T) {
	d := &dice{state: 311}
	done, notOk := 0, 0
	for _, ops := range mostly(wholes(), 2) {
		for _, seen := range someSeens(d, ops) {
			has := uptoOf(ops, seen)
			ok := doneOk(has)
			if !ok {
				notOk++
			}
			for _, op := range impl.OpsPast(ops, seen, len(ops)) {
				if !slices.Contains(ops, op) || saw(seen, op.Id) || hasId(has, op.Id) {
					t.Fatal("was not done, or was seen, or told", op, seen, ops)
				}
				if !ok {
					continue
				}
				more, can := impl.OpsWith(has, op)
				if !can || !slices.Equal(more, with(has, op)) {
					t.Fatal("cannot be done", op, seen, ops)
				}
				has = more
				done++
			}
		}
	}
	if done < 5000 || notOk < 1000 {
		t.Error("too few", done, notOk)
	}
}

func TestP44NoMoreThanAskedFor(t *testing.T) {
	d := &dice{state: 313}
	for _, ops := range mostly(wholes(), 2) {
		for _, seen := range [][]int{nil, seenOf(part(d, ops, 1)), {d.below(5), d.below(5), d.below(5)}} {
			all := impl.OpsPast(ops, seen, len(ops))
			for most := -2; most <= len(ops)+2; most++ {
				got := impl.OpsPast(ops, seen, most)
				if !slices.Equal(got, all[:max(0, min(most, len(all)))]) {
					t.Fatal("is not its beginning", most, got, all)
				}
			}
			for _, most := range []int{math.MinInt, math.MinInt + 1, -1000} {
				if len(impl.OpsPast(ops, seen, most)) != 0 {
					t.Fatal("below 0", most, ops)
				}
			}
			for _, most := range []int{37, 1000, math.MaxInt - 1, math.MaxInt} {
				if !slices.Equal(impl.OpsPast(ops, seen, most), all) {
					t.Fatal("more than there are", most, ops)
				}
			}
		}
	}
}

// checkTold asks for the ids that OpsPast tells, in order, however many are asked for.
func checkTold(t *testing.T, text string, seen []int, want ...Id) {
	t.Helper()
	ops := okOps(t, text)
	for most := range len(ops) + 3 {
		var got []Id
		for _, op := range impl.OpsPast(ops, seen, most) {
			if !slices.Contains(ops, op) {
				t.Errorf("%v was not done in\n%s", op, text)
			}
			got = append(got, op.Id)
		}
		if !slices.Equal(got, want[:min(most, len(want))]) {
			t.Errorf("%v, of %v, seen %v, at most %d, of\n%s", got, want, seen, most, text)
		}
	}
}

func TestP44FirstIsTheFirstThatCanBeTold(t *testing.T) {
	const later = "1.1 put a right 2.1\n2.1 put b right 0.0\n2.2 put c right 0.0\n"
	// With 2.1 told 1.1 comes, as it stands ahead of 2.2.
	checkTold(t, later, nil, id(2, 1), id(1, 1), id(2, 2))
	checkTold(t, later, []int{0, 1, 0}, id(1, 1), id(2, 2))
	checkTold(t, later, []int{1, 0, 0}, id(2, 1), id(2, 2))
	checkTold(t, later, []int{0, 2}, id(1, 1))
	checkTold(t, later, []int{1, 1}, id(2, 2))
	checkTold(t, later, []int{1, 2})

	const chained = "1.1 put a right 2.2\n2.1 put b right 3.1\n2.2 put c left 2.1\n3.1 put d right 0.0\n3.2 take 3.1\n"
	checkTold(t, chained, nil, id(3, 1), id(2, 1), id(2, 2), id(1, 1), id(3, 2))
	checkTold(t, chained, []int{0, 0, 2}, id(2, 1), id(2, 2), id(1, 1))
	checkTold(t, chained, []int{0, 2, 0}, id(1, 1), id(3, 1), id(3, 2))
	checkTold(t, chained, []int{1, 2, 0}, id(3, 1), id(3, 2))

	// A taking is told behind what it takes away, and lets the next of its Rep wait.
	const away = "1.1 take 2.1\n1.2 put a right 0.0\n2.1 put b right 3.1\n3.1 put c right 0.0\n"
	checkTold(t, away, nil, id(3, 1), id(2, 1), id(1, 1), id(1, 2))
	checkTold(t, away, []int{1}, id(1, 2), id(3, 1), id(2, 1))

	checkTold(t, "", nil)
	checkTold(t, "", []int{1, 2, 3})
	checkTold(t, "1.1 put a right 0.0\n", nil, id(1, 1))
	checkTold(t, "1.1 put a right 0.0\n", []int{0, 5, 5, 5}, id(1, 1))
	checkTold(t, "3.1 put a right 0.0\n", []int{9, 9}, id(3, 1))
	checkTold(t, "3.1 put a right 0.0\n", []int{9, 9, -9}, id(3, 1))
	checkTold(t, "3.1 put a right 0.0\n", []int{-9, -9, 1})
}

func TestP44WhatCanNeverBeTold(t *testing.T) {
	// Ref is told only behind it, as that is a later one of the same Rep.
	const later = "1.1 put a right 1.2\n1.2 put b right 0.0\n2.1 put c right 0.0\n2.2 put d right 1.1\n2.3 put e right 0.0\n3.1 take 1.2\n"
	checkTold(t, later, nil, id(2, 1))
	checkTold(t, later, []int{1}, id(1, 2), id(2, 1), id(2, 2), id(2, 3), id(3, 1))
	checkTold(t, later, []int{2}, id(2, 1), id(2, 2), id(2, 3), id(3, 1))
	checkTold(t, later, []int{0, 2, 0}, id(2, 3))
	checkTold(t, later, []int{0, 3, 1})

	// The one ahead is told only behind it: 1.1 awaits 2.2, that 2.1, that 1.2, and that 1.1.
	const round = "1.1 put a right 2.2\n1.2 put b right 0.0\n2.1 put c right 1.2\n2.2 put d right 0.0\n3.1 put e right 0.0\n3.2 put f left 1.2\n"
	checkTold(t, round, nil, id(3, 1))
	checkTold(t, round, []int{1, 0, 0}, id(1, 2), id(2, 1), id(2, 2), id(3, 1), id(3, 2))
	checkTold(t, round, []int{0, 1, 0}, id(2, 2), id(1, 1), id(1, 2), id(3, 1), id(3, 2))
	checkTold(t, round, []int{0, 0, 1})
	checkTold(t, round, []int{0, 0, 2})
}

func TestP44SeenThatIsNotOkByItself(t *testing.T) {
	const text = "1.1 put a right 0.0\n1.2 put b right 1.1\n2.1 put c right 1.2\n2.2 take 1.1\n3.1 put d left 2.1\n"
	ops := okOps(t, text)
	for _, c := range []struct {
		seen []int
		told []Id
	}{
		{[]int{0, 1, 0}, []Id{id(1, 1), id(1, 2), id(2, 2), id(3, 1)}},
		{[]int{1, 1, 0}, []Id{id(1, 2), id(2, 2), id(3, 1)}},
		{[]int{0, 2, 0}, []Id{id(1, 1), id(1, 2), id(3, 1)}},
		{[]int{0, 0, 1}, []Id{id(1, 1), id(1, 2), id(2, 1), id(2, 2)}},
	} {
		if doneOk(uptoOf(ops, c.seen)) {
			t.Fatal("should not be ok", c.seen)
		}
		checkTold(t, text, c.seen, c.told...)
		if got := checkUpto(t, "not ok by itself", ops, c.seen); len(got) != len(ops)-len(c.told) {
			t.Error(got, c.seen)
		}
	}
}

func TestP45WithWhatWasSeenItIsAll(t *testing.T) {
	d := &dice{state: 317}
	some, all := 0, 0
	for _, ops := range oneByOne() {
		for _, seen := range someSeens(d, ops) {
			has := impl.OpsUpto(ops, seen)
			if !impl.OpsOk(has) {
				continue
			}
			past := impl.OpsPast(ops, seen, len(ops))
			if !slices.Equal(with(has, past...), ops) {
				t.Fatal("not all", seen, past, ops)
			}
			switch {
			case len(past) == 0 || len(past) == len(ops):
				all++
			default:
				some++
			}
		}
	}
	if some < 1000 || all < 1000 {
		t.Error("too few", some, all)
	}
}

func TestP45OfAnyOrderWithinEachRep(t *testing.T) {
	d := &dice{state: 331}
	some := 0
	for _, ops := range okLists() {
		past := impl.OpsPast(ops, nil, len(ops))
		has := with(nil, past...)
		if !impl.OpsOk(has) || !impl.OpsIn(has, ops) {
			t.Fatal("what is told of nothing is ok", past, ops)
		}
		// Nothing more of it can be done one by one; else all was told.
		for _, op := range ops {
			if !slices.Contains(has, op) && canBe(has, op) {
				t.Fatal("can be told, and is not", op, ops)
			}
		}
		// Told in parts it is the same, each going on by what was seen then.
		var seen []int
		var parts []Op
		for range ops {
			more := impl.OpsPast(ops, seen, 1+d.below(5))
			parts = append(parts, more...)
			seen = seenOf(parts)
		}
		if !slices.Equal(with(nil, parts...), has) {
			t.Fatal("in parts", parts, past)
		}
		if len(past) > 0 && len(past) < len(ops) {
			some++
		}
	}
	if some < 50 {
		t.Error("too few", some)
	}
}

func TestP46NothingOfItWaits(t *testing.T) {
	d := &dice{state: 337}
	waited := 0
	for _, ops := range append(oneByOne(), oneByOne()...) {
		order := shuffled(d, ops)
		doc := impl.DocAll(Doc{}, order[:d.below(len(order)+1)])
		if len(doc.Wait) > 0 {
			waited++
		}
		for name, list := range map[string][]Op{
			"what it has not done":     impl.OpsPast(ops, impl.OpsSeen(doc.Ops), len(ops)),
			"all, in order of telling": impl.OpsPast(ops, nil, len(ops)),
		} {
			checkDoc(t, name, impl.DocAll(doc, list), Doc{Ops: ops})
		}
		if len(ops) <= impl.WaitMax {
			checkDoc(t, "all of it", impl.DocAll(doc, shuffled(d, ops)), Doc{Ops: ops})
			checkDoc(t, "the other ones", impl.DocAll(doc, backwards(ops)), Doc{Ops: ops})
		}
	}
	if waited < 100 {
		t.Error("too few", waited)
	}
}

func TestP46OtherThingsWaitOn(t *testing.T) {
	ops := okOps(t, "1.1 put a right 0.0\n1.2 put b right 1.1\n2.1 put c left 1.2\n")
	other := put(id(3, 2), 'z', right, nothing)
	doc := impl.DocAll(Doc{}, []Op{ops[2], other, ops[1]})
	checkDoc(t, "waiting", doc, Doc{Wait: []Op{ops[1], ops[2], other}})
	checkDoc(t, "all heard of", impl.DocAll(doc, backwards(ops)), Doc{Ops: ops, Wait: []Op{other}})
	// As much as may wait does, but none of these: what is told in order needs no room.
	full := fullWait(impl.WaitMax)
	for i := range full.Wait {
		full.Wait[i].Ref = id(2, 12)
	}
	past := impl.OpsPast(rowBy(2, 5), nil, 5)
	checkDoc(t, "no room", impl.DocAll(full, past), Doc{Ops: rowBy(2, 5), Wait: full.Wait})
}

func TestP47OfNothingAndInOrder(t *testing.T) {
	docs, _ := someDocs()
	for _, d := range docs {
		checkDoc(t, "of nothing", impl.DocAll(d, nil), d)
		checkDoc(t, "of nothing", impl.DocAll(d, []Op{}), d)
	}
	can, cannot := 0, 0
	for _, ops := range wholes() {
		behind := true
		for place, op := range ops {
			behind = behind && canBe(ops[:place], op)
		}
		if behind {
			can++
			checkDoc(t, "in order", impl.DocAll(Doc{}, ops), Doc{Ops: ops})
			if !slices.Equal(impl.OpsPast(ops, nil, len(ops)), ops) {
				t.Fatal("told in order", ops)
			}
		} else {
			cannot++
		}
		// In the order in which OpsPast tells it each can be, whatever the order of the ids.
		past := impl.OpsPast(ops, []int{0, 0, 0}, impl.RepMax*impl.NumMax)
		checkDoc(t, "as told", impl.DocAll(Doc{}, past), Doc{Ops: with(nil, past...)})
	}
	if can < 50 || cannot < 100 {
		t.Error("too few", can, cannot)
	}
	checkDoc(t, "a chain", impl.DocAll(Doc{}, chain(36)), Doc{Ops: chain(36)})
}

func TestP48UptoIsAsTheDocumentSays(t *testing.T) {
	d := &dice{state: 347}
	some := 0
	for _, ops := range wholes() {
		for _, seen := range someSeens(d, ops) {
			got := checkUpto(t, "upto", ops, seen)
			if len(got) > 0 && len(got) < len(ops) {
				some++
			}
			for _, op := range ops {
				if slices.Contains(got, op) != saw(seen, op.Id) {
					t.Fatal("just what was seen", op, seen, ops)
				}
			}
		}
	}
	if some < 5000 {
		t.Error("too few", some)
	}
}

func TestP48AllSeenAndNothingSeen(t *testing.T) {
	for _, ops := range wholes() {
		for _, seen := range [][]int{seenOf(ops), {12, 12, 12}, {13, 99, math.MaxInt}, append(seenOf(ops), 0, -1), append(seenOf(ops), 4)} {
			if !slices.Equal(impl.OpsUpto(ops, seen), ops) || len(impl.OpsPast(ops, seen, 36)) != 0 {
				t.Fatal("all was seen", seen, ops)
			}
		}
		for _, seen := range [][]int{nil, {}, {0}, {0, 0}, {0, 0, 0}, {-1, math.MinInt, -12}, {0, 0, 0, 12, 12, 12}, {-1}} {
			if len(impl.OpsUpto(ops, seen)) != 0 {
				t.Fatal("nothing was seen", seen, ops)
			}
			if !slices.Equal(impl.OpsPast(ops, seen, 36), impl.OpsPast(ops, nil, 36)) {
				t.Fatal("nothing was seen", seen, ops)
			}
		}
	}
}

func TestP48Examples(t *testing.T) {
	const a, b, c, d = "1.1 put a right 0.0\n", "1.2 put b right 1.1\n", "2.1 put c left 1.1\n", "3.1 take 1.1\n"
	for _, one := range []struct {
		seen []int
		want string
	}{
		{nil, ""},
		{[]int{1}, a},
		{[]int{2}, a + b},
		{[]int{3}, a + b},
		{[]int{1, 1}, a + c},
		{[]int{1, 1, 0}, a + c},
		{[]int{1, 0, 1}, a + d},
		{[]int{2, 1, 1}, a + b + c + d},
		{[]int{1, -1, 12, 7}, a + d},
	} {
		got := impl.OpsUpto(okOps(t, a+b+c+d), one.seen)
		if impl.OpsText(got) != one.want {
			t.Errorf("%q instead of %q, seen %v", impl.OpsText(got), one.want, one.seen)
		}
	}
}

// checkToldTo is promise 50 of two: what the one lacks of the other, told, brings it to both together.
func checkToldTo(t *testing.T, a []Op, b []Op) {
	t.Helper()
	all := mergedOps(t, a, b)
	past := impl.OpsPast(b, impl.OpsSeen(a), len(b))
	has := a
	for _, op := range past {
		more, ok := impl.OpsWith(has, op)
		if !ok {
			t.Fatal("cannot be done", op, a, b)
		}
		has = more
	}
	if !slices.Equal(has, all) {
		t.Fatal("told, and not the same", past, a, b)
	}
	checkDoc(t, "told", impl.DocAll(Doc{Ops: a}, past), Doc{Ops: all})
	if !slices.Equal(mergedOps(t, a, with(impl.OpsUpto(b, impl.OpsSeen(a)), past...)), all) {
		t.Fatal("with what was seen", past, a, b)
	}
}

func TestP50WhatOneLacksOfTheOther(t *testing.T) {
	itself, some := 0, 0
	eachPair(349, oneByOne(), func(a []Op, b []Op) {
		checkToldTo(t, a, b)
		past := impl.OpsPast(b, impl.OpsSeen(a), len(b))
		if len(past) > 0 && len(past) < len(b) {
			some++
		}
		// OpsMerge is of two that are ok; what is told often refers to what was seen, and then is not.
		got, ok := impl.OpsMerge(a, past)
		if ok != doneOk(past) {
			t.Fatal(ok, a, past)
		}
		if ok {
			itself++
			if !slices.Equal(got, mergedOps(t, a, b)) {
				t.Fatal("of what is ok by itself", a, b)
			}
		} else if len(got) != 0 {
			t.Fatal("false, and something", got)
		}
	})
	if itself < 100 || some < 50 {
		t.Error("too few", itself, some)
	}
}

func TestP50Examples(t *testing.T) {
	from := typeRun(t, nil, 1, 0, "ad")
	one, two := typeRun(t, from, 1, 1, "bc"), typeRun(t, from, 2, 1, "xy")
	checkToldTo(t, one, two)
	checkToldTo(t, two, one)
	checkToldTo(t, nil, two)
	checkToldTo(t, two, nil)
	checkToldTo(t, one, one)
	// Beside nothing, and of another Rep: what is told is ok by itself.
	alone := okOps(t, "3.1 put z right 0.0\n3.2 put y right 3.1\n")
	checkToldTo(t, one, alone)
	all, ok := impl.OpsMerge(one, impl.OpsPast(alone, impl.OpsSeen(one), 2))
	if !ok || impl.TreeText(all) != "abcdzy" || !slices.Equal(all, mergedOps(t, one, alone)) {
		t.Error(impl.TreeText(all))
	}
}

func TestP44WrongLists(t *testing.T) {
	for name, ops := range wrongLists() {
		for _, seen := range edgeSeens() {
			if got := impl.OpsUpto(ops, seen); len(got) != 0 {
				t.Error(name, "OpsUpto", seen, got)
			}
			for _, most := range someMosts(len(ops)) {
				if got := impl.OpsPast(ops, seen, most); len(got) != 0 {
					t.Error(name, "OpsPast", seen, most, got)
				}
			}
		}
	}
}

func TestP48OfAnythingAtAll(t *testing.T) {
	d := &dice{state: 353}
	seens := edgeSeens()
	for _, ops := range anyLists() {
		seen := seens[d.below(len(seens))]
		checkUpto(t, "any", ops, seen)
		checkPast(t, "any", ops, seen, d.below(40)-2)
	}
}

// guardedNumbers is the list with room behind its end that holds something to be found again.
func guardedNumbers(list []int) []int {
	room := append(slices.Clone(list), 71, 72, 73, 74)
	return room[:len(list)]
}

func checkNumbers(t *testing.T, name string, room []int, list []int) {
	t.Helper()
	if !slices.Equal(room[:len(list)+4], append(slices.Clone(list), 71, 72, 73, 74)) {
		t.Error(name, "wrote into what was seen", list)
	}
}

func TestPastMemory(t *testing.T) {
	d := &dice{state: 359}
	check := func(ops []Op, seen []int, most int) {
		room := guardedNumbers(seen)
		checkTwoMemory(t, "OpsUpto", ops, nil, func(ops []Op, _ []Op) []Op { return impl.OpsUpto(ops, room) })
		checkNumbers(t, "OpsUpto", room, seen)
		checkTwoMemory(t, "OpsPast", ops, nil, func(ops []Op, _ []Op) []Op { return impl.OpsPast(ops, room, most) })
		checkNumbers(t, "OpsPast", room, seen)
	}
	for _, ops := range mostly(wholes(), 3) {
		for _, seen := range append(edgeSeens(), seenOf(ops), seenOf(part(d, ops, 1))) {
			check(ops, seen, d.below(len(ops)+3)-1)
		}
		check(ops, nil, len(ops))
		check(ops, seenOf(ops), len(ops))
	}
	for _, ops := range wrongLists() {
		check(ops, nil, 36)
		check(ops, []int{12, 12, 12}, 36)
	}
}

func TestPastAnswersTheSameAgain(t *testing.T) {
	d := &dice{state: 367}
	for _, ops := range wholes() {
		seen := []int{d.below(5), d.below(5), d.below(5)}
		past, upto := impl.OpsPast(ops, seen, 7), impl.OpsUpto(ops, seen)
		impl.OpsPast(chain(36), nil, 36)
		impl.OpsUpto(fullOps(), []int{12, 3, 1})
		if !slices.Equal(impl.OpsPast(guarded(ops), slices.Clone(seen), 7), past) || !slices.Equal(impl.OpsUpto(guarded(ops), guardedNumbers(seen)), upto) {
			t.Fatal("something is kept between calls", ops)
		}
	}
}
