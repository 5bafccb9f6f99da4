package tests

import (
	"slices"
	"testing"

	"loop.example/tatting/impl"
)

// oneByOne are lists each thing of which can be done behind others of it, of all lengths.
func oneByOne() [][]Op {
	d := &dice{state: 113}
	lists := [][]Op{nil, fullOps()[11:12], chain(1), chain(21), chain(36), rowOps(func(place int) int { return place % 2 })}
	for round := range 60 {
		lists = append(lists, madeOps(d, round%37), writtenOps(d, round%40))
	}
	return slices.DeleteFunc(lists, func(ops []Op) bool { return !doneOk(ops) })
}

// hearsAll says whether nothing is lost while a doc of nothing hears of that in that order, apart from the program.
func hearsAll(list []Op) bool {
	var d Doc
	for _, op := range list {
		next := heard(d, op)
		if len(next.Ops)+len(next.Wait) == len(d.Ops)+len(d.Wait) {
			return false
		}
		d = next
	}
	return true
}

func TestP36AnyOrder(t *testing.T) {
	d := &dice{state: 127}
	heardOf, lost := 0, 0
	for _, ops := range oneByOne() {
		orders := [][]Op{ops, backwards(ops)}
		for range 6 {
			orders = append(orders, shuffled(d, ops))
		}
		for _, order := range orders {
			got := impl.DocAll(Doc{}, order)
			if !hearsAll(order) {
				lost++
				checkDoc(t, "more than may wait", got, heardAll(Doc{}, order))
				continue
			}
			heardOf++
			checkDoc(t, "any order", got, Doc{Ops: ops})
		}
	}
	if heardOf < 500 || lost < 20 {
		t.Error("too few", heardOf, lost)
	}
}

// eachOrder goes by all orders of a list.
func eachOrder(list []Op, from int, each func(order []Op)) {
	if from >= len(list) {
		each(slices.Clone(list))
		return
	}
	for i := from; i < len(list); i++ {
		list[from], list[i] = list[i], list[from]
		eachOrder(list, from+1, each)
		list[from], list[i] = list[i], list[from]
	}
}

func TestP36EveryOrderOfAFewThings(t *testing.T) {
	for _, text := range []string{
		"1.1 put a right 0.0\n1.2 put b right 1.1\n1.3 take 1.2\n2.1 put c left 1.2\n2.2 put d right 2.1\n3.1 take 2.1\n",
		"1.1 put a right 0.0\n2.1 put b right 1.1\n2.2 put c right 1.1\n3.1 put d left 2.2\n3.2 put e left 3.1\n3.3 take 3.2\n",
		"1.1 put a right 2.1\n1.2 put b left 3.2\n2.1 put c right 0.0\n3.1 take 1.1\n3.2 put d right 1.1\n",
		"1.1 put a right 0.0\n1.2 put b right 0.0\n2.1 put c right 0.0\n2.2 put d right 0.0\n3.1 put e right 0.0\n3.2 put f right 0.0\n",
		"1.1 put a right 0.0\n1.2 take 1.1\n2.1 take 1.1\n2.2 take 1.1\n3.1 take 1.1\n3.2 take 1.1\n",
	} {
		ops := okOps(t, text)
		eachOrder(slices.Clone(ops), 0, func(order []Op) {
			var d Doc
			for _, op := range order {
				want := heard(d, op)
				d = impl.DocHear(d, op)
				checkDoc(t, "each order", d, want)
			}
			checkDoc(t, "in the end", d, Doc{Ops: ops})
		})
	}
}

func TestP36JustAsMuchAsMayWait(t *testing.T) {
	ops := chain(impl.WaitMax + 1)
	waiting := impl.DocAll(Doc{}, backwards(ops[1:]))
	checkDoc(t, "WaitMax wait", waiting, Doc{Wait: ops[1:]})
	checkDoc(t, "all is done", impl.DocHear(waiting, ops[0]), Doc{Ops: ops})

	ops = chain(impl.WaitMax + 2)
	got := impl.DocAll(Doc{}, backwards(ops))
	checkDoc(t, "one is lost", got, Doc{Ops: ops[:1], Wait: ops[2:]})
	checkDoc(t, "it comes once more", impl.DocHear(got, ops[1]), Doc{Ops: ops})
}

func TestP36RefersToLaterThings(t *testing.T) {
	// Ok all together, but none of both can be done behind the other: each waits for the other one.
	ops := okOps(t, "1.1 put a right 1.2\n1.2 put b right 0.0\n")
	checkDoc(t, "in order", impl.DocAll(Doc{}, ops), Doc{Wait: ops})
	checkDoc(t, "backwards", impl.DocAll(Doc{}, backwards(ops)), Doc{Wait: ops})
	checkDoc(t, "done already", impl.DocAll(Doc{Ops: ops}, ops), Doc{Ops: ops})
}

func TestP37AllIsEachBehindTheOther(t *testing.T) {
	docs, lists := someDocs()
	for n, d := range docs {
		list := append(slices.Clone(lists[n]), Op{}, put(id(1, 1), 'z', right, nothing))
		each := cloned(d)
		for i, op := range list {
			each = impl.DocHear(each, op)
			checkDoc(t, "a beginning", impl.DocAll(d, list[:i+1]), each)
		}
		checkDoc(t, "all", impl.DocAll(d, list), heardAll(d, list))
		checkDoc(t, "in two parts", impl.DocAll(impl.DocAll(d, list[:len(list)/2]), list[len(list)/2:]), each)
		checkDoc(t, "none", impl.DocAll(d, nil), d)
		checkDoc(t, "none", impl.DocAll(d, []Op{}), d)
	}
	if !isNoDoc(impl.DocAll(Doc{}, nil)) {
		t.Error("nothing of nothing")
	}
}

func TestP37TheSameListTwice(t *testing.T) {
	for _, ops := range oneByOne() {
		for _, order := range [][]Op{ops, backwards(ops)} {
			if hearsAll(order) {
				checkDoc(t, "twice", impl.DocAll(Doc{}, slices.Concat(order, order)), Doc{Ops: ops})
				checkDoc(t, "and again", impl.DocAll(impl.DocAll(Doc{}, order), order), Doc{Ops: ops})
			}
		}
	}
	// What was lost at first is heard of the second time.
	ops := chain(36)
	got := impl.DocAll(Doc{}, backwards(ops))
	if len(got.Ops) != 1 || len(got.Wait) != impl.WaitMax {
		t.Fatal(got)
	}
	checkDoc(t, "backwards twice", impl.DocAll(got, backwards(ops)), heardAll(got, backwards(ops)))
	checkDoc(t, "in order then", impl.DocAll(got, ops), Doc{Ops: ops})
}

func TestP37LongLists(t *testing.T) {
	ops := chain(36)
	checkDoc(t, "many times", impl.DocAll(Doc{}, slices.Repeat(ops, 300)), Doc{Ops: ops})
	checkDoc(t, "no things", impl.DocAll(Doc{Ops: ops}, make([]Op, 10000)), Doc{Ops: ops})
}

func TestP38TwoOrdersOneText(t *testing.T) {
	d := &dice{state: 131}
	many := 0
	for _, list := range append(oneByOne(), sources()...) {
		if !doneOk(list) {
			continue
		}
		one, two := impl.DocAll(Doc{}, shuffled(d, list)), impl.DocAll(Doc{}, shuffled(d, list))
		// Of what was lost as too much waited a doc did not hear.
		if len(one.Wait)+len(two.Wait) > 0 || len(one.Ops) != len(list) || len(two.Ops) != len(list) {
			continue
		}
		many++
		if impl.TreeText(one.Ops) != impl.TreeText(two.Ops) || impl.TreeText(one.Ops) != textOf(standing(list)) {
			t.Fatal(impl.TreeText(one.Ops), impl.TreeText(two.Ops), list)
		}
	}
	if many < 100 {
		t.Error("too few", many)
	}
}

func TestP38FromWhatIsThereOn(t *testing.T) {
	d := &dice{state: 137}
	docs, lists := someDocs()
	many := 0
	for n, doc := range docs {
		list := lists[n]
		var ids []Id
		for _, op := range list {
			ids = append(ids, op.Id)
		}
		// Of two things of one id the first one counts, so that their order matters.
		slices.SortFunc(ids, func(a Id, b Id) int { return a.Rep*100 + a.Num - b.Rep*100 - b.Num })
		if len(slices.Compact(ids)) < len(list) {
			continue
		}
		one, two := impl.DocAll(doc, list), impl.DocAll(doc, shuffled(d, list))
		if len(one.Wait)+len(two.Wait) > 0 || len(one.Ops) != len(two.Ops) {
			continue
		}
		many++
		checkDoc(t, "two orders", two, one)
		if impl.TreeText(one.Ops) != impl.TreeText(two.Ops) {
			t.Fatal(one, two)
		}
	}
	if many < 20 {
		t.Error("too few", many)
	}
}

func TestP38ExampleOfTwoAway(t *testing.T) {
	from, _ := impl.TypeRun(nil, 1, 0, "ad")
	one, _ := impl.TypeRun(from, 2, 1, "bb")
	two, _ := impl.TypeRun(from, 3, 1, "cc")
	all := together(t, one, two)
	for _, order := range [][]Op{all, backwards(all), slices.Concat(two[2:], one[2:], from), slices.Concat(one[2:], two[2:], from)} {
		d := impl.DocAll(Doc{}, order)
		if len(d.Wait) != 0 || impl.TreeText(d.Ops) != "abbccd" {
			t.Error(impl.TreeText(d.Ops), d.Wait)
		}
	}
}

// spoil writes into a list and all its spare room.
func spoil(list []Op, mark int) {
	for i := range cap(list) {
		list[:cap(list)][i] = Op{Kind: mark}
	}
}

func isSpoilt(list []Op, mark int) bool {
	return slices.ContainsFunc(list[:cap(list)], func(op Op) bool { return op.Kind == mark })
}

// checkDocMemory asks that arguments stay, and that no list of an answer shares memory with them, with another answer, or with the other list.
func checkDocMemory(t *testing.T, name string, d Doc, list []Op, call func(d Doc, list []Op) Doc) {
	t.Helper()
	room, listRoom := Doc{Ops: guarded(d.Ops), Wait: guarded(d.Wait)}, guarded(list)
	first, second := call(room, listRoom), call(room, listRoom)
	want := cloned(first)
	spoil(first.Ops, -9)
	if !slices.Equal(first.Wait, want.Wait) || isSpoilt(first.Wait, -9) {
		t.Error(name, "has two lists that share memory", d)
	}
	spoil(first.Wait, -7)
	if isSpoilt(first.Ops, -7) {
		t.Error(name, "has two lists that share memory", d)
	}
	checkGuarded(t, name, room.Ops, d.Ops)
	checkGuarded(t, name, room.Wait, d.Wait)
	checkGuarded(t, name, listRoom, list)
	if !sameDoc(second, want) {
		t.Error(name, "shares memory with another answer", d)
	}
	for _, argument := range [][]Op{room.Ops, room.Wait, listRoom} {
		spoil(argument, -8)
	}
	for _, mark := range []int{-7, -8, -9} {
		if isSpoilt(second.Ops, mark) || isSpoilt(second.Wait, mark) {
			t.Error(name, "shares memory", mark, d)
		}
	}
	if !sameDoc(second, want) {
		t.Error(name, "shares memory with its argument", d)
	}
}

func TestDocMemory(t *testing.T) {
	docs, lists := someDocs()
	docs, lists = append(docs, fullWait(19), fullWait(20), Doc{}), append(lists, notInForm()[:9], chain(21), nil)
	for _, d := range wrongDocs() {
		if len(d.Wait) < 100 {
			docs, lists = append(docs, d), append(lists, []Op{put(id(1, 1), 'k', right, nothing), take(id(2, 2), id(1, 1))})
		}
	}
	for n, d := range docs {
		checkDocMemory(t, "DocAll", d, lists[n], impl.DocAll)
		checkDocMemory(t, "DocAll of none", d, nil, impl.DocAll)
		checkDocMemory(t, "DocHear of no thing", d, nil, func(d Doc, _ []Op) Doc { return impl.DocHear(d, Op{}) })
		for _, op := range slices.Concat(lists[n][:min(3, len(lists[n]))], d.Ops, d.Wait) {
			checkDocMemory(t, "DocHear", d, nil, func(d Doc, _ []Op) Doc { return impl.DocHear(d, op) })
		}
		room := Doc{Ops: guarded(d.Ops), Wait: guarded(d.Wait)}
		impl.DocOk(room)
		checkGuarded(t, "DocOk", room.Ops, d.Ops)
		checkGuarded(t, "DocOk", room.Wait, d.Wait)
	}
}

func TestDocAnswersTheSameAgain(t *testing.T) {
	docs, lists := someDocs()
	for n, d := range docs {
		want := impl.DocAll(d, lists[n])
		impl.DocAll(fullWait(20), chain(36))
		for range 5 {
			if got := impl.DocAll(cloned(d), lists[n]); !sameDoc(got, want) {
				t.Fatal("something is kept, or hangs on the order of a map", got, want)
			}
		}
	}
}
