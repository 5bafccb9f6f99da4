package tests

import (
	"slices"
	"testing"

	"loop.example/tatting/impl"
)

// isIn says by the document's words what OpsIn is, apart from the program.
func isIn(a []Op, b []Op) bool {
	if !doneOk(a) || !doneOk(b) {
		return false
	}
	for _, op := range a {
		if !slices.Contains(b, op) {
			return false
		}
	}
	return true
}

// tellOtherwise says whether two have things of one id that are not the same.
func tellOtherwise(a []Op, b []Op) bool {
	return slices.ContainsFunc(a, func(op Op) bool { return hasId(b, op.Id) && !slices.Contains(b, op) })
}

// merged is by the document's words what OpsMerge is, apart from the program.
func merged(a []Op, b []Op) ([]Op, bool) {
	if !doneOk(a) || !doneOk(b) || tellOtherwise(a, b) {
		return nil, false
	}
	all := slices.Clone(a)
	for _, op := range b {
		if !slices.Contains(all, op) {
			all = append(all, op)
		}
	}
	sortOps(all)
	return all, true
}

// mergedOps is OpsMerge where it must be true.
func mergedOps(t *testing.T, a []Op, b []Op) []Op {
	t.Helper()
	all, ok := impl.OpsMerge(a, b)
	if !ok {
		t.Fatal("not merged", a, b)
	}
	return all
}

// checkMerge holds OpsMerge against the document's words, and says whether it is true.
func checkMerge(t *testing.T, name string, a []Op, b []Op) bool {
	t.Helper()
	got, ok := impl.OpsMerge(a, b)
	want, can := merged(a, b)
	if ok != can || !slices.Equal(got, want) {
		t.Fatalf("%s: %v %v instead of %v %v, of\n%v and\n%v", name, got, ok, want, can, a, b)
	}
	return ok
}

// part is some of what was done that is ok by itself: a few things, and all that they cannot be without.
func part(d *dice, ops []Op, few int) []Op {
	has := map[Id]Op{}
	for _, op := range ops {
		has[op.Id] = op
	}
	got := map[Id]int{}
	var bring func(own Id)
	bring = func(own Id) {
		op, there := has[own]
		if !there || got[own] > 0 {
			return
		}
		got[own]++
		bring(id(own.Rep, own.Num-1))
		bring(op.Ref)
	}
	for range few {
		if len(ops) > 0 {
			bring(ops[d.below(len(ops))].Id)
		}
	}
	return slices.DeleteFunc(slices.Clone(ops), func(op Op) bool { return got[op.Id] == 0 })
}

// lacking is what was done without some last things of somebody to which nothing refers, so many times asked for.
func lacking(d *dice, ops []Op, times int) []Op {
	out := slices.Clone(ops)
	for range times {
		rep := d.below(impl.RepMax) + 1
		last := id(rep, doneBy(out, rep))
		if !slices.ContainsFunc(out, func(op Op) bool { return op.Ref == last }) {
			out = slices.DeleteFunc(out, func(op Op) bool { return op.Id == last })
		}
	}
	return out
}

// wholes are ok lists of which parts are taken: done one behind the other, typed, and such as refer to later things.
func wholes() [][]Op {
	return append(typeLists(), oneByOne()...)
}

// eachPair goes by two parts of each whole, and by the whole, nothing, and one part with a part of itself.
func eachPair(state uint64, lists [][]Op, each func(a []Op, b []Op)) {
	d := &dice{state: state}
	for _, ops := range lists {
		each(lacking(d, ops, 1+d.below(9)), lacking(d, ops, 1+d.below(9)))
		a, b := part(d, ops, 1+d.below(2)), part(d, ops, 1+d.below(3))
		each(a, b)
		each(b, a)
		each(a, ops)
		each(ops, part(d, b, 1))
		each(nil, a)
		each(b, []Op{})
		each(a, a)
	}
}

// fieldChanges are two that are ok and tell otherwise of just one thing, in one field, or in Kind with what belongs to it.
func fieldChanges() map[string][2][]Op {
	a, b, c := put(id(1, 1), 'a', right, nothing), put(id(1, 2), 'b', right, id(1, 1)), take(id(2, 1), id(1, 1))
	ops := []Op{a, b, c}
	d := put(id(3, 1), 'd', right, nothing)
	return map[string][2][]Op{
		"Sign":                              {ops, {put(id(1, 1), 'z', right, nothing), b, c}},
		"Side":                              {ops, {a, put(id(1, 2), 'b', left, id(1, 1)), c}},
		"Ref":                               {ops, {a, put(id(1, 2), 'b', right, nothing), c}},
		"Ref of a taking":                   {ops, {a, b, take(id(2, 1), id(1, 2))}},
		"Rep of Ref":                        {{a, put(id(2, 1), 'e', right, id(1, 1)), d}, {a, put(id(2, 1), 'e', right, id(3, 1)), d}},
		"Num of Ref":                        {{a, b, put(id(2, 1), 'e', left, id(1, 1))}, {a, b, put(id(2, 1), 'e', left, id(1, 2))}},
		"Kind":                              {ops, {a, b, put(id(2, 1), 'c', left, id(1, 1))}},
		"one thing each":                    {{a}, {put(id(1, 1), 'b', right, nothing)}},
		"the first, and the other has more": {{put(id(1, 1), 'b', right, nothing)}, ops},
		"the last of the one alone":         {ops[:2], {a, take(id(1, 2), id(1, 1)), put(id(1, 3), 'c', right, nothing)}},
		"of the last Rep":                   {{a, c, d}, {put(id(3, 1), 'e', right, nothing)}},
		"of the last Rep, where each has his own":   {{a, d}, {put(id(2, 1), 'c', right, nothing), put(id(3, 1), 'e', right, nothing)}},
		"the last of all that may be":               {fullOps(), append(fullOps()[:35:35], put(id(3, 12), 'y', left, id(1, 12)))},
		"the first of all that may be":              {fullOps(), append([]Op{put(id(1, 1), 'y', left, id(1, 12))}, fullOps()[1:]...)},
		"a taking, and one of another one's sign":   {{a, b, c}, {a, b, take(id(2, 1), id(1, 2)), take(id(2, 2), id(1, 1))}},
		"the same sign, put by who has it beside d": {{a, b, d}, {a, put(id(1, 2), 'b', right, id(3, 1)), d}},
	}
}

func checkIn(t *testing.T, name string, a []Op, b []Op) bool {
	t.Helper()
	if impl.OpsIn(a, b) != isIn(a, b) {
		t.Fatal(name, impl.OpsIn(a, b), a, b)
	}
	return isIn(a, b)
}

func TestP39InIsAsTheDocumentSays(t *testing.T) {
	in, out := 0, 0
	eachPair(211, wholes(), func(a []Op, b []Op) {
		if checkIn(t, "in", a, b) {
			in++
		} else {
			out++
		}
	})
	if in < 1000 || out < 500 {
		t.Error("too few", in, out)
	}
}

func TestP39InItselfAndNothingInAll(t *testing.T) {
	for _, ops := range wholes() {
		if !impl.OpsIn(ops, ops) || !impl.OpsIn(ops, slices.Clone(ops)) {
			t.Fatal("not in itself", ops)
		}
		if !impl.OpsIn(nil, ops) || !impl.OpsIn([]Op{}, ops) {
			t.Fatal("nothing is in all", ops)
		}
		if len(ops) > 0 && (impl.OpsIn(ops, nil) || impl.OpsIn(ops, []Op{})) {
			t.Fatal("something is not in nothing", ops)
		}
	}
	if !impl.OpsIn(nil, nil) || !impl.OpsIn([]Op{}, nil) || !impl.OpsIn(nil, []Op{}) {
		t.Error("nothing is in nothing")
	}
}

func TestP39InEachOtherIsOne(t *testing.T) {
	one := 0
	eachPair(223, wholes(), func(a []Op, b []Op) {
		if both := impl.OpsIn(a, b) && impl.OpsIn(b, a); both != slices.Equal(a, b) {
			t.Fatal(both, a, b)
		}
		if slices.Equal(a, b) {
			one++
		}
	})
	for name, two := range fieldChanges() {
		if impl.OpsIn(two[0], two[1]) || impl.OpsIn(two[1], two[0]) {
			t.Error("tells otherwise, and is in it:", name)
		}
	}
	if one < 300 {
		t.Error("too few", one)
	}
}

func TestP39InWhatIsInAThird(t *testing.T) {
	d := &dice{state: 227}
	all := 0
	for _, ops := range wholes() {
		some := [][]Op{ops, part(d, ops, 1), part(d, ops, 2), part(d, ops, 3)}
		some = append(some, part(d, some[3], 1), part(d, some[2], 1), changed(d, some[2]), nil)
		for _, a := range some {
			for _, b := range some {
				for _, c := range some {
					if !impl.OpsIn(a, b) || !impl.OpsIn(b, c) {
						continue
					}
					all++
					if !impl.OpsIn(a, c) {
						t.Fatal(a, b, c)
					}
				}
			}
		}
	}
	if all < 10000 {
		t.Error("too few", all)
	}
}

func TestP39InWithOneLess(t *testing.T) {
	for _, ops := range wholes() {
		for place := range ops {
			less := slices.Delete(slices.Clone(ops), place, place+1)
			checkIn(t, "one less", less, ops)
			if impl.OpsIn(ops, less) {
				t.Fatal("in what has one less", place, ops)
			}
		}
	}
}

func TestP39WrongLists(t *testing.T) {
	a, b := put(id(1, 1), 'a', right, nothing), put(id(1, 2), 'b', right, id(1, 1))
	all := []Op{a, b, take(id(2, 1), id(1, 1))}
	for name, two := range map[string][2][]Op{
		"a gap, and all is there":        {{b}, all},
		"no Ref, and all is there":       {all[2:], all},
		"out of order":                   {{b, a}, all},
		"twice":                          {{a, a}, all},
		"the second out of order":        {{a, b}, {b, a}},
		"nothing in what is not ok":      {nil, {b}},
		"in what is not ok for another":  {{a}, {a, take(id(2, 1), id(3, 1))}},
		"in itself, and is not ok":       {{b}, {b}},
		"no thing":                       {{{}}, all},
		"no thing, in no thing":          {{{}}, {{}}},
		"what is not ok, and in nothing": {{b}, nil},
	} {
		if impl.OpsIn(two[0], two[1]) || isIn(two[0], two[1]) {
			t.Error("in it:", name)
		}
	}
	for name, ops := range wrongLists() {
		for _, other := range [][]Op{nil, {}, all, fullOps(), ops} {
			if impl.OpsIn(ops, other) || impl.OpsIn(other, ops) {
				t.Error("in it:", name, other)
			}
		}
	}
}

func TestP40MergeIsAsTheDocumentSays(t *testing.T) {
	d := &dice{state: 229}
	can, cannot := 0, 0
	check := func(a []Op, b []Op) {
		if checkMerge(t, "merge", a, b) {
			can++
		} else {
			cannot++
		}
	}
	eachPair(233, wholes(), func(a []Op, b []Op) {
		check(a, b)
		check(changed(d, a), b)
		check(a, changed(d, b))
	})
	lists := mostly(wholes(), 5)
	for _, a := range lists {
		check(a, lists[d.below(len(lists))])
	}
	if can < 3000 || cannot < 3000 {
		t.Error("too few", can, cannot)
	}
}

func TestP40BothAreInIt(t *testing.T) {
	d := &dice{state: 239}
	more := 0
	eachPair(241, wholes(), func(a []Op, b []Op) {
		if d.below(4) == 0 {
			b = changed(d, b)
		}
		all, ok := impl.OpsMerge(a, b)
		turned, can := impl.OpsMerge(b, a)
		if ok != can || !slices.Equal(all, turned) {
			t.Fatal("it matters which is first", a, b)
		}
		if !ok {
			return
		}
		if !impl.OpsOk(all) || !impl.OpsIn(a, all) || !impl.OpsIn(b, all) {
			t.Fatal("both are not in it", a, b, all)
		}
		for _, op := range all {
			if !slices.Contains(a, op) && !slices.Contains(b, op) {
				t.Fatal("nobody did it", op, a, b)
			}
		}
		if len(all) > max(len(a), len(b)) {
			more++
		}
	})
	if more < 200 {
		t.Error("too few", more)
	}
}

func TestP40WithItselfAndWithNothing(t *testing.T) {
	d := &dice{state: 251}
	for _, ops := range wholes() {
		for _, other := range [][]Op{ops, slices.Clone(ops), nil, {}, part(d, ops, 1), part(d, ops, 3)} {
			if !slices.Equal(mergedOps(t, ops, other), ops) || !slices.Equal(mergedOps(t, other, ops), ops) {
				t.Fatal("what is in it changes it", ops, other)
			}
		}
	}
	for _, a := range [][]Op{nil, {}} {
		for _, b := range [][]Op{nil, {}} {
			if all, ok := impl.OpsMerge(a, b); !ok || len(all) != 0 {
				t.Error("nothing of nothing, and true", all, ok)
			}
		}
	}
}

func TestP40Examples(t *testing.T) {
	const a, b, c = "1.1 put a right 0.0\n", "1.2 put b right 1.1\n", "2.1 put c left 1.1\n"
	const d, e = "3.1 take 1.1\n", "3.2 put e right 1.2\n"
	for _, one := range [][3]string{
		{a, a, a},
		{a, a + b, a + b},
		{a + b, a + c, a + b + c},
		{a + d, a + b + c, a + b + c + d},
		{a + b + d + e, a + c, a + b + c + d + e},
		{a, "2.1 put z right 0.0\n", a + "2.1 put z right 0.0\n"},
		{"3.1 put z right 0.0\n", a + b, a + b + "3.1 put z right 0.0\n"},
		{"1.1 put a right 3.1\n3.1 put z right 0.0\n", "2.1 put y left 3.1\n3.1 put z right 0.0\n", "1.1 put a right 3.1\n2.1 put y left 3.1\n3.1 put z right 0.0\n"},
		// Of the same Reps the one has more of the one, and the other of the other.
		{a + b + "2.1 put z right 0.0\n", a + "2.1 put z right 0.0\n2.2 put y right 2.1\n", a + b + "2.1 put z right 0.0\n2.2 put y right 2.1\n"},
	} {
		all := mergedOps(t, okOps(t, one[0]), okOps(t, one[1]))
		turned := mergedOps(t, okOps(t, one[1]), okOps(t, one[0]))
		if impl.OpsText(all) != one[2] || impl.OpsText(turned) != one[2] {
			t.Errorf("%q and %q instead of %q", impl.OpsText(all), impl.OpsText(turned), one[2])
		}
	}
}

func TestP40TellOtherwiseOfOneThing(t *testing.T) {
	for name, two := range fieldChanges() {
		for _, ops := range two {
			if !doneOk(ops) || !impl.OpsOk(ops) {
				t.Fatal("should be ok", name, ops)
			}
		}
		if checkMerge(t, name, two[0], two[1]) || checkMerge(t, name, two[1], two[0]) {
			t.Error("should be false", name)
		}
		checkMerge(t, name, two[0], two[0])
		checkMerge(t, name, two[1], two[1])
	}
}

func TestP40OneSignOtherwiseAtEachPlace(t *testing.T) {
	for _, ops := range mostly(wholes(), 3) {
		for place, op := range ops {
			if op.Kind != impl.OpPut {
				continue
			}
			other := slices.Clone(ops)
			other[place].Sign = 'a' + (op.Sign-'a'+1)%26
			if all, ok := impl.OpsMerge(ops, other); ok || len(all) != 0 {
				t.Fatal("tells otherwise", place, ops)
			}
			if impl.OpsIn(ops, other) || impl.OpsIn(other, ops) {
				t.Fatal("tells otherwise, and is in it", place, ops)
			}
		}
	}
}

// smallLists are all that are ok of these ids, of one letter, on the right.
func smallLists(ids []Id) [][]Op {
	lists := [][]Op{nil}
	for _, own := range ids {
		var more [][]Op
		for _, ops := range lists {
			more = append(more, ops)
			for _, ref := range append([]Id{nothing}, ids...) {
				for _, op := range []Op{put(own, 'a', right, ref), take(own, ref)} {
					if formOk(op) {
						more = append(more, with(ops, op))
					}
				}
			}
		}
		lists = more
	}
	return slices.DeleteFunc(lists, func(ops []Op) bool { return !doneOk(ops) })
}

func TestP40NoTwoHaveACircleOnlyTogether(t *testing.T) {
	can, cannot := 0, 0
	for _, ids := range [][]Id{
		{id(1, 1), id(2, 1), id(3, 1)},
		{id(1, 1), id(1, 2), id(2, 1)},
	} {
		lists := smallLists(ids)
		for _, a := range lists {
			for _, b := range lists {
				if !checkMerge(t, "small", a, b) {
					cannot++
					continue
				}
				can++
				if all, _ := impl.OpsMerge(a, b); !doneOk(all) {
					t.Fatal("not ok", a, b)
				}
			}
		}
	}
	if can < 300 || cannot < 300 {
		t.Error("too few", can, cannot)
	}
	// What would close the circle refers to what is not there, so that it is not ok by itself.
	ahead, behind := []Op{put(id(1, 1), 'a', right, id(2, 1))}, []Op{put(id(2, 1), 'b', right, id(1, 1))}
	if all, ok := impl.OpsMerge(ahead, behind); ok || len(all) != 0 {
		t.Error("halves of a circle", all)
	}
}

func TestP40WrongLists(t *testing.T) {
	good := [][]Op{nil, {}, {put(id(1, 1), 'a', right, nothing)}, okOps(t, "1.1 put a right 0.0\n1.2 put b left 1.1\n"), fullOps()}
	check := func(name string, a []Op, b []Op) {
		if all, ok := impl.OpsMerge(a, b); ok || len(all) != 0 {
			t.Error(name, "merged", all)
		}
		if impl.OpsIn(a, b) {
			t.Error(name, "is in it")
		}
	}
	wrong := wrongLists()
	for name, ops := range wrong {
		for _, ok := range good {
			check(name+", as the first", ops, ok)
			check(name+", as the second", ok, ops)
		}
		check(name+", as both", ops, ops)
		check(name+", as both", ops, slices.Clone(ops))
		for other, more := range wrong {
			check(name+" and "+other, ops, more)
		}
	}
	// Together they would be ok.
	a, b := put(id(1, 1), 'a', right, nothing), put(id(1, 2), 'b', right, id(1, 1))
	check("a gap that the other fills", []Op{b}, []Op{a})
	check("a gap that the other fills", []Op{a}, []Op{b})
	check("a Ref that the other has", []Op{a}, []Op{take(id(2, 1), id(1, 1))})
	check("out of order, in the other in order", []Op{b, a}, []Op{a, b})
	check("twice, in the other once", []Op{a, b}, []Op{a, a, b})
}

func TestP41ThreeHoweverTheyAreTaken(t *testing.T) {
	d := &dice{state: 257}
	many := 0
	for _, ops := range slices.Repeat(wholes(), 2) {
		some := [3][]Op{part(d, ops, 1), part(d, ops, 1), part(d, ops, 1+d.below(2))}
		want := together(t, some[0], some[1], some[2])
		for _, order := range [][3]int{{0, 1, 2}, {0, 2, 1}, {1, 0, 2}, {1, 2, 0}, {2, 0, 1}, {2, 1, 0}} {
			a, b, c := some[order[0]], some[order[1]], some[order[2]]
			first := mergedOps(t, mergedOps(t, a, b), c)
			last := mergedOps(t, a, mergedOps(t, b, c))
			if !slices.Equal(first, want) || !slices.Equal(last, want) {
				t.Fatal(first, last, want)
			}
		}
		if len(want) > max(len(some[0]), len(some[1]), len(some[2])) {
			many++
		}
	}
	if many < 200 {
		t.Error("too few", many)
	}
}

func TestP41ThreeThatWentOnFromTheSame(t *testing.T) {
	from := typeRun(t, nil, 1, 0, "ad")
	one, two, three := typeRun(t, from, 1, 1, "bc"), typeRun(t, from, 2, 1, "xy"), typeRun(t, from, 3, 2, "z")
	for _, all := range [][]Op{
		mergedOps(t, mergedOps(t, one, two), three),
		mergedOps(t, one, mergedOps(t, two, three)),
		mergedOps(t, mergedOps(t, three, one), two),
	} {
		if impl.TreeText(all) != "abcxydz" {
			t.Error(impl.TreeText(all))
		}
	}
	// If two of three tell otherwise of one thing, not all can be.
	other := typeRun(t, from, 2, 0, "q")
	if _, ok := impl.OpsMerge(mergedOps(t, one, two), other); ok {
		t.Error("tells otherwise than the second")
	}
	if _, ok := impl.OpsMerge(two, mergedOps(t, one, other)); ok {
		t.Error("tells otherwise than the third")
	}
}

func TestP42OrderStays(t *testing.T) {
	many := 0
	eachPair(263, wholes(), func(a []Op, b []Op) {
		all := mergedOps(t, a, b)
		checkOrderStays(t, a, all)
		checkOrderStays(t, b, all)
		if !slices.Equal(impl.TreeLeaves(all), standing(together(t, a, b))) {
			t.Fatal(a, b)
		}
		for _, l := range impl.TreeLeaves(all) {
			if l.Gone != (takenAway(a, l.Id) || takenAway(b, l.Id)) {
				t.Fatal("gone just if it was in one", l, a, b)
			}
			if l.Gone && takenAway(a, l.Id) != takenAway(b, l.Id) {
				many++
			}
		}
	})
	if many < 500 {
		t.Error("too few are gone in but one", many)
	}
}

func TestP42WhatWasGoneInOneIsGone(t *testing.T) {
	from := typeRun(t, nil, 1, 0, "abc")
	one := with(from, take(id(2, 1), id(1, 2)))
	two := typeRun(t, from, 3, 2, "xy")
	if text := impl.TreeText(mergedOps(t, one, two)); text != "axyc" {
		t.Error(text)
	}
	both := with(from, take(id(3, 1), id(1, 2)))
	if text := impl.TreeText(mergedOps(t, one, both)); text != "ac" {
		t.Error(text)
	}
	again := typeRun(t, one, 2, 1, "b")
	if text := impl.TreeText(mergedOps(t, again, both)); text != "abc" {
		t.Error(text)
	}
}

func TestP43IsWhatADocHears(t *testing.T) {
	d := &dice{state: 269}
	many := 0
	eachPair(271, oneByOne(), func(a []Op, b []Op) {
		all := mergedOps(t, a, b)
		for _, order := range [][]Op{b, backwards(b), shuffled(d, b)} {
			got := impl.DocAll(Doc{Ops: a}, order)
			if len(b) > impl.WaitMax {
				checkDoc(t, "more than may wait", got, heardAll(Doc{Ops: a}, order))
				continue
			}
			checkDoc(t, "hears of the other", got, Doc{Ops: all})
			if len(all) > len(a)+2 {
				many++
			}
		}
	})
	if many < 300 {
		t.Error("too few", many)
	}
}

func TestP43JustAsMuchAsMayWait(t *testing.T) {
	all := chain(21)
	for known := range 22 {
		a := all[:known]
		got := impl.DocAll(Doc{Ops: a}, backwards(all))
		checkDoc(t, "as much as may wait", got, Doc{Ops: mergedOps(t, a, all)})
	}
	for _, b := range [][]Op{chain(22), chain(36)} {
		got := impl.DocAll(Doc{}, backwards(b))
		if slices.Equal(got.Ops, mergedOps(t, nil, b)) {
			t.Error("more than may wait", got)
		}
	}
}

func TestP43OneThatRefersToLaterThings(t *testing.T) {
	// Ok all together, but a doc cannot do it one by one: OpsMerge has it, and a doc awaits it.
	later := okOps(t, "1.1 put a right 1.2\n1.2 put b right 0.0\n")
	own := okOps(t, "2.1 put c right 0.0\n")
	all := mergedOps(t, own, later)
	checkDoc(t, "waits", impl.DocAll(Doc{Ops: own}, later), Doc{Ops: own, Wait: later})
	checkDoc(t, "has it, and hears of the other", impl.DocAll(Doc{Ops: later}, own), Doc{Ops: all})
}

func TestP49SeenIsTheGreaterOfBoth(t *testing.T) {
	more := 0
	eachPair(277, wholes(), func(a []Op, b []Op) {
		got := impl.OpsSeen(mergedOps(t, a, b))
		aHas, bHas := false, false
		for rep := 1; rep <= impl.RepMax; rep++ {
			one, other := doneBy(a, rep), doneBy(b, rep)
			if len(got) != impl.RepMax || got[rep-1] != max(one, other) {
				t.Fatal(got, a, b)
			}
			aHas, bHas = aHas || one > other, bHas || other > one
		}
		if aHas && bHas {
			more++
		}
	})
	if more < 200 {
		t.Error("too few", more)
	}
	if !slices.Equal(impl.OpsSeen(mergedOps(t, nil, nil)), []int{0, 0, 0}) {
		t.Error("of nothing")
	}
}

func TestP51EachSignIsThereToo(t *testing.T) {
	signs, away := 0, 0
	eachPair(281, wholes(), func(a []Op, b []Op) {
		if !impl.OpsIn(a, b) {
			return
		}
		leaves := impl.TreeLeaves(b)
		for _, l := range impl.TreeLeaves(a) {
			signs++
			there := slices.IndexFunc(leaves, func(one Leaf) bool { return one.Id == l.Id && one.Sign == l.Sign })
			if there < 0 || l.Gone && !leaves[there].Gone {
				t.Fatal(l, a, b)
			}
			if l.Gone {
				away++
			}
		}
		checkOrderStays(t, a, b)
	})
	if signs < 5000 || away < 500 {
		t.Error("too few", signs, away)
	}
}

func TestP51GoneThereAndNotHere(t *testing.T) {
	here := typeRun(t, nil, 1, 0, "ab")
	there := with(here, take(id(2, 1), id(1, 1)))
	if !impl.OpsIn(here, there) || impl.OpsIn(there, here) {
		t.Error("one is in the other")
	}
	if !slices.Equal(impl.TreeLeaves(there), []Leaf{gone(id(1, 1), 'a'), leaf(id(1, 2), 'b')}) {
		t.Error(impl.TreeLeaves(there))
	}
}

// checkTwoMemory asks that both arguments stay, and that an answer shares no memory with them, or with another answer.
func checkTwoMemory(t *testing.T, name string, a []Op, b []Op, call func(a []Op, b []Op) []Op) {
	t.Helper()
	one, other := guarded(a), guarded(b)
	first, second := call(one, other), call(one, other)
	want := slices.Clone(first)
	spoil(first, -9)
	checkGuarded(t, name, one, a)
	checkGuarded(t, name, other, b)
	if !slices.Equal(second, want) || isSpoilt(second, -9) {
		t.Error(name, "shares memory with another answer", a, b)
	}
	spoil(one, -8)
	spoil(other, -7)
	if !slices.Equal(second, want) || isSpoilt(second, -8) || isSpoilt(second, -7) {
		t.Error(name, "shares memory with its argument", a, b)
	}
}

func mergeOnly(a []Op, b []Op) []Op {
	all, _ := impl.OpsMerge(a, b)
	return all
}

func inOnly(a []Op, b []Op) []Op {
	impl.OpsIn(a, b)
	return nil
}

func TestMergeMemory(t *testing.T) {
	check := func(a []Op, b []Op) {
		checkTwoMemory(t, "OpsMerge", a, b, mergeOnly)
		checkTwoMemory(t, "OpsIn", a, b, inOnly)
	}
	eachPair(283, mostly(wholes(), 2), check)
	for _, two := range fieldChanges() {
		check(two[0], two[1])
	}
	for _, ops := range wrongLists() {
		check(ops, fullOps())
		check(fullOps(), ops)
		check(ops, ops)
	}
	// One and the same list as both.
	for _, ops := range wholes() {
		checkTwoMemory(t, "OpsMerge with itself", ops, nil, func(a []Op, _ []Op) []Op { return mergeOnly(a, a) })
		checkTwoMemory(t, "OpsMerge with its beginning", ops, nil, func(a []Op, _ []Op) []Op { return mergeOnly(a, a[:len(a)/2]) })
		checkTwoMemory(t, "OpsMerge with its beginning", ops, nil, func(a []Op, _ []Op) []Op { return mergeOnly(a[:len(a)/2], a) })
	}
}

func TestMergeAnswersTheSameAgain(t *testing.T) {
	eachPair(293, mostly(wholes(), 3), func(a []Op, b []Op) {
		want, can := impl.OpsMerge(a, b)
		in := impl.OpsIn(a, b)
		impl.OpsMerge(fullOps(), chain(36))
		impl.OpsIn(b, a)
		got, ok := impl.OpsMerge(slices.Clone(a), guarded(b))
		if ok != can || !slices.Equal(got, want) || impl.OpsIn(guarded(a), b) != in {
			t.Fatal("something is kept between calls", a, b)
		}
	})
}
