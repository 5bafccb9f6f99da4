package tests

import (
	"slices"
	"testing"

	"loop.example/tatting/impl"
)

// checkWith is promise 27 of one call, and whether it is true just where the document says so.
func checkWith(t *testing.T, ops []Op, op Op) bool {
	t.Helper()
	all, ok := impl.OpsWith(ops, op)
	if want := doneOk(ops) && doneOk(with(ops, op)); ok != want {
		t.Fatal(ok, op, ops)
	}
	if !ok {
		if len(all) != 0 {
			t.Fatal("false, and something", all, op, ops)
		}
		return false
	}
	if !impl.OpsOk(all) || !slices.Equal(all, with(ops, op)) {
		t.Fatal(all, op, ops)
	}
	place := slices.Index(all, op)
	if impl.OpsFind(all, op.Id) != place || impl.OpsFind(ops, op.Id) != -1 || !slices.Equal(slices.Delete(slices.Clone(all), place, place+1), ops) {
		t.Fatal(place, all, op, ops)
	}
	if again, ok := impl.OpsWith(all, op); ok || len(again) != 0 {
		t.Fatal("twice", again, op, ops)
	}
	return true
}

func TestP27WithHasThatMore(t *testing.T) {
	d := &dice{state: 59}
	can, cannot := 0, 0
	for _, ops := range typeLists() {
		var ids []Id
		for rep := 1; rep <= impl.RepMax; rep++ {
			ids = append(ids, id(rep, 1), id(rep, doneBy(ops, rep)), id(rep, doneBy(ops, rep)+1), id(rep, doneBy(ops, rep)+2))
		}
		for _, own := range ids {
			ref := id(d.below(4), d.below(13))
			if len(ops) > 0 && d.below(3) > 0 {
				ref = ops[d.below(len(ops))].Id
			}
			for _, op := range []Op{put(own, 'k', right, nothing), put(own, 'k', d.below(2), ref), take(own, ref)} {
				if checkWith(t, ops, op) {
					can++
				} else {
					cannot++
				}
			}
		}
	}
	if can < 1000 || cannot < 1000 {
		t.Error("too few", can, cannot)
	}
}

func TestP27WithOfAnythingAtAll(t *testing.T) {
	can := 0
	for _, text := range []string{"", "1.1 put a right 0.0\n1.2 take 1.1\n3.1 put b left 1.1\n"} {
		ops := okOps(t, text)
		for place := range 5 * 5 * 4 * 5 * 5 * 4 * 4 {
			next := func(many int) int {
				digit := place % many
				place /= many
				return digit
			}
			op := Op{Id: id(next(5), next(5)), Kind: next(4), Ref: id(next(5), next(5)), Side: next(4) - 1}
			op.Sign = []int{0, 'a' - 1, 'a', 'z' + 1}[next(4)]
			if checkWith(t, ops, op) {
				can++
			}
		}
	}
	// Of nothing: a sign beside nothing of 3. Of the other: of 3 a sign beside nothing, on both sides of 2, and 2 takings.
	if can != 3+3*(1+4+2) {
		t.Error(can)
	}
}

func TestP27WithExamples(t *testing.T) {
	const a, b, gone = "1.1 put a right 0.0\n", "1.2 put b right 1.1\n", "3.1 take 1.1\n"
	for _, c := range []struct {
		ops  string
		op   Op
		want string
	}{
		{"", put(id(1, 1), 'a', right, nothing), a},
		{"", put(id(3, 1), 'a', right, nothing), "3.1 put a right 0.0\n"},
		{a, put(id(1, 2), 'b', right, id(1, 1)), a + b},
		{a, take(id(3, 1), id(1, 1)), a + gone},
		{a + b + gone, put(id(1, 3), 'c', left, id(1, 2)), a + b + "1.3 put c left 1.2\n" + gone},
		{a + b + gone, put(id(2, 1), 'c', left, id(1, 1)), a + b + "2.1 put c left 1.1\n" + gone},
		{a + b + gone, put(id(3, 2), 'c', right, nothing), a + b + gone + "3.2 put c right 0.0\n"},
		{a + b + gone, take(id(2, 1), id(1, 1)), a + b + "2.1 take 1.1\n" + gone},
		{"3.1 put z right 0.0\n", put(id(1, 1), 'a', left, id(3, 1)), "1.1 put a left 3.1\n3.1 put z right 0.0\n"},
	} {
		all, ok := impl.OpsWith(okOps(t, c.ops), c.op)
		if !ok || impl.OpsText(all) != c.want {
			t.Errorf("%q %v instead of %q", impl.OpsText(all), ok, c.want)
		}
	}
}

func TestP27WithOfWhatCannotBe(t *testing.T) {
	ops := okOps(t, "1.1 put a right 0.0\n1.2 put b right 1.1\n3.1 take 1.1\n")
	for name, op := range map[string]Op{
		"leaves a gap":            put(id(1, 4), 'c', right, nothing),
		"not the first":           put(id(2, 2), 'c', right, nothing),
		"was done":                ops[0],
		"was done by another":     ops[2],
		"other, of an id done":    put(id(1, 2), 'c', right, id(1, 1)),
		"taking, of an id done":   take(id(1, 2), id(1, 1)),
		"beside what is not":      put(id(2, 1), 'c', right, id(1, 3)),
		"beside what is no put":   put(id(2, 1), 'c', right, id(3, 1)),
		"beside itself":           put(id(2, 1), 'c', right, id(2, 1)),
		"takes what is not":       take(id(2, 1), id(2, 2)),
		"takes what is no put":    take(id(2, 1), id(3, 1)),
		"takes itself":            take(id(2, 1), id(2, 1)),
		"takes nothing":           take(id(2, 1), nothing),
		"on the left of nothing":  put(id(2, 1), 'c', left, nothing),
		"no letter":               put(id(2, 1), 'C', right, nothing),
		"no side":                 put(id(2, 1), 'c', 2, id(1, 1)),
		"no kind":                 {Id: id(2, 1), Ref: id(1, 1)},
		"nothing":                 {},
		"of Rep 0":                put(id(0, 1), 'c', right, nothing),
		"of a Rep above RepMax":   put(id(4, 1), 'c', right, nothing),
		"of Num 0":                put(id(2, 0), 'c', right, nothing),
		"of a Num below 0":        put(id(1, -1), 'c', right, nothing),
		"of a Num far off":        put(id(1, 1<<40), 'c', right, nothing),
		"beside one of no Rep":    put(id(2, 1), 'c', right, id(0, 1)),
		"beside one far off":      put(id(2, 1), 'c', right, id(1<<40, 1)),
		"takes, with a side":      {Id: id(2, 1), Kind: impl.OpTake, Ref: id(1, 1), Side: right},
		"takes, with a letter":    {Id: id(2, 1), Kind: impl.OpTake, Ref: id(1, 1), Sign: 'c'},
		"beside one that follows": put(id(2, 1), 'c', right, id(2, 2)),
	} {
		if all, ok := impl.OpsWith(ops, op); ok || len(all) != 0 {
			t.Error(name, all, ok)
		}
		checkWith(t, ops, op)
	}
}

func TestP27WithDoesNotMendWhatWasNotOk(t *testing.T) {
	a, b, c := put(id(1, 1), 'a', right, nothing), put(id(1, 2), 'b', right, id(1, 1)), put(id(1, 3), 'c', right, nothing)
	for _, one := range []struct {
		ops []Op
		op  Op
	}{
		{[]Op{b}, a},
		{[]Op{a, c}, b},
		{[]Op{a, take(id(2, 1), id(1, 2))}, b},
		{[]Op{put(id(2, 1), 'x', left, id(3, 1))}, put(id(3, 1), 'y', right, nothing)},
	} {
		if !doneOk(with(one.ops, one.op)) {
			t.Error("with that it should be ok", one)
		}
		if all, ok := impl.OpsWith(one.ops, one.op); ok || len(all) != 0 {
			t.Error(all, ok, one)
		}
	}
	for name, ops := range wrongLists() {
		for rep := 1; rep <= impl.RepMax; rep++ {
			for num := 1; num <= impl.NumMax; num++ {
				if all, ok := impl.OpsWith(ops, put(id(rep, num), 'x', right, nothing)); ok || len(all) != 0 {
					t.Error(name, all, ok)
				}
			}
		}
	}
}

func TestP27WithAtTheLimits(t *testing.T) {
	for rep := 1; rep <= impl.RepMax; rep++ {
		var ops []Op
		for num := 1; num <= impl.NumMax; num++ {
			all, ok := impl.OpsWith(ops, put(id(rep, num), 'a', right, nothing))
			if !ok || len(all) != num {
				t.Fatal(all, ok)
			}
			ops = all
		}
		if all, ok := impl.OpsWith(ops, put(id(rep, impl.NumMax+1), 'a', right, nothing)); ok || len(all) != 0 {
			t.Error(all, ok)
		}
	}
	full := fullOps()
	last := full[len(full)-1]
	if all, ok := impl.OpsWith(full[:len(full)-1], last); !ok || !slices.Equal(all, full) {
		t.Error(all, ok)
	}
	for _, op := range append(full, put(id(3, 13), 'a', right, nothing), put(id(4, 1), 'a', right, nothing)) {
		if all, ok := impl.OpsWith(full, op); ok || len(all) != 0 {
			t.Error(all, ok)
		}
	}
}

func TestTypeArgumentsStay(t *testing.T) {
	lists := mostly(typeLists(), 3)
	for _, ops := range wrongLists() {
		lists = append(lists, ops)
	}
	for _, ops := range lists {
		room := guarded(ops)
		for rep := 1; rep <= impl.RepMax; rep++ {
			impl.TypePut(room, rep, 0, 'k')
			checkGuarded(t, "TypePut", room, ops)
			impl.TypeTake(room, rep, 0)
			checkGuarded(t, "TypeTake", room, ops)
			for _, run := range []string{"", "k", "kl", "kLm"} {
				impl.TypeRun(room, rep, 0, run)
				checkGuarded(t, "TypeRun", room, ops)
			}
			for num := 1; num <= impl.NumMax; num++ {
				impl.OpsWith(room, put(id(rep, num), 'k', right, nothing))
				checkGuarded(t, "OpsWith", room, ops)
			}
		}
	}
}

// checkNewMemory spoils an answer with its spare room, then the argument with its own: neither is to be seen in the other.
func checkNewMemory(t *testing.T, name string, ops []Op, call func(ops []Op) ([]Op, bool)) {
	t.Helper()
	room := guarded(ops)
	want, ok := call(room)
	got, _ := call(room)
	if !ok {
		t.Fatal(name, "is false", ops)
	}
	other := slices.Clone(want)
	for i := range cap(want) {
		want[:cap(want)][i] = Op{Kind: -9}
	}
	checkGuarded(t, name, room, ops)
	if again, _ := call(room); !slices.Equal(got, other) || !slices.Equal(again, other) {
		t.Error(name, "shares memory with another answer", ops)
	}
	for i := range cap(room) {
		room[:cap(room)][i] = Op{Kind: -8}
	}
	if !slices.Equal(got, other) || slices.ContainsFunc(got[:cap(got)], func(op Op) bool { return op.Kind == -8 }) {
		t.Error(name, "shares memory with its argument", ops)
	}
}

func TestTypeAnswersAreNewMemory(t *testing.T) {
	for _, ops := range mostly(typeLists(), 3) {
		checkNewMemory(t, "TypeRun of no letters", ops, func(ops []Op) ([]Op, bool) { return impl.TypeRun(ops, 1, 0, "") })
		for rep := 1; rep <= impl.RepMax; rep++ {
			many := doneBy(ops, rep)
			if many < impl.NumMax {
				checkNewMemory(t, "OpsWith", ops, func(ops []Op) ([]Op, bool) {
					return impl.OpsWith(ops, put(id(rep, many+1), 'k', right, nothing))
				})
				checkNewMemory(t, "TypeRun", ops, func(ops []Op) ([]Op, bool) { return impl.TypeRun(ops, rep, 0, "k") })
			}
			if many < impl.NumMax-2 {
				checkNewMemory(t, "TypeRun", ops, func(ops []Op) ([]Op, bool) { return impl.TypeRun(ops, rep, 0, "klm") })
			}
		}
	}
}

func TestTypeAnswersTheSameAgain(t *testing.T) {
	for _, ops := range mostly(typeLists(), 3) {
		op, ok := impl.TypePut(ops, 2, 0, 'k')
		away, can := impl.TypeTake(ops, 2, 0)
		all, _ := impl.TypeRun(ops, 2, 0, "kl")
		impl.TypePut(fullOps(), 1, 0, 'z')
		impl.TypeRun(nil, 2, 0, someLetters)
		impl.TypeTake(rowBy(2, 3), 2, 1)
		room := guarded(ops)
		opAgain, okAgain := impl.TypePut(room, 2, 0, 'k')
		awayAgain, canAgain := impl.TypeTake(room, 2, 0)
		allAgain, _ := impl.TypeRun(room, 2, 0, "kl")
		if op != opAgain || ok != okAgain || away != awayAgain || can != canAgain || !slices.Equal(all, allAgain) {
			t.Fatal("something is kept between calls", ops)
		}
	}
}
