package tests

import (
	"slices"
	"testing"

	"loop.example/tatting/impl"
)

// lists are all lists of a desk or a word, those of numbers apart from those of things.
type lists struct {
	numbers [][]int
	ops     [][]Op
}

func deskLists(d Desk) lists {
	return lists{numbers: [][]int{d.Known}, ops: [][]Op{d.Doc.Ops, d.Doc.Wait}}
}

func wordLists(w Word) lists {
	return lists{numbers: [][]int{w.Seen}, ops: [][]Op{w.Ops}}
}

func (l lists) with(more lists) lists {
	return lists{numbers: slices.Concat(l.numbers, more.numbers), ops: slices.Concat(l.ops, more.ops)}
}

// spoil writes into all lists and all their spare room.
func (l lists) spoil(mark int) {
	for _, numbers := range l.numbers {
		for i := range cap(numbers) {
			numbers[:cap(numbers)][i] = mark
		}
	}
	for _, ops := range l.ops {
		spoil(ops, mark)
	}
}

func (l lists) isSpoilt(mark int) bool {
	for _, numbers := range l.numbers {
		if slices.Contains(numbers[:cap(numbers)], mark) {
			return true
		}
	}
	return slices.ContainsFunc(l.ops, func(ops []Op) bool { return isSpoilt(ops, mark) })
}

func (l lists) guarded() lists {
	var out lists
	for _, numbers := range l.numbers {
		out.numbers = append(out.numbers, guardedNumbers(numbers))
	}
	for _, ops := range l.ops {
		out.ops = append(out.ops, guarded(ops))
	}
	return out
}

func (l lists) checkGuarded(t *testing.T, name string, was lists) {
	t.Helper()
	for i, numbers := range was.numbers {
		checkNumbers(t, name, l.numbers[i], numbers)
	}
	for i, ops := range was.ops {
		checkGuarded(t, name, l.ops[i], ops)
	}
}

// checkMemory asks that arguments stay, and that no list of an answer shares memory with them, with another answer, or with another list of it.
func checkMemory(t *testing.T, name string, args lists, call func(args lists) lists) {
	t.Helper()
	room := args.guarded()
	first, second, want := call(room), call(room), call(args.guarded())
	for i := range first.ops {
		spoil(first.ops[i], -9)
		for j := range first.ops {
			if j != i && isSpoilt(first.ops[j], -9) {
				t.Fatal(name, "has two lists that share memory", args)
			}
		}
		spoil(first.ops[i], -7)
	}
	for i := range first.numbers {
		lists{numbers: first.numbers[i : i+1]}.spoil(-9)
		for j := range first.numbers {
			if j != i && (lists{numbers: first.numbers[j : j+1]}).isSpoilt(-9) {
				t.Fatal(name, "has two lists that share memory", args)
			}
		}
		lists{numbers: first.numbers[i : i+1]}.spoil(-7)
	}
	room.checkGuarded(t, name, args)
	room.spoil(-8)
	for _, mark := range []int{-7, -8, -9} {
		if second.isSpoilt(mark) {
			t.Fatal(name, "shares memory", mark, args)
		}
	}
	if !slices.EqualFunc(second.ops, want.ops, slices.Equal) || !slices.EqualFunc(second.numbers, want.numbers, slices.Equal) {
		t.Fatal(name, "shares memory with something", args)
	}
}

func guardedWord(w Word) Word {
	return Word{Kind: w.Kind, Rep: w.Rep, Seen: guardedNumbers(w.Seen), Ops: guarded(w.Ops)}
}

func checkDeskMemory(t *testing.T, name string, d Desk, w Word, call func(d Desk, w Word) lists) {
	t.Helper()
	checkMemory(t, name, deskLists(d).with(wordLists(w)), func(args lists) lists {
		desk := Desk{Rep: d.Rep, Doc: Doc{Ops: args.ops[0], Wait: args.ops[1]}, Known: args.numbers[0]}
		return call(desk, Word{Kind: w.Kind, Rep: w.Rep, Seen: args.numbers[1], Ops: args.ops[2]})
	})
}

func TestDeskMemory(t *testing.T) {
	desks, words := someDesks()
	desks, words = append(desks, waitingDesk(20), fullDesk(t, 1), Desk{Rep: 3, Known: []int{0, 0, 0}}), append(words, nil, nil, nil)
	for _, d := range wrongDesks() {
		if len(d.Doc.Wait) < 100 && len(desks) < 1500 {
			desks, words = append(desks, d), append(words, []Word{give(2, []int{1, 2, 3}, put(id(1, 1), 'a', right, nothing))})
		}
	}
	for n, d := range desks {
		if n%3 == 1 {
			continue
		}
		for _, w := range append(slices.Clone(words[n]), Word{}, give(d.Rep, []int{1, 2, 3}), give(d.Rep, []int{0, 0, 0}, d.Doc.Ops[:min(4, len(d.Doc.Ops))]...)) {
			checkDeskMemory(t, "DeskHear", d, w, func(d Desk, w Word) lists { return deskLists(impl.DeskHear(d, w)) })
		}
		checkDeskMemory(t, "DeskPut", d, Word{}, func(d Desk, _ Word) lists {
			got, _ := impl.DeskPut(d, 0, 'm')
			return deskLists(got)
		})
		checkDeskMemory(t, "DeskTake", d, Word{}, func(d Desk, _ Word) lists {
			got, _ := impl.DeskTake(d, 0)
			return deskLists(got)
		})
		checkDeskMemory(t, "DeskPull", d, Word{}, func(d Desk, _ Word) lists {
			w, _ := impl.DeskPull(d)
			return wordLists(w)
		})
		checkDeskMemory(t, "DeskPush", d, Word{}, func(d Desk, _ Word) lists {
			w, _ := impl.DeskPush(d)
			return wordLists(w)
		})
		checkDeskMemory(t, "DeskOk", d, Word{}, func(d Desk, _ Word) lists {
			impl.DeskOk(d)
			return lists{}
		})
	}
}

func TestNewDeskMemory(t *testing.T) {
	first, _ := impl.DeskNew(1)
	second, _ := impl.DeskNew(1)
	deskLists(first).spoil(-7)
	third, _ := impl.DeskNew(1)
	for _, d := range []Desk{second, third} {
		checkDesk(t, "new", d, Desk{Rep: 1, Known: []int{0, 0, 0}})
	}
}

func TestDeskAnswersTheSameAgain(t *testing.T) {
	desks, words := someDesks()
	for n, d := range desks {
		push, _ := impl.DeskPush(d)
		pull, _ := impl.DeskPull(d)
		var heard []Desk
		for _, w := range words[n] {
			heard = append(heard, impl.DeskHear(d, w))
		}
		impl.DeskHear(fullDesk(t, d.Rep), give(d.Rep, []int{3, 2, 1}, fullOps()[:5]...))
		impl.DeskPut(waitingDesk(20), 0, 'a')
		again, _ := impl.DeskPush(clonedDesk(d))
		if !sameWord(again, push) {
			t.Fatal("something is kept", again, push)
		}
		if again, _ = impl.DeskPull(clonedDesk(d)); !sameWord(again, pull) {
			t.Fatal("something is kept", again, pull)
		}
		for i, w := range words[n] {
			checkDesk(t, "something is kept", impl.DeskHear(clonedDesk(d), guardedWord(w)), heard[i])
		}
	}
}
