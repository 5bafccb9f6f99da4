package tests

import (
	"math"
	"slices"
	"testing"

	"loop.example/tatting/impl"
)

// doneBy is how much one has done.
func doneBy(ops []Op, rep int) int {
	many := 0
	for _, op := range ops {
		if op.Id.Rep == rep {
			many++
		}
	}
	return many
}

// textOf is the text of leaves, apart from the program.
func textOf(leaves []Leaf) string {
	text := ""
	for _, l := range leaves {
		if !l.Gone {
			text += string(rune(l.Sign))
		}
	}
	return text
}

// wantPut is by the document's words what TypePut tells of what is ok and stands so, apart from the program.
func wantPut(ops []Op, leaves []Leaf, rep int, at int, sign int) (Op, bool) {
	next, ahead := 0, nothing
	for place := 0; place < at && next < len(leaves); next++ {
		if !leaves[next].Gone {
			place, ahead = place+1, leaves[next].Id
		}
	}
	if at < 0 || at > len(textOf(leaves)) || rep < 1 || rep > 3 || sign < 97 || sign > 122 || doneBy(ops, rep) >= 12 {
		return Op{}, false
	}
	own := id(rep, doneBy(ops, rep)+1)
	for _, op := range ops {
		if op.Kind == impl.OpPut && op.Ref == ahead && op.Side == right {
			return put(own, sign, left, leaves[next].Id), true
		}
	}
	return put(own, sign, right, ahead), true
}

// wantTake is the same of TypeTake.
func wantTake(ops []Op, leaves []Leaf, rep int, at int) (Op, bool) {
	shown := slices.DeleteFunc(slices.Clone(leaves), func(l Leaf) bool { return l.Gone })
	if at < 0 || at >= len(shown) || rep < 1 || rep > 3 || doneBy(ops, rep) >= 12 {
		return Op{}, false
	}
	return take(id(rep, doneBy(ops, rep)+1), shown[at].Id), true
}

// with is what was done and some more, put in order apart from the program.
func with(ops []Op, more ...Op) []Op {
	all := append(slices.Clone(ops), more...)
	sortOps(all)
	return all
}

// writtenOps is made as by hand: so many times somebody puts a letter, or takes one away, wherever there is a place.
func writtenOps(d *dice, steps int) []Op {
	var ops []Op
	for range steps {
		leaves := standing(ops)
		many := len(textOf(leaves))
		rep := d.below(impl.RepMax) + 1
		op, ok := wantPut(ops, leaves, rep, d.below(many+1), 'a'+d.below(26))
		if d.below(3) == 0 && many > 0 {
			op, ok = wantTake(ops, leaves, rep, d.below(many))
		}
		if ok {
			ops = with(ops, op)
		}
	}
	return ops
}

// typeLists are many that are ok: put beside anything, and typed.
func typeLists() [][]Op {
	d := &dice{state: 23}
	lists := treeLists()
	for round := range 150 {
		lists = append(lists, writtenOps(d, round%40))
	}
	return lists
}

// mostly goes by every list of the written kind and by each so manyth of the others.
func mostly(lists [][]Op, each int) [][]Op {
	var some [][]Op
	for n, ops := range lists {
		if n%each == 0 || n >= 300 {
			some = append(some, ops)
		}
	}
	return some
}

func checkPut(t *testing.T, text string, rep int, at int, want Op, then string) {
	t.Helper()
	ops := okOps(t, text)
	op, ok := impl.TypePut(ops, rep, at, want.Sign)
	if !ok || op != want {
		t.Errorf("%v %v instead of %v, at %d of\n%s", op, ok, want, at, text)
	}
	if all, ok := impl.OpsWith(ops, op); !ok || impl.TreeText(all) != then {
		t.Errorf("%q %v instead of %q, at %d of\n%s", impl.TreeText(all), ok, then, at, text)
	}
}

func checkTake(t *testing.T, text string, rep int, at int, want Op, then string) {
	t.Helper()
	ops := okOps(t, text)
	op, ok := impl.TypeTake(ops, rep, at)
	if !ok || op != want {
		t.Errorf("%v %v instead of %v, at %d of\n%s", op, ok, want, at, text)
	}
	if all, ok := impl.OpsWith(ops, op); !ok || impl.TreeText(all) != then {
		t.Errorf("%q %v instead of %q, at %d of\n%s", impl.TreeText(all), ok, then, at, text)
	}
}

// checkOrderStays is promise 20 of what was done and of the same with something more.
func checkOrderStays(t *testing.T, ops []Op, all []Op) {
	t.Helper()
	now := map[Id]Leaf{}
	var order []Id
	had := putOf(ops)
	for _, l := range impl.TreeLeaves(all) {
		if _, ok := had[l.Id]; ok {
			now[l.Id] = l
			order = append(order, l.Id)
		}
	}
	leaves := impl.TreeLeaves(ops)
	if len(order) != len(leaves) {
		t.Fatal("signs went", ops, all)
	}
	for i, l := range leaves {
		if order[i] != l.Id || now[l.Id].Sign != l.Sign || l.Gone && !now[l.Id].Gone {
			t.Fatal(l, ops, all)
		}
	}
}

func TestP20OrderStaysWhateverIsDone(t *testing.T) {
	d := &dice{state: 29}
	many := 0
	for _, ops := range typeLists() {
		refs := signsOf(ops)
		for rep := 1; rep <= impl.RepMax; rep++ {
			own := id(rep, doneBy(ops, rep)+1)
			more := []Op{put(own, 'q', right, nothing)}
			for range min(6, len(refs)) {
				ref := refs[d.below(len(refs))].Id
				more = append(more, put(own, 'q', left, ref), put(own, 'q', right, ref), take(own, ref))
			}
			for _, op := range more {
				all, ok := impl.OpsWith(ops, op)
				if ok != (own.Num <= impl.NumMax) {
					t.Fatal(op, ops)
				}
				if ok {
					checkOrderStays(t, ops, all)
					many++
				}
			}
		}
	}
	if many < 3000 {
		t.Error("too few", many)
	}
}

func TestP20OrderStaysAsIsTyped(t *testing.T) {
	d := &dice{state: 31}
	for range 60 {
		var ops []Op
		for range 45 {
			rep, at, sign := d.below(impl.RepMax)+1, d.below(len(impl.TreeText(ops))+1), 'a'+d.below(26)
			op, ok := impl.TypePut(ops, rep, at, sign)
			if d.below(3) == 0 {
				op, ok = impl.TypeTake(ops, rep, at)
			}
			if !ok {
				continue
			}
			all, ok := impl.OpsWith(ops, op)
			if !ok {
				t.Fatal(op, ops)
			}
			checkOrderStays(t, ops, all)
			ops = all
		}
	}
}

func TestP21PutIsAsTyped(t *testing.T) {
	lefts, rights := 0, 0
	for _, ops := range mostly(typeLists(), 3) {
		text := impl.TreeText(ops)
		for rep := 1; rep <= impl.RepMax; rep++ {
			for at := range len(text) + 1 {
				op, ok := impl.TypePut(ops, rep, at, 'q')
				if !ok {
					continue
				}
				if got := impl.TreeText(with(ops, op)); got != text[:at]+"q"+text[at:] {
					t.Fatal(got, text, at, op, ops)
				}
				lefts += 1 - op.Side
				rights += op.Side
			}
		}
	}
	if lefts < 1000 || rights < 500 {
		t.Error("too few", lefts, rights)
	}
}

func TestP21PutAsTheDocumentSays(t *testing.T) {
	for _, ops := range typeLists() {
		leaves := standing(ops)
		for at := -1; at <= len(leaves)+1; at++ {
			for rep := 1; rep <= impl.RepMax; rep++ {
				got, ok := impl.TypePut(ops, rep, at, 'a'+at&15)
				want, wantOk := wantPut(ops, leaves, rep, at, 'a'+at&15)
				if got != want || ok != wantOk {
					t.Fatal(got, ok, want, wantOk, at, ops)
				}
			}
		}
	}
}

func TestP21PutExamples(t *testing.T) {
	const row = "1.1 put a right 0.0\n1.2 put b right 1.1\n1.3 put c right 1.2\n"
	x := func(side int, ref Id) Op { return put(id(2, 1), 'x', side, ref) }
	checkPut(t, "", 2, 0, x(right, nothing), "x")
	checkPut(t, row, 2, 0, x(left, id(1, 1)), "xabc")
	checkPut(t, row, 2, 1, x(left, id(1, 2)), "axbc")
	checkPut(t, row, 2, 2, x(left, id(1, 3)), "abxc")
	checkPut(t, row, 2, 3, x(right, id(1, 3)), "abcx")
	checkPut(t, row, 1, 3, put(id(1, 4), 'x', right, id(1, 3)), "abcx")
	checkPut(t, row+"2.1 put d left 1.1\n", 2, 0, put(id(2, 2), 'x', left, id(2, 1)), "xdabc")
	checkPut(t, "1.1 put a right 0.0\n1.2 put b right 0.0\n", 2, 1, x(right, id(1, 1)), "axb")
	checkPut(t, "1.1 put a right 0.0\n1.2 put b right 0.0\n", 2, 2, x(right, id(1, 2)), "abx")
	checkPut(t, "1.1 put a right 0.0\n1.2 put b left 1.1\n", 2, 0, x(left, id(1, 2)), "xba")
	checkPut(t, "1.1 put a right 0.0\n1.2 put b left 1.1\n", 2, 1, x(right, id(1, 2)), "bxa")
}

func TestP21BehindASignThatHasSomethingOnItsRight(t *testing.T) {
	const pair = "1.1 put a right 0.0\n1.2 put b right 1.1\n"
	x := func(side int, ref Id) Op { return put(id(2, 1), 'x', side, ref) }
	checkPut(t, pair, 2, 1, x(left, id(1, 2)), "axb")
	checkPut(t, pair+"1.3 put c left 1.2\n1.4 put d left 1.3\n", 2, 1, x(left, id(1, 4)), "axdcb")
	checkPut(t, pair+"1.3 put c right 1.1\n", 2, 1, x(left, id(1, 2)), "axbc")
	checkPut(t, pair+"1.3 put c right 1.1\n", 2, 2, x(right, id(1, 2)), "abxc")
	checkPut(t, pair+"1.3 put c right 0.0\n", 2, 2, x(right, id(1, 2)), "abxc")
	// All that stands there is gone: it has it there all the same.
	checkPut(t, pair+"1.3 take 1.2\n", 2, 1, x(left, id(1, 2)), "ax")
	checkPut(t, pair+"1.3 take 1.2\n3.1 put z right 0.0\n", 2, 1, x(left, id(1, 2)), "axz")
	checkPut(t, pair+"1.3 put c left 1.2\n1.4 take 1.2\n1.5 take 1.3\n", 2, 1, x(left, id(1, 3)), "ax")
	checkPut(t, pair+"1.3 put c left 1.2\n1.4 take 1.3\n", 2, 1, x(left, id(1, 3)), "axb")
	checkPut(t, pair+"1.3 put c left 1.2\n1.4 take 1.2\n", 2, 1, x(left, id(1, 3)), "axc")
}

func TestP21AmongSignsThatAreGone(t *testing.T) {
	const row = "1.1 put a right 0.0\n1.2 put b right 1.1\n1.3 put c right 1.2\n1.4 put d right 1.3\n"
	x := func(side int, ref Id) Op { return put(id(2, 1), 'x', side, ref) }
	checkPut(t, row+"3.1 take 1.1\n", 2, 0, x(left, id(1, 1)), "xbcd")
	checkPut(t, row+"3.1 take 1.1\n", 2, 1, x(left, id(1, 3)), "bxcd")
	checkPut(t, row+"3.1 take 1.2\n", 2, 1, x(left, id(1, 2)), "axcd")
	checkPut(t, row+"3.1 take 1.2\n3.2 take 1.3\n", 2, 1, x(left, id(1, 2)), "axd")
	checkPut(t, row+"3.1 take 1.2\n", 2, 2, x(left, id(1, 4)), "acxd")
	checkPut(t, row+"3.1 take 1.4\n", 2, 3, x(left, id(1, 4)), "abcx")
	checkPut(t, row+"3.1 take 1.4\n", 2, 0, x(left, id(1, 1)), "xabc")
	// The one behind is gone, and was not put on the right of the one ahead.
	checkPut(t, "1.1 put a right 0.0\n1.2 put b right 0.0\n1.3 take 1.2\n", 2, 1, x(right, id(1, 1)), "ax")
	checkPut(t, "1.1 put a right 0.0\n1.2 put b left 1.1\n1.3 take 1.1\n", 2, 1, x(right, id(1, 2)), "bx")
	checkPut(t, "1.1 put a right 0.0\n1.2 put b left 1.1\n1.3 take 1.2\n", 2, 0, x(left, id(1, 2)), "xa")
	checkPut(t, "1.1 put a right 0.0\n1.2 put b left 1.1\n1.3 take 1.2\n", 2, 1, x(right, id(1, 1)), "ax")
}

func TestP21AllIsGone(t *testing.T) {
	x := func(side int, ref Id) Op { return put(id(2, 1), 'x', side, ref) }
	checkPut(t, "1.1 put a right 0.0\n1.2 take 1.1\n", 2, 0, x(left, id(1, 1)), "x")
	checkPut(t, "1.1 put a right 0.0\n1.2 put b left 1.1\n1.3 take 1.1\n3.1 take 1.2\n", 2, 0, x(left, id(1, 2)), "x")
	ops := rowOps(func(int) int { return right })[:1]
	for num := 2; num < impl.NumMax; num++ {
		ops = with(ops, take(id(1, num), id(1, 1)))
	}
	if op, ok := impl.TypePut(ops, 1, 0, 'x'); !ok || op != put(id(1, 12), 'x', left, id(1, 1)) {
		t.Error(op, ok)
	}
	for _, at := range []int{-1, 1, 2} {
		if op, ok := impl.TypePut(ops, 1, at, 'x'); ok || op != (Op{}) {
			t.Error(at, op)
		}
	}
	for _, at := range []int{-1, 0, 1} {
		if op, ok := impl.TypeTake(ops, 1, at); ok || op != (Op{}) {
			t.Error(at, op)
		}
	}
}

func TestP22TakeIsAsTyped(t *testing.T) {
	many := 0
	for _, ops := range mostly(typeLists(), 3) {
		text, leaves := impl.TreeText(ops), standing(ops)
		for rep := 1; rep <= impl.RepMax; rep++ {
			for at := -1; at <= len(text)+1; at++ {
				op, ok := impl.TypeTake(ops, rep, at)
				if want, wantOk := wantTake(ops, leaves, rep, at); op != want || ok != wantOk {
					t.Fatal(op, ok, want, wantOk, at, ops)
				}
				if !ok {
					continue
				}
				if got := impl.TreeText(with(ops, op)); got != text[:at]+text[at+1:] {
					t.Fatal(got, text, at, op, ops)
				}
				many++
			}
		}
	}
	if many < 1500 {
		t.Error("too few", many)
	}
}

func TestP22TakeExamples(t *testing.T) {
	const row = "1.1 put a right 0.0\n1.2 put b right 1.1\n1.3 put c right 1.2\n1.4 put d right 1.3\n"
	x := func(ref Id) Op { return take(id(2, 1), ref) }
	checkTake(t, row, 2, 0, x(id(1, 1)), "bcd")
	checkTake(t, row, 2, 1, x(id(1, 2)), "acd")
	checkTake(t, row, 2, 3, x(id(1, 4)), "abc")
	checkTake(t, row, 1, 3, take(id(1, 5), id(1, 4)), "abc")
	checkTake(t, row+"3.1 take 1.1\n", 2, 0, x(id(1, 2)), "cd")
	checkTake(t, row+"3.1 take 1.2\n", 2, 1, x(id(1, 3)), "ad")
	checkTake(t, row+"3.1 take 1.2\n", 2, 0, x(id(1, 1)), "cd")
	checkTake(t, row+"3.1 take 1.4\n", 2, 2, x(id(1, 3)), "ab")
	checkTake(t, row+"3.1 take 1.1\n3.2 take 1.3\n3.3 take 1.4\n", 2, 0, x(id(1, 2)), "")
	checkTake(t, "1.1 put a right 0.0\n1.2 put b left 1.1\n", 2, 0, x(id(1, 2)), "a")
}

func TestP23PutIsTrueJustIfItCanBe(t *testing.T) {
	reps := append([]int{-2, 5, 1 << 32, 1<<32 + 1}, farNumbers...)
	signs := append([]int{'A', 'Z', '0', ' ', '\n', 'a' - 1, 'a', 'm', 'z', 'z' + 1, 'a' + 256, 'a' + 1<<32, -'a'}, farNumbers...)
	for n, ops := range typeLists() {
		if n%15 != 0 && n%100 > 2 {
			continue
		}
		long := len(impl.TreeText(ops))
		for _, rep := range reps {
			for _, at := range append([]int{long - 1, long, long + 1, 1 << 32}, farNumbers...) {
				for _, sign := range signs {
					can := rep >= 1 && rep <= 3 && at >= 0 && at <= long && sign >= 'a' && sign <= 'z' && doneBy(ops, rep) < 12
					op, ok := impl.TypePut(ops, rep, at, sign)
					if ok != can || !ok && op != (Op{}) || ok && op.Sign != sign {
						t.Fatal(op, ok, rep, at, sign, ops)
					}
				}
			}
		}
	}
}

// rowBy is so much typed by one, each sign behind the one ahead.
func rowBy(rep int, many int) []Op {
	var ops []Op
	last := nothing
	for num := 1; num <= many; num++ {
		ops = append(ops, put(id(rep, num), 'a'+num-1, right, last))
		last = id(rep, num)
	}
	return ops
}

func TestP23WhoHasDoneAllThatHeMay(t *testing.T) {
	for rep := 1; rep <= impl.RepMax; rep++ {
		other := rep%impl.RepMax + 1
		ops := rowBy(rep, impl.NumMax-1)
		op, ok := impl.TypePut(ops, rep, 11, 'z')
		if !ok || op != put(id(rep, 12), 'z', right, id(rep, 11)) {
			t.Error(op, ok)
		}
		if op, ok := impl.TypeTake(ops, rep, 10); !ok || op != take(id(rep, 12), id(rep, 11)) {
			t.Error(op, ok)
		}
		full := with(ops, op)
		if op, ok := impl.TypePut(full, rep, 12, 'z'); ok || op != (Op{}) {
			t.Error(op, ok)
		}
		if op, ok := impl.TypeTake(full, rep, 0); ok || op != (Op{}) {
			t.Error(op, ok)
		}
		if op, ok := impl.TypePut(full, other, 12, 'z'); !ok || op != put(id(other, 1), 'z', right, id(rep, 12)) {
			t.Error(op, ok)
		}
		if op, ok := impl.TypeTake(full, other, 11); !ok || op != take(id(other, 1), id(rep, 12)) {
			t.Error(op, ok)
		}
	}
}

func TestP28TakenAwayByTwo(t *testing.T) {
	for _, ops := range mostly(typeLists(), 5) {
		text := impl.TreeText(ops)
		for at := range len(text) {
			all := ops
			for rep := 1; rep <= impl.RepMax; rep++ {
				op, ok := impl.TypeTake(ops, rep, at)
				if !ok {
					continue
				}
				all = with(all, op)
				if got := impl.TreeText(all); got != text[:at]+text[at+1:] {
					t.Fatal(got, text, at, all)
				}
			}
		}
	}
	all := okOps(t, "1.1 put a right 0.0\n1.2 put b right 1.1\n1.3 take 1.1\n2.1 take 1.1\n2.2 take 1.1\n3.1 take 1.1\n")
	if got := impl.TreeText(all); got != "b" {
		t.Error(got)
	}
}

func TestP28TakesAwayWhatHePut(t *testing.T) {
	for _, ops := range mostly(typeLists(), 5) {
		text := impl.TreeText(ops)
		for rep := 1; rep <= impl.RepMax; rep++ {
			for at := range len(text) + 1 {
				sign, ok := impl.TypePut(ops, rep, at, 'q')
				if !ok || sign.Id.Num == impl.NumMax {
					continue
				}
				away, ok := impl.TypeTake(with(ops, sign), rep, at)
				if !ok || away != take(id(rep, sign.Id.Num+1), sign.Id) {
					t.Fatal(away, ok, sign, ops)
				}
				if got := impl.TreeText(with(ops, sign, away)); got != text {
					t.Fatal(got, text, at, ops)
				}
			}
		}
	}
}

func TestP31OnlyWhoseItIsDiffers(t *testing.T) {
	many := 0
	for _, ops := range mostly(typeLists(), 3) {
		for at := range len(impl.TreeText(ops)) + 1 {
			var told []Op
			for rep := 1; rep <= impl.RepMax; rep++ {
				op, ok := impl.TypePut(ops, rep, at, 'q')
				if !ok {
					continue
				}
				if op.Id != id(rep, doneBy(ops, rep)+1) || op.Kind != impl.OpPut || op.Sign != 'q' {
					t.Fatal(op, ops)
				}
				if len(told) > 0 && (op.Ref != told[0].Ref || op.Side != told[0].Side) {
					t.Fatal(op, told, ops)
				}
				told = append(told, op)
			}
			if len(told) > 1 {
				many++
			}
		}
	}
	if many < 500 {
		t.Error("too few", many)
	}
}

func TestP32TakeIsTrueJustIfItCanBe(t *testing.T) {
	reps := append([]int{-2, 5, 1 << 32, 1<<32 + 1}, farNumbers...)
	for _, ops := range mostly(typeLists(), 3) {
		long := len(impl.TreeText(ops))
		for _, rep := range reps {
			for _, at := range append([]int{long - 1, long, long + 1, 1 << 32}, farNumbers...) {
				can := rep >= 1 && rep <= 3 && at >= 0 && at < long && doneBy(ops, rep) < 12
				op, ok := impl.TypeTake(ops, rep, at)
				if ok != can || !ok && op != (Op{}) {
					t.Fatal(op, ok, rep, at, ops)
				}
				if ok && (putOf(ops)[op.Ref].Kind != impl.OpPut || takenAway(ops, op.Ref)) {
					t.Fatal(op, ops)
				}
			}
		}
	}
	if op, ok := impl.TypeTake(nil, 1, 0); ok || op != (Op{}) {
		t.Error(op, ok)
	}
}

// checkTypeRefused is the one fixed answer of each function at what is not ok.
func checkTypeRefused(t *testing.T, name string, ops []Op) {
	t.Helper()
	for rep := 1; rep <= impl.RepMax; rep++ {
		for _, at := range []int{0, 1, 2, math.MinInt, math.MaxInt} {
			if op, ok := impl.TypePut(ops, rep, at, 'q'); ok || op != (Op{}) {
				t.Error(name, "TypePut", op, ok, ops)
			}
			if op, ok := impl.TypeTake(ops, rep, at); ok || op != (Op{}) {
				t.Error(name, "TypeTake", op, ok, ops)
			}
			for _, run := range []string{"", "q", "qr"} {
				if all, ok := impl.TypeRun(ops, rep, at, run); ok || len(all) != 0 {
					t.Error(name, "TypeRun", all, ok, ops)
				}
			}
		}
		for num := 1; num <= 4; num++ {
			for _, op := range []Op{put(id(rep, num), 'q', right, nothing), put(id(rep, num), 'q', left, id(1, 1)), take(id(rep, num), id(1, 2))} {
				if all, ok := impl.OpsWith(ops, op); ok || len(all) != 0 {
					t.Error(name, "OpsWith", all, ok, op, ops)
				}
			}
		}
	}
}

func TestP20ToP32WrongLists(t *testing.T) {
	for name, ops := range wrongLists() {
		checkTypeRefused(t, name, ops)
	}
	for n, ops := range anyLists() {
		if n%12 == 0 && !doneOk(ops) {
			checkTypeRefused(t, "changed", ops)
		}
	}
	checkTypeRefused(t, "long", make([]Op, 100000))
	checkTypeRefused(t, "long and repeated", slices.Repeat(fullOps(), 3000))
}
