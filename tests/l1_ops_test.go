package tests

import (
	"math"
	"slices"
	"strconv"
	"strings"
	"testing"

	"loop.example/tatting/impl"
)

func farIds() []Id {
	var ids []Id
	for _, rep := range farNumbers {
		for _, num := range farNumbers {
			ids = append(ids, id(rep, num))
		}
	}
	return ids
}

// formOk says by the document's words what is OpOk, apart from the program.
func formOk(op Op) bool {
	one := func(x Id) bool {
		return 0 < x.Rep && x.Rep < 4 && 0 < x.Num && x.Num < 13
	}
	if !one(op.Id) || op.Id == op.Ref {
		return false
	}
	if op.Kind == 2 {
		return one(op.Ref) && op.Side == 0 && op.Sign == 0
	}
	if op.Kind != 1 || op.Sign < 97 || op.Sign > 122 {
		return false
	}
	return op.Side == 1 && op.Ref == nothing || (op.Side == 0 || op.Side == 1) && one(op.Ref)
}

// doneOk says by the document's words what is OpsOk, apart from the program: signs come to nothing one after the other.
func doneOk(ops []Op) bool {
	kinds := map[Id]int{}
	for i, op := range ops {
		if !formOk(op) || i > 0 && !before(ops[i-1].Id, op.Id) {
			return false
		}
		kinds[op.Id] = op.Kind
	}
	for _, op := range ops {
		if op.Id.Num > 1 && kinds[id(op.Id.Rep, op.Id.Num-1)] == 0 {
			return false
		}
		if op.Ref != nothing && kinds[op.Ref] != impl.OpPut {
			return false
		}
	}
	rooted := map[Id]int{nothing: 1}
	for range ops {
		for _, op := range ops {
			if rooted[op.Ref] == 1 {
				rooted[op.Id] = 1
			}
		}
	}
	return len(rooted) == len(ops)+1
}

func before(a Id, b Id) bool {
	return a.Rep < b.Rep || a.Rep == b.Rep && a.Num < b.Num
}

func TestP1IdLessIsAnOrder(t *testing.T) {
	if !impl.IdLess(id(1, 12), id(2, 1)) || impl.IdLess(id(2, 1), id(1, 12)) {
		t.Error("Rep comes first")
	}
	if !impl.IdLess(id(2, 3), id(2, 10)) || !impl.IdLess(nothing, id(1, 1)) {
		t.Error("then Num")
	}
	ids := farIds()
	for _, a := range ids {
		for _, b := range ids {
			if impl.IdLess(a, b) != before(a, b) {
				t.Fatal(a, b)
			}
			if a != b && impl.IdLess(a, b) == impl.IdLess(b, a) || a == b && impl.IdLess(a, b) {
				t.Fatal("not just one is ahead", a, b)
			}
		}
	}
	small := ids[:0:0]
	for rep := -1; rep <= 4; rep++ {
		for num := -1; num <= 4; num++ {
			small = append(small, id(rep, num))
		}
	}
	for _, a := range small {
		for _, b := range small {
			for _, c := range small {
				if impl.IdLess(a, b) && impl.IdLess(b, c) && !impl.IdLess(a, c) {
					t.Fatal(a, b, c)
				}
			}
		}
	}
}

func TestP2OkStandsInOrderAndRefersToSigns(t *testing.T) {
	many := 0
	for _, ops := range anyLists() {
		if !impl.OpsOk(ops) {
			continue
		}
		many++
		for i, op := range ops {
			if i > 0 && !impl.IdLess(ops[i-1].Id, op.Id) {
				t.Fatal("order", ops)
			}
			if op.Id.Num > 1 && (i == 0 || ops[i-1].Id != id(op.Id.Rep, op.Id.Num-1)) {
				t.Fatal("the one ahead", ops)
			}
			if op.Ref != nothing && !slices.ContainsFunc(ops, func(o Op) bool { return o.Id == op.Ref && o.Kind == impl.OpPut }) {
				t.Fatal("ref", ops)
			}
		}
	}
	if many < 1000 {
		t.Error("too few are ok", many)
	}
}

func TestP2OkIsAsTheDocumentSays(t *testing.T) {
	refused := 0
	for _, ops := range anyLists() {
		if impl.OpsOk(ops) != doneOk(ops) {
			t.Fatal(impl.OpsOk(ops), ops)
		}
		if !doneOk(ops) {
			refused++
		}
	}
	if refused < 1000 {
		t.Error("too few are not ok", refused)
	}
	for _, ops := range okLists() {
		if !impl.OpsOk(ops) {
			t.Fatal("ok", ops)
		}
	}
}

func TestP2NumsOfOne(t *testing.T) {
	a := func(rep int, num int) Op { return put(id(rep, num), 'a', right, nothing) }
	good := [][]Op{
		nil,
		{},
		{a(1, 1)},
		{a(3, 1)},
		{a(2, 1), a(2, 2), a(3, 1)},
		{a(1, 1), a(3, 1), a(3, 2)},
	}
	for _, ops := range good {
		if !impl.OpsOk(ops) {
			t.Error("should be ok", ops)
		}
	}
	bad := [][]Op{
		{a(1, 2)},                   // does not begin at 1
		{a(1, 1), a(2, 2)},          // nor does the second
		{a(1, 1), a(1, 3)},          // gap
		{a(1, 1), a(1, 1)},          // twice
		{a(1, 1), a(1, 2), a(1, 2)}, // twice, further on
		{a(1, 2), a(1, 1)},          // out of order
		{a(2, 1), a(1, 1)},          // out of order
		{a(1, 1), a(2, 1), a(1, 2)}, // not all of one together
		{a(0, 1)}, {a(4, 1)}, {a(-1, 1)}, {a(1, 0)}, {a(1, -1)},
		{{}}, {a(1, 1), {}},
	}
	for _, ops := range bad {
		checkRefused(t, ops)
	}
}

func checkRefused(t *testing.T, ops []Op) {
	t.Helper()
	if impl.OpsOk(ops) {
		t.Error("should not be ok", ops)
	}
	if seen := impl.OpsSeen(ops); len(seen) != 0 {
		t.Error("seen", seen, ops)
	}
	for rep := range 5 {
		for num := range 15 {
			if place := impl.OpsFind(ops, id(rep, num)); place != -1 {
				t.Error("found", place, ops)
			}
		}
	}
	if text := impl.OpsText(ops); text != "" {
		t.Error("text", text, ops)
	}
}

func TestP2Refs(t *testing.T) {
	root := put(id(1, 1), 'a', right, nothing)
	good := [][]Op{
		{root, take(id(1, 2), id(1, 1))},
		{root, take(id(1, 2), id(1, 1)), take(id(2, 1), id(1, 1))},
		{root, take(id(1, 2), id(1, 1)), put(id(2, 1), 'b', left, id(1, 1))}, // beside what somebody took away
		{put(id(1, 1), 'a', right, id(1, 2)), put(id(1, 2), 'b', right, nothing)},
		{take(id(1, 1), id(3, 1)), put(id(3, 1), 'b', right, nothing)},
	}
	for _, ops := range good {
		if !impl.OpsOk(ops) {
			t.Error("should be ok", ops)
		}
	}
	bad := [][]Op{
		{put(id(1, 1), 'a', right, id(1, 2))}, // not there
		{root, put(id(1, 2), 'b', left, id(2, 1))},
		{root, take(id(1, 2), id(3, 12))},
		{root, take(id(1, 2), id(1, 1)), put(id(2, 1), 'b', right, id(1, 2))}, // itself a taking
		{root, take(id(1, 2), id(1, 1)), take(id(2, 1), id(1, 2))},
		{take(id(1, 1), id(2, 1)), take(id(2, 1), id(1, 1))},
		{put(id(1, 1), 'a', left, nothing)}, // on the left of nothing
		{take(id(1, 1), nothing)},
	}
	for _, ops := range bad {
		checkRefused(t, ops)
	}
}

func TestP2Circles(t *testing.T) {
	circle := func(many int) []Op {
		var ops []Op
		for i := range many {
			next := (i + 1) % many
			ops = append(ops, put(id(i/12+1, i%12+1), 'a', i%2, id(next/12+1, next%12+1)))
		}
		return ops
	}
	for many := 1; many <= 36; many++ {
		ops := circle(many)
		checkRefused(t, ops)
		ops[many-1].Ref, ops[many-1].Side = nothing, right
		if !impl.OpsOk(ops) {
			t.Error("the same, cut open, is ok", many)
		}
		if many < 36 {
			fromOutside := append(circle(many), put(id(many/12+1, many%12+1), 'z', right, id(1, 1)))
			checkRefused(t, fromOutside)
			taken := append(circle(many), take(id(many/12+1, many%12+1), id(1, 1)))
			checkRefused(t, taken)
		}
	}
	root := put(id(1, 1), 'r', right, nothing)
	checkRefused(t, []Op{root, put(id(2, 1), 'a', right, id(3, 1)), put(id(3, 1), 'b', left, id(2, 1))})
	checkRefused(t, []Op{root, put(id(1, 2), 'k', left, id(1, 1)), put(id(2, 1), 'a', right, id(3, 1)), put(id(3, 1), 'b', left, id(3, 2)), put(id(3, 2), 'c', left, id(2, 1))})
}

func TestP2Limits(t *testing.T) {
	for rep := 1; rep <= impl.RepMax; rep++ {
		var ops []Op
		for num := 1; num <= impl.NumMax; num++ {
			ops = append(ops, put(id(rep, num), 'a', right, nothing))
			if !impl.OpsOk(ops) {
				t.Error("should be ok", rep, num)
			}
		}
		checkRefused(t, append(ops, put(id(rep, impl.NumMax+1), 'a', right, nothing)))
	}
	checkRefused(t, append(fullOps(), put(id(4, 1), 'a', right, nothing)))
	checkRefused(t, append(fullOps(), put(id(3, 13), 'a', right, nothing)))
	checkRefused(t, append(fullOps(), fullOps()...))
	checkRefused(t, make([]Op, 100000))
	checkRefused(t, slices.Repeat(fullOps(), 3000))
}

func TestP3WithoutTheLastOfSomebody(t *testing.T) {
	smaller := 0
	for _, ops := range okLists() {
		for i, op := range ops {
			last := i == len(ops)-1 || ops[i+1].Id.Rep != op.Id.Rep
			referred := slices.ContainsFunc(ops, func(o Op) bool { return o.Ref == op.Id })
			rest := slices.Delete(slices.Clone(ops), i, i+1)
			if impl.OpsOk(rest) != (last && !referred) {
				t.Fatal(last, referred, op, ops)
			}
			if last && !referred {
				smaller++
			}
		}
	}
	if smaller < 100 {
		t.Error("too few", smaller)
	}
}

func TestP4Seen(t *testing.T) {
	for _, ops := range anyLists() {
		seen := impl.OpsSeen(ops)
		if !doneOk(ops) {
			if len(seen) != 0 {
				t.Fatal(seen, ops)
			}
			continue
		}
		want := make([]int, 3)
		for _, op := range ops {
			want[op.Id.Rep-1]++
		}
		if !slices.Equal(seen, want) || seen[0]+seen[1]+seen[2] != len(ops) {
			t.Fatal(seen, ops)
		}
	}
	if seen := impl.OpsSeen(nil); !slices.Equal(seen, []int{0, 0, 0}) {
		t.Error(seen)
	}
	if seen := impl.OpsSeen(fullOps()); !slices.Equal(seen, []int{12, 12, 12}) {
		t.Error(seen)
	}
}

func TestP5Find(t *testing.T) {
	ids := farIds()
	for rep := 0; rep <= 4; rep++ {
		for num := 0; num <= 13; num++ {
			ids = append(ids, id(rep, num))
		}
	}
	for _, ops := range okLists() {
		for _, one := range ids {
			want := slices.IndexFunc(ops, func(o Op) bool { return o.Id == one })
			if place := impl.OpsFind(ops, one); place != want {
				t.Fatal(place, want, one, ops)
			}
		}
	}
	for _, ops := range anyLists() {
		if !doneOk(ops) && len(ops) > 0 && impl.OpsFind(ops, ops[0].Id) != -1 {
			t.Fatal(ops)
		}
	}
}

func TestP6TextIsReadBack(t *testing.T) {
	for _, ops := range okLists() {
		text := impl.OpsText(ops)
		if strings.Count(text, "\n") != len(ops) || len(ops) > 0 && !strings.HasSuffix(text, "\n") {
			t.Fatal("lines", text, ops)
		}
		back, ok := impl.OpsRead(text)
		if !ok || !slices.Equal(back, ops) {
			t.Fatal(ok, back, ops)
		}
	}
	if ops, ok := impl.OpsRead(""); !ok || len(ops) != 0 {
		t.Error("nothing is the text of nothing done", ops, ok)
	}
}

func TestP6TextAsWritten(t *testing.T) {
	ops := []Op{
		put(id(1, 1), 'a', right, nothing),
		put(id(1, 2), 'z', left, id(3, 1)),
		take(id(1, 3), id(1, 1)),
		take(id(2, 1), id(1, 2)),
		put(id(3, 1), 'm', right, id(1, 1)),
	}
	want := "1.1 put a right 0.0\n1.2 put z left 3.1\n1.3 take 1.1\n2.1 take 1.2\n3.1 put m right 1.1\n"
	if text := impl.OpsText(ops); text != want {
		t.Errorf("%q", text)
	}
	full := fullOps()
	lines := strings.Split(impl.OpsText(full), "\n")
	if len(lines) != 37 || lines[11] != "1.12 put m right 0.0" || lines[35] != "3.12 put k right 1.12" {
		t.Error(lines)
	}
	if back := okOps(t, impl.OpsText(full)); !slices.Equal(back, full) {
		t.Error(back)
	}
}

// checkOneWay is promise 7 of one text.
func checkOneWay(t *testing.T, text string) bool {
	t.Helper()
	ops, ok := impl.OpsRead(text)
	if !ok && len(ops) != 0 {
		t.Fatalf("false, and %v of %q", ops, text)
	}
	if ok && (!impl.OpsOk(ops) || !doneOk(ops) || impl.OpsText(ops) != text) {
		t.Fatalf("%v of %q", ops, text)
	}
	return ok
}

func TestP7WhatIsReadIsOkAndItsOwn(t *testing.T) {
	text := "1.1 put a right 0.0\n1.2 take 1.1\n1.3 put c left 2.10\n2.1 put b left 1.1\n"
	for num := 2; num <= 10; num++ {
		text += "2." + strconv.Itoa(num) + " put b right 1.1\n"
	}
	if !checkOneWay(t, text) {
		t.Fatal(text)
	}
	others := "\x00\t\n\r .,+-_/0123456789:aAzZ`{lrptxeE\x7f\x80\xff"
	read := 0
	for i := range text {
		for _, other := range []byte(others) {
			for _, changed := range []string{
				text[:i] + string([]byte{other}) + text[i+1:],
				text[:i] + string([]byte{other}) + text[i:],
				text[:i] + text[i+1:],
			} {
				if checkOneWay(t, changed) {
					read++
				}
			}
		}
	}
	if read == 0 {
		t.Error("some changes leave it ok")
	}
}

func TestP7WrongTexts(t *testing.T) {
	const a = "1.1 put a right 0.0\n"
	for _, text := range []string{
		"\n", " ", "\n\n", a + "\n", "\n" + a, a + " ", " " + a,
		"1.1 put a right 0.0", "1.1 put a right 0.0\r\n", "1.1 put a right 0.0 \n", "1.1  put a right 0.0\n",
		"1.1\tput a right 0.0\n", "1.1 put a right 0.0\n\x00", "1.1 put a right 0.0\x00\n",
		"01.1 put a right 0.0\n", "1.01 put a right 0.0\n", "1.1 put a right 00.0\n", "1.1 put a right 0.00\n",
		"+1.1 put a right 0.0\n", "1.+1 put a right 0.0\n", "-1.1 put a right 0.0\n", "1.1 put a right -0.0\n", "1.1 put a right 0.-0\n",
		"1 put a right 0.0\n", "1.1. put a right 0.0\n", "1.1.1 put a right 0.0\n", "1,1 put a right 0.0\n", ".1 put a right 0.0\n", "1. put a right 0.0\n",
		"1.1 put a right\n", "1.1 put a right 0\n", "1.1 put a right nothing\n", "1.1 put a right 0.0 0.0\n",
		"1.1 Put a right 0.0\n", "1.1 puts a right 0.0\n", "1.1 1 a right 0.0\n", "1.1 put a Right 0.0\n", "1.1 put a 1 0.0\n", "1.1 put a 0.0\n",
		"1.1 put A right 0.0\n", "1.1 put ab right 0.0\n", "1.1 put  right 0.0\n", "1.1 put 97 right 0.0\n", "1.1 put \xe4 right 0.0\n", "1.1 put ä right 0.0\n", "1.1 put ` right 0.0\n", "1.1 put { right 0.0\n",
		"1.1 put a left 0.0\n", "1.1 put a right 1.1\n", "1.1 put a right 2.1\n", "1.1 put a right 0.1\n", "1.1 put a right 1.0\n",
		"1.1 take 0.0\n", "1.1 take 1.1\n", a + "1.2 take 1.1 a\n", a + "1.2 take a 1.1\n", a + "1.2 take right 1.1\n", a + "1.2 take\n", a + "1.2 take 1.3\n",
		a + "1.2 take 1.1\n1.3 take 1.2\n", a + "1.2 take 1.1\n1.3 put b left 1.2\n",
		"1.2 put a right 0.0\n", a + "1.3 put a right 0.0\n", a + a, "2.1 put a right 0.0\n" + a, a + "1.2 put b right 0.0\n" + a,
		"4.1 put a right 0.0\n", "0.1 put a right 0.0\n", "1.0 put a right 0.0\n", "1.13 put a right 0.0\n", "99999999999999999999.1 put a right 0.0\n", "1.18446744073709551617 put a right 0.0\n", "4294967297.1 put a right 0.0\n",
		"1.1 put a right 1.2\n1.2 put b right 1.1\n", "1.1 put a right 1.2\n1.2 put b right 1.3\n1.3 put c left 1.1\n", "1.1 put a right 1.2\n1.2 put b right 1.3\n1.3 put c left 1.2\n",
		"put a right 0.0\n", "0.0 put a right 0.0\n", "hello\n", "1.1\n", "1.1 \n",
	} {
		if ops, ok := impl.OpsRead(text); ok || len(ops) != 0 {
			t.Errorf("%v of %q", ops, text)
		}
	}
}

func TestP7LongTexts(t *testing.T) {
	full := impl.OpsText(fullOps())
	if len(full) > 900 {
		t.Error(len(full))
	}
	for _, text := range []string{
		strings.Repeat(" ", 900), strings.Repeat(" ", 901), strings.Repeat("\n", 900), strings.Repeat("\n", 901),
		full + full, full + "4.1 put a right 0.0\n", full + "3.13 put a right 0.0\n",
		full + strings.Repeat(" ", 900-len(full)), full + strings.Repeat("\n", 901-len(full)),
		strings.Repeat("1.1 put a right 0.0\n", 45), strings.Repeat("1.1 put a right 0.0\n", 46), strings.Repeat("1", 1<<20),
	} {
		if ops, ok := impl.OpsRead(text); ok || len(ops) != 0 {
			t.Errorf("%d bytes: %v", len(text), ops)
		}
	}
}

func TestP8TextsAreTheSameJustIfThingsAre(t *testing.T) {
	byText := map[string][]Op{}
	for _, ops := range anyLists() {
		if !impl.OpsOk(ops) {
			continue
		}
		text := impl.OpsText(ops)
		if other, ok := byText[text]; ok && !slices.Equal(other, ops) {
			t.Fatal(text, other, ops)
		}
		if again := impl.OpsText(slices.Clone(ops)); again != text {
			t.Fatal(text, again)
		}
		byText[text] = ops
	}
	if len(byText) < 200 {
		t.Error("too few", len(byText))
	}
	base := put(id(1, 1), 'a', right, nothing)
	two := []Op{base, put(id(2, 1), 'b', right, id(1, 1))}
	for _, other := range [][]Op{
		nil, {base},
		{base, put(id(2, 1), 'b', left, id(1, 1))},
		{base, put(id(2, 1), 'c', right, id(1, 1))},
		{base, put(id(2, 1), 'b', right, nothing)},
		{base, put(id(3, 1), 'b', right, id(1, 1))},
		{base, put(id(1, 2), 'b', right, id(1, 1))},
		{base, take(id(2, 1), id(1, 1))},
	} {
		if !impl.OpsOk(other) || impl.OpsText(other) == impl.OpsText(two) {
			t.Error(other)
		}
	}
}

func TestP9Beginnings(t *testing.T) {
	okCuts, wrongCuts := 0, 0
	for _, ops := range okLists() {
		text := impl.OpsText(ops)
		for cut := range len(text) + 1 {
			done, ok := impl.OpsRead(text[:cut])
			if cut > 0 && text[cut-1] != '\n' {
				if ok || len(done) != 0 {
					t.Fatalf("cut within a line: %q", text[:cut])
				}
				continue
			}
			upto := ops[:strings.Count(text[:cut], "\n")]
			if ok != doneOk(upto) || ok && !slices.Equal(done, upto) || !ok && len(done) != 0 {
				t.Fatalf("cut behind a line: %q", text[:cut])
			}
			if ok {
				okCuts++
			} else {
				wrongCuts++
			}
		}
	}
	if okCuts < 500 || wrongCuts < 500 {
		t.Error("too few", okCuts, wrongCuts)
	}
}

func TestP10OpOk(t *testing.T) {
	var some []Id
	for _, rep := range []int{math.MinInt, -1, 0, 1, 3, 4, math.MaxInt} {
		for _, num := range []int{math.MinInt, -1, 0, 1, 12, 13, math.MaxInt} {
			some = append(some, id(rep, num))
		}
	}
	kinds := []int{math.MinInt, -1, 0, 1, 2, 3, math.MaxInt}
	sides := []int{math.MinInt, -1, 0, 1, 2, math.MaxInt}
	signs := []int{math.MinInt, -'a', 0, 'A', 'a' - 1, 'a', 'k', 'z', 'z' + 1, 'a' + 256, math.MaxInt}
	inForm := 0
	for _, own := range some {
		for _, ref := range some {
			for _, kind := range kinds {
				for _, side := range sides {
					for _, sign := range signs {
						op := Op{Id: own, Kind: kind, Ref: ref, Side: side, Sign: sign}
						if impl.OpOk(op) != formOk(op) {
							t.Fatal(impl.OpOk(op), op)
						}
						if formOk(op) {
							inForm++
						}
					}
				}
			}
		}
	}
	if inForm == 0 {
		t.Error("none is ok")
	}
}

func TestP10Examples(t *testing.T) {
	for sign := -200; sign <= 400; sign++ {
		letter := strings.ContainsRune("abcdefghijklmnopqrstuvwxyz", rune(sign))
		if impl.OpOk(put(id(1, 1), sign, right, nothing)) != letter || impl.OpOk(put(id(3, 12), sign, left, id(3, 11))) != letter {
			t.Error(sign)
		}
		if impl.OpOk(Op{Id: id(1, 1), Kind: impl.OpTake, Ref: id(2, 1), Sign: sign}) != (sign == 0) {
			t.Error("take", sign)
		}
	}
	for _, op := range []Op{
		{},
		put(id(1, 1), 'a', left, nothing),
		put(id(1, 1), 'a', right, id(1, 1)),
		put(id(1, 1), 'a', right, id(0, 1)),
		put(id(1, 1), 'a', right, id(1, 0)),
		put(nothing, 'a', right, nothing),
		put(nothing, 'a', right, id(1, 1)),
		take(id(1, 1), id(1, 1)),
		take(id(1, 1), nothing),
		{Id: id(1, 1), Kind: impl.OpTake, Ref: id(2, 1), Side: right},
		{Id: id(1, 1), Kind: 0, Ref: id(2, 1), Side: right, Sign: 'a'},
		{Id: id(1, 1), Kind: 3, Ref: id(2, 1)},
	} {
		if impl.OpOk(op) {
			t.Error(op)
		}
	}
	if !impl.OpOk(put(id(1, 1), 'a', left, id(1, 2))) || !impl.OpOk(take(id(1, 1), id(1, 2))) {
		t.Error("alone, a thing may refer to a later one")
	}
}

func TestOpsArgumentsStay(t *testing.T) {
	for _, ops := range anyLists() {
		room := guarded(ops)
		impl.OpsOk(room)
		checkGuarded(t, "OpsOk", room, ops)
		impl.OpsSeen(room)
		checkGuarded(t, "OpsSeen", room, ops)
		impl.OpsFind(room, id(2, 1))
		checkGuarded(t, "OpsFind", room, ops)
		impl.OpsText(room)
		checkGuarded(t, "OpsText", room, ops)
	}
}

func TestOpsAnswersAreNewMemory(t *testing.T) {
	ops := fullOps()
	first, second := impl.OpsSeen(ops), impl.OpsSeen(ops)
	for i := range cap(first) {
		first[:cap(first)][i] = -9
	}
	if !slices.Equal(second, []int{12, 12, 12}) || !slices.Equal(impl.OpsSeen(ops), []int{12, 12, 12}) {
		t.Error("OpsSeen shares memory")
	}
	text := impl.OpsText(ops)
	one, two := okOps(t, text), okOps(t, text)
	for i := range cap(one) {
		one[:cap(one)][i] = Op{Kind: -9}
	}
	if !slices.Equal(two, ops) || !slices.Equal(okOps(t, text), ops) || !slices.Equal(ops, fullOps()) {
		t.Error("OpsRead shares memory")
	}
}

func TestOpsAnswerTheSameAgain(t *testing.T) {
	for _, ops := range anyLists()[:2000] {
		ok, text := impl.OpsOk(ops), impl.OpsText(ops)
		impl.OpsOk(fullOps())
		impl.OpsRead("1.1 put a right 1.2\n1.2 put b right 1.1\n")
		if impl.OpsOk(ops) != ok || impl.OpsText(ops) != text || impl.OpsOk(guarded(ops)) != ok {
			t.Fatal("something is kept between calls", ops)
		}
	}
}
