package tests

import (
	"slices"
	"strings"
	"testing"

	"loop.example/tatting/impl"
)

type Leaf = impl.Leaf

func leaf(own Id, sign int) Leaf { return Leaf{Id: own, Sign: sign} }

func gone(own Id, sign int) Leaf { return Leaf{Id: own, Sign: sign, Gone: true} }

// sideNumbers are both sides and ones that are none of both.
var sideNumbers = append([]int{left, right, -2, 256, 257}, farNumbers...)

// putOf is each sign that was put, by its id.
func putOf(ops []Op) map[Id]Op {
	signs := map[Id]Op{}
	for _, op := range ops {
		if op.Kind == impl.OpPut {
			signs[op.Id] = op
		}
	}
	return signs
}

func signsOf(ops []Op) []Op {
	return slices.DeleteFunc(slices.Clone(ops), func(op Op) bool { return op.Kind != impl.OpPut })
}

func takenAway(ops []Op, one Id) bool {
	return slices.ContainsFunc(ops, func(op Op) bool { return op.Kind == impl.OpTake && op.Ref == one })
}

// wayTo is how one comes from nothing to a sign, and ends with a step to itself: -1 and 0 and 1 are left, itself and right.
func wayTo(signs map[Id]Op, one Id) [][3]int {
	way := [][3]int{{0}}
	for one != nothing {
		op := signs[one]
		way = append([][3]int{{op.Side*2 - 1, one.Rep, one.Num}}, way...)
		one = op.Ref
	}
	return way
}

// standing is by the document's words how all signs stand, apart from the program: sorted by the ways to them.
func standing(ops []Op) []Leaf {
	signs := putOf(ops)
	order := signsOf(ops)
	slices.SortFunc(order, func(a Op, b Op) int {
		return slices.CompareFunc(wayTo(signs, a.Id), wayTo(signs, b.Id), func(x [3]int, y [3]int) int {
			return slices.Compare(x[:], y[:])
		})
	})
	var leaves []Leaf
	for _, op := range order {
		leaves = append(leaves, Leaf{Id: op.Id, Sign: op.Sign, Gone: takenAway(ops, op.Id)})
	}
	return leaves
}

// isUnder is by the document's words whether a is under b.
func isUnder(signs map[Id]Op, a Id, b Id) bool {
	op, ok := signs[a]
	return ok && (op.Ref == b || isUnder(signs, op.Ref, b))
}

// someIds are all that there may be, nothing, and some that are none.
func someIds() []Id {
	var ids []Id
	for rep := -1; rep <= impl.RepMax+1; rep++ {
		for num := -1; num <= impl.NumMax+1; num++ {
			ids = append(ids, id(rep, num))
		}
	}
	return ids
}

// treeLists are the ok ones, and all that may be done in rows.
func treeLists() [][]Op {
	return append(okLists(),
		rowOps(func(int) int { return right }),
		rowOps(func(int) int { return left }),
		rowOps(func(place int) int { return place % 2 }),
		rowOps(func(place int) int { return place / 2 % 2 }),
	)
}

// places is where each sign stands.
func places(ops []Op) map[Id]int {
	at := map[Id]int{}
	for i, l := range impl.TreeLeaves(ops) {
		at[l.Id] = i
	}
	return at
}

func checkTree(t *testing.T, text string, want string, leaves ...Leaf) {
	t.Helper()
	ops := okOps(t, text)
	if got := impl.TreeText(ops); got != want {
		t.Errorf("%q instead of %q of\n%s", got, want, text)
	}
	if got := impl.TreeLeaves(ops); !slices.Equal(got, leaves) {
		t.Errorf("%v instead of %v of\n%s", got, leaves, text)
	}
}

func TestP11LeavesAreTheSignsThatWerePut(t *testing.T) {
	all, away := 0, 0
	for _, ops := range treeLists() {
		signs := putOf(ops)
		leaves := impl.TreeLeaves(ops)
		if len(leaves) != len(signs) {
			t.Fatal(leaves, ops)
		}
		met := map[Id]int{}
		for _, l := range leaves {
			op, ok := signs[l.Id]
			met[l.Id]++
			if !ok || met[l.Id] > 1 || l.Sign != op.Sign || l.Gone != takenAway(ops, l.Id) {
				t.Fatal(l, leaves, ops)
			}
			all++
			if l.Gone {
				away++
			}
		}
	}
	if all < 3000 || away < 300 {
		t.Error("too few", all, away)
	}
}

func TestP11Gone(t *testing.T) {
	const a = "1.1 put a right 0.0\n"
	checkTree(t, "", "")
	checkTree(t, a, "a", leaf(id(1, 1), 'a'))
	checkTree(t, a+"1.2 take 1.1\n", "", gone(id(1, 1), 'a'))
	checkTree(t, a+"2.1 take 1.1\n3.1 take 1.1\n", "", gone(id(1, 1), 'a'))
	checkTree(t, a+"1.2 put b right 1.1\n2.1 take 1.1\n2.2 take 1.1\n3.1 take 1.1\n", "b", gone(id(1, 1), 'a'), leaf(id(1, 2), 'b'))
	checkTree(t, "1.1 take 3.1\n2.1 put b left 3.1\n3.1 put c right 0.0\n", "b", leaf(id(2, 1), 'b'), gone(id(3, 1), 'c'))
}

func TestP12BesideASignThatIsGone(t *testing.T) {
	const mid = "1.1 put m right 0.0\n1.2 take 1.1\n"
	checkTree(t, mid+"2.1 put l left 1.1\n", "l", leaf(id(2, 1), 'l'), gone(id(1, 1), 'm'))
	checkTree(t, mid+"2.1 put r right 1.1\n", "r", gone(id(1, 1), 'm'), leaf(id(2, 1), 'r'))
	checkTree(t, mid+"2.1 put l left 1.1\n2.2 put r right 1.1\n", "lr",
		leaf(id(2, 1), 'l'), gone(id(1, 1), 'm'), leaf(id(2, 2), 'r'))
	checkTree(t, mid+"2.1 put l left 1.1\n2.2 put k left 2.1\n2.3 put n right 2.1\n2.4 take 2.1\n3.1 put z right 0.0\n", "knz",
		leaf(id(2, 2), 'k'), gone(id(2, 1), 'l'), leaf(id(2, 3), 'n'), gone(id(1, 1), 'm'), leaf(id(3, 1), 'z'))
	checkTree(t, mid+"2.1 put r right 1.1\n2.2 put q left 2.1\n2.3 put s right 2.1\n2.4 take 2.1\n", "qs",
		gone(id(1, 1), 'm'), leaf(id(2, 2), 'q'), gone(id(2, 1), 'r'), leaf(id(2, 3), 's'))
}

func TestP12SidesOfASign(t *testing.T) {
	lefts, rights := 0, 0
	for _, ops := range treeLists() {
		at := places(ops)
		signs := putOf(ops)
		for _, op := range signs {
			if op.Ref == nothing {
				continue
			}
			for one := range signs {
				if one != op.Id && !isUnder(signs, one, op.Id) {
					continue
				}
				if op.Side == right && at[one] <= at[op.Ref] || op.Side == left && at[one] >= at[op.Ref] {
					t.Fatal(one, op, ops)
				}
				lefts += 1 - op.Side
				rights += op.Side
			}
		}
	}
	if lefts < 1000 || rights < 1000 {
		t.Error("too few", lefts, rights)
	}
}

func TestP12AsTheDocumentSays(t *testing.T) {
	for _, ops := range treeLists() {
		if got, want := impl.TreeLeaves(ops), standing(ops); !slices.Equal(got, want) {
			t.Fatal(got, want, ops)
		}
	}
}

func TestP13NoOtherSignBetween(t *testing.T) {
	for _, ops := range treeLists() {
		signs := putOf(ops)
		leaves := impl.TreeLeaves(ops)
		for own := range signs {
			first, last, many := len(leaves), -1, 0
			for i, l := range leaves {
				if l.Id == own || isUnder(signs, l.Id, own) {
					first, last, many = min(first, i), i, many+1
				}
			}
			if last-first+1 != many {
				t.Fatal(own, leaves, ops)
			}
		}
	}
}

func TestP13TwoRunsAtOnePlace(t *testing.T) {
	checkTree(t, "1.1 put a right 0.0\n1.2 put b right 1.1\n1.3 put c right 1.2\n2.1 put x right 0.0\n2.2 put y right 2.1\n2.3 put z right 2.2\n", "abcxyz",
		leaf(id(1, 1), 'a'), leaf(id(1, 2), 'b'), leaf(id(1, 3), 'c'), leaf(id(2, 1), 'x'), leaf(id(2, 2), 'y'), leaf(id(2, 3), 'z'))
	checkTree(t, "1.1 put a right 3.1\n1.2 put b left 1.1\n1.3 put c left 1.2\n2.1 put x right 3.1\n2.2 put y right 2.1\n3.1 put m right 0.0\n", "mcbaxy",
		leaf(id(3, 1), 'm'), leaf(id(1, 3), 'c'), leaf(id(1, 2), 'b'), leaf(id(1, 1), 'a'), leaf(id(2, 1), 'x'), leaf(id(2, 2), 'y'))
}

func TestP14TextIsOfLeavesThatAreNotGone(t *testing.T) {
	for _, ops := range anyLists() {
		text := ""
		for _, l := range impl.TreeLeaves(ops) {
			if !l.Gone {
				text += string(rune(l.Sign))
			}
		}
		if got := impl.TreeText(ops); got != text {
			t.Fatal(got, text, ops)
		}
	}
}

func TestP14FullRows(t *testing.T) {
	alphabet := "abcdefghijklmnopqrstuvwxyzabcdefghij"
	turned := []byte(alphabet)
	slices.Reverse(turned)
	for _, c := range []struct {
		ops  []Op
		want string
	}{
		{rowOps(func(int) int { return right }), alphabet},
		{rowOps(func(int) int { return left }), string(turned)},
		{rowOps(func(place int) int { return place % 2 }), "acegikmoqsuwyacegijhfdbzxvtrpnljhfdb"},
		{fullOps(), "mbcdefghijklcegikmoqsuwydgjmpsvybehk"},
	} {
		if got := impl.TreeText(c.ops); got != c.want {
			t.Error(got, c.want)
		}
		if got, want := impl.TreeLeaves(c.ops), standing(c.ops); !slices.Equal(got, want) {
			t.Error(got, want)
		}
	}
}

func TestP15KidsAscendAndStandSo(t *testing.T) {
	several := 0
	for _, ops := range treeLists() {
		signs, at := putOf(ops), places(ops)
		for _, one := range someIds() {
			for _, side := range []int{left, right} {
				kids := impl.TreeKids(ops, one, side)
				for i, kid := range kids {
					if op, ok := signs[kid]; !ok || op.Ref != one || op.Side != side {
						t.Fatal(kids, one, side, ops)
					}
					if i > 0 && (!before(kids[i-1], kid) || at[kids[i-1]] >= at[kid]) {
						t.Fatal(kids, one, side, ops)
					}
				}
				if len(kids) > 1 {
					several++
				}
			}
		}
	}
	if several < 200 {
		t.Error("too few", several)
	}
}

func TestP15SeveralKids(t *testing.T) {
	ops := okOps(t, "1.1 put m right 0.0\n1.2 put a left 1.1\n1.3 put p right 1.1\n1.4 put b left 1.1\n1.5 put q right 1.1\n"+
		"2.1 put c left 1.1\n2.2 take 1.4\n2.3 put r right 1.1\n3.1 put d left 1.1\n3.2 put s right 1.1\n3.3 put n right 0.0\n")
	for _, c := range []struct {
		one  Id
		side int
		want []Id
	}{
		{id(1, 1), left, []Id{id(1, 2), id(1, 4), id(2, 1), id(3, 1)}},
		{id(1, 1), right, []Id{id(1, 3), id(1, 5), id(2, 3), id(3, 2)}},
		{nothing, right, []Id{id(1, 1), id(3, 3)}},
		{nothing, left, nil},
		{id(1, 2), left, nil},
		{id(1, 2), right, nil},
		{id(1, 4), right, nil},
		{id(2, 2), left, nil},
		{id(2, 2), right, nil},
		{id(2, 4), right, nil},
	} {
		if kids := impl.TreeKids(ops, c.one, c.side); !slices.Equal(kids, c.want) {
			t.Error(kids, c)
		}
	}
	if text := impl.TreeText(ops); text != "acdmpqrsn" {
		t.Error(text)
	}
}

func TestP15BesideALaterOne(t *testing.T) {
	const text = "1.1 put a right 1.3\n1.2 put b left 1.3\n1.3 put c right 0.0\n1.4 put d right 1.3\n"
	checkTree(t, text, "bcad", leaf(id(1, 2), 'b'), leaf(id(1, 3), 'c'), leaf(id(1, 1), 'a'), leaf(id(1, 4), 'd'))
	ops := okOps(t, text)
	if kids := impl.TreeKids(ops, id(1, 3), right); !slices.Equal(kids, []Id{id(1, 1), id(1, 4)}) {
		t.Error(kids)
	}
	if !impl.TreeUnder(ops, id(1, 1), id(1, 3)) || impl.TreeUnder(ops, id(1, 3), id(1, 1)) {
		t.Error("under")
	}
}

func TestP16UnderIsAnOrder(t *testing.T) {
	for n, ops := range treeLists() {
		if n%5 != 0 && n < 300 {
			continue
		}
		under := map[[2]Id]int{}
		var ids []Id
		for _, op := range ops {
			ids = append(ids, op.Id)
		}
		ids = append(ids, nothing, id(4, 1))
		for _, a := range ids {
			for _, b := range ids {
				if impl.TreeUnder(ops, a, b) {
					under[[2]Id{a, b}] = 1
				}
			}
		}
		for pair := range under {
			if pair[0] == pair[1] || under[[2]Id{pair[1], pair[0]}] == 1 {
				t.Fatal(pair, ops)
			}
			for _, c := range ids {
				if under[[2]Id{pair[1], c}] == 1 && under[[2]Id{pair[0], c}] != 1 {
					t.Fatal(pair, c, ops)
				}
			}
		}
	}
}

func TestP16UnderAsTheDocumentSays(t *testing.T) {
	ids := someIds()
	for n, ops := range treeLists() {
		if n%20 != 0 && n < 300 {
			continue
		}
		signs := putOf(ops)
		for _, a := range ids {
			for _, b := range ids {
				if got := impl.TreeUnder(ops, a, b); got != isUnder(signs, a, b) {
					t.Fatal(got, a, b, ops)
				}
			}
		}
	}
	ops := fullOps()
	signs := putOf(ops)
	for _, one := range farIds() {
		for _, op := range append(ops, Op{}) {
			if impl.TreeUnder(ops, one, op.Id) != isUnder(signs, one, op.Id) || impl.TreeUnder(ops, op.Id, one) != isUnder(signs, op.Id, one) {
				t.Fatal(one, op)
			}
		}
	}
}

func TestP16UnderExamples(t *testing.T) {
	ops := okOps(t, "1.1 put a right 0.0\n1.2 put b left 1.1\n1.3 take 1.1\n2.1 put c right 1.2\n2.2 put d right 0.0\n3.1 take 2.1\n")
	for _, c := range []struct {
		a, b Id
		want bool
	}{
		{id(1, 2), id(1, 1), true},
		{id(2, 1), id(1, 2), true},
		{id(2, 1), id(1, 1), true},
		{id(1, 1), id(1, 2), false},
		{id(1, 1), id(2, 1), false},
		{id(1, 1), id(1, 1), false},
		{id(2, 1), id(2, 1), false},
		{id(2, 2), id(1, 1), false},
		{id(1, 1), id(2, 2), false},
		{id(1, 1), nothing, true},
		{id(2, 1), nothing, true},
		{nothing, nothing, false},
		{nothing, id(1, 1), false},
		{id(1, 3), id(1, 1), false}, // what took one away was not put beside it
		{id(3, 1), id(1, 1), false},
		{id(1, 3), nothing, false},
		{id(1, 1), id(1, 3), false},
		{id(2, 1), id(3, 1), false},
		{id(1, 3), id(1, 3), false},
		{id(3, 2), id(1, 1), false}, // none of that id
		{id(3, 2), nothing, false},
		{id(1, 1), id(3, 2), false},
		{id(3, 2), id(3, 2), false},
		{id(4, 1), nothing, false},
		{id(0, 1), nothing, false},
		{id(1, 1), id(0, 1), false},
		{id(1, 1), id(-1, -1), false},
	} {
		if got := impl.TreeUnder(ops, c.a, c.b); got != c.want {
			t.Error(c)
		}
	}
}

func TestP17EachSignIsAKidOnce(t *testing.T) {
	for _, ops := range treeLists() {
		signs := signsOf(ops)
		many := 0
		in := map[Id]int{}
		for _, one := range someIds() {
			for _, side := range []int{left, right} {
				kids := impl.TreeKids(ops, one, side)
				many += len(kids)
				for _, kid := range kids {
					in[kid]++
				}
			}
		}
		if many != len(signs) {
			t.Fatal(many, ops)
		}
		for _, op := range signs {
			if in[op.Id] != 1 || !slices.Contains(impl.TreeKids(ops, op.Ref, op.Side), op.Id) {
				t.Fatal(op, ops)
			}
		}
	}
}

func TestP17NoSuchSideOrId(t *testing.T) {
	ids := append(someIds(), farIds()...)
	for n, ops := range treeLists() {
		if n%40 != 0 && n < 300 {
			continue
		}
		signs := signsOf(ops)
		for _, one := range ids {
			for _, side := range sideNumbers {
				var want []Id
				for _, op := range signs {
					if op.Ref == one && op.Side == side {
						want = append(want, op.Id)
					}
				}
				if kids := impl.TreeKids(ops, one, side); !slices.Equal(kids, want) {
					t.Fatal(kids, want, one, side, ops)
				}
			}
		}
	}
}

func TestP18LengthOfTheText(t *testing.T) {
	shorter := 0
	for _, ops := range treeLists() {
		signs := putOf(ops)
		away := map[Id]int{}
		for _, op := range ops {
			if op.Kind == impl.OpTake {
				away[op.Ref]++
			}
		}
		text := impl.TreeText(ops)
		if len(text) != len(signs)-len(away) {
			t.Fatal(text, ops)
		}
		if strings.Trim(text, "abcdefghijklmnopqrstuvwxyz") != "" {
			t.Fatal(text, ops)
		}
		if len(away) > 0 {
			shorter++
		}
	}
	if shorter < 100 {
		t.Error("too few", shorter)
	}
}

func TestP19UnderByKids(t *testing.T) {
	for n, ops := range treeLists() {
		if n%10 != 0 && n < 300 {
			continue
		}
		signs := signsOf(ops)
		kids := map[Id][]Id{}
		for _, b := range append(signs, Op{}) {
			kids[b.Id] = append(impl.TreeKids(ops, b.Id, left), impl.TreeKids(ops, b.Id, right)...)
		}
		for _, a := range signs {
			for _, b := range append(signs, Op{}) {
				byKids := slices.ContainsFunc(kids[b.Id], func(kid Id) bool {
					return kid == a.Id || impl.TreeUnder(ops, a.Id, kid)
				})
				if impl.TreeUnder(ops, a.Id, b.Id) != byKids {
					t.Fatal(a, b, ops)
				}
			}
		}
	}
}

// checkTreeRefused is the one fixed answer of each function at what is not ok.
func checkTreeRefused(t *testing.T, name string, ops []Op) {
	t.Helper()
	if leaves := impl.TreeLeaves(ops); len(leaves) != 0 {
		t.Error(name, "leaves", leaves, ops)
	}
	if text := impl.TreeText(ops); text != "" {
		t.Error(name, "text", text, ops)
	}
	asked := []Id{nothing}
	for _, op := range ops[:min(len(ops), 5)] {
		asked = append(asked, op.Id, op.Ref)
	}
	for _, a := range asked {
		for _, side := range []int{left, right, -1, 2} {
			if kids := impl.TreeKids(ops, a, side); len(kids) != 0 {
				t.Error(name, "kids", kids, ops)
			}
		}
		for _, b := range asked {
			if impl.TreeUnder(ops, a, b) {
				t.Error(name, "under", a, b, ops)
			}
		}
	}
}

func TestP11ToP19WrongLists(t *testing.T) {
	for name, ops := range wrongLists() {
		if doneOk(ops) {
			t.Error("should be wrong:", name)
		}
		checkTreeRefused(t, name, ops)
	}
	for n, ops := range anyLists() {
		if n%4 == 0 && !doneOk(ops) {
			checkTreeRefused(t, "changed", ops)
		}
	}
	checkTreeRefused(t, "long", make([]Op, 100000))
}

func TestTreeOfNothing(t *testing.T) {
	for _, ops := range [][]Op{nil, {}} {
		checkTreeRefused(t, "no thing at all", ops)
	}
}

func TestTreeArgumentsStay(t *testing.T) {
	lists := treeLists()
	for _, ops := range wrongLists() {
		lists = append(lists, ops)
	}
	for _, ops := range lists {
		room := guarded(ops)
		impl.TreeLeaves(room)
		checkGuarded(t, "TreeLeaves", room, ops)
		impl.TreeText(room)
		checkGuarded(t, "TreeText", room, ops)
		impl.TreeKids(room, nothing, right)
		checkGuarded(t, "TreeKids", room, ops)
		impl.TreeUnder(room, id(2, 1), id(1, 1))
		checkGuarded(t, "TreeUnder", room, ops)
	}
}

func TestTreeAnswersAreNewMemory(t *testing.T) {
	ops := fullOps()
	leaves, others := impl.TreeLeaves(ops), impl.TreeLeaves(ops)
	for i := range cap(leaves) {
		leaves[:cap(leaves)][i] = Leaf{Sign: -9}
	}
	if want := standing(fullOps()); !slices.Equal(others, want) || !slices.Equal(impl.TreeLeaves(ops), want) {
		t.Error("TreeLeaves shares memory")
	}
	kids, more := impl.TreeKids(ops, id(1, 12), right), impl.TreeKids(ops, id(1, 12), right)
	want := slices.Clone(kids)
	for i := range cap(kids) {
		kids[:cap(kids)][i] = id(-9, -9)
	}
	if len(want) != 35 || !slices.Equal(more, want) || !slices.Equal(impl.TreeKids(ops, id(1, 12), right), want) {
		t.Error("TreeKids shares memory")
	}
	if !slices.Equal(ops, fullOps()) {
		t.Error("an answer shares memory with the argument")
	}
}

func TestTreeAnswersTheSameAgain(t *testing.T) {
	for _, ops := range treeLists() {
		leaves, text, kids := impl.TreeLeaves(ops), impl.TreeText(ops), impl.TreeKids(ops, nothing, right)
		impl.TreeLeaves(fullOps())
		impl.TreeText(wrongLists()["a circle of two"])
		room := guarded(ops)
		if !slices.Equal(impl.TreeLeaves(room), leaves) || impl.TreeText(room) != text || !slices.Equal(impl.TreeKids(room, nothing, right), kids) {
			t.Fatal("something is kept between calls", ops)
		}
	}
}
