package tests

import (
	"math"
	"slices"
	"sort"
	"testing"

	"loop.example/tatting/impl"
)

type (
	Id = impl.Id
	Op = impl.Op
)

const (
	left  = impl.SideLeft
	right = impl.SideRight
)

var nothing = Id{}

// farNumbers are below 0, at and around each limit, and far above it.
var farNumbers = []int{math.MinInt, -1000, -1, 0, 1, 2, 3, 4, 11, 12, 13, 25, 96, 1000, math.MaxInt}

func id(rep int, num int) Id { return Id{Rep: rep, Num: num} }

func put(own Id, sign int, side int, ref Id) Op {
	return Op{Id: own, Kind: impl.OpPut, Ref: ref, Side: side, Sign: sign}
}

func take(own Id, ref Id) Op {
	return Op{Id: own, Kind: impl.OpTake, Ref: ref}
}

// dice is a row of numbers that is the same in each run.
type dice struct{ state uint64 }

func (d *dice) below(many int) int {
	d.state = d.state*6364136223846793005 + 1442695040888963407
	return int((d.state >> 33) % uint64(many))
}

func sortOps(ops []Op) {
	sort.Slice(ops, func(i int, j int) bool {
		a, b := ops[i].Id, ops[j].Id
		return a.Rep < b.Rep || a.Rep == b.Rep && a.Num < b.Num
	})
}

// madeOps is something ok of so many things at most: each refers to nothing, or to a sign put ahead of it.
func madeOps(d *dice, most int) []Op {
	var ops []Op
	var signs []Id
	var done [impl.RepMax]int
	for range most {
		rep := d.below(impl.RepMax)
		if done[rep] == impl.NumMax {
			continue
		}
		done[rep]++
		own := id(rep+1, done[rep])
		switch which := d.below(4); {
		case which == 0 && len(signs) > 0:
			ops = append(ops, take(own, signs[d.below(len(signs))]))
			continue
		case which == 1 || len(signs) == 0:
			ops = append(ops, put(own, 'a'+d.below(26), right, nothing))
		default:
			ops = append(ops, put(own, 'a'+d.below(26), d.below(2), signs[d.below(len(signs))]))
		}
		signs = append(signs, own)
	}
	sortOps(ops)
	return ops
}

// renumbered changes, of each Rep, which of his things is which: all that was ok stays so, but things refer to later ones, too.
func renumbered(d *dice, ops []Op) []Op {
	var many [impl.RepMax + 1]int
	for _, op := range ops {
		many[op.Id.Rep]++
	}
	var to [impl.RepMax + 1][]int
	for rep := range to {
		to[rep] = make([]int, many[rep])
		for i := range to[rep] {
			j := d.below(i + 1)
			to[rep][i] = to[rep][j]
			to[rep][j] = i + 1
		}
	}
	out := slices.Clone(ops)
	for i := range out {
		out[i].Id.Num = to[out[i].Id.Rep][out[i].Id.Num-1]
		if out[i].Ref != nothing {
			out[i].Ref.Num = to[out[i].Ref.Rep][out[i].Ref.Num-1]
		}
	}
	sortOps(out)
	return out
}

// okLists are many that are ok, of all lengths.
func okLists() [][]Op {
	d := &dice{state: 7}
	lists := [][]Op{nil, {}, fullOps()}
	for round := range 150 {
		ops := madeOps(d, round%45)
		lists = append(lists, ops, renumbered(d, ops))
	}
	return lists
}

// fullOps is all that may be done, of all, with the longest lines.
func fullOps() []Op {
	var ops []Op
	for rep := 1; rep <= impl.RepMax; rep++ {
		for num := 1; num <= impl.NumMax; num++ {
			ops = append(ops, put(id(rep, num), 'a'+(rep*num)%26, right, id(1, impl.NumMax)))
		}
	}
	ops[impl.NumMax-1].Ref = nothing
	return ops
}

// changed is the list with something at random made otherwise; it may still be ok.
func changed(d *dice, ops []Op) []Op {
	out := slices.Clone(ops)
	if len(out) == 0 {
		return out
	}
	at := d.below(len(out))
	one := func() int { return d.below(6) - 1 }
	switch d.below(9) {
	case 0:
		out[at].Ref = id(one(), d.below(15)-1)
	case 1:
		out[at].Ref = out[d.below(len(out))].Id
	case 2:
		out = slices.Delete(out, at, at+1)
	case 3:
		out = slices.Insert(out, at, out[d.below(len(out))])
	case 4:
		other := d.below(len(out))
		out[at], out[other] = out[other], out[at]
	case 5:
		out[at].Kind = one()
	case 6:
		out[at].Side = one()
	case 7:
		out[at].Sign = 'a' - 3 + d.below(32)
	case 8:
		out[at].Id = id(one(), d.below(15)-1)
	}
	return out
}

// anyLists are the ok ones, and ones made out of them by a few changes.
func anyLists() [][]Op {
	d := &dice{state: 11}
	lists := okLists()
	for _, ops := range okLists() {
		for range 25 {
			more := changed(d, ops)
			lists = append(lists, more, changed(d, more))
		}
	}
	return lists
}

// guarded is the list with room behind its end that holds something to be found again.
func guarded(ops []Op) []Op {
	room := make([]Op, len(ops), len(ops)+6)
	copy(room, ops)
	for i := range 6 {
		room[:cap(room)][len(ops)+i] = put(id(3, 90+i), 'q', left, id(-7, i))
	}
	return room
}

func checkGuarded(t *testing.T, name string, room []Op, ops []Op) {
	t.Helper()
	if !slices.Equal(room[:cap(room)], guarded(ops)[:len(ops)+6]) {
		t.Errorf("%s wrote into its argument %v", name, ops)
	}
}

func okOps(t *testing.T, text string) []Op {
	t.Helper()
	ops, ok := impl.OpsRead(text)
	if !ok {
		t.Fatalf("not read: %q", text)
	}
	return ops
}

// wrongLists are not ok, one for each way that there is, with signs that would stand if it were not for that.
func wrongLists() map[string][]Op {
	a := put(id(1, 1), 'a', right, nothing)
	b := put(id(1, 2), 'b', left, id(1, 1))
	with := func(more ...Op) []Op { return append([]Op{a, b}, more...) }
	return map[string][]Op{
		"no id":                     with(Op{}),
		"Rep 0":                     append([]Op{put(id(0, 1), 'c', right, nothing)}, a, b),
		"Rep below 0":               append([]Op{put(id(-1, 1), 'c', right, nothing)}, a, b),
		"Rep above RepMax":          with(put(id(4, 1), 'c', right, id(1, 1))),
		"Rep far above":             with(put(id(math.MaxInt, 1), 'c', right, id(1, 1))),
		"Num 0":                     with(put(id(2, 0), 'c', right, id(1, 1))),
		"Num below 0":               with(put(id(2, -1), 'c', right, id(1, 1))),
		"Num above NumMax":          append(fullOps(), put(id(3, 13), 'c', right, nothing)),
		"Num far above":             with(put(id(2, math.MaxInt), 'c', right, id(1, 1))),
		"beside itself":             with(put(id(2, 1), 'c', right, id(2, 1))),
		"takes itself away":         with(take(id(2, 1), id(2, 1))),
		"kind 0":                    with(Op{Id: id(2, 1), Kind: 0, Ref: id(1, 1), Side: right, Sign: 'c'}),
		"kind 3":                    with(Op{Id: id(2, 1), Kind: 3, Ref: id(1, 1), Side: right, Sign: 'c'}),
		"kind below 0":              with(Op{Id: id(2, 1), Kind: -1, Ref: id(1, 1)}),
		"left of nothing":           with(put(id(2, 1), 'c', left, nothing)),
		"side 2":                    with(put(id(2, 1), 'c', 2, id(1, 1))),
		"side 2 of nothing":         with(put(id(2, 1), 'c', 2, nothing)),
		"side below 0":              with(put(id(2, 1), 'c', -1, id(1, 1))),
		"sign 0":                    with(put(id(2, 1), 0, right, id(1, 1))),
		"sign ahead of a":           with(put(id(2, 1), 'a'-1, right, id(1, 1))),
		"sign behind z":             with(put(id(2, 1), 'z'+1, right, id(1, 1))),
		"sign that wraps round":     with(put(id(2, 1), 'c'+256, right, id(1, 1))),
		"takes nothing away":        with(take(id(2, 1), nothing)),
		"takes with a side":         with(Op{Id: id(2, 1), Kind: impl.OpTake, Ref: id(1, 1), Side: right}),
		"takes with a sign":         with(Op{Id: id(2, 1), Kind: impl.OpTake, Ref: id(1, 1), Sign: 'c'}),
		"out of order by Rep":       {put(id(2, 1), 'c', right, id(1, 1)), a, b},
		"out of order by Num":       {b, a},
		"twice":                     {a, a, b},
		"a gap":                     {a, b, put(id(1, 4), 'c', right, id(1, 1))},
		"not from 1 on":             with(put(id(2, 2), 'c', right, id(1, 1))),
		"beside what is not there":  with(put(id(2, 1), 'c', right, id(1, 3))),
		"beside no id":              with(put(id(2, 1), 'c', right, id(1, 0))),
		"beside a taking":           with(take(id(2, 1), id(1, 1)), put(id(3, 1), 'c', right, id(2, 1))),
		"takes what is not there":   with(take(id(2, 1), id(3, 1))),
		"takes a taking away":       with(take(id(2, 1), id(1, 1)), take(id(3, 1), id(2, 1))),
		"a circle of two":           with(put(id(2, 1), 'c', right, id(2, 2)), put(id(2, 2), 'd', right, id(2, 1))),
		"a circle of three":         with(put(id(2, 1), 'c', right, id(2, 2)), put(id(2, 2), 'd', left, id(3, 1)), put(id(3, 1), 'e', left, id(2, 1))),
		"beside one of a circle":    with(put(id(2, 1), 'c', right, id(2, 2)), put(id(2, 2), 'd', right, id(2, 1)), put(id(3, 1), 'e', right, id(2, 1))),
		"takes one of a circle":     with(put(id(2, 1), 'c', right, id(2, 2)), put(id(2, 2), 'd', right, id(2, 1)), take(id(3, 1), id(2, 1))),
		"more than all that may be": slices.Repeat(fullOps(), 2),
	}
}

// rowOps is all that may be done, each sign put beside the one ahead, by all in turn, on the side that is told of its place.
func rowOps(side func(place int) int) []Op {
	var ops []Op
	last := nothing
	for i := range impl.RepMax * impl.NumMax {
		own := id(i%impl.RepMax+1, i/impl.RepMax+1)
		on := right
		if i > 0 {
			on = side(i)
		}
		ops = append(ops, put(own, 'a'+i%26, on, last))
		last = own
	}
	sortOps(ops)
	return ops
}
