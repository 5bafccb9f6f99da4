package tests

import (
	"slices"
	"testing"

	"loop.example/tatting/impl"
)

type Doc = impl.Doc

// canBe says by the document's words whether OpsWith is true, apart from the program.
func canBe(ops []Op, op Op) bool {
	return doneOk(ops) && doneOk(with(ops, op))
}

func hasId(ops []Op, own Id) bool {
	return slices.ContainsFunc(ops, func(op Op) bool { return op.Id == own })
}

// docIsOk says by the document's words what is DocOk, apart from the program.
func docIsOk(d Doc) bool {
	if !doneOk(d.Ops) || len(d.Wait) > 20 {
		return false
	}
	for i, op := range d.Wait {
		if !formOk(op) || i > 0 && !before(d.Wait[i-1].Id, op.Id) || hasId(d.Ops, op.Id) || canBe(d.Ops, op) {
			return false
		}
	}
	return true
}

// heard is by the document's words what DocHear of an ok doc is: again and again the first that waits and can be done is.
func heard(d Doc, op Op) Doc {
	out := cloned(d)
	if !formOk(op) || hasId(d.Ops, op.Id) || hasId(d.Wait, op.Id) {
		return out
	}
	if !canBe(d.Ops, op) {
		if len(out.Wait) < 20 {
			out.Wait = with(out.Wait, op)
		}
		return out
	}
	out.Ops = with(out.Ops, op)
	for {
		first := slices.IndexFunc(out.Wait, func(one Op) bool { return canBe(out.Ops, one) })
		if first < 0 {
			return out
		}
		out.Ops = with(out.Ops, out.Wait[first])
		out.Wait = slices.Delete(out.Wait, first, first+1)
	}
}

func heardAll(d Doc, list []Op) Doc {
	out := cloned(d)
	for _, op := range list {
		out = heard(out, op)
	}
	return out
}

func cloned(d Doc) Doc {
	return Doc{Ops: slices.Clone(d.Ops), Wait: slices.Clone(d.Wait)}
}

func sameDoc(a Doc, b Doc) bool {
	return slices.Equal(a.Ops, b.Ops) && slices.Equal(a.Wait, b.Wait)
}

func isNoDoc(d Doc) bool {
	return len(d.Ops) == 0 && len(d.Wait) == 0
}

func checkDoc(t *testing.T, name string, got Doc, want Doc) {
	t.Helper()
	if !sameDoc(got, want) {
		t.Fatalf("%s:\n%v, waiting %v, instead of\n%v, waiting %v", name, got.Ops, got.Wait, want.Ops, want.Wait)
	}
	if impl.DocOk(got) != docIsOk(got) || !docIsOk(got) {
		t.Fatal(name, "is not ok", got)
	}
}

// shuffled is the list in another order.
func shuffled(d *dice, list []Op) []Op {
	out := slices.Clone(list)
	for i := range out {
		j := d.below(i + 1)
		out[i], out[j] = out[j], out[i]
	}
	return out
}

// backwards is the list with the last one first.
func backwards(list []Op) []Op {
	out := slices.Clone(list)
	slices.Reverse(out)
	return out
}

// chain is so many signs, each put beside the one ahead, as one after the other was done, twelve of each.
func chain(many int) []Op {
	var ops []Op
	last := nothing
	for i := range many {
		own := id(i/12+1, i%12+1)
		ops = append(ops, put(own, 'a'+i%26, right, last))
		last = own
	}
	return ops
}

// someOps is so many things that are in form, at random, so that some of them can never be done.
func someOps(d *dice, many int) []Op {
	var ops []Op
	for range many {
		own := id(d.below(3)+1, d.below(5)+1)
		op := put(own, 'a'+d.below(26), d.below(2), id(d.below(3)+1, d.below(5)+1))
		switch d.below(4) {
		case 0:
			op = put(own, 'a'+d.below(26), right, nothing)
		case 1:
			op = take(own, op.Ref)
		}
		if formOk(op) {
			ops = append(ops, op)
		}
	}
	return ops
}

// sources are lists of what docs hear of: what was done one behind the other, what was but refers to later things, and what cannot all have been.
func sources() [][]Op {
	d := &dice{state: 101}
	lists := [][]Op{nil, fullOps(), chain(21), chain(22), chain(36), rowOps(func(int) int { return left })}
	for round := range 40 {
		made := madeOps(d, round)
		lists = append(lists, made, writtenOps(d, round), renumbered(d, made), changed(d, made), someOps(d, round))
	}
	return lists
}

// someDocs are ok docs of many kinds, made apart from the program, and beside each a list that goes on from there.
func someDocs() ([]Doc, [][]Op) {
	d := &dice{state: 103}
	var docs []Doc
	var lists [][]Op
	for _, list := range sources() {
		for _, order := range [][]Op{shuffled(d, list), backwards(list)} {
			cut := d.below(len(order) + 1)
			docs = append(docs, heardAll(Doc{}, order[:cut]))
			lists = append(lists, append(slices.Clone(order[cut:]), someOps(d, 3)...))
		}
		if doneOk(list) {
			docs = append(docs, heardAll(Doc{Ops: list}, someOps(d, 12)))
			lists = append(lists, someOps(d, 8))
		}
	}
	return docs, lists
}

// fullWait is a doc at which so many wait, all for the first of the second Rep.
func fullWait(many int) Doc {
	var d Doc
	for i := range many {
		own := id(i/11*2+1, i%11+2)
		d.Wait = append(d.Wait, put(own, 'a'+i, right, id(2, 1)))
	}
	return d
}

func TestP33HearingIsAsTheDocumentSays(t *testing.T) {
	docs, lists := someDocs()
	waits, done, lost := 0, 0, 0
	for n, d := range docs {
		checkDoc(t, "made", d, d)
		for _, op := range lists[n] {
			got := impl.DocHear(d, op)
			checkDoc(t, "DocHear", got, heard(d, op))
			for _, one := range d.Ops {
				if !slices.Contains(got.Ops, one) {
					t.Fatal("what was done goes", one, d)
				}
			}
			for _, one := range d.Wait {
				if !slices.Contains(got.Ops, one) && !slices.Contains(got.Wait, one) {
					t.Fatal("what waits goes", one, d)
				}
			}
			if !formOk(op) || hasId(d.Ops, op.Id) || hasId(d.Wait, op.Id) {
				continue
			}
			switch {
			case slices.Contains(got.Ops, op):
				done++
			case slices.Contains(got.Wait, op):
				waits++
			case len(d.Wait) == 20:
				lost++
			default:
				t.Fatal("heard of, and not there", op, d)
			}
		}
	}
	if waits < 500 || done < 300 || lost < 50 {
		t.Error("too few", waits, done, lost)
	}
}

func TestP33OfNothing(t *testing.T) {
	if !impl.DocOk(Doc{}) || !impl.DocOk(Doc{Ops: []Op{}, Wait: []Op{}}) {
		t.Error("a doc of nothing is ok")
	}
	a, b := put(id(1, 1), 'a', right, nothing), put(id(1, 2), 'b', right, nothing)
	checkDoc(t, "can be done", impl.DocHear(Doc{}, a), Doc{Ops: []Op{a}})
	checkDoc(t, "waits", impl.DocHear(Doc{}, b), Doc{Wait: []Op{b}})
	checkDoc(t, "no thing", impl.DocHear(Doc{}, Op{}), Doc{})
}

func TestP33WaitMax(t *testing.T) {
	more := take(id(3, 11), id(2, 1))
	for many := range impl.WaitMax {
		d := fullWait(many)
		checkDoc(t, "waits", impl.DocHear(d, more), Doc{Wait: with(d.Wait, more)})
	}
	full := fullWait(impl.WaitMax)
	if len(full.Wait) != 20 || !impl.DocOk(full) {
		t.Fatal("WaitMax may wait", full)
	}
	checkDoc(t, "one more than WaitMax", impl.DocHear(full, more), full)
	checkDoc(t, "and again", impl.DocHear(impl.DocHear(full, more), more), full)
	checkDoc(t, "all at once", impl.DocAll(Doc{}, append(backwards(full.Wait), more)), full)
	if tooMany := (Doc{Wait: with(full.Wait, more)}); impl.DocOk(tooMany) || !isNoDoc(impl.DocHear(tooMany, more)) {
		t.Error("more than WaitMax is not ok")
	}
}

func TestP35OneMoreThatCanBeDoneWhileWaitMaxWait(t *testing.T) {
	full := fullWait(impl.WaitMax)
	a := put(id(3, 1), 'a', right, nothing)
	checkDoc(t, "lets nothing go", impl.DocHear(full, a), Doc{Ops: []Op{a}, Wait: full.Wait})
	d := impl.DocAll(full, []Op{a, put(id(2, 1), 'b', right, nothing)})
	if len(d.Ops) != 2+9 || len(d.Wait) != 11 {
		t.Fatal(d)
	}
	checkDoc(t, "lets some go", d, heardAll(full, []Op{a, put(id(2, 1), 'b', right, nothing)}))
	d = impl.DocHear(d, put(id(1, 1), 'c', right, nothing))
	if len(d.Ops) != 23 || len(d.Wait) != 0 {
		t.Fatal(d)
	}
	// All of them wait for what is done first and then for another thing each: none may be lost on the way.
	again := full
	again.Wait = slices.Clone(full.Wait)
	for i := range again.Wait {
		again.Wait[i].Ref = id(2, 2)
	}
	first, second := put(id(2, 1), 'd', right, nothing), put(id(2, 2), 'e', right, nothing)
	checkDoc(t, "all wait still", impl.DocHear(again, first), Doc{Ops: []Op{first}, Wait: again.Wait})
	checkDoc(t, "all wait for the one ahead", impl.DocAll(again, []Op{first, second}), Doc{Ops: []Op{first, second}, Wait: again.Wait})
	checkDoc(t, "all is done", impl.DocAll(again, []Op{put(id(1, 1), 'f', right, nothing), put(id(3, 1), 'g', right, nothing), first, second}),
		Doc{Ops: with(again.Wait, put(id(1, 1), 'f', right, nothing), put(id(3, 1), 'g', right, nothing), first, second)})
}

func TestP34OnceMore(t *testing.T) {
	docs, lists := someDocs()
	for n, d := range docs {
		for _, op := range lists[n] {
			once := impl.DocHear(d, op)
			checkDoc(t, "once more", impl.DocHear(once, op), once)
		}
		for _, op := range append(slices.Clone(d.Ops), d.Wait...) {
			other := op
			other.Sign, other.Kind, other.Side = 'z'-(op.Sign%3), impl.OpPut, right
			for _, again := range []Op{op, other, put(op.Id, 'q', right, nothing)} {
				checkDoc(t, "known", impl.DocHear(d, again), d)
			}
		}
	}
}

func TestP34AnotherOneOfThatId(t *testing.T) {
	d := impl.DocAll(Doc{}, []Op{put(id(1, 1), 'a', right, nothing), put(id(2, 2), 'b', right, id(1, 1))})
	checkDoc(t, "made", d, Doc{Ops: []Op{put(id(1, 1), 'a', right, nothing)}, Wait: []Op{put(id(2, 2), 'b', right, id(1, 1))}})
	for _, op := range []Op{
		put(id(1, 1), 'a', right, nothing),
		put(id(1, 1), 'b', right, nothing),
		put(id(1, 1), 'a', left, id(2, 2)),
		take(id(1, 1), id(2, 2)),
		put(id(2, 2), 'b', right, id(1, 1)),
		put(id(2, 2), 'c', right, id(1, 1)),
		put(id(2, 2), 'b', right, nothing),
		take(id(2, 2), id(1, 1)),
	} {
		checkDoc(t, "known", impl.DocHear(d, op), d)
	}
}

// notInForm are things that are not OpOk, in each way, of ids that are known and that are not.
func notInForm() []Op {
	var list []Op
	for _, own := range []Id{id(1, 1), id(1, 2), id(2, 1), id(3, 12)} {
		list = append(list,
			Op{Id: own}, Op{Id: own, Kind: 3, Ref: id(1, 1), Sign: 'a'}, Op{Id: own, Kind: -1, Ref: id(1, 1)},
			put(own, 'a', left, nothing), put(own, 'a', right, own), take(own, own), take(own, nothing),
			put(own, 'a'-1, right, nothing), put(own, 'z'+1, right, nothing), put(own, 0, right, nothing),
			put(own, 'a', 2, nothing), put(own, 'a', -1, nothing), put(own, 'a', right, id(0, 1)), put(own, 'a', right, id(4, 1)),
			put(own, 'a', right, id(1, 0)), put(own, 'a', right, id(1, 13)), take(own, id(1, 13)),
			Op{Id: own, Kind: impl.OpTake, Ref: id(3, 3), Side: right}, Op{Id: own, Kind: impl.OpTake, Ref: id(3, 3), Sign: 'a'})
	}
	for _, rep := range farNumbers {
		for _, num := range farNumbers {
			list = append(list, put(id(rep, num), 'a', right, nothing), take(id(rep, num), id(1, 1)))
		}
	}
	return slices.DeleteFunc(list, formOk)
}

func TestP34NotInForm(t *testing.T) {
	list := notInForm()
	docs, _ := someDocs()
	docs = append(docs[:20:20], Doc{}, fullWait(19), fullWait(20), Doc{Ops: chain(36)})
	for _, d := range docs {
		for _, op := range list {
			checkDoc(t, "not in form", impl.DocHear(d, op), d)
		}
		checkDoc(t, "all not in form", impl.DocAll(d, list), d)
	}
	if len(list) < 400 {
		t.Error("too few", len(list))
	}
}

func TestP35JustWhatCanBeDoneIsDone(t *testing.T) {
	docs, lists := someDocs()
	several := 0
	for n, d := range docs {
		for _, op := range lists[n] {
			got := impl.DocHear(d, op)
			known := hasId(d.Ops, op.Id) || hasId(d.Wait, op.Id)
			if can := !known && canBe(d.Ops, op); can != (len(got.Ops) > len(d.Ops)) || can != (!known && slices.Contains(got.Ops, op)) {
				t.Fatal("done just if it can be", op, d)
			}
			for _, one := range got.Wait {
				if canBe(got.Ops, one) {
					t.Fatal("can be done, and waits", one, got)
				}
			}
			for _, one := range got.Ops {
				if one != op && !slices.Contains(d.Ops, one) && !slices.Contains(d.Wait, one) {
					t.Fatal("done, and nobody told", one, got)
				}
			}
			if len(got.Ops) > len(d.Ops)+2 {
				several++
			}
		}
	}
	if several < 50 {
		t.Error("too few let others go", several)
	}
}
