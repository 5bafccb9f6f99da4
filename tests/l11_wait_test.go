package tests

import (
	"fmt"
	"slices"
	"testing"

	"loop.example/tatting/impl"
)

// step is something that is heard of, and how many were done, and wait, then.
type step struct {
	op         Op
	done, wait int
}

func checkSteps(t *testing.T, name string, steps []step) Doc {
	t.Helper()
	var d Doc
	for n, s := range steps {
		want := heard(d, s.op)
		d = impl.DocHear(d, s.op)
		checkDoc(t, name, d, want)
		if len(d.Ops) != s.done || len(d.Wait) != s.wait {
			t.Fatal(name, n, "done", len(d.Ops), "waiting", len(d.Wait))
		}
	}
	return d
}

func TestP35WaitsForTheOneAheadForItsRefAndForBoth(t *testing.T) {
	a := put(id(1, 1), 'a', right, nothing)
	ahead := put(id(1, 2), 'b', right, nothing)
	checkSteps(t, "the one ahead", []step{{ahead, 0, 1}, {a, 2, 0}})
	ref := put(id(2, 1), 'c', left, id(1, 1))
	checkSteps(t, "Ref", []step{{ref, 0, 1}, {a, 2, 0}})
	gone := take(id(3, 1), id(1, 1))
	checkSteps(t, "what is taken away", []step{{gone, 0, 1}, {a, 2, 0}})
	both := put(id(2, 2), 'd', right, id(1, 1))
	first := put(id(2, 1), 'e', right, nothing)
	checkSteps(t, "both, the one ahead first", []step{{both, 0, 1}, {first, 1, 1}, {a, 3, 0}})
	checkSteps(t, "both, Ref first", []step{{both, 0, 1}, {a, 1, 1}, {first, 3, 0}})
	checkSteps(t, "both are one", []step{{put(id(1, 2), 'f', left, id(1, 1)), 0, 1}, {a, 2, 0}})
	checkSteps(t, "both there", []step{{first, 1, 0}, {a, 2, 0}, {both, 3, 0}})
	checkSteps(t, "Ref of the same Rep, later", []step{{put(id(1, 1), 'g', right, id(1, 2)), 0, 1}, {put(id(1, 2), 'h', right, nothing), 0, 2}})
}

func TestP35WhatWaitsForWhatWaitsInAChain(t *testing.T) {
	ops := chain(10)
	var steps []step
	for n, op := range backwards(ops[1:]) {
		steps = append(steps, step{op, 0, n + 1})
	}
	d := checkSteps(t, "chain", append(steps, step{ops[0], 10, 0}))
	if impl.TreeText(d.Ops) != "abcdefghij" {
		t.Error(impl.TreeText(d.Ops))
	}
	// Of three Reps in turn, each thing beside the last of another one.
	var row []Op
	last := nothing
	for i := range 18 {
		on := i % 2
		if i == 0 {
			on = right
		}
		own := id(i%3+1, i/3+1)
		row = append(row, put(own, 'a'+i, on, last))
		last = own
	}
	got := impl.DocAll(Doc{}, backwards(row[1:]))
	checkDoc(t, "none can be", got, Doc{Wait: with(row[1:])})
	checkDoc(t, "all can be", impl.DocHear(got, row[0]), Doc{Ops: with(row)})
}

func TestP35WhatWaitsForWhatWaitsInAFork(t *testing.T) {
	ops := okOps(t, "1.1 put a right 0.0\n1.2 put b right 1.1\n1.3 take 1.1\n1.4 put c left 2.2\n2.1 put d left 1.1\n2.2 put e right 1.2\n2.3 put f left 2.1\n3.1 take 2.3\n3.2 put g right 1.4\n3.3 take 3.2\n")
	d := &dice{state: 107}
	for range 200 {
		order := shuffled(d, ops[1:])
		waiting := impl.DocAll(Doc{}, order)
		checkDoc(t, "fork", waiting, Doc{Wait: ops[1:]})
		checkDoc(t, "fork, all of it", impl.DocHear(waiting, ops[0]), Doc{Ops: ops})
	}
	// Only one branch goes: the other one waits for something more.
	lacks := slices.Delete(slices.Clone(ops), 5, 6)
	waiting := impl.DocAll(Doc{}, lacks[1:])
	got := impl.DocHear(waiting, lacks[0])
	if impl.OpsText(got.Ops) != "1.1 put a right 0.0\n1.2 put b right 1.1\n1.3 take 1.1\n2.1 put d left 1.1\n" || len(got.Wait) != 5 {
		t.Error(got)
	}
	checkDoc(t, "the other branch", impl.DocHear(got, ops[5]), Doc{Ops: ops})
}

func TestP35WhatCanNeverBeDone(t *testing.T) {
	a := put(id(1, 1), 'a', right, nothing)
	away := take(id(1, 2), id(1, 1))
	beside := put(id(2, 1), 'b', right, id(1, 2))
	behind := put(id(2, 2), 'c', right, nothing)
	under := put(id(3, 1), 'd', right, id(2, 1))
	d := checkSteps(t, "Ref was no put", []step{{a, 1, 0}, {away, 2, 0}, {beside, 2, 1}, {behind, 2, 2}, {under, 2, 3}})
	checkDoc(t, "Ref was no put", d, Doc{Ops: []Op{a, away}, Wait: []Op{beside, behind, under}})
	late := checkSteps(t, "Ref is no put, later", []step{{under, 0, 1}, {behind, 0, 2}, {beside, 0, 3}, {away, 0, 4}, {a, 2, 3}})
	checkDoc(t, "in both orders", late, d)
	checkSteps(t, "takes a taking away", []step{{take(id(2, 1), id(1, 2)), 0, 1}, {a, 1, 1}, {away, 2, 1}})
	checkSteps(t, "the one ahead is Ref, and no put", []step{{put(id(1, 3), 'e', right, id(1, 2)), 0, 1}, {a, 1, 1}, {away, 2, 1}})

	two := []Op{put(id(2, 1), 'b', right, id(3, 1)), put(id(3, 1), 'c', left, id(2, 1))}
	d = checkSteps(t, "circle of two", []step{{two[0], 0, 1}, {two[1], 0, 2}, {a, 1, 2}, {take(id(1, 2), id(2, 1)), 1, 3}})
	if d.Ops[0] != a {
		t.Error(d)
	}
	checkSteps(t, "circle of one Rep", []step{{put(id(1, 1), 'a', right, id(1, 2)), 0, 1}, {put(id(1, 2), 'b', left, id(1, 1)), 0, 2}, {put(id(3, 1), 'c', right, nothing), 1, 2}})
	checkSteps(t, "circle of three", []step{
		{put(id(1, 1), 'a', right, id(2, 1)), 0, 1}, {put(id(2, 1), 'b', right, id(3, 1)), 0, 2}, {put(id(3, 1), 'c', right, id(1, 1)), 0, 3},
		{put(id(3, 2), 'd', right, nothing), 0, 4}, {put(id(2, 2), 'e', right, id(1, 1)), 0, 5},
	})
	checkSteps(t, "beside itself", []step{{put(id(1, 1), 'a', right, id(1, 1)), 0, 0}, {a, 1, 0}})
}

// wrongDocs are not ok, one for each way that there is.
func wrongDocs() map[string]Doc {
	ops := []Op{put(id(1, 1), 'a', right, nothing), take(id(1, 2), id(1, 1)), put(id(2, 1), 'b', left, id(1, 1))}
	one, two := put(id(1, 4), 'c', right, nothing), put(id(3, 1), 'd', right, id(3, 2))
	with := func(wait ...Op) Doc { return Doc{Ops: ops, Wait: wait} }
	docs := map[string]Doc{
		"more than WaitMax":                   {Wait: append(fullWait(20).Wait, put(id(3, 11), 'z', right, id(2, 1)))},
		"far more than WaitMax":               {Wait: slices.Repeat(fullWait(20).Wait, 1000)},
		"more than WaitMax, beside something": {Ops: []Op{put(id(1, 1), 'a', right, nothing)}, Wait: append(fullWait(20).Wait, put(id(3, 11), 'z', right, id(2, 1)))},
		"out of order by Rep":                 with(two, one),
		"out of order by Num":                 with(put(id(3, 3), 'd', right, nothing), put(id(3, 2), 'e', right, id(3, 1))),
		"twice":                               with(one, one, two),
		"the last one twice":                  with(one, two, two),
		"another one of that id":              with(one, put(id(1, 4), 'd', left, id(1, 1)), two),
		"waits, and was done":                 with(ops[0]),
		"waits, and was done, the last one":   with(one, ops[2], two),
		"another one of an id in Ops":         with(put(id(1, 2), 'c', right, id(3, 1))),
		"another taking of an id in Ops":      with(take(id(2, 1), id(3, 3))),
		"could be done":                       with(put(id(1, 3), 'c', right, nothing)),
		"could be done, beside a sign":        with(put(id(2, 2), 'c', left, id(2, 1))),
		"could be done, taking away":          with(take(id(3, 1), id(2, 1))),
		"could be done, the last one":         with(one, put(id(3, 1), 'd', right, id(2, 1))),
		"could be done, of nothing":           {Wait: []Op{put(id(2, 1), 'c', right, nothing)}},
	}
	for name, list := range wrongLists() {
		docs["Ops: "+name] = Doc{Ops: list}
		docs["Ops, and one waits: "+name] = Doc{Ops: list, Wait: []Op{put(id(3, 9), 'c', right, nothing)}}
	}
	for _, op := range notInForm() {
		docs["not in form: "+fmt.Sprint(op)] = with(op)
		docs["not in form, behind another one: "+fmt.Sprint(op)] = with(one, op)
		docs["not in form, of nothing: "+fmt.Sprint(op)] = Doc{Wait: []Op{op}}
	}
	return docs
}

// checkDocRefused is the one fixed answer of each function at a doc that is not ok.
func checkDocRefused(t *testing.T, name string, d Doc) {
	t.Helper()
	if impl.DocOk(d) {
		t.Errorf("%q should not be ok: %v", name, d)
	}
	list := []Op{put(id(1, 1), 'a', right, nothing), put(id(3, 4), 'b', right, nothing), put(id(2, 1), 'c', right, nothing)}
	for _, op := range append(list, Op{}) {
		if got := impl.DocHear(d, op); !isNoDoc(got) {
			t.Errorf("%q: DocHear of %v: %v", name, op, got)
		}
	}
	for _, some := range [][]Op{nil, {}, list[:1], list[1:], list, {{}, {}}} {
		if got := impl.DocAll(d, some); !isNoDoc(got) {
			t.Errorf("%q: DocAll of %v: %v", name, some, got)
		}
	}
}

func TestP33WrongDocs(t *testing.T) {
	docs := wrongDocs()
	for name, d := range docs {
		checkDocRefused(t, name, d)
	}
	if len(docs) < 1000 {
		t.Error("too few", len(docs))
	}
}

func TestP33GoodDocs(t *testing.T) {
	ops := okOps(t, "1.1 put a right 0.0\n1.2 take 1.1\n2.1 put b left 1.1\n")
	for name, wait := range map[string][]Op{
		"none":                        nil,
		"for the one ahead":           {put(id(1, 4), 'c', right, nothing)},
		"for Ref":                     {put(id(3, 1), 'c', right, id(2, 2))},
		"for both":                    {take(id(3, 2), id(2, 2))},
		"Ref was no put":              {put(id(1, 3), 'c', right, id(1, 2)), take(id(2, 2), id(1, 2))},
		"a circle":                    {put(id(2, 2), 'c', right, id(3, 1)), put(id(3, 1), 'd', right, id(2, 2))},
		"of the last id":              {put(id(1, 12), 'c', right, nothing), put(id(3, 12), 'd', right, nothing)},
		"what could be, with another": {put(id(1, 4), 'c', right, nothing), put(id(1, 5), 'c', right, nothing), put(id(2, 3), 'c', right, nothing)},
	} {
		d := Doc{Ops: ops, Wait: wait}
		if !impl.DocOk(d) {
			t.Error(name, "should be ok")
		}
		checkDoc(t, name, impl.DocAll(d, nil), d)
	}
	for many := range impl.WaitMax + 1 {
		if !impl.DocOk(fullWait(many)) {
			t.Error("should be ok", many)
		}
	}
}

func TestP33OkIsAsTheDocumentSays(t *testing.T) {
	d := &dice{state: 109}
	docs, _ := someDocs()
	good, bad := 0, 0
	for _, doc := range docs {
		for round := range 12 {
			other := cloned(doc)
			switch round % 4 {
			case 0:
				other.Ops = changed(d, other.Ops)
			case 1:
				other.Wait = changed(d, other.Wait)
			case 2:
				other.Wait = with(other.Wait, someOps(d, 1)...)
			case 3:
				other.Ops, other.Wait = changed(d, other.Ops), changed(d, other.Wait)
			}
			if impl.DocOk(other) != docIsOk(other) {
				t.Fatal(impl.DocOk(other), other)
			}
			if docIsOk(other) {
				good++
				continue
			}
			bad++
			if round == 1 {
				checkDocRefused(t, "changed", other)
			}
		}
	}
	if good < 500 || bad < 500 {
		t.Error("too few", good, bad)
	}
}
