package tests

import (
	"slices"
	"strings"
	"testing"

	"loop.example/tatting/impl"
)

const someLetters = "qwertyuiopas"

// typeRun is TypeRun where it must be true.
func typeRun(t *testing.T, ops []Op, rep int, at int, run string) []Op {
	t.Helper()
	all, ok := impl.TypeRun(ops, rep, at, run)
	if !ok {
		t.Fatal("not typed", rep, at, run, ops)
	}
	return all
}

// typeBackwards types each letter ahead of the one ahead, so that in the end the run stands there.
func typeBackwards(t *testing.T, ops []Op, rep int, at int, run string) []Op {
	t.Helper()
	for i := len(run) - 1; i >= 0; i-- {
		op, ok := impl.TypePut(ops, rep, at, int(run[i]))
		if !ok {
			t.Fatal("not typed", rep, at, run, ops)
		}
		ops = with(ops, op)
	}
	return ops
}

// together is all of several that went on from the same.
func together(t *testing.T, parts ...[]Op) []Op {
	t.Helper()
	var all []Op
	for _, part := range parts {
		for _, op := range part {
			if !slices.Contains(all, op) {
				all = append(all, op)
			}
		}
	}
	sortOps(all)
	if !doneOk(all) {
		t.Fatal("cannot be together", parts)
	}
	return all
}

// wantRun is by the document's words what TypeRun tells of what is ok, apart from the program.
func wantRun(ops []Op, rep int, at int, run string) ([]Op, bool) {
	if len(run) > 12 {
		return nil, false
	}
	for i, sign := range []byte(run) {
		op, ok := wantPut(ops, standing(ops), rep, at+i, int(sign))
		if !ok {
			return nil, false
		}
		ops = with(ops, op)
	}
	return ops, true
}

func TestP24RunIsAsTyped(t *testing.T) {
	d := &dice{state: 37}
	some, many := 0, 0
	for _, ops := range mostly(typeLists(), 2) {
		text := impl.TreeText(ops)
		for at := range len(text) + 1 {
			rep, long := d.below(impl.RepMax)+1, d.below(9)
			run := someLetters[:long]
			all, ok := impl.TypeRun(ops, rep, at, run)
			if can := doneBy(ops, rep)+long <= impl.NumMax; ok != can {
				t.Fatal(ok, rep, at, run, ops)
			}
			if !ok {
				continue
			}
			if got := impl.TreeText(all); got != text[:at]+run+text[at:] {
				t.Fatal(got, text, at, run, ops)
			}
			if !impl.OpsOk(all) || len(all) != len(ops)+long || doneBy(all, rep) != doneBy(ops, rep)+long {
				t.Fatal(all, ops)
			}
			some++
			if long > 1 {
				many++
			}
		}
	}
	if some < 1000 || many < 500 {
		t.Error("too few", some, many)
	}
}

func TestP24RunAsTheDocumentSays(t *testing.T) {
	d := &dice{state: 41}
	for n, ops := range typeLists() {
		long := len(impl.TreeText(ops))
		at, rep, run := d.below(long+3)-1, d.below(5), someLetters[:d.below(13)]
		if n%2 == 0 {
			at, rep = d.below(long+1), d.below(3)+1
		}
		got, ok := impl.TypeRun(ops, rep, at, run)
		want, wantOk := wantRun(ops, rep, at, run)
		if !slices.Equal(got, want) || ok != wantOk {
			t.Fatal(got, ok, want, wantOk, rep, at, run, ops)
		}
	}
}

func TestP24RunOfNoLetters(t *testing.T) {
	for _, ops := range mostly(typeLists(), 3) {
		for _, rep := range []int{-1, 0, 1, 2, 3, 4} {
			for _, at := range farNumbers {
				if all, ok := impl.TypeRun(ops, rep, at, ""); !ok || !slices.Equal(all, ops) {
					t.Fatal(all, ok, rep, at, ops)
				}
			}
		}
	}
}

func TestP24RunsAtTheLimits(t *testing.T) {
	for rep := 1; rep <= impl.RepMax; rep++ {
		if all := typeRun(t, nil, rep, 0, "abcdefghijkl"); !slices.Equal(all, rowBy(rep, 12)) {
			t.Error(all)
		}
		if all := typeRun(t, nil, rep, 0, "a"); !slices.Equal(all, rowBy(rep, 1)) {
			t.Error(all)
		}
		if all, ok := impl.TypeRun(nil, rep, 0, "abcdefghijklm"); ok || len(all) != 0 {
			t.Error(all)
		}
		if all, ok := impl.TypeRun(nil, rep, 0, strings.Repeat("a", 1<<16)); ok || len(all) != 0 {
			t.Error(all)
		}
		for done := range impl.NumMax + 1 {
			ops := rowBy(rep, done)
			for long := range impl.NumMax + 2 {
				run := (someLetters + "q")[:long]
				all, ok := impl.TypeRun(ops, rep, done, run)
				if ok != (done+long <= impl.NumMax) || !ok && len(all) != 0 {
					t.Error(done, long, all)
				}
				if ok && impl.TreeText(all) != "abcdefghijkl"[:done]+run {
					t.Error(done, long, impl.TreeText(all))
				}
			}
		}
	}
	// Others who have done all that they may do not stand in the way.
	if all := typeRun(t, rowBy(1, 12), 2, 12, someLetters); impl.TreeText(all) != "abcdefghijkl"+someLetters {
		t.Error(all)
	}
}

func TestP24WrongRuns(t *testing.T) {
	ops := okOps(t, "1.1 put a right 0.0\n1.2 put b right 1.1\n3.1 take 1.1\n")
	for _, wrong := range []string{"A", "Z", "0", " ", "\n", "\x00", "`", "{", "\x80", "\xe4", "\xff", "ä", "."} {
		for _, run := range []string{wrong, wrong + "xy", "x" + wrong + "y", "xy" + wrong, wrong + wrong, someLetters[:11] + wrong} {
			if all, ok := impl.TypeRun(ops, 2, 1, run); ok || len(all) != 0 {
				t.Errorf("%v of %q", all, run)
			}
			if all, ok := impl.TypeRun(nil, 1, 0, run); ok || len(all) != 0 {
				t.Errorf("%v of %q", all, run)
			}
		}
	}
	for letter := range 256 {
		_, ok := impl.TypeRun(ops, 2, 0, string([]byte{byte(letter)}))
		if ok != (letter >= 'a' && letter <= 'z') {
			t.Error(letter, ok)
		}
	}
	for _, rep := range farNumbers {
		for _, at := range farNumbers {
			all, ok := impl.TypeRun(ops, rep, at, "xy")
			if ok != (rep >= 1 && rep <= 3 && (at == 0 || at == 1)) || !ok && len(all) != 0 {
				t.Error(rep, at, all, ok)
			}
		}
	}
}

// checkSideBySide is that, of what several did from the same on, the run of each stands at the place without any sign between, gone or not, one behind the other, by Rep.
func checkSideBySide(t *testing.T, ops []Op, all []Op, at int, runs [4]string) {
	t.Helper()
	text := impl.TreeText(ops)
	want := text[:at] + runs[1] + runs[2] + runs[3] + text[at:]
	if got := impl.TreeText(all); got != want {
		t.Fatal(got, want, ops, all)
	}
	had := putOf(ops)
	first, last, many, rep := -1, -1, 0, 0
	for i, l := range impl.TreeLeaves(all) {
		if _, ok := had[l.Id]; ok {
			continue
		}
		if first < 0 {
			first = i
		}
		if l.Id.Rep < rep {
			t.Fatal("mixed", ops, all)
		}
		last, many, rep = i, many+1, l.Id.Rep
	}
	if many != len(runs[1]+runs[2]+runs[3]) || many > 0 && last-first+1 != many {
		t.Fatal("something is between", ops, all)
	}
}

// eachPlaceOfTwo goes by places of lists where two may type a run each of one letter at least.
func eachPlaceOfTwo(t *testing.T, state uint64, each func(ops []Op, at int, one int, two int, runs [4]string)) {
	t.Helper()
	d := &dice{state: state}
	many := 0
	for _, ops := range mostly(typeLists(), 4) {
		for at := range len(impl.TreeText(ops)) + 1 {
			one := d.below(impl.RepMax) + 1
			two := (one+d.below(2))%impl.RepMax + 1
			may, mayTwo := impl.NumMax-doneBy(ops, one), impl.NumMax-doneBy(ops, two)
			if may == 0 || mayTwo == 0 {
				continue
			}
			var runs [4]string
			runs[one] = someLetters[:d.below(may)+1]
			runs[two] = "zxcvbnmkljhg"[:d.below(mayTwo)+1]
			each(ops, at, one, two, runs)
			many++
		}
	}
	if many < 400 {
		t.Error("too few", many)
	}
}

func TestP25TwoRunsDoNotMix(t *testing.T) {
	eachPlaceOfTwo(t, 43, func(ops []Op, at int, one int, two int, runs [4]string) {
		all := together(t, typeRun(t, ops, one, at, runs[one]), typeRun(t, ops, two, at, runs[two]))
		checkSideBySide(t, ops, all, at, runs)
	})
}

func TestP25ThreeRunsDoNotMix(t *testing.T) {
	base := okOps(t, "1.1 put a right 0.0\n1.2 put b right 1.1\n2.1 put c right 1.1\n3.1 take 1.2\n")
	for at := range 3 {
		runs := [4]string{1: "qwe", 2: "rtyu", 3: "iop"}
		all := together(t, typeRun(t, base, 1, at, runs[1]), typeRun(t, base, 2, at, runs[2]), typeRun(t, base, 3, at, runs[3]))
		checkSideBySide(t, base, all, at, runs)
	}
	one, two := typeRun(t, nil, 1, 0, "abc"), typeRun(t, nil, 2, 0, "xyz")
	if text := impl.TreeText(together(t, two, one)); text != "abcxyz" {
		t.Error(text)
	}
	full := together(t, typeRun(t, nil, 3, 0, "abcdefghijkl"), typeRun(t, nil, 2, 0, "mnopqrstuvwx"), typeRun(t, nil, 1, 0, "zyxwvutsrqpo"))
	if text := impl.TreeText(full); text != "zyxwvutsrqpomnopqrstuvwxabcdefghijkl" {
		t.Error(text)
	}
}

func TestP26BackwardsDoesNotMix(t *testing.T) {
	eachPlaceOfTwo(t, 47, func(ops []Op, at int, one int, two int, runs [4]string) {
		back := typeBackwards(t, ops, one, at, runs[one])
		all := together(t, back, typeRun(t, ops, two, at, runs[two]))
		checkSideBySide(t, ops, all, at, runs)
		both := together(t, back, typeBackwards(t, ops, two, at, runs[two]))
		checkSideBySide(t, ops, both, at, runs)
	})
}

func TestP26BackwardsExamples(t *testing.T) {
	base := okOps(t, "1.1 put a right 0.0\n1.2 put b right 1.1\n")
	for at, want := range []string{"fedxyzab", "afedxyzb", "abfedxyz"} {
		all := together(t, typeBackwards(t, base, 2, at, "fed"), typeRun(t, base, 3, at, "xyz"))
		if text := impl.TreeText(all); text != want {
			t.Error(text, want)
		}
	}
	for at, want := range []string{"xyzfedab", "axyzfedb", "abxyzfed"} {
		all := together(t, typeBackwards(t, base, 3, at, "fed"), typeRun(t, base, 2, at, "xyz"))
		if text := impl.TreeText(all); text != want {
			t.Error(text, want)
		}
	}
	all := together(t, typeBackwards(t, nil, 2, 0, "fed"), typeRun(t, nil, 1, 0, "xyz"))
	if text := impl.TreeText(all); text != "xyzfed" {
		t.Error(text)
	}
}

func TestP29TwoSignsAtOnePlace(t *testing.T) {
	many := 0
	for _, ops := range mostly(typeLists(), 2) {
		for at := range len(impl.TreeText(ops)) + 1 {
			var signs []Op
			var runs [4]string
			for rep := impl.RepMax; rep >= 1; rep-- {
				if op, ok := impl.TypePut(ops, rep, at, 'q'+rep); ok {
					signs = append(signs, op)
					runs[rep] = string(rune('q' + rep))
				}
			}
			checkSideBySide(t, ops, with(ops, signs...), at, runs)
			if len(signs) > 1 {
				many++
			}
		}
	}
	if many < 500 {
		t.Error("too few", many)
	}
}

func TestP30RunIsItsPartsOneBehindTheOther(t *testing.T) {
	d := &dice{state: 53}
	many := 0
	for _, ops := range mostly(typeLists(), 4) {
		at, rep := d.below(len(impl.TreeText(ops))+1), d.below(impl.RepMax)+1
		run := someLetters[:d.below(impl.NumMax-doneBy(ops, rep)+1)]
		all := typeRun(t, ops, rep, at, run)
		for cut := range len(run) + 1 {
			first := typeRun(t, ops, rep, at, run[:cut])
			if both := typeRun(t, first, rep, at+cut, run[cut:]); !slices.Equal(both, all) {
				t.Fatal(both, all, rep, at, run, cut, ops)
			}
			many++
		}
		for long := impl.NumMax - doneBy(ops, rep) + 1; long <= impl.NumMax; long++ {
			if all, ok := impl.TypeRun(ops, rep, at, someLetters[:long]); ok || len(all) != 0 {
				t.Fatal(all, rep, at, long, ops)
			}
		}
	}
	if many < 500 {
		t.Error("too few", many)
	}
}

func TestP30RunOfOneLetterIsPut(t *testing.T) {
	for _, ops := range mostly(typeLists(), 4) {
		for rep := 0; rep <= impl.RepMax+1; rep++ {
			for at := -1; at <= len(impl.TreeText(ops))+1; at++ {
				op, can := impl.TypePut(ops, rep, at, 'k')
				all, ok := impl.TypeRun(ops, rep, at, "k")
				if ok != can || ok && !slices.Equal(all, with(ops, op)) || !ok && len(all) != 0 {
					t.Fatal(op, can, all, ok, rep, at, ops)
				}
			}
		}
	}
}
