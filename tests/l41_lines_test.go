package tests

import (
	"fmt"
	"slices"
	"strings"
	"testing"

	"loop.example/tatting/impl"
)

func TestP98EachLineHasItsNewline(t *testing.T) {
	for text, want := range map[string]string{
		"":                          "all: \n",
		"\n":                        "what\nall: \n",
		"\n\n\n":                    "what\nwhat\nwhat\nall: \n",
		"see 1":                     "all: \n",
		"see 1\n":                   "1: \nall: \n",
		"see 1\nsee 2\n":            "1: \n2: \nall: \n",
		"what\nsee 2\nsee 3\n":      "what\n2: \nwhat\nall: \n",
		"type 1 0 a\n":              "all: a\n",
		"type 1 0 a\nsee 1\n":       "1: a\nall: a\n",
		"calm\n":                    "all: \n",
		"meet 2\n":                  "all: \n",
		"take 1 0\n":                "all: \n",
		strings.Repeat("\n", 600):   strings.Repeat("what\n", 600) + "all: \n",
		strings.Repeat("\n", 601):   "too long\n",
		strings.Repeat("a", 600):    "all: \n",
		strings.Repeat("calm", 151): "too long\n",
	} {
		if got := impl.LinesRun(2, text); got != want {
			t.Errorf("%q is told %q instead of %q", text, got, want)
		}
	}
}

func TestP99NoLines(t *testing.T) {
	for many := 1; many <= 3; many++ {
		for _, text := range []string{"", " ", "type 1 0 a", "see 1", "calm", "what", "\x00", "\r"} {
			if got := impl.LinesRun(many, text); got != "all: \n" {
				t.Errorf("%q has no line: %q", text, got)
			}
		}
	}
}

func TestP99BehindTheLastNewline(t *testing.T) {
	lines := ofLines("type 1 0 ab", "see 1")
	for _, behind := range []string{"", " ", "type 1 0 x", "take 1 0", "see 1", "what", "calm", "meet 1"} {
		if got := impl.LinesRun(2, lines+behind); got != "1: ab\nall: ab\n" {
			t.Errorf("%q is behind the last newline: %q", behind, got)
		}
	}
}

func TestP99LinesOfEveryKind(t *testing.T) {
	checkLines(t, "typed in parts", 1, []string{"type 1 0 ad", "type 1 1 bc", "type 1 4 ef", "type 1 0 x", "see 1"}, "1: xabcdef", "all: xabcdef")
	checkLines(t, "taken away", 1, []string{"type 1 0 abc", "take 1 1", "see 1", "take 1 0", "see 1", "take 1 0", "see 1", "type 1 0 d"}, "1: ac", "1: c", "1: ", "all: d")
	checkLines(t, "each desk for itself", 3, []string{"type 1 0 a", "type 2 0 bc", "type 3 0 def", "see 3", "see 2", "see 1"}, "3: def", "2: bc", "1: a", "all: abcdef")
	checkLines(t, "who meets has what the hub has", 2, []string{"type 1 0 abc", "meet 2", "see 2", "meet 1", "see 2", "meet 2", "see 2"}, "2: ", "2: ", "2: abc", "all: abc")
	checkLines(t, "who meets is told ahead of telling, and not what others have for themselves", 3, []string{"type 1 0 a", "type 2 0 b", "meet 1", "meet 2", "see 1", "see 2", "see 3", "meet 1", "see 1"}, "1: a", "2: ab", "3: ", "1: ab", "all: ab")
	checkLines(t, "what another one typed is taken away", 2, []string{"type 1 0 abc", "meet 1", "meet 2", "take 2 1", "see 2", "see 1", "meet 2", "meet 1", "see 1"}, "2: ac", "1: abc", "1: ac", "all: ac")
	checkLines(t, "both take it away", 2, []string{"type 1 0 abc", "calm", "take 1 1", "take 2 1", "calm", "see 1", "see 2"}, "1: ac", "2: ac", "all: ac")
	checkLines(t, "a calm between", 3, []string{"type 1 0 ab", "calm", "see 3", "type 3 1 x", "see 2", "calm", "see 2", "calm", "see 1"}, "3: ab", "2: ab", "2: axb", "1: axb", "all: axb")
	checkLines(t, "a calm of none", 3, []string{"calm", "see 1", "see 2", "see 3"}, "1: ", "2: ", "3: ", "all: ")
	checkLines(t, "a desk by itself meets", 1, []string{"type 1 0 ab", "meet 1", "see 1"}, "1: ab", "all: ab")
	checkLines(t, "a word is no line of another kind", 1, []string{"type 1 0 see", "type 1 3 calm", "see 1"}, "1: seecalm", "all: seecalm")
}

func TestP99WhatOneTypes(t *testing.T) {
	t.Parallel()
	d := &dice{state: 719}
	full, less := 0, 0
	for range 500 {
		rep := d.below(3) + 1
		var events []Event
		var lines, want []string
		for range d.below(12) {
			at := d.below(len(typedText(events)) + 2)
			if d.below(3) == 0 {
				events = append(events, takeAt(1, at))
				lines = append(lines, fmt.Sprintf("take %d %d", rep, at))
			} else {
				run := someLetters[d.below(4):][:1+d.below(4)]
				events = append(events, runAt(1, at, run)...)
				lines = append(lines, fmt.Sprintf("type %d %d %s", rep, at, run))
			}
			lines = append(lines, fmt.Sprintf("see %d", rep))
			want = append(want, fmt.Sprintf("%d: %s", rep, typedText(events)))
		}
		want = append(want, "all: "+typedText(events))
		if got := impl.LinesRun(3, ofLines(lines...)); got != ofLines(want...) {
			t.Fatalf("%q is told %q instead of %q", lines, got, want)
		}
		if len(events) > impl.NumMax {
			full++
		} else {
			less++
		}
	}
	if full < 100 || less < 100 {
		t.Error("too few", full, less)
	}
}

// someBase is lines behind which all show the same, of at most six letters, and what they show.
func someBase(t *testing.T, d *dice) ([]string, string) {
	t.Helper()
	lines := []string{"type 1 0 " + someLetters[:1+d.below(3)], "type 2 0 " + someLetters[6:][:1+d.below(3)], "calm"}
	for range d.below(3) {
		lines = append(lines, fmt.Sprintf("take %d %d", 1+d.below(3), d.below(5)), "calm")
	}
	if d.below(5) == 0 {
		lines = nil
	}
	_, text := allOf(t, wantLines(3, ofLines(lines...)))
	return lines, text
}

func TestP99WhatTwoTypeIsToldRunByRun(t *testing.T) {
	t.Parallel()
	d := &dice{state: 727}
	within, end := 0, 0
	for range 500 {
		base, text := someBase(t, d)
		one := 1 + d.below(3)
		two := 1 + (one+d.below(2))%3
		at := d.below(len(text) + 1)
		runs := map[int]string{one: "uvwxyz"[:1+d.below(6)], two: "qrst"[:1+d.below(4)]}
		lines := withLines(base, fmt.Sprintf("type %d %d %s", one, at, runs[one]), fmt.Sprintf("type %d %d %s", two, at, runs[two]))
		want := text[:at] + runs[min(one, two)] + runs[max(one, two)] + text[at:]
		if _, got := allOf(t, impl.LinesRun(3, ofLines(lines...))); got != want {
			t.Fatalf("%q is told %q instead of %q", lines, got, want)
		}
		if at < len(text) {
			within++
		} else {
			end++
		}
	}
	if within < 150 || end < 150 {
		t.Error("too few", within, end)
	}
}

func TestP99RunsTypedInParts(t *testing.T) {
	for at := range 4 {
		more := func(n int) string { return fmt.Sprint(at + n) }
		base := []string{"type 3 0 lmn", "calm"}
		lines := withLines(base, "type 1 "+more(0)+" ab", "meet 1", "type 2 "+more(0)+" xy", "meet 2", "type 1 "+more(2)+" cd", "see 1", "meet 1", "type 1 "+more(4)+" ef", "see 1")
		text := func(within string) string { return "lmn"[:at] + within + "lmn"[at:] }
		checkLines(t, "one meets between", 3, lines, "1: "+text("abcd"), "1: "+text("abcdefxy"), "all: "+text("abcdefxy"))
		// Each sign ahead of the one ahead, beside a run.
		lines = withLines(base, "type 1 "+more(0)+" c", "type 1 "+more(0)+" b", "type 1 "+more(0)+" a", "type 2 "+more(0)+" xyz")
		_, all := allOf(t, impl.LinesRun(3, ofLines(lines...)))
		if all != text("abcxyz") && all != text("xyzabc") {
			t.Errorf("%q are mixed: %q", lines, all)
		}
		checkLines(t, "three at one place", 3, withLines(base, "type 3 "+more(0)+" rs", "type 2 "+more(0)+" pq", "type 1 "+more(0)+" jk"), "all: "+text("jkpqrs"))
	}
}

func TestP102NoDesks(t *testing.T) {
	for _, many := range farNumbers {
		for _, text := range []string{"", "type 1 0 a\nsee 1\n", "what\n", strings.Repeat("\n", 600), strings.Repeat("\n", 601)} {
			got := impl.LinesRun(many, text)
			if is := got == "no desks\n"; is != (many < 1 || many > 3) {
				t.Errorf("%d desks: %q", many, got)
			}
		}
	}
	// Codes are looked for in the order in which they are listed.
	if got := impl.LinesRun(0, strings.Repeat("a", 1000)); got != "no desks\n" {
		t.Error(got)
	}
}

func TestP102TooLong(t *testing.T) {
	lines := "type 1 0 abc\n" + strings.Repeat("see 1\n", 97)
	told := strings.Repeat("1: abc\n", 97)
	for behind, want := range map[string]string{
		"":                         told + "all: abc\n",
		"calm\n":                   told + "all: abc\n",
		"see 1":                    told + "all: abc\n",
		"wxyz\n":                   told + "what\nall: abc\n",
		"calm\n\n":                 "too long\n",
		"see 1\n":                  "too long\n",
		"calms\n":                  "too long\n",
		"      ":                   "too long\n",
		strings.Repeat("x", 10000): "too long\n",
	} {
		for many := 1; many <= 3; many++ {
			if got := impl.LinesRun(many, lines+behind); got != want {
				t.Errorf("of %d bytes, %d desks: %q instead of %q", len(lines+behind), many, got, want)
			}
		}
	}
	for size := range 1300 {
		for _, sign := range []string{"\n", "a", " ", "\x00", "\xff"} {
			if got := impl.LinesRun(1, strings.Repeat(sign, size)); (got == "too long\n") != (size > 600) {
				t.Fatalf("of %d bytes: %q", size, got)
			}
		}
	}
}

func TestP103RunAndASignWithinIt(t *testing.T) {
	for rep := 1; rep <= 3; rep++ {
		for long := range impl.NumMax {
			run := someLetters[:long]
			for at := range long + 1 {
				want := run[:at] + "q" + run[at:]
				lines := []string{fmt.Sprintf("type %d 0 %s", rep, run), fmt.Sprintf("type %d %d q", rep, at), fmt.Sprintf("see %d", rep)}
				checkLines(t, "a sign within", 3, lines, fmt.Sprintf("%d: %s", rep, want), "all: "+want)
				lines[1] = fmt.Sprintf("type %d %02d q", rep, at)
				checkLines(t, "of two figures", 3, lines, fmt.Sprintf("%d: %s", rep, want), "all: "+want)
			}
		}
	}
}

func TestP103WhatIsNoLetterIsLeftOut(t *testing.T) {
	for sign := range 256 {
		one := string([]byte{byte(sign)})
		if one == " " || one == "\n" {
			continue
		}
		let := ""
		if sign >= 97 && sign <= 122 {
			let = one
		}
		checkLines(t, "alone", 1, []string{"type 1 0 " + one}, "all: "+let)
		checkLines(t, "between", 1, []string{"type 1 0 ab" + one + "cd", "see 1"}, "1: ab"+let+"cd", "all: ab"+let+"cd")
		checkLines(t, "ahead", 2, []string{"type 2 0 " + one + "ab"}, "all: "+let+"ab")
		checkLines(t, "behind", 2, []string{"type 2 0 ab" + one, "type 2 1 " + one + "x" + one}, "all: a"+let+"x"+let+"b"+let)
		checkLines(t, "several", 2, []string{"type 1 0 a" + one + one + one + "b"}, "all: a"+strings.Repeat(let, 3)+"b")
	}
	for _, typing := range []string{"aäb", "a日本b", "AaBbC", "1a2b3", "a.b,", "a\rb\r", "a\tb", "-a-b-", "`a{b}", "a\xc3b"} {
		checkLines(t, "bytes that are no letters", 3, []string{"type 1 0 xy", "type 1 1 " + typing}, "all: xaby")
	}
	checkLines(t, "no letter at all", 1, []string{"type 1 0 x", "type 1 0 12", "type 1 1 ÄÖ", "type 1 0 -", "see 1"}, "1: x", "all: x")
	// What is no letter is nothing that was done: twelve letters may be typed.
	checkLines(t, "as many as may be", 1, []string{"type 1 0 1a2b3c4d5e6f7g8h9i0j1k2l3m"}, "all: abcdefghijkl")
}

func TestP103DeskThatMayDoNoMore(t *testing.T) {
	checkLines(t, "typed at once", 1, []string{"type 1 0 abcdefghijklmnop", "see 1"}, "1: abcdefghijkl", "all: abcdefghijkl")
	checkLines(t, "typed in parts", 1, []string{"type 1 0 abcdefghijk", "type 1 0 yz", "see 1"}, "1: yabcdefghijk", "all: yabcdefghijk")
	checkLines(t, "no more is taken away", 1, []string{"type 1 0 abcdefghijkl", "take 1 0", "type 1 0 x", "see 1"}, "1: abcdefghijkl", "all: abcdefghijkl")
	checkLines(t, "what is taken away counts", 1, []string{"type 1 0 abcdef", "take 1 5", "take 1 4", "take 1 3", "take 1 2", "take 1 1", "take 1 0", "type 1 0 x", "see 1"}, "1: ", "all: ")
	checkLines(t, "what cannot be counts not", 1, []string{"take 1 0", "type 1 1 a", "type 1 9 b", "take 1 1", "type 1 0 abcdefghijkl"}, "all: abcdefghijkl")
	checkLines(t, "another one may", 2, []string{"type 1 0 abcdefghijkl", "meet 1", "meet 2", "type 2 12 x", "take 2 11", "type 2 10 y", "see 2"}, "2: abcdefghijykx", "all: abcdefghijykx")
}

func TestP100AllThatMayBeDone(t *testing.T) {
	checkLines(t, "a calm brings all", 3, withLines(fullLines(), "calm", "see 1", "see 2", "see 3"), "1: "+fullText, "2: "+fullText, "3: "+fullText, "all: "+fullText)
	checkLines(t, "told, but not asked", 3, withLines(fullLines(), "meet 1", "meet 2", "meet 3", "see 1", "see 2", "see 3"), "1: "+fullText[:12], "2: "+fullText[:24], "3: "+fullText, "all: "+fullText)
	checkLines(t, "and asked", 3, withLines(fullLines(), "meet 3", "meet 2", "meet 1", "meet 2", "meet 3", "see 1", "see 2", "see 3"), "1: "+fullText, "2: "+fullText, "3: "+fullText, "all: "+fullText)
	checkLines(t, "at the end", 3, fullLines(), "all: "+fullText)
}

func TestP99PlacesOfTwoFigures(t *testing.T) {
	base := withLines(fullLines()[:2], "calm")
	text := fullText[:24]
	for _, at := range []int{0, 1, 5, 9, 10, 11, 12, 19, 20, 22, 23, 24, 25, 35, 99} {
		put, taken := text, text
		if at <= len(text) {
			put = text[:at] + "q" + text[at:]
		}
		if at < len(text) {
			taken = text[:at] + text[at+1:]
		}
		checkLines(t, "put", 3, withLines(base, fmt.Sprintf("type 3 %d q", at)), "all: "+put)
		checkLines(t, "put, of two figures", 3, withLines(base, fmt.Sprintf("type 03 %02d q", at)), "all: "+put)
		checkLines(t, "taken away", 3, withLines(base, fmt.Sprintf("take 3 %d", at)), "all: "+taken)
		checkLines(t, "of three figures", 3, withLines(base, fmt.Sprintf("type 3 %03d q", at), fmt.Sprintf("take 3 %03d", at), fmt.Sprintf("type 003 %d q", at)), "all: "+text)
	}
}

// noNumbers are words that are no number, and such as are none of one figure or two.
func noNumbers() []string {
	return []string{"-1", "-0", "+0", "+1", "000", "001", "010", "100", "x", "1x", "x1", "1.", ".1", "0x", "1e", "٠", "１", "²", "½", "\x001", "1\x00", "1\t", "\t1", "1\r", "\xff", ":", "/", "1/", "0:", "999999999999999999999999", "--", "1,"}
}

func TestP99NumbersThatAreNone(t *testing.T) {
	for _, word := range noNumbers() {
		base := []string{"type 1 0 abc", "calm"}
		checkLines(t, "no desk to see", 3, withLines(base, "see "+word), "what", "all: abc")
		checkLines(t, "no desk to meet", 3, withLines(base, "meet "+word), "what", "all: abc")
		checkLines(t, "no desk to type at", 3, withLines(base, "type "+word+" 0 xyz"), "all: abc")
		checkLines(t, "no desk to take at", 3, withLines(base, "take "+word+" 0"), "all: abc")
		checkLines(t, "no place to take from", 3, withLines(base, "take 1 "+word), "all: abc")
		checkLines(t, "no place to type at", 3, withLines(base, "type 1 "+word+" x"), "all: abc")
		// The place of what is no number is -1, where nothing can be put; one place on from that is 0.
		checkLines(t, "no place for the first letter", 3, withLines(base, "type 1 "+word+" xyz"), "all: yzabc")
	}
}

func TestP99PlacesThatThereAreNot(t *testing.T) {
	base := []string{"type 1 0 abc"}
	for at := 4; at < 100; at++ {
		checkLines(t, "past the end", 2, withLines(base, fmt.Sprintf("type 1 %d xy", at), fmt.Sprintf("take 1 %d", at), "see 1"), "1: abc", "all: abc")
	}
	checkLines(t, "at the end", 2, withLines(base, "take 1 3", "type 1 3 xy"), "all: abcxy")
	checkLines(t, "a place of another desk's text", 2, withLines(base, "type 2 1 x", "take 2 0", "see 2"), "2: ", "all: abc")
}

func TestP99DesksThatThereAreNot(t *testing.T) {
	for many := 1; many <= 3; many++ {
		for desk := range 100 {
			base := []string{"type 1 0 abc", "calm"}
			lines := withLines(base, fmt.Sprintf("type %d 3 d", desk), fmt.Sprintf("take %d 0", desk), fmt.Sprintf("meet %d", desk), fmt.Sprintf("see %d", desk))
			if desk >= 1 && desk <= many {
				checkLines(t, "there is one", many, lines, fmt.Sprintf("%d: bcd", desk), "all: bcd")
			} else {
				checkLines(t, "there is none", many, lines, "what", "what", "all: abc")
			}
		}
	}
}

func TestP99OtherFirstWords(t *testing.T) {
	for _, first := range []string{"", " ", "   ", "x", "Type", "TYPE", "typ", "types", "type1", "typetake", "take1", "Take", "taken", "meet1", "meets", "Meet", "see1", "sees", "See", "se", "calm1", "calms", "Calm", "cal", "all", "all:", "what", "1", "0", "-1", "\x00", "\xff", "ä", "\t", "\tcalm", "calm\t", "calm\r", "see\t1", "type\t1\t0\ta", "no desks", "too long", "1:", "desk"} {
		checkLines(t, "alone", 2, []string{first}, "what", "all: ")
		checkLines(t, "with words", 2, []string{"type 1 0 ab", first + "! 1 0 x", "see 1"}, "what", "1: ab", "all: ab")
		checkLines(t, "what is behind is done", 2, []string{first, "type 2 0 ab", first, first, "take 2 0", "meet 2", "meet 1", "see 1"}, "what", "what", "what", "1: b", "all: b")
	}
}

func TestP99WordsThatAreNotThere(t *testing.T) {
	base := []string{"type 1 0 ab", "calm"}
	checkLines(t, "see", 2, withLines(base, "see", "see "), "what", "what", "all: ab")
	checkLines(t, "meet", 2, withLines(base, "meet", "meet  "), "what", "what", "all: ab")
	checkLines(t, "take", 2, withLines(base, "take", "take 1", "take 1 "), "all: ab")
	checkLines(t, "type", 2, withLines(base, "type", "type 1", "type 1 0", "type 1 0 "), "all: ab")
	checkLines(t, "calm", 2, []string{"type 1 0 ab", "calm  ", "see 2"}, "2: ab", "all: ab")
	checkLines(t, "no place, but letters", 2, withLines(base, "type 1 x"), "all: ab")
}

func TestP99FurtherWords(t *testing.T) {
	checkLines(t, "do not count", 2, []string{"type 1 0 ab cd 7", "take 1 0 1 1", "meet 1 2", "meet 2 x", "see 2 1", "calm 1 0 x y", "see 1 see 2"}, "2: b", "1: b", "all: b")
	checkLines(t, "are no lines", 2, []string{"calm see 1", "see 1 type 1 0 a", "what see 1"}, "1: ", "what", "all: ")
	checkLines(t, "what is typed is one word", 2, []string{"type 1 0 a b c"}, "all: a")
}

func TestP99SeveralBlanks(t *testing.T) {
	for many := 1; many <= 9; many++ {
		gap := strings.Repeat(" ", many)
		lines := []string{"type 1 0 abc", "take 1 1", "meet 1", "meet 2", "see 2", "calm", "see 1"}
		for i, line := range lines {
			lines[i] = strings.ReplaceAll(line, " ", gap)
		}
		checkLines(t, "between words", 2, lines, "2: ac", "1: ac", "all: ac")
		for i, line := range lines {
			lines[i] = gap + line + gap
		}
		checkLines(t, "around words, too", 2, lines, "2: ac", "1: ac", "all: ac")
		checkLines(t, "alone", 2, []string{gap, gap}, "what", "what", "all: ")
	}
}

func TestLinesAnswerTheSameAgain(t *testing.T) {
	text := ofLines(withLines(fullLines(), "meet 1", "see 1", "see 9")...)
	want := impl.LinesRun(3, text)
	for _, other := range []lined{{0, text}, {3, strings.Repeat(text, 9)}, {1, text}, {3, "what\n"}, {2, ofLines("type 2 0 zz", "calm")}} {
		impl.LinesRun(other.many, other.text)
		if got := impl.LinesRun(3, text); got != want {
			t.Fatalf("something is kept from call to call: %q instead of %q", got, want)
		}
	}
	bytes := []byte(text)
	got := impl.LinesRun(3, string(bytes))
	for i := range bytes {
		bytes[i] = '\n'
	}
	if got != want || !slices.Equal(strings.Split(got, "\n")[:2], []string{"1: abcdefghijkl", "what"}) {
		t.Fatal(got)
	}
}
