package tests

import (
	"regexp"
	"strings"
	"sync"
	"testing"

	"loop.example/tatting/impl"
)

func TestP98LinesAreAsTheDocumentSays(t *testing.T) {
	t.Parallel()
	whats, seen, empty := 0, 0, 0
	for n, l := range someTexts() {
		got := toldTexts()[n]
		if want := wantLines(l.many, l.text); got != want {
			t.Fatalf("at %d desks %q is told\n%q instead of\n%q", l.many, l.text, got, want)
		}
		whats += strings.Count(got, "what\n")
		empty += strings.Count(got, ": \n")
		seen += strings.Count(got, ": ") - strings.Count(got, ": \n")
	}
	if whats < 400 || seen < 1200 || empty < 150 {
		t.Error("too few", whats, seen, empty)
	}
}

// toldForm is all that may be told of what is not too long.
var toldForm = regexp.MustCompile(`^(what\n|[1-3]: [a-z]{0,36}\n)*all: [a-z]{0,36}\n$`)

func TestP98WhateverIsHandedIn(t *testing.T) {
	t.Parallel()
	form, long, none := 0, 0, 0
	for _, l := range wildTexts() {
		got := impl.LinesRun(l.many, l.text)
		if want := wantLines(l.many, l.text); got != want {
			t.Fatalf("at %d desks %q is told\n%q instead of\n%q", l.many, l.text, got, want)
		}
		switch {
		case got == "no desks\n":
			none++
		case got == "too long\n":
			long++
		case !toldForm.MatchString(got):
			t.Fatalf("%q is told %q", l.text, got)
		default:
			form++
		}
	}
	if form < 400 || none < 100 || long < 20 {
		t.Error("too few", form, long, none)
	}
}

func TestP100CalmAndSee(t *testing.T) {
	t.Parallel()
	some := 0
	for n, l := range someTexts() {
		ahead, all := allOf(t, toldTexts()[n])
		want := ahead + "1: " + all + "\nall: " + all + "\n"
		if got := impl.LinesRun(l.many, l.text+"calm\nsee 1\n"); got != want {
			t.Fatalf("behind %q: %q instead of %q", l.text, got, want)
		}
		if len(all) > 3 {
			some++
		}
	}
	if some < 250 {
		t.Error("too few", some)
	}
}

// checkAsWithout asks that some lines behind others are told as without.
func checkAsWithout(t *testing.T, more ...string) {
	t.Helper()
	some := 0
	for n, l := range someTexts() {
		behind := more[n%len(more)]
		_, all := allOf(t, toldTexts()[n])
		if got := impl.LinesRun(l.many, l.text+behind); got != toldTexts()[n] {
			t.Fatalf("%q behind %q: %q instead of %q", behind, l.text, got, toldTexts()[n])
		}
		if l.many > 1 && len(all) > 3 {
			some++
		}
	}
	if some < 200 {
		t.Error("too few", some)
	}
}

func TestP101MeetBehind(t *testing.T) {
	t.Parallel()
	checkAsWithout(t, "meet 1\n", "meet 1\n", "meet 1\nmeet 1\n")
}

func TestP101MeetOfEachBehind(t *testing.T) {
	base := withLines(fullLines(), "see 2", "take 2 0")
	want := impl.LinesRun(3, ofLines(base...))
	if want != "2: mnopqrstuvwx\nall: "+fullText+"\n" {
		t.Fatal(want)
	}
	for _, more := range [][]string{{"meet 1"}, {"meet 2"}, {"meet 3"}, {"meet 3", "meet 1"}, {"meet 1", "meet 2", "meet 3", "meet 1"}} {
		if got := impl.LinesRun(3, ofLines(withLines(base, more...)...)); got != want {
			t.Errorf("%q behind: %q instead of %q", more, got, want)
		}
	}
}

func TestP104CalmBehind(t *testing.T) {
	t.Parallel()
	checkAsWithout(t, "calm\n", "calm\ncalm\n")
}

func TestP104CalmTwiceIsOnce(t *testing.T) {
	t.Parallel()
	d := &dice{state: 733}
	for n, l := range someTexts() {
		if n%5 == 0 {
			see := oneOf(d, "see 1\n", "see 2\n", "see 3\n")
			once, twice := impl.LinesRun(l.many, l.text+"calm\n"+see), impl.LinesRun(l.many, l.text+"calm\ncalm\n"+see)
			if once != twice {
				t.Fatalf("%q behind %q: %q instead of %q", see, l.text, twice, once)
			}
		}
	}
}

// TestP99LinesAreAsTheirEvents holds lines against a world in which the same happens.
func TestP99LinesAreAsTheirEvents(t *testing.T) {
	t.Parallel()
	texts := []string{"abc", "xy", "q"}
	d := &dice{state: 739}
	for range 200 {
		w := newWorld(t, 3)
		var lines []string
		for range 8 {
			rep, at := 1+d.below(3), d.below(4)
			switch d.below(4) {
			case 0:
				lines = append(lines, "take "+string(rune('0'+rep))+" "+string(rune('0'+at)))
				w = done(w, takeAt(rep, at))
			case 1:
				lines = append(lines, "meet "+string(rune('0'+rep)))
				for range 8 {
					w = done(w, asked(rep)...)
					w = done(w, told(rep)...)
				}
			default:
				run := texts[d.below(3)]
				lines = append(lines, "type "+string(rune('0'+rep))+" "+string(rune('0'+at))+" "+run)
				w = done(w, runAt(rep, at, run)...)
			}
		}
		lines = append(lines, "see 1", "see 2", "see 3")
		want := ""
		for n, d := range w.Desks {
			want += string(rune('1'+n)) + ": " + impl.TreeText(d.Doc.Ops) + "\n"
		}
		want += "all: " + impl.TreeText(impl.WorldAll(w)) + "\n"
		if got := impl.LinesRun(3, ofLines(lines...)); got != want {
			t.Fatalf("%q is told %q instead of %q", lines, got, want)
		}
	}
}

func TestLinesAtOnce(t *testing.T) {
	text := ofLines(withLines(fullLines(), "meet 2", "see 2", "calm", "see 1", "x")...)
	want := wantLines(3, text)
	var group sync.WaitGroup
	got := make([]string, 30)
	for n := range got {
		group.Add(1)
		go func() {
			defer group.Done()
			got[n] = impl.LinesRun(3, text)
		}()
	}
	group.Wait()
	for _, one := range got {
		if one != want {
			t.Fatalf("at once: %q instead of %q", one, want)
		}
	}
}

// TestLinesThatTakeLong asks that lines of all kinds end soon enough, as many of each as a text may have.
func TestLinesThatTakeLong(t *testing.T) {
	full := ofLines(fullLines()...)
	for _, line := range []string{"calm\n", "meet 1\n", "see 1\n", "\n", "take 1 0\n", "type 1 0 a\n"} {
		text := full + strings.Repeat(line, (600-len(full))/len(line))
		if _, all := allOf(t, impl.LinesRun(3, text)); all != fullText {
			t.Errorf("%q: %q", line, all)
		}
	}
}
