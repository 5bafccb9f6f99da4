package tests

import (
	"slices"
	"strconv"
	"strings"
	"sync"
	"testing"

	"loop.example/tatting/impl"
)

// room is what has come to each desk, and to the hub. Nothing falls there, or is lost, so who meets has all that the hub has, and the hub all that he has, and in a calm all have all.
type room struct {
	desks [][]Op
	hub   []Op
}

// wantLines is by the document's words what LinesRun tells, apart from the program, and from any words under way.
func wantLines(many int, text string) string {
	if many < 1 || many > 3 {
		return "no desks\n"
	}
	if len(text) > 600 {
		return "too long\n"
	}
	r := &room{desks: make([][]Op, many)}
	said := ""
	for {
		end := strings.IndexByte(text, '\n')
		if end < 0 {
			break
		}
		said += r.wantLine(wantWords(text[:end]))
		text = text[end+1:]
	}
	r.calm()
	return said + "all: " + textOf(standing(r.hub)) + "\n"
}

// wantLine does a line by its words, and is what is told of it.
func (r *room) wantLine(words []string) string {
	rep := wantNumber(words[1])
	there := rep >= 1 && rep <= len(r.desks)
	switch first := words[0]; {
	case first == "type" || first == "take":
		if there && first == "type" {
			r.types(rep, wantNumber(words[2]), words[3])
		} else if there {
			r.does(rep, func(leaves []Leaf) (Op, bool) {
				return wantTake(r.desks[rep-1], leaves, rep, wantNumber(words[2]))
			})
		}
		return ""
	case first == "meet" && there:
		all, _ := merged(r.desks[rep-1], r.hub)
		r.desks[rep-1], r.hub = all, all
		return ""
	case first == "see" && there:
		return strconv.Itoa(rep) + ": " + textOf(standing(r.desks[rep-1])) + "\n"
	case first == "calm":
		r.calm()
		return ""
	}
	return "what\n"
}

func (r *room) types(rep int, at int, text string) {
	letters := 0
	for _, sign := range []byte(text) {
		if !strings.Contains("abcdefghijklmnopqrstuvwxyz", string(rune(sign))) {
			continue
		}
		r.does(rep, func(leaves []Leaf) (Op, bool) {
			return wantPut(r.desks[rep-1], leaves, rep, at+letters, int(sign))
		})
		letters++
	}
}

func (r *room) does(rep int, what func(leaves []Leaf) (Op, bool)) {
	if op, can := what(standing(r.desks[rep-1])); can {
		r.desks[rep-1] = with(r.desks[rep-1], op)
	}
}

func (r *room) calm() {
	for _, ops := range r.desks {
		r.hub, _ = merged(r.hub, ops)
	}
	for place := range r.desks {
		r.desks[place] = r.hub
	}
}

// wantWords are the words of a line, and four that are not there.
func wantWords(line string) []string {
	var words []string
	word := ""
	for i := range len(line) + 1 {
		if i < len(line) && line[i] != ' ' {
			word += line[i : i+1]
			continue
		}
		if word != "" {
			words = append(words, word)
		}
		word = ""
	}
	return append(words, "", "", "", "")
}

func wantNumber(word string) int {
	for number := range 100 {
		figures := strconv.Itoa(number)
		if word == figures || len(figures) == 1 && word == "0"+figures {
			return number
		}
	}
	return -1
}

func ofLines(lines ...string) string {
	text := ""
	for _, line := range lines {
		text += line + "\n"
	}
	return text
}

// checkLines asks for what is told of lines, each with its newline, at so many desks.
func checkLines(t *testing.T, name string, many int, lines []string, want ...string) {
	t.Helper()
	text := ofLines(lines...)
	if got := impl.LinesRun(many, text); got != ofLines(want...) {
		t.Errorf("%s: at %d desks %q is told %q instead of %q", name, many, text, got, ofLines(want...))
	}
	if model := wantLines(many, text); model != ofLines(want...) {
		t.Errorf("%s: the test itself asks for %q and %q of %q", name, ofLines(want...), model, text)
	}
}

// allOf is what is told ahead of the last line, and the text of all by that one.
func allOf(t *testing.T, told string) (string, string) {
	t.Helper()
	told, end := strings.CutSuffix(told, "\n")
	last := strings.LastIndexByte(told, '\n') + 1
	all, is := strings.CutPrefix(told[last:], "all: ")
	if !end || !is {
		t.Fatalf("the text of all is not told last, with a newline: %q", told)
	}
	return told[:last], all
}

// lined is a text, and at how many desks it is done.
type lined struct {
	many int
	text string
}

func oneOf(d *dice, some ...string) string { return some[d.below(len(some))] }

// someDesk is one that mostly is there.
func someDesk(d *dice, many int) string {
	if d.below(14) == 0 {
		return oneOf(d, "0", "4", "9", "10", "11", "00", "001", "-1", "+1", "x", "1x", "", strconv.Itoa(many+1))
	}
	return oneOf(d, "", "", "", "0") + strconv.Itoa(d.below(many)+1)
}

// someAt is a place that mostly may be one.
func someAt(d *dice) string {
	if d.below(14) == 0 {
		return oneOf(d, "36", "99", "000", "100", "-1", "+1", "x", "1x", "", "3.", "٣")
	}
	if d.below(4) == 0 {
		return strconv.Itoa(d.below(20))
	}
	return oneOf(d, "", "", "", "0") + strconv.Itoa(d.below(5))
}

// someTyping is letters, and sometimes what is no letter among them.
func someTyping(d *dice) string {
	typing := ""
	for range 1 + d.below(6) {
		if d.below(9) == 0 {
			typing += oneOf(d, "1", "A", "Z", "-", "\x00", "\xff", "ä", "`", "{", "日", "\t", "\r")
		}
		typing += string(rune('a' + d.below(26)))
	}
	return typing
}

// gap is mostly one blank.
func gap(d *dice) string { return strings.Repeat(" ", 1+max(0, d.below(12)-10)) }

func someLine(d *dice, many int) string {
	more := ""
	if d.below(12) == 0 {
		more = gap(d) + oneOf(d, "", "1", "more", "see 1")
	}
	ahead := strings.Repeat(" ", max(0, d.below(16)-13))
	line := "calm"
	switch d.below(22) {
	case 0:
		line = oneOf(d, "", "Type 1 0 a", "types 1 0 a", "see1", "calm1", "all", "what", "put 1 0 a", "1", "\t", "see\t1", "calm\r")
	case 1, 2, 3, 4:
		line = "see" + gap(d) + someDesk(d, many)
	case 5, 6, 7, 8:
		line = "meet" + gap(d) + someDesk(d, many)
	case 9, 10, 11, 12:
		line = "take" + gap(d) + someDesk(d, many) + gap(d) + someAt(d)
	case 13:
	default:
		line = "type" + gap(d) + someDesk(d, many) + gap(d) + someAt(d) + gap(d) + someTyping(d)
	}
	return ahead + line + more
}

// someLined are lines of at most so many bytes, all with a newline.
func someLined(d *dice, many int, most int) lined {
	text := ""
	for {
		line := someLine(d, many) + "\n"
		if len(text)+len(line) > most {
			return lined{many: many, text: text}
		}
		text += line
	}
}

// someTexts are made but once: lines with a newline each, of at most 580 bytes, so that some may be put behind.
var someTexts = sync.OnceValue(func() []lined {
	d := &dice{state: 701}
	var all []lined
	for round := range 500 {
		all = append(all, someLined(d, []int{3, 2, 3, 1, 2, 3}[round%6], d.below(581)))
	}
	return all
})

// toldTexts are what the program tells of someTexts.
var toldTexts = sync.OnceValue(func() []string {
	var told []string
	for _, l := range someTexts() {
		told = append(told, impl.LinesRun(l.many, l.text))
	}
	return told
})

// wildTexts are bytes of any kind, cut into lines and words or not, at desks that there are or not.
func wildTexts() []lined {
	d := &dice{state: 709}
	parts := []string{" ", " ", " ", "\n", "\n", "type ", "take ", "meet ", "see ", "calm", "1", "2", "3", "0", "12", "a", "xyz", "\x00", "\xff", "é", "\r\n", "\t", "-", ":"}
	var all []lined
	for n := range 1000 {
		text := ""
		for range d.below(100 + 40*(n%8)) {
			if d.below(9) == 0 {
				text += string([]byte{byte(d.below(256))})
			}
			text += oneOf(d, parts...)
		}
		all = append(all, lined{many: d.below(4), text: text})
	}
	return all
}

// fullLines are all that may be typed, of each desk on its own.
func fullLines() []string {
	return []string{"type 1 0 abcdefghijkl", "type 2 0 mnopqrstuvwx", "type 3 0 yzabcdefghij"}
}

const fullText = "abcdefghijklmnopqrstuvwxyzabcdefghij"

// withLines is some lines, and others behind them.
func withLines(lines []string, more ...string) []string {
	return append(slices.Clone(lines), more...)
}
