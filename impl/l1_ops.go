package impl

import (
	"errors"
	"strconv"
	"strings"
)

// Limits of what is done.
const (
	RepMax = 3
	NumMax = 12
)

// Kinds of what is done, and sides.
const (
	OpPut  = 1
	OpTake = 2

	SideLeft  = 0
	SideRight = 1
)

// opsTextMax is how many bytes are read at most.
const opsTextMax = 900

// errNoThing is told of what cannot have been done, alone or beside the others.
var errNoThing = errors.New("no thing that can have been done")

// Id is who did something, and as his which thing; nothing is ahead of all.
type Id struct {
	Rep int
	Num int
}

// Op is something that was done: a sign was put beside what Ref tells, on a side, or what Ref tells was taken away.
type Op struct {
	Id   Id
	Kind int
	Ref  Id
	Side int
	Sign int
}

// thing is something that was done, of a type of its kind, so that each kind has only the parts that mean something there.
type thing interface {
	own() Id
	about() Id
}

// deed is what things of all kinds have.
type deed struct {
	id  Id
	ref Id
}

type putting struct {
	deed
	side int
	sign int
}

type taking struct {
	deed
}

func (d deed) own() Id { return d.id }

func (d deed) about() Id { return d.ref }

// IdLess says whether one is ahead of another one.
func IdLess(a Id, b Id) bool {
	if a.Rep != b.Rep {
		return a.Rep < b.Rep
	}
	return a.Num < b.Num
}

// OpOk says whether something that was done is in form.
func OpOk(op Op) bool {
	_, err := thingOf(op)
	return !errors.Is(err, errNoThing)
}

// OpsOk says whether what was done can have been done, and stands in order.
func OpsOk(ops []Op) bool {
	_, err := thingsOf(ops)
	return !errors.Is(err, errNoThing)
}

// OpsSeen is how much was done by each.
func OpsSeen(ops []Op) []int {
	things, err := thingsOf(ops)
	if errors.Is(err, errNoThing) {
		return nil
	}
	return countThings(things)
}

// OpsFind is where something that was done stands; -1, if it does not.
func OpsFind(ops []Op, id Id) int {
	things, err := thingsOf(ops)
	if errors.Is(err, errNoThing) {
		return -1
	}
	return placeOf(countThings(things), id)
}

// OpsText is the text of what was done.
func OpsText(ops []Op) string {
	things, err := thingsOf(ops)
	if errors.Is(err, errNoThing) {
		return ""
	}
	text := ""
	for _, t := range things {
		text += lineOf(t)
	}
	return text
}

// OpsRead is what was done by a text.
func OpsRead(text string) ([]Op, bool) {
	if len(text) > opsTextMax {
		return nil, false
	}
	ops, err := readLines(text)
	// Holding the text against the one way to write it refuses both other ways to write it and what is not ok, whose text is empty.
	if errors.Is(err, errNoThing) || OpsText(ops) != text {
		return nil, false
	}
	return ops, true
}

func repOk(rep int) bool {
	return rep >= 1 && rep <= RepMax
}

func idOk(id Id) bool {
	return repOk(id.Rep) && id.Num >= 1 && id.Num <= NumMax
}

func isNothing(id Id) bool {
	return id == Id{}
}

func isLetter(sign int) bool {
	return sign >= 'a' && sign <= 'z'
}

func thingOf(op Op) (thing, error) {
	if !idOk(op.Id) || op.Ref == op.Id {
		return nil, errNoThing
	}
	d := deed{id: op.Id, ref: op.Ref}
	switch {
	case op.Kind == OpPut && putOk(op):
		return putting{deed: d, side: op.Side, sign: op.Sign}, nil
	case op.Kind == OpTake && takeOk(op):
		return taking{deed: d}, nil
	}
	return nil, errNoThing
}

func putOk(op Op) bool {
	if !isLetter(op.Sign) {
		return false
	}
	if isNothing(op.Ref) {
		return op.Side == SideRight
	}
	return idOk(op.Ref) && (op.Side == SideLeft || op.Side == SideRight)
}

func takeOk(op Op) bool {
	return idOk(op.Ref) && op.Side == 0 && op.Sign == 0
}

// thingsOf is what was done, thing by thing, if all of it together is ok.
func thingsOf(ops []Op) ([]thing, error) {
	// There are no more ids than that, so a longer list need not be gone through.
	if len(ops) > RepMax*NumMax {
		return nil, errNoThing
	}
	things := make([]thing, 0, len(ops))
	for _, op := range ops {
		t, err := thingOf(op)
		if err != nil {
			return nil, err
		}
		things = append(things, t)
	}
	if !inOrder(things) {
		return nil, errNoThing
	}
	refs, err := refPlaces(things)
	if err != nil {
		return nil, err
	}
	if hasCircle(refs) {
		return nil, errNoThing
	}
	return things, nil
}

// inOrder asks each thing to be its Rep's next one, which rules out gaps, doubles, and a wrong order at once.
func inOrder(things []thing) bool {
	last := Id{}
	for _, t := range things {
		id := t.own()
		next := Id{Rep: last.Rep, Num: last.Num + 1}
		if id.Rep > last.Rep {
			next = Id{Rep: id.Rep, Num: 1}
		}
		if id != next {
			return false
		}
		last = id
	}
	return true
}

func countThings(things []thing) []int {
	seen := make([]int, RepMax)
	for _, t := range things {
		seen[t.own().Rep-1]++
	}
	return seen
}

// placeOf needs no list: in order and without gaps, how much each did tells where a thing stands.
func placeOf(seen []int, id Id) int {
	if !idOk(id) || id.Num > seen[id.Rep-1] {
		return -1
	}
	place := id.Num - 1
	for _, many := range seen[:id.Rep-1] {
		place += many
	}
	return place
}

// refPlaces is of each thing where that stands which it refers to, -1 of nothing.
func refPlaces(things []thing) ([]int, error) {
	seen := countThings(things)
	refs := make([]int, 0, len(things))
	for _, t := range things {
		place := placeOf(seen, t.about())
		if place < 0 && !isNothing(t.about()) {
			return nil, errNoThing
		}
		if place >= 0 && !isPutting(things[place]) {
			return nil, errNoThing
		}
		refs = append(refs, place)
	}
	return refs, nil
}

func isPutting(t thing) bool {
	switch t.(type) {
	case putting:
		return true
	}
	return false
}

func hasCircle(refs []int) bool {
	for place := range refs {
		if !comesToNothing(refs, place) {
			return true
		}
	}
	return false
}

func comesToNothing(refs []int, place int) bool {
	// A way of more steps than there are things has come by one of them twice.
	for range refs {
		place = refs[place]
		if place < 0 {
			return true
		}
	}
	return false
}

func idText(id Id) string {
	return strconv.Itoa(id.Rep) + "." + strconv.Itoa(id.Num)
}

func sideText(side int) string {
	if side == SideLeft {
		return "left"
	}
	return "right"
}

func lineOf(t thing) string {
	did := ""
	switch x := t.(type) {
	case putting:
		did = "put " + string(rune(x.sign)) + " " + sideText(x.side)
	case taking:
		did = "take"
	}
	return idText(t.own()) + " " + did + " " + idText(t.about()) + "\n"
}

func opOf(t thing) Op {
	op := Op{Id: t.own(), Ref: t.about()}
	switch x := t.(type) {
	case putting:
		op.Kind, op.Side, op.Sign = OpPut, x.side, x.sign
	case taking:
		op.Kind = OpTake
	}
	return op
}

// readLines takes what the lines say as it comes; whether it is ok is asked of the whole.
func readLines(text string) ([]Op, error) {
	var ops []Op
	for text != "" {
		line, rest, found := strings.Cut(text, "\n")
		if !found {
			return nil, errNoThing
		}
		t, err := readThing(strings.Split(line, " "))
		if err != nil {
			return nil, err
		}
		ops = append(ops, opOf(t))
		text = rest
	}
	return ops, nil
}

func readThing(words []string) (thing, error) {
	switch {
	case len(words) == 5 && words[1] == "put":
		return readPutting(words)
	case len(words) == 3 && words[1] == "take":
		return readTaking(words)
	}
	return nil, errNoThing
}

func readPutting(words []string) (thing, error) {
	d, err := readDeed(words[0], words[4])
	if err != nil {
		return nil, err
	}
	side, err := readSide(words[3])
	if err != nil {
		return nil, err
	}
	if len(words[2]) != 1 {
		return nil, errNoThing
	}
	return putting{deed: d, side: side, sign: int(words[2][0])}, nil
}

func readTaking(words []string) (thing, error) {
	d, err := readDeed(words[0], words[2])
	if err != nil {
		return nil, err
	}
	return taking{deed: d}, nil
}

func readDeed(own string, about string) (deed, error) {
	id, err := readId(own)
	if err != nil {
		return deed{}, err
	}
	ref, err := readId(about)
	if err != nil {
		return deed{}, err
	}
	return deed{id: id, ref: ref}, nil
}

func readId(word string) (Id, error) {
	left, right, _ := strings.Cut(word, ".")
	rep, repErr := strconv.Atoi(left)
	num, numErr := strconv.Atoi(right)
	if repErr != nil || numErr != nil {
		return Id{}, errNoThing
	}
	return Id{Rep: rep, Num: num}, nil
}

func readSide(word string) (int, error) {
	switch word {
	case "left":
		return SideLeft, nil
	case "right":
		return SideRight, nil
	}
	return 0, errNoThing
}
