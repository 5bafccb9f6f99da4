package tests

import (
	"testing"

	"loop.example/tatting/impl"
)

func hubLists(h Hub) lists {
	return lists{ops: [][]Op{h.Doc.Ops, h.Doc.Wait, h.Kept}}
}

func checkHubMemory(t *testing.T, name string, h Hub, w Word, call func(h Hub, w Word) lists) {
	t.Helper()
	checkMemory(t, name, hubLists(h).with(wordLists(w)), func(args lists) lists {
		hub := Hub{Up: h.Up, Doc: Doc{Ops: args.ops[0], Wait: args.ops[1]}, Kept: args.ops[2]}
		return call(hub, Word{Kind: w.Kind, Rep: w.Rep, Seen: args.numbers[0], Ops: args.ops[3]})
	})
}

// hubCalls are the functions that take a hub alone.
func hubCalls() map[string]func(Hub) Hub {
	return map[string]func(Hub) Hub{"HubKeep": impl.HubKeep, "HubFall": impl.HubFall, "HubRise": impl.HubRise}
}

func TestHubMemory(t *testing.T) {
	hubs, words := someHubs()
	hubs, words = append(hubs, waitingHub(20), upHub(fullOps(), fullOps()), downHub(fullOps()), Hub{}), append(words, nil, nil, nil, nil)
	for _, h := range wrongHubs() {
		if len(h.Doc.Wait) < 100 {
			hubs, words = append(hubs, h), append(words, []Word{push(1, put(id(1, 1), 'a', right, nothing))})
		}
	}
	for n, h := range hubs {
		if n%3 == 1 {
			continue
		}
		for _, w := range append(words[n], Word{}, pull(2, 0, 0, 0), push(1, h.Doc.Ops[:min(4, len(h.Doc.Ops))]...)) {
			checkHubMemory(t, "HubHear", h, w, func(h Hub, w Word) lists {
				got, answer, _ := impl.HubHear(h, w)
				return hubLists(got).with(wordLists(answer))
			})
		}
		for name, call := range hubCalls() {
			checkHubMemory(t, name, h, Word{}, func(h Hub, _ Word) lists { return hubLists(call(h)) })
		}
		checkHubMemory(t, "HubOk", h, Word{}, func(h Hub, _ Word) lists {
			impl.HubOk(h)
			return lists{}
		})
	}
}

// TestHubMemoryOfOneList hands the same memory in as what was done and as what is kept, as a hub that is down may have it.
func TestHubMemoryOfOneList(t *testing.T) {
	for _, up := range []bool{true, false} {
		for name, call := range hubCalls() {
			ops := guarded(chain(9))
			first, second := call(Hub{Up: up, Doc: Doc{Ops: ops}, Kept: ops}), call(Hub{Up: up, Doc: Doc{Ops: ops}, Kept: ops})
			spoil(first.Kept, -9)
			if isSpoilt(first.Doc.Ops, -9) || hubLists(second).isSpoilt(-9) {
				t.Error(name, "has two lists that share memory", up)
			}
			checkGuarded(t, name, ops, chain(9))
			spoil(ops, -8)
			if isSpoilt(first.Doc.Ops, -8) || hubLists(second).isSpoilt(-8) {
				t.Error(name, "shares memory with its argument", up)
			}
		}
	}
}

func TestHubAnswersTheSameAgain(t *testing.T) {
	hubs, words := someHubs()
	for n, h := range hubs {
		fallen, kept := impl.HubFall(h), impl.HubKeep(h)
		var heard []Hub
		var answers []Word
		for _, w := range words[n] {
			got, answer, _ := impl.HubHear(h, w)
			heard, answers = append(heard, got), append(answers, answer)
		}
		impl.HubKeep(upHub(fullOps(), nil))
		impl.HubFall(upHub(chain(36), chain(21)))
		checkHub(t, "something is kept from call to call", impl.HubFall(clonedHub(h)), fallen)
		checkHub(t, "something is kept from call to call", impl.HubKeep(clonedHub(h)), kept)
		for i, w := range words[n] {
			got, answer, _ := impl.HubHear(clonedHub(h), guardedWord(w))
			checkHub(t, "something is kept from call to call", got, heard[i])
			if !sameWord(answer, answers[i]) {
				t.Fatal("something is kept from call to call", answer, answers[i])
			}
		}
	}
}
