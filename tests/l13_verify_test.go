package tests

import (
	"fmt"
	"math"
	"slices"
	"strings"
	"testing"

	"loop.example/g00283/impl"
)

// kinText stands behind the method run of class Main (0): Kid (1) and Twin (3) are Mains, Far (2) is a Kid, Lone (4) is by itself.
const kinText = "method get I 1\npush 0\nreturn\n" +
	"class Kid Main\nfield far Far\nmethod own Kid 1\nload 0\nreturn\n" +
	"class Far Kid\nclass Twin Main\nclass Lone\n"

// runText is a program whose method run of Main, which is had by all Mains, has these places; "; " is between them.
func runText(locals int, places string) string {
	return fmt.Sprintf("class Main\nfield n I\nfield next Kid\nmethod run I %d\n%s\n%s", locals, strings.ReplaceAll(places, "; ", "\n"), kinText)
}

func runProg(t *testing.T, locals int, places string) impl.Prog {
	t.Helper()
	return progOf(t, runText(locals, places))
}

// flowsOf reads what is known, place by place: "0t:i1" are the locals and what is on the stack, "0t::2" are two held, "-" is a place that is not met.
func flowsOf(told string) ([]impl.Flow, []bool) {
	var flows []impl.Flow
	var met []bool
	for _, s := range strings.Fields(told) {
		parts := append(strings.Split(s, ":"), "0", "0")
		if s == "-" {
			flows, met = append(flows, impl.Flow{}), append(met, false)
			continue
		}
		flows, met = append(flows, flowOf(parts[0], parts[1], int(parts[2][0]-'0'))), append(met, true)
	}
	return flows, met
}

// edges has the places that are gone on with behind one.
func (x placeBook) edges(at int) []int {
	in := x.code().List[at]
	switch in.Op {
	case impl.OpReturn:
		return nil
	case impl.OpGoto:
		return []int{in.N}
	case impl.OpZero:
		return []int{at + 1, in.N}
	}
	return []int{at + 1}
}

// A walkBook is what Flows has to answer, and in how many rounds.
type walkBook struct {
	flows    []impl.Flow
	met      []bool
	code, at int
	rounds   int
}

// round goes over all places once; it tells of a code, and of the place that was gone over then.
func (x placeBook) round(known map[int]impl.Flow) (int, int) {
	for at, in := range x.code().List {
		f, ok := known[at]
		if !ok {
			continue
		}
		behind, code := x.after(in, f)
		if code != 0 {
			return code, at
		}
		for _, to := range x.edges(at) {
			now := behind
			if was, ok := known[to]; ok {
				if now, code = meetThere(x.p, was, behind); code != 0 {
					return code, at
				}
			}
			known[to] = cloneFlow(now)
		}
	}
	return 0, -1
}

// walk tells what stands by whole books: it is over when a round leaves the book as it was.
func (x placeBook) walk() walkBook {
	if !progRight(x.p) || !x.there() {
		return walkBook{code: 3}
	}
	known := map[int]impl.Flow{0: x.begin()}
	told := walkBook{at: -1}
	for was := ""; was != fmt.Sprint(known); told.rounds++ {
		was = fmt.Sprint(known)
		if code, at := x.round(known); code != 0 {
			return walkBook{code: code, at: at, rounds: told.rounds + 1}
		}
	}
	for at := range x.code().List {
		f, ok := known[at]
		told.flows, told.met = append(told.flows, f), append(told.met, ok)
	}
	return told
}

// wantWalk holds Flows against the test's own, and tells what that is.
func wantWalk(t *testing.T, x placeBook) walkBook {
	t.Helper()
	want := x.walk()
	flows, met, code, at := impl.Flows(x.p, x.k, x.m)
	if code != want.code || at != want.at || !slices.Equal(met, want.met) || !slices.EqualFunc(flows, want.flows, sameFlow) {
		t.Fatalf("%+v: Flows of method %d of class %d is %+v, %v, %d, %d; want %+v", x.p, x.m, x.k, flows, met, code, at, want)
	}
	if code == impl.VrDone {
		wantHeld(t, x, flows, met)
	}
	return want
}

// wantHeld asks for P13 place by place: no place that is met has a code, and what is known at it is just what comes there, joined.
func wantHeld(t *testing.T, x placeBook, flows []impl.Flow, met []bool) {
	t.Helper()
	come := make([][]impl.Flow, len(flows))
	come[0] = []impl.Flow{x.begin()}
	for at, in := range x.code().List {
		if !met[at] {
			continue
		}
		if !impl.FlowOk(x.p, flows[at]) {
			t.Fatalf("%+v at place %d is not FlowOk", flows[at], at)
		}
		behind, code := impl.After(x.p, x.k, x.m, in, flows[at])
		if code != impl.VrDone {
			t.Fatalf("%+v: place %d of method %d of class %d is checked, and has %d", x.p, at, x.m, x.k, code)
		}
		for _, to := range x.edges(at) {
			come[to] = append(come[to], behind)
		}
	}
	for at, list := range come {
		if met[at] != (len(list) > 0) {
			t.Fatalf("%+v: place %d is met: %v, from %+v", x.p, at, met[at], list)
		}
		for i, f := range list {
			if !knowsMore(x.p, f, flows[at]) {
				t.Fatalf("%+v: %+v comes to place %d of method %d of class %d, where %+v is known", x.p, f, at, x.m, x.k, flows[at])
			}
			list[0], _ = meetThere(x.p, list[0], list[i])
		}
		if len(list) > 0 && !sameFlow(list[0], flows[at]) || len(list) == 0 && !sameFlow(flows[at], impl.Flow{}) {
			t.Fatalf("%+v: at place %d of method %d of class %d %+v is known, where %+v comes", x.p, at, x.m, x.k, flows[at], list)
		}
	}
}

// A walkCase is a method run with what is known at each place of it in the end, of class Main and in so many rounds.
type walkCase struct {
	locals int
	places string
	told   string
	rounds int
}

func wantTold(t *testing.T, list []walkCase) {
	t.Helper()
	for _, x := range list {
		p := runProg(t, x.locals, x.places)
		flows, met, code, at := impl.Flows(p, 0, 0)
		wantFlows, wantMet := flowsOf(x.told)
		if code != impl.VrDone || at != -1 || !slices.Equal(met, wantMet) || !slices.EqualFunc(flows, wantFlows, sameFlow) {
			t.Errorf("%s: %+v, %v, %d, %d; want %s", x.places, flows, met, code, at, x.told)
		}
		if told := wantWalk(t, placeBook{p, 0, 0}); told.rounds != x.rounds {
			t.Errorf("%s: %d rounds", x.places, told.rounds)
		}
		if code, k, m := impl.Verify(p); code != impl.VrDone || k != -1 || m != -1 {
			t.Errorf("%s: Verify is %d, %d, %d", x.places, code, k, m)
		}
	}
}

func TestFlowsWithoutAJump(t *testing.T) {
	wantTold(t, []walkCase{
		{1, "push 0; return", "0: 0:i", 2},
		{6, "push 0; return", "0ttttt: 0ttttt:i", 2},
		{2, "new Far; store 1; load 1; call Main.get; return", "0t: 0t:2 02: 02:2 02:i", 2},
		{2, "null; store 0; load 0; store 1; push 5; store 0; load 0; return", "0t: 0t:n nt: nt:n nn: nn:i in: in:i", 2},
		{1, "load 0; dup; get Main.next; same; return", "0: 0:0 0:00 0:01 0:i", 2},
		{1, "push 0; push 1; push 2; push 3; push 4; push 5; return", "0: 0:i 0:ii 0:iii 0:iiii 0:iiiii 0:iiiiii", 2},
		{1, "load 0; enter; load 0; exit; push 0; return", "0: 0:0 0::1 0:0:1 0: 0:i", 2},
		{1, "load 0; enter; null; enter; load 0; exit; new Lone; exit; push 0; return", "0: 0:0 0::1 0:n:1 0::2 0:0:2 0::1 0:4:1 0: 0:i", 2},
	})
}

// Of OpZero both the next place and that at N hold; of OpGoto that at N only.
func TestFlowsWithJumps(t *testing.T) {
	wantTold(t, []walkCase{
		{1, "push 1; zero 4; push 2; return; push 3; return", "0: 0:i 0: 0:i 0: 0:i", 2},
		{1, "push 1; push 2; zero 4; return; return", "0: 0:i 0:ii 0:i 0:i", 2},
		// The next place is that at N, too.
		{1, "push 1; push 2; zero 3; return", "0: 0:i 0:ii 0:i", 2},
		// Two ways come to one place, with two classes, and with a local more on one of them.
		{2, "push 1; zero 5; new Kid; store 1; goto 7; new Twin; store 1; push 0; return", "0t: 0t:i 0t: 0t:1 01: 0t: 0t:3 00: 00:i", 2},
		{2, "push 1; zero 4; new Kid; store 1; push 0; return", "0t: 0t:i 0t: 0t:1 0t: 0t:i", 2},
		// On the stack, too.
		{1, "push 1; zero 4; new Far; goto 5; null; pop; push 0; return", "0: 0:i 0: 0:2 0: 0:2 0: 0:i", 2},
		{1, "push 1; zero 4; new Far; goto 5; new Lone; pop; push 0; return", "0: 0:i 0: 0:2 0: 0:t 0: 0:i", 2},
		{1, "push 1; goto 3; return; push 2; add; return", "0: 0:i - 0:i 0:ii 0:i", 2},
		// What is held is the same both ways.
		{1, "load 0; enter; push 1; zero 6; push 2; print; load 0; exit; push 0; return", "0: 0:0 0::1 0:i:1 0::1 0:i:1 0::1 0:0:1 0: 0:i", 2},
	})
}

// What comes back to an earlier place turns what is known there, and the places behind it are gone over again.
func TestFlowsWithALoop(t *testing.T) {
	wantTold(t, []walkCase{
		{2, "new Far; store 1; load 1; pop; new Kid; store 1; goto 2", "0t: 0t:2 01: 01:1 01: 01:1 01:", 3},
		{2, "new Far; store 1; load 1; pop; new Twin; store 1; goto 2", "0t: 0t:2 00: 00:0 00: 00:3 03:", 3},
		{2, "null; store 1; load 1; pop; new Lone; store 1; goto 2", "0t: 0t:n 04: 04:4 04: 04:4 04:", 3},
		// Nothing turns where as much comes back.
		{2, "new Kid; store 1; load 1; pop; new Far; store 1; goto 2", "0t: 0t:1 01: 01:1 01: 01:2 02:", 2},
		// Place 0 turns by what comes back to it; it is met with Begin all the same.
		{2, "load 0; pop; new Kid; store 1; goto 0", "0t: 0t:0 0t: 0t:1 01:", 2},
		{2, "push 5; store 0; push 0; zero 0; push 0; return", "tt: tt:i it: it:i it: it:i", 3},
		// A local that is lost to KdTop, and is loaded by nobody.
		{2, "new Kid; store 1; push 0; zero 7; push 7; store 1; goto 2; push 0; return", "0t: 0t:1 0t: 0t:i 0t: 0t:i 0i: 0t: 0t:i", 3},
		// One on the stack that is lost.
		{1, "new Kid; pop; null; push 1; zero 8; pop; push 5; goto 3; pop; push 0; return", "0: 0:1 0: 0:t 0:ti 0:t 0: 0:i 0:t 0: 0:i", 3},
		// A place ahead of the one that it is met from is gone over in the next round.
		{1, "goto 3; push 1; return; push 0; zero 1; push 2; return", "0: 0: 0:i 0: 0:i 0: 0:i", 3},
		{1, "goto 4; push 1; return; goto 1; push 0; zero 3; goto 3", "0: 0: 0:i 0: 0: 0:i 0:", 4},
	})
}

// Each round what is known of one local more turns.
func TestFlowsInManyRounds(t *testing.T) {
	const fill = "new Kid; store 1; new Kid; store 2; new Kid; store 3; "
	const shift = "load 2; store 3; load 1; store 2; load 0; store 1; "
	wantTold(t, []walkCase{
		{4, fill + shift + "push 0; zero 6; push 0; return", "0ttt: 0ttt:1 01tt: 01tt:1 011t: 011t:1 0000: 0000:0 0000: 0000:0 0000: 0000:0 0000: 0000:i 0000: 0000:i", 5},
	})
	// Places that each are met from one behind them: each round one more.
	back := "goto 9; "
	told := "0: "
	for n := range 4 {
		back += fmt.Sprintf("push 0; zero %d; ", max(2*n-1, 0))
		told += "0: 0:i "
	}
	wantTold(t, []walkCase{{1, back + "goto 7", told + "0:", 6}})
	wantTold(t, []walkCase{{1, "goto 6; push 0; return; goto 1; goto 3; goto 4; goto 5", "0: 0: 0:i 0: 0: 0: 0:", 6}})
	// What is wrong in the third round only: the third local is no Kid any more.
	wantRefusedAt(t, []refusal{
		{4, fill + shift + "load 3; call Kid.own; pop; push 0; zero 6; push 0; return", impl.VrType, 13, 3},
		{4, fill + shift + "load 2; call Kid.own; pop; push 0; zero 6; push 0; return", impl.VrType, 13, 2},
		{4, fill + shift + "load 1; call Kid.own; pop; push 0; zero 6; push 0; return", impl.VrType, 13, 1},
		{1, "goto 6; add; return; goto 1; goto 3; goto 4; goto 5", impl.VrStack, 1, 5},
	})
}

// Places that are not met, with code that would be wrong, alone or where it comes to.
func TestFlowsOfPlacesThatAreNotMet(t *testing.T) {
	wantTold(t, []walkCase{
		{1, "goto 3; add; exit; push 0; return", "0: - - 0: 0:i", 2},
		{1, "push 0; return; add; return", "0: 0:i - -", 2},
		{1, "push 0; return; exit; goto 0", "0: 0:i - -", 2},
		{1, "goto 3; push 5; goto 3; push 0; return", "0: - - 0: 0:i", 2},
		{1, "push 0; return; push 0; push 0; goto 1", "0: 0:i - - -", 2},
		{1, "push 0; return; zero 1; load 0; enter; goto 0", "0: 0:i - - - -", 2},
		{1, "goto 0; load 5; null; return", "0: - - -", 1},
		{1, "push 0; goto 3; goto 2; return", "0: 0:i - 0:i", 2},
		// Two that are met from each other only.
		{1, "push 0; return; add; goto 4; sub; goto 2", "0: 0:i - - - -", 2},
		// OpReturn behind a jump: the next one is met from elsewhere, with other than what was returned from.
		{1, "push 0; zero 5; push 1; push 2; return; push 3; return", "0: 0:i 0: 0:i 0:ii 0: 0:i", 2},
	})
}

func TestFlowsOfTheLastPlace(t *testing.T) {
	wantTold(t, []walkCase{
		{1, "goto 0", "0:", 1},
		{1, "push 7; goto 2; return", "0: 0:i 0:i", 2},
		{1, "push 0; print; goto 0", "0: 0:i 0:", 2},
		{1, "push 0; return; goto 2", "0: 0:i -", 2},
		{1, "push 0; push 1; zero 4; goto 4; return", "0: 0:i 0:ii 0:i 0:i", 2},
		{1, "push 1; zero 3; goto 3; goto 0", "0: 0:i 0: 0:", 2},
	})
	wantRefusedAt(t, []refusal{
		{1, "null; return", impl.VrType, 1, 1}, {1, "push 0; goto 0", impl.VrStack, 1, 1}, {1, "return", impl.VrStack, 0, 1},
		{1, "load 0; enter; goto 0", impl.VrHeld, 2, 1}, {1, "load 0; enter; push 0; return", impl.VrHeld, 3, 1},
	})
	// As many places as there may be: the last one is met.
	long := "push 0; " + strings.Repeat("dup; pop; ", 43) + "dup; return"
	p := runProg(t, 1, long)
	if flows, met, code, at := impl.Flows(p, 0, 0); code != impl.VrDone || at != -1 || len(flows) != 89 || slices.Contains(met, false) || !sameFlow(flows[88], flowOf("0", "ii", 0)) {
		t.Errorf("%+v, %v, %d, %d", flows, met, code, at)
	}
	wantWalk(t, placeBook{p, 0, 0})
}

// A refusal is a method run that has a code, at a place, in that round.
type refusal struct {
	locals   int
	places   string
	code, at int
	rounds   int
}

func wantRefusedAt(t *testing.T, list []refusal) {
	t.Helper()
	for _, x := range list {
		p := runProg(t, x.locals, x.places)
		flows, met, code, at := impl.Flows(p, 0, 0)
		if code != x.code || at != x.at || len(flows) != 0 || len(met) != 0 {
			t.Errorf("%s: %+v, %v, %d, %d; want %d, %d", x.places, flows, met, code, at, x.code, x.at)
		}
		if told := wantWalk(t, placeBook{p, 0, 0}); told.rounds != x.rounds {
			t.Errorf("%s: %d rounds", x.places, told.rounds)
		}
		if code, k, m := impl.Verify(p); code != x.code || k != 0 || m != 0 {
			t.Errorf("%s: Verify is %d, %d, %d", x.places, code, k, m)
		}
		for at := range p.Kinds[0].Methods[0].List {
			if impl.Sound(p, 0, 0, at, impl.Begin(p, 0, 0)) || impl.Sound(p, 0, 0, at, impl.Flow{}) {
				t.Errorf("%s: Sound at %d", x.places, at)
			}
		}
	}
}

func TestFlowsRefuseEachCode(t *testing.T) {
	wantRefusedAt(t, []refusal{
		{1, "add; return", impl.VrStack, 0, 1}, {1, "push 0; add; return", impl.VrStack, 1, 1},
		{1, "push 0; push 0; push 0; push 0; push 0; push 0; push 0; return", impl.VrStack, 6, 1},
		{1, "null; print; push 0; return", impl.VrType, 1, 1}, {2, "load 1; return", impl.VrType, 0, 1},
		{1, "load 0; call Kid.own; pop; push 0; return", impl.VrType, 1, 1},
		{1, "load 1; return", impl.VrLocal, 0, 1}, {2, "push 0; store 2; push 0; return", impl.VrLocal, 1, 1},
		{1, "load 0; exit; push 0; return", impl.VrHeld, 1, 1},
		{1, strings.Repeat("load 0; enter; ", 5) + "goto 0", impl.VrHeld, 9, 1},
		// OpReturn is asked for what it takes, though nothing is behind it; so are the jumps.
		{1, "load 0; return", impl.VrType, 1, 1}, {1, "zero 0; goto 0", impl.VrStack, 0, 1}, {1, "null; zero 0; push 0; return", impl.VrType, 1, 1},
		// Only in the round in which what is known has turned.
		{2, "new Kid; store 1; load 1; pop; push 7; store 1; goto 2", impl.VrType, 2, 2},
		{2, "new Kid; store 1; push 0; zero 7; push 7; store 1; goto 2; load 1; pop; push 0; return", impl.VrType, 7, 2},
		{2, "new Kid; store 1; load 1; call Kid.own; pop; new Twin; store 1; goto 2", impl.VrType, 3, 2},
		{2, "push 0; store 1; load 1; print; null; store 1; goto 2", impl.VrType, 2, 2},
		{1, "null; push 1; zero 6; pop; push 5; goto 1; start; push 0; return", impl.VrType, 6, 2},
		// A local that is stored on one of two ways only.
		{2, "push 0; zero 4; push 1; store 1; load 1; return", impl.VrType, 4, 1},
	})
}

// Meet has the code: at the place from which it was come, whatever is wrong at that to which it came.
func TestFlowsRefuseByMeet(t *testing.T) {
	wantRefusedAt(t, []refusal{
		{1, "push 1; zero 4; push 2; goto 4; push 0; return", impl.VrStack, 3, 1},
		{2, "push 1; zero 4; push 2; goto 4; load 1; return", impl.VrStack, 3, 1},
		{2, "push 1; zero 3; push 2; load 1; return", impl.VrStack, 2, 1},
		{1, "push 1; zero 4; load 0; enter; push 0; return", impl.VrHeld, 3, 1},
		{1, "push 1; zero 5; load 0; enter; goto 5; push 0; return", impl.VrHeld, 4, 1},
		{1, "push 0; push 0; zero 2; return", impl.VrStack, 2, 1},
		{1, "push 0; push 0; zero 0; return", impl.VrStack, 2, 1},
		{1, "load 0; enter; push 0; zero 0; load 0; exit; push 0; return", impl.VrHeld, 3, 1},
		{1, "push 5; goto 0", impl.VrStack, 1, 1},
		// Of OpZero the next place is asked first.
		{1, "push 0; zero 6; load 0; enter; push 0; zero 5; push 0; return", impl.VrHeld, 5, 1},
		{1, "push 0; zero 7; push 0; load 0; enter; push 0; zero 3; push 0; return", impl.VrStack, 6, 1},
		{1, "push 0; zero 6; load 0; enter; push 0; zero 2; push 0; return", impl.VrHeld, 5, 1},
		// In the second round: place 1 is met from behind first.
		{1, "goto 4; push 1; push 2; goto 4; push 0; zero 1; push 0; return", impl.VrStack, 3, 2},
	})
}

// Two codes in one round: the first in the order of going.
func TestFlowsTellTheFirstCode(t *testing.T) {
	wantRefusedAt(t, []refusal{
		{2, "push 1; zero 4; add; goto 0; load 1; return", impl.VrStack, 2, 1},
		{2, "push 1; zero 4; load 1; goto 0; add; return", impl.VrType, 2, 1},
		// An earlier place that is met from a later one is gone over in the next round only.
		{2, "goto 3; load 1; return; push 0; zero 1; exit; return", impl.VrStack, 5, 1},
		{2, "goto 3; exit; return; push 0; zero 1; load 1; return", impl.VrType, 5, 1},
		// After's ahead of Meet's, and Meet's ahead of After's.
		{2, "push 1; zero 5; load 1; push 2; goto 5; push 0; return", impl.VrType, 2, 1},
		{2, "push 1; zero 5; push 2; goto 5; return; load 1; return", impl.VrStack, 3, 1},
		{2, "push 1; zero 4; load 0; enter; load 1; return", impl.VrHeld, 3, 1},
		// Two by Meet.
		{1, "push 1; zero 6; push 1; zero 5; load 0; enter; push 0; goto 6", impl.VrStack, 4, 1},
		{1, "push 1; zero 7; load 0; enter; push 1; zero 0; goto 7; push 0; return", impl.VrHeld, 5, 1},
		// A code of the first round is told, though one ahead of it would have one in the second.
		{2, "new Kid; store 1; load 1; pop; push 7; store 1; push 0; zero 2; add; return", impl.VrStack, 8, 1},
		// In the second round the first place again.
		{2, "new Kid; store 1; load 1; call Kid.own; pop; load 1; call Main.get; pop; new Lone; store 1; goto 2", impl.VrType, 2, 2},
		{3, "new Kid; store 1; new Kid; store 2; load 2; call Kid.own; pop; load 1; call Kid.own; pop; new Twin; dup; store 1; store 2; goto 4", impl.VrType, 5, 2},
	})
}

// A const of another kind, or none, is VrLocal where the place is met, and nothing where it is not.
func TestFlowsOfConstsThatAreNone(t *testing.T) {
	for _, x := range []struct {
		at, code, told int
		in             impl.Ins
	}{
		{0, impl.VrLocal, 0, ins(impl.OpNew, 20)}, {0, impl.VrLocal, 0, ins(impl.OpConst, 0)}, {2, impl.VrLocal, 2, ins(impl.OpGet, 0)},
		{4, impl.VrDone, -1, ins(impl.OpGet, 0)}, {5, impl.VrDone, -1, ins(impl.OpCall, 20)},
	} {
		p := runProg(t, 1, "new Kid; pop; push 0; return; add; exit; goto 4")
		list := slices.Clone(p.Kinds[0].Methods[0].List)
		list[x.at] = x.in
		p = withRun(p, list)
		if !progRight(p) {
			t.Fatalf("%+v is not right", p)
		}
		for k := range 4 {
			if _, _, code, at := impl.Flows(p, k, 0); code != x.code || at != x.told {
				t.Errorf("class %d, %+v at %d: %d, %d", k, x.in, x.at, code, at)
			}
			wantWalk(t, placeBook{p, k, 0})
		}
		if code := wantVerify(t, p); code != x.code {
			t.Errorf("%+v at %d: Verify is %d", x.in, x.at, code)
		}
	}
}

// A method that a class has from above is walked with that class as local 0.
func TestFlowsOfInheritedMethods(t *testing.T) {
	for _, x := range []struct {
		places string
		told   [4]string
	}{
		{"load 0; store 1; load 1; get Main.n; return", [4]string{"0t: 0t:0 00: 00:0 00:i", "1t: 1t:1 11: 11:1 11:i", "2t: 2t:2 22: 22:2 22:i", "3t: 3t:3 33: 33:3 33:i"}},
		{"load 0; store 1; load 1; pop; new Kid; store 1; goto 2", [4]string{
			"0t: 0t:0 00: 00:0 00: 00:1 01:", "1t: 1t:1 11: 11:1 11: 11:1 11:", "2t: 2t:2 21: 21:1 21: 21:1 21:", "3t: 3t:3 30: 30:0 30: 30:1 31:",
		}},
	} {
		p := runProg(t, 2, x.places)
		for k, told := range x.told {
			flows, met, code, at := impl.Flows(p, k, 0)
			wantFlows, wantMet := flowsOf(told)
			if code != impl.VrDone || at != -1 || !slices.Equal(met, wantMet) || !slices.EqualFunc(flows, wantFlows, sameFlow) {
				t.Errorf("class %d, %s: %+v, %v, %d, %d", k, x.places, flows, met, code, at)
			}
			wantWalk(t, placeBook{p, k, 0})
		}
	}
	// What is wrong above may be right below, where more is known of local 0.
	p := runProg(t, 1, "load 0; call Kid.own; pop; push 0; return")
	for k, want := range [][2]int{{impl.VrType, 1}, {impl.VrDone, -1}, {impl.VrDone, -1}, {impl.VrType, 1}} {
		if _, _, code, at := impl.Flows(p, k, 0); code != want[0] || at != want[1] {
			t.Errorf("class %d: %d, %d", k, code, at)
		}
		wantWalk(t, placeBook{p, k, 0})
	}
	// A place's const is that of the Owner's pool.
	q := progOf(t, "class Main\nfield n I\nmethod run I 1\nload 0\nget Main.n\nreturn\nclass Kid Main\nfield far Kid\nmethod own Kid 1\nload 0\nget Kid.far\nreturn\nclass Far Kid\n")
	for _, x := range eachMethod(q) {
		if told := wantWalk(t, x); told.code != 0 || told.flows[2].Stack[0] != []impl.Type{intType, refType(1)}[x.m] {
			t.Errorf("method %d of class %d: %+v", x.m, x.k, told)
		}
	}
}

// verifyThere is what Verify has to answer.
func verifyThere(p impl.Prog) (int, int, int) {
	if !progRight(p) {
		return 3, 0, 0
	}
	for _, x := range eachMethod(p) {
		if told := x.walk(); told.code != 0 {
			return told.code, x.k, x.m
		}
	}
	return 0, -1, -1
}

// wantVerify holds Verify against the test's own, and tells the code.
func wantVerify(t *testing.T, p impl.Prog) int {
	t.Helper()
	code, k, m := verifyThere(p)
	if gotCode, gotK, gotM := impl.Verify(p); gotCode != code || gotK != k || gotM != m {
		t.Fatalf("%+v: Verify is %d, %d, %d; want %d, %d, %d", p, gotCode, gotK, gotM, code, k, m)
	}
	return code
}

func TestVerifyOfPrograms(t *testing.T) {
	const (
		good  = "push 0\nreturn\n"
		short = "add\nreturn\n"
		other = "null\nreturn\n"
		holds = "load 0\nenter\npush 0\nreturn\n"
		local = "load 5\nreturn\n"
	)
	// Main has run and get, Kid (a Main) has get of its own, and own, Far (a Kid) has run of its own, and last; Lone has by.
	text := func(run, get, kidGet, own, farRun, last, by string) string {
		return "class Main\nmethod run I 2\n" + run + "method get I 1\n" + get +
			"class Kid Main\nmethod get I 1\n" + kidGet + "method own I 1\n" + own +
			"class Far Kid\nmethod run I 1\n" + farRun + "method last I 1\n" + last +
			"class Bare\nclass Lone\nmethod by I 1\n" + by
	}
	for _, x := range []struct {
		text       string
		code, k, m int
	}{
		{text(good, good, good, good, good, good, good), impl.VrDone, -1, -1},
		{mainText, impl.VrDone, -1, -1},
		{runText(1, "push 0; return"), impl.VrDone, -1, -1},
		// One that is not: the first, the last, and each between; those that are had from above, where they are above.
		{text(short, good, good, good, good, good, good), impl.VrStack, 0, 0},
		{text(good, other, good, good, good, good, good), impl.VrType, 0, 1},
		{text(good, good, holds, good, good, good, good), impl.VrHeld, 1, 1},
		{text(good, good, good, local, good, good, good), impl.VrLocal, 1, 2},
		{text(good, good, good, good, short, good, good), impl.VrStack, 2, 0},
		{text(good, good, good, good, good, other, good), impl.VrType, 2, 3},
		{text(good, good, good, good, good, good, holds), impl.VrHeld, 4, 0},
		// More than one: the first class, and of it the first method.
		{text(short, other, holds, local, other, holds, local), impl.VrStack, 0, 0},
		{text(good, other, short, local, short, holds, local), impl.VrType, 0, 1},
		{text(good, good, good, good, local, other, holds), impl.VrLocal, 2, 0},
		{text(good, good, good, holds, short, good, good), impl.VrHeld, 1, 2},
		{text(good, good, good, good, good, short, other), impl.VrStack, 2, 3},
		{familyText, impl.VrType, 1, 1},
	} {
		p := progOf(t, x.text)
		if code, k, m := impl.Verify(p); code != x.code || k != x.k || m != x.m {
			t.Errorf("%q: %d, %d, %d; want %d, %d, %d", x.text, code, k, m, x.code, x.k, x.m)
		}
		wantVerify(t, p)
		for _, y := range eachMethod(p) {
			wantWalk(t, y)
		}
	}
	// What Kid has wrong Far has wrong from above; Main's own is right.
	p := progOf(t, text(good, good, holds, good, good, good, good))
	for k, want := range [][2]int{{impl.VrDone, -1}, {impl.VrHeld, 3}, {impl.VrHeld, 3}} {
		if _, _, code, at := impl.Flows(p, k, 1); code != want[0] || at != want[1] {
			t.Errorf("get of class %d: %d, %d", k, code, at)
		}
	}
}

func wantNoFlows(t *testing.T, p impl.Prog, k, m int) {
	t.Helper()
	if flows, met, code, at := impl.Flows(p, k, m); code != impl.VrLocal || at != 0 || len(flows) != 0 || len(met) != 0 {
		t.Fatalf("%+v: Flows of method %d of class %d is %+v, %v, %d, %d", p, m, k, flows, met, code, at)
	}
}

// edgeFlows: what may be asked for where there is nothing.
func edgeFlows() []impl.Flow {
	return []impl.Flow{{}, flowOf("0", "", 0), flowOf("0t", "", 0), flowOf("0i1t", "", 0), flowOf("", "", 4), flowOf("1", "i", 0)}
}

// Neither a class nor a method that there is not is walked, wherever it would begin.
func TestWalksOfNoMethod(t *testing.T) {
	p := runProg(t, 2, "push 0; return")
	for _, at := range [][2]int{
		{0, 2}, {0, -1}, {1, 3}, {3, 2}, {4, 0}, {4, -1}, {5, 0}, {6, 0}, {-1, 0}, {-1, -1}, {0, 6}, {0, 7}, {7, 0},
		{math.MaxInt, 0}, {math.MinInt, 0}, {0, math.MaxInt}, {0, math.MinInt}, {1 << 32, 0}, {0, 1 << 32}, {math.MaxInt, math.MinInt},
	} {
		wantNoFlows(t, p, at[0], at[1])
		for _, f := range edgeFlows() {
			for place := -1; place <= 2; place++ {
				if impl.Sound(p, at[0], at[1], place, f) {
					t.Errorf("Sound of method %d of class %d at %d with %+v", at[1], at[0], place, f)
				}
			}
		}
	}
	for _, k := range edgeNumbers() {
		for _, m := range edgeNumbers() {
			if !(placeBook{p, k, m}).there() {
				wantNoFlows(t, p, k, m)
			}
		}
	}
}

func TestWalksOfWrongPrograms(t *testing.T) {
	p := runProg(t, 2, "push 1; zero 4; new Kid; store 1; push 0; return")
	if code := wantVerify(t, p); code != impl.VrDone {
		t.Fatal(code)
	}
	list := append(wrongTurns(p), twistedProgs()...)
	if len(list) < 300 {
		t.Errorf("%d wrong programs", len(list))
	}
	for _, q := range append(list, impl.Prog{}) {
		if code, k, m := impl.Verify(q); code != impl.VrLocal || k != 0 || m != 0 {
			t.Fatalf("%+v: Verify is %d, %d, %d", q, code, k, m)
		}
		for k := range 5 {
			for m := range 3 {
				wantNoFlows(t, q, k, m)
				if x := (placeBook{p, k, m}); x.there() && impl.Sound(q, k, m, 0, x.begin()) {
					t.Fatalf("%+v: Sound", q)
				}
			}
		}
		if impl.Sound(q, 0, 0, 0, impl.Flow{}) || impl.Sound(q, 0, 0, 1, flowOf("0t", "i", 0)) {
			t.Fatalf("%+v: Sound", q)
		}
	}
}

// soundThere is what Sound has to answer.
func (x placeBook) soundThere(told walkBook, at int, f impl.Flow) bool {
	if at < 0 || at >= len(told.met) || !told.met[at] {
		return false
	}
	for _, y := range slices.Concat(f.Locals, f.Stack) {
		if !slices.Contains(rightTypes(len(x.p.Kinds)), y) {
			return false
		}
	}
	return knowsMore(x.p, f, told.flows[at])
}

func wantSound(t *testing.T, x placeBook, told walkBook, at int, f impl.Flow) bool {
	t.Helper()
	want := x.soundThere(told, at, f)
	if impl.Sound(x.p, x.k, x.m, at, f) != want {
		t.Fatalf("%+v: Sound of method %d of class %d at %d with %+v is %v", x.p, x.m, x.k, at, f, !want)
	}
	return want
}

func TestSoundOfPlaces(t *testing.T) {
	// Place 5 is not met; at 8 a Main is known as local 1, and at 9 it is on the stack, with one held.
	p := runProg(t, 2, "push 1; zero 6; new Kid; store 1; goto 8; add; new Twin; store 1; load 1; dup; enter; load 1; exit; pop; push 0; return")
	if told := wantWalk(t, placeBook{p, 0, 0}); told.code != 0 || !sameFlow(told.flows[11], flowOf("00", "0", 1)) || told.met[5] {
		t.Fatalf("%+v", told)
	}
	for _, x := range []struct {
		k, at int
		f     impl.Flow
		want  bool
	}{
		{0, 0, flowOf("0t", "", 0), true}, {0, 1, flowOf("0t", "i", 0), true}, {0, 15, flowOf("00", "i", 0), true},
		{0, 8, flowOf("00", "", 0), true}, {0, 9, flowOf("00", "0", 0), true}, {0, 10, flowOf("00", "00", 0), true}, {0, 11, flowOf("00", "0", 1), true}, {0, 12, flowOf("00", "00", 1), true},
		// What fits without being alike.
		{0, 0, flowOf("1i", "", 0), true}, {0, 0, flowOf("nn", "", 0), true}, {0, 0, flowOf("24", "", 0), true}, {0, 8, flowOf("31", "", 0), true}, {0, 8, flowOf("n2", "", 0), true}, {0, 9, flowOf("00", "n", 0), true}, {0, 12, flowOf("12", "n3", 1), true},
		// What does not fit: a local, and one on the stack; what is lost is as little as may be known.
		{0, 0, flowOf("tt", "", 0), false}, {0, 0, flowOf("it", "", 0), false}, {0, 0, flowOf("4t", "", 0), false}, {0, 1, flowOf("0t", "n", 0), false}, {0, 1, flowOf("0t", "0", 0), false}, {0, 1, flowOf("0t", "t", 0), false},
		{0, 8, flowOf("0t", "", 0), false}, {0, 8, flowOf("0i", "", 0), false}, {0, 8, flowOf("04", "", 0), false}, {0, 9, flowOf("00", "4", 0), false}, {0, 9, flowOf("00", "i", 0), false}, {0, 9, flowOf("00", "t", 0), false},
		{0, 12, flowOf("00", "0t", 1), false}, {0, 12, flowOf("00", "i0", 1), false}, {0, 12, flowOf("0t", "00", 1), false},
		// One more and one less.
		{0, 0, flowOf("0", "", 0), false}, {0, 0, flowOf("0tt", "", 0), false}, {0, 0, flowOf("", "", 0), false}, {0, 0, flowOf("0t", "i", 0), false}, {0, 1, flowOf("0t", "", 0), false}, {0, 1, flowOf("0t", "ii", 0), false},
		{0, 12, flowOf("00", "0", 1), false}, {0, 12, flowOf("00", "000", 1), false}, {0, 12, flowOf("0", "00", 1), false}, {0, 12, flowOf("000", "00", 1), false}, {0, 12, flowOf("0", "000", 1), false}, {0, 12, flowOf("000", "0", 1), false},
		{0, 0, flowOf("0t", "iiiiiii", 0), false}, {0, 0, flowOf("0tttttt", "", 0), false},
		// Another number held.
		{0, 0, flowOf("0t", "", 1), false}, {0, 0, flowOf("0t", "", -1), false}, {0, 11, flowOf("00", "0", 0), false}, {0, 11, flowOf("00", "0", 2), false}, {0, 11, flowOf("00", "0", 4), false}, {0, 11, flowOf("00", "0", 5), false},
		{0, 0, flowOf("0t", "", math.MaxInt), false}, {0, 0, flowOf("0t", "", math.MinInt), false}, {0, 0, flowOf("0t", "", 1<<32), false}, {0, 0, flowOf("0t", "", 256), false},
		// A place that is not met, below 0, and beyond the last.
		{0, 5, flowOf("01", "", 0), false}, {0, 5, impl.Flow{}, false}, {0, 5, flowOf("0t", "", 0), false},
		{0, -1, flowOf("0t", "", 0), false}, {0, -1, impl.Flow{}, false}, {0, 16, flowOf("00", "", 0), false}, {0, 16, impl.Flow{}, false}, {0, 17, impl.Flow{}, false},
		{0, math.MaxInt, flowOf("0t", "", 0), false}, {0, math.MinInt, flowOf("0t", "", 0), false}, {0, 1 << 32, flowOf("0t", "", 0), false}, {0, 256, flowOf("0t", "", 0), false}, {0, -16, flowOf("0t", "", 0), false},
		// Types that are none.
		{0, 0, impl.Flow{Locals: []impl.Type{refType(0), refType(5)}}, false}, {0, 0, impl.Flow{Locals: []impl.Type{refType(0), {Kind: 4}}}, false}, {0, 0, impl.Flow{Locals: []impl.Type{refType(0), {Kind: impl.KdTop, Class: 1}}}, false}, {0, 1, impl.Flow{Locals: typesOf("0t"), Stack: []impl.Type{{Kind: impl.KdInt, Class: 1}}}, false},
		// Of a class below, where more is known of local 0.
		{1, 0, flowOf("1t", "", 0), true}, {1, 0, flowOf("0t", "", 0), false}, {1, 0, flowOf("2t", "", 0), true}, {1, 0, flowOf("3t", "", 0), false}, {2, 0, flowOf("2t", "", 0), true}, {2, 0, flowOf("1t", "", 0), false}, {3, 8, flowOf("30", "", 0), true}, {3, 8, flowOf("00", "", 0), false},
	} {
		if got := impl.Sound(p, x.k, 0, x.at, x.f); got != x.want {
			t.Errorf("Sound of class %d at %d with %+v is %v", x.k, x.at, x.f, got)
		}
		wantSound(t, placeBook{p, x.k, 0}, placeBook{p, x.k, 0}.walk(), x.at, x.f)
	}
}

// Each type at each place of what is told, and each number of locals, on the stack and held.
func TestSoundOfEachType(t *testing.T) {
	t.Parallel()
	p := runProg(t, 3, "push 1; zero 5; null; store 1; goto 7; new Far; store 1; load 1; load 0; enter; push 5; load 1; pop; pop; load 0; exit; pop; push 0; return")
	sound, asked := 0, 0
	for k := range 4 {
		x := placeBook{p, k, 0}
		told := wantWalk(t, x)
		for at, f := range told.flows {
			for _, y := range append(rightTypes(5), wrongTypes(5)...) {
				for i := range len(f.Locals) + len(f.Stack) {
					g := cloneFlow(f)
					if i < len(f.Locals) {
						g.Locals[i] = y
					} else {
						g.Stack[i-len(f.Locals)] = y
					}
					asked++
					if wantSound(t, x, told, at, g) {
						sound++
					}
				}
			}
			for n := range 8 {
				for held := -1; held <= 5; held++ {
					wantSound(t, x, told, at, impl.Flow{Locals: slices.Concat(f.Locals, make([]impl.Type, 8))[:n], Stack: f.Stack, Held: held})
					wantSound(t, x, told, at, impl.Flow{Locals: f.Locals, Stack: slices.Concat(f.Stack, make([]impl.Type, 8))[:n], Held: held})
				}
			}
		}
		for _, at := range append(edgeNumbers(), -1, len(told.flows), len(told.flows)+1) {
			for _, f := range append(edgeFlows(), x.begin()) {
				wantSound(t, x, told, at, f)
			}
		}
	}
	if sound < 300 || asked-sound < 1000 {
		t.Errorf("%d of %d", sound, asked)
	}
}

// walkProg has a method run of Main, with no Params and five locals, to be given places; its pools have what those may refer to.
func walkProg(t *testing.T) impl.Prog {
	t.Helper()
	p := runProg(t, 5, "push 0; return")
	p.Kinds[0].Pool = []impl.Const{classConst("Main"), classConst("Kid"), classConst("Far"), classConst("Twin"), classConst("Lone"), fieldConst("Main", "n"), fieldConst("Main", "next"), fieldConst("Kid", "far"), callConst("Main", "get"), callConst("Kid", "own"), intConst(70000)}
	return p
}

// withRun gives the method run of Main these places, wherever it is had.
func withRun(p impl.Prog, list []impl.Ins) impl.Prog {
	p = cloneProg(p)
	for k := range 4 {
		p.Kinds[k].Methods[0].List = slices.Clone(list)
	}
	return p
}

// someDeed leaves the stack as it was; a jump of it has the number of a deed in place of that of a place. Of few kinds most hand locals on, and jump.
func (d *dice) someDeed(deeds, kinds int) []impl.Ins {
	a, b := ins(impl.OpLoad, d.below(5)), ins(impl.OpStore, 1+d.below(4))
	to := d.below(deeds)
	switch d.below(kinds) {
	case 0, 1, 2:
		return []impl.Ins{push(d.below(2)), ins(impl.OpZero, to)}
	case 3, 4, 5:
		return []impl.Ins{a, b}
	case 6:
		return []impl.Ins{ins(impl.OpNew, d.below(5)), b}
	case 7:
		return []impl.Ins{bare(impl.OpNull), b}
	case 8:
		return []impl.Ins{push(d.below(9)), b}
	case 9:
		return []impl.Ins{a, ins(impl.OpGet, 5+d.below(3)), b}
	case 10:
		return []impl.Ins{a, ins(impl.OpCall, 8), bare(impl.OpPop)}
	case 11:
		return []impl.Ins{a, ins(impl.OpCall, 9), b}
	case 12:
		return []impl.Ins{a, bare(impl.OpEnter), a, bare(impl.OpExit)}
	case 13:
		return []impl.Ins{jump(to)}
	}
	return []impl.Ins{push(0), ret()}
}

// someRun has deeds of which most jump to each other, behind some that put something into each local; now and then one place is another one.
func (d *dice) someRun() []impl.Ins {
	many, kinds := 8+d.below(9), 7+8*d.below(2)
	var deeds [][]impl.Ins
	for n := 1; n < 5; n++ {
		kind := []impl.Ins{ins(impl.OpNew, d.below(4)), bare(impl.OpNull), ins(impl.OpNew, 2), push(1)}[d.below(4)]
		deeds = append(deeds, []impl.Ins{kind, ins(impl.OpStore, n)})
	}
	for len(deeds) < many-1 {
		deeds = append(deeds, d.someDeed(many, kinds))
	}
	deeds = append(deeds, [][]impl.Ins{{jump(d.below(many))}, {push(0), ret()}}[d.below(2)])
	var begins []int
	var list []impl.Ins
	for _, deed := range deeds {
		begins = append(begins, len(list))
		list = append(list, deed...)
	}
	for i, in := range list {
		if isJump(in.Op) {
			list[i].N = begins[in.N]
		}
	}
	if d.below(4) == 0 {
		list[d.below(len(list)-1)] = []impl.Ins{bare(impl.OpPop), bare(impl.OpDup), push(7), bare(impl.OpEnter), bare(impl.OpExit), bare(impl.OpNull), ins(impl.OpZero, d.below(len(list))), jump(d.below(len(list))), ins(impl.OpLoad, 5), bare(impl.OpAdd)}[d.below(10)]
	}
	return list
}

// P13, of many programs: what is known at each place holds, and it is what the test's own tells; each code is met, and many rounds are.
func TestFlowsOfManyPrograms(t *testing.T) {
	t.Parallel()
	d := dice(13)
	var codes [5]int
	var rounds [20]int
	unmet, met := 0, 0
	base := walkProg(t)
	for n := range 2000 {
		list := d.someRun()
		if !codeRight(list) {
			continue
		}
		p := withRun(base, list)
		told := wantWalk(t, placeBook{p, d.below(4), 0})
		codes[told.code]++
		rounds[min(told.rounds, 19)]++
		for _, is := range told.met {
			if is {
				met++
			} else {
				unmet++
			}
		}
		if n%5 == 0 {
			wantVerify(t, p)
		}
	}
	if slices.Min(codes[:]) < 20 || codes[0] < 500 || rounds[1] < 200 || rounds[3] < 300 || rounds[4] < 50 || rounds[5] < 5 || unmet < 500 || met < 5000 {
		t.Errorf("codes %v, rounds %v, %d met, %d not", codes, rounds, met, unmet)
	}
}

// Programs of all shapes: whatever Link makes, with all their methods.
func TestWalksOfLinkedPrograms(t *testing.T) {
	t.Parallel()
	d := dice(131)
	var codes [5]int
	for range 1500 {
		p, how := impl.Link(d.someSet())
		if how != impl.LnDone {
			continue
		}
		codes[wantVerify(t, p)]++
		for _, x := range eachMethod(p) {
			wantWalk(t, x)
		}
	}
	if codes[impl.VrDone] < 100 || codes[impl.VrStack] < 100 {
		t.Errorf("%v", codes)
	}
}

// exactly is what an object at hand is of, where a place has put one of a class: of that class or of one below it.
func (d *dice) exactly(x placeBook, op int, f impl.Flow) impl.Flow {
	if op == impl.OpGet || op == impl.OpCall {
		last := len(f.Stack) - 1
		f.Stack = append(f.Stack[:last:last], d.knowingMore(x.p, impl.Flow{Stack: f.Stack[last:]}).Stack...)
	}
	return f
}

// wantWay goes along one way through a method, as it might be run: at each place all is by what is known, and none has a code.
func (d *dice) wantWay(t *testing.T, x placeBook, told walkBook) int {
	t.Helper()
	f, at := d.knowingMore(x.p, x.begin()), 0
	for step := range 40 {
		if !impl.Sound(x.p, x.k, x.m, at, f) {
			t.Fatalf("%+v: at place %d of method %d of class %d there is %+v, where %+v is known", x.p, at, x.m, x.k, f, told.flows[at])
		}
		in := x.code().List[at]
		behind, code := impl.After(x.p, x.k, x.m, in, f)
		if code != impl.VrDone {
			t.Fatalf("%+v: place %d of method %d of class %d goes wrong with %+v: %d", x.p, at, x.m, x.k, f, code)
		}
		next := x.edges(at)
		if len(next) == 0 {
			return step
		}
		f, at = d.exactly(x, in.Op, behind), next[d.below(len(next))]
	}
	return 40
}

// P13: what is checked can't go wrong, whichever way it goes.
func TestWaysThroughWhatIsChecked(t *testing.T) {
	t.Parallel()
	d := dice(132)
	base := walkProg(t)
	ways, steps := 0, 0
	for range 300 {
		list := d.someRun()
		if !codeRight(list) {
			continue
		}
		x := placeBook{withRun(base, list), d.below(4), 0}
		told := x.walk()
		if told.code != 0 {
			continue
		}
		for range 3 {
			ways++
			steps += d.wantWay(t, x, told)
		}
	}
	if ways < 400 || steps < 10*ways {
		t.Errorf("%d ways, %d steps", ways, steps)
	}
}

// wantBelow asks for P13 of a class and one below it which has a method from it: what was checked above is checked below, and no less is known.
func wantBelow(t *testing.T, p impl.Prog, above, below, m int) bool {
	t.Helper()
	flows, met, code, _ := impl.Flows(p, above, m)
	if code != impl.VrDone {
		return false
	}
	more, alike, code, at := impl.Flows(p, below, m)
	if code != impl.VrDone || at != -1 || !slices.Equal(met, alike) {
		t.Fatalf("%+v: method %d is checked of class %d, but of class %d it is %d, %d", p, m, above, below, code, at)
	}
	for at, f := range more {
		if met[at] && (!knowsMore(p, f, flows[at]) || !impl.Sound(p, above, m, at, f)) {
			t.Fatalf("%+v: at place %d of method %d %+v is known of class %d, and %+v of class %d", p, at, m, flows[at], above, f, below)
		}
	}
	return true
}

// wantAllBelow goes over all that a class has from one above it, and tells of how many of them were checked.
func wantAllBelow(t *testing.T, p impl.Prog) int {
	t.Helper()
	checked := 0
	for above := range p.Kinds {
		for below := range p.Kinds {
			for m, code := range p.Kinds[above].Methods {
				if above != below && subThere(p, below, above) && sameCodes(code, p.Kinds[below].Methods[m]) && wantBelow(t, p, above, below, m) {
					checked++
				}
			}
		}
	}
	return checked
}

// P13: what was checked is by as much in each class below.
func TestWhatIsCheckedIsCheckedBelow(t *testing.T) {
	t.Parallel()
	d := dice(133)
	base := walkProg(t)
	checked := wantAllBelow(t, progOf(t, familyText)) + wantAllBelow(t, flowProg(t))
	if checked < 5 {
		t.Errorf("%d checked of a family", checked)
	}
	apart := 0
	for range 400 {
		list := d.someRun()
		if !codeRight(list) {
			continue
		}
		p := withRun(base, list)
		checked += wantAllBelow(t, p)
		// What is wrong above may be right below, never the other way.
		_, _, above, _ := impl.Flows(p, 0, 0)
		_, _, below, _ := impl.Flows(p, 2, 0)
		if above != below {
			apart++
		}
	}
	linked := 0
	for range 600 {
		if p, how := impl.Link(d.someSet()); how == impl.LnDone {
			linked += wantAllBelow(t, p)
		}
	}
	if checked < 1000 || apart < 10 || linked < 200 {
		t.Errorf("%d checked, %d right below only, %d linked", checked, apart, linked)
	}
}

// Each program that is one turn away from another: those that are right are walked, the others are not.
func TestWalksOfTurnedPrograms(t *testing.T) {
	for _, p := range listTurns(runProg(t, 2, "push 1; zero 4; new Kid; store 1; push 0; return")) {
		wantVerify(t, p)
		for k := range 5 {
			for m := range 3 {
				wantWalk(t, placeBook{p, k, m})
			}
		}
	}
}

// P33: what is far too much is answered, too.
func TestWalksOfWhatIsFarTooGreat(t *testing.T) {
	const many = 1 << 18
	p := runProg(t, 2, "push 0; return")
	long := make([]impl.Type, many)
	for _, f := range []impl.Flow{{Locals: long}, {Stack: long}, {Locals: typesOf("0t"), Stack: long}, {Locals: long, Stack: long, Held: 4}} {
		for range 100 {
			if impl.Sound(p, 0, 0, 0, f) || impl.Sound(p, 0, 0, 1, f) {
				t.Fatal("Sound")
			}
		}
	}
	places := slices.Repeat([]impl.Ins{jump(0)}, many)
	for _, q := range []impl.Prog{withRun(p, places), {Kinds: make([]impl.Kind, many)}, {Kinds: slices.Repeat(p.Kinds, many/8)}} {
		for range 20 {
			if code, k, m := impl.Verify(q); code != impl.VrLocal || k != 0 || m != 0 || impl.Sound(q, 0, 0, 0, flowOf("0t", "", 0)) {
				t.Fatal(code, k, m)
			}
			wantNoFlows(t, q, 0, 0)
		}
	}
}

// walksForMemory has methods whose Flows go one way, two ways, round, and nowhere.
func walksForMemory(t *testing.T) []impl.Prog {
	var list []impl.Prog
	for _, places := range []string{
		"push 0; return", "goto 0", "push 1; zero 4; push 2; return; push 3; return", "push 1; push 2; zero 4; return; return", "push 1; push 2; zero 3; return",
		"new Far; store 1; load 1; pop; new Kid; store 1; goto 2", "new Kid; store 1; push 0; zero 7; push 7; store 1; goto 2; push 0; return",
		"load 0; dup; enter; push 1; push 2; zero 9; push 3; add; goto 9; pop; exit; push 0; return", "goto 3; add; exit; push 0; return",
		"push 5; store 0; push 0; zero 0; push 0; return", "add; return", "push 1; zero 4; push 2; goto 4; push 0; return", "load 0; enter; push 0; return",
	} {
		list = append(list, runProg(t, 2, places))
	}
	return list
}

// walkApart: no two lists of an answer share memory, up to the end of their spare room.
func walkApart(flows []impl.Flow) bool {
	var lists [][]impl.Type
	for _, f := range flows[:cap(flows)] {
		lists = append(lists, f.Locals[:cap(f.Locals)], f.Stack[:cap(f.Stack)])
	}
	return marked(lists, func(x *impl.Type, n int) { x.Class = n }, func(x impl.Type) int { return x.Class })
}

// P33: an answer shares no memory with the program, nor with another answer, nor do two flows of it with each other.
func TestWalksAreNewMemory(t *testing.T) {
	for _, p := range walksForMemory(t) {
		for k := range 5 {
			x := placeBook{p, k, 0}
			want := x.walk()
			given := roomyProg(p)
			first, firstMet, _, _ := impl.Flows(given, k, 0)
			second, secondMet, _, _ := impl.Flows(given, k, 0)
			if !walkApart(first) {
				t.Fatalf("%+v: two lists of %+v share memory", p, want.flows)
			}
			for _, f := range first[:cap(first)] {
				spoilAll(f.Locals, refType(55))
				spoilAll(f.Stack, refType(55))
			}
			spoilAll(first, flowOf("5", "5", 5))
			for i := range firstMet[:cap(firstMet)] {
				firstMet[:cap(firstMet)][i] = !firstMet[:cap(firstMet)][i]
			}
			if !sameProg(given, p) || !slices.EqualFunc(second, want.flows, sameFlow) || !slices.Equal(secondMet, want.met) {
				t.Fatalf("%+v: an answer shares memory", p)
			}
			spoilProg(given)
			if !slices.EqualFunc(second, want.flows, sameFlow) || !slices.Equal(secondMet, want.met) {
				t.Fatalf("%+v: an answer shares memory with the program", p)
			}
			wantWalk(t, x)
		}
	}
}

// P33: neither the types of a flow nor the spare room behind them are written by Sound, and that room does not count.
func TestSoundWritesNoFlow(t *testing.T) {
	for _, p := range walksForMemory(t) {
		x := placeBook{p, 0, 0}
		told := x.walk()
		for at := -1; at <= len(told.flows); at++ {
			for _, f := range append(slices.Clone(told.flows), edgeFlows()...) {
				given := f
				var locals, stack []impl.Type
				given.Locals, locals = roomy(f.Locals, refType(0))
				given.Stack, stack = roomy(f.Stack, intType)
				wereLocals, wereStack := slices.Clone(locals), slices.Clone(stack)
				wantSound(t, x, told, at, given)
				if !slices.Equal(locals, wereLocals) || !slices.Equal(stack, wereStack) {
					t.Fatalf("Sound of %+v writes into it: %+v, %+v", f, locals, stack)
				}
			}
		}
	}
}

// tellWalks: what the functions of this chapter answer to a program.
func tellWalks(p impl.Prog) string {
	var told strings.Builder
	code, k, m := impl.Verify(p)
	fmt.Fprintln(&told, code, k, m)
	for k := -1; k <= 6; k++ {
		for m := -1; m <= 6; m++ {
			flows, met, code, at := impl.Flows(p, k, m)
			fmt.Fprintln(&told, flows, met, code, at)
		}
	}
	for _, f := range edgeFlows() {
		for at := -1; at <= 5; at++ {
			fmt.Fprint(&told, impl.Sound(p, 0, 0, at, f), impl.Sound(p, 1, 1, at, f), impl.Sound(p, 6, 6, at, f))
		}
	}
	return told.String()
}

func progsForWalks(t *testing.T) []impl.Prog {
	list := append(walksForMemory(t), flowProg(t), progOf(t, mainText), impl.Prog{})
	list = append(list, twistedProgs()[:10]...)
	for i, p := range listTurns(list[6]) {
		if i%8 == 0 {
			list = append(list, p)
		}
	}
	return list
}

// P33: neither the classes, nor their lists, nor the spare room behind them are written; what stands there does not count.
func TestWalksWriteNoProgram(t *testing.T) { wantUnwritten(t, progsForWalks(t), tellWalks) }

func TestWalksKeepNothing(t *testing.T) { wantToldAgain(t, progsForWalks(t), tellWalks) }
