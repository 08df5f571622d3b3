package tests

import (
	"bytes"
	"fmt"
	"math"
	"runtime"
	"slices"
	"sync"
	"testing"
	"time"

	"loop.example/easel/impl"
)

// The edge cases of the chapter, one by one.

// playedByAll are the states after some events from HouNew on, which are as described.
func playedByAll(t *testing.T, all []impl.TenCfg, events ...impl.HouEvent) []impl.TenState {
	t.Helper()
	got := impl.HouRun(all, impl.HouNew(all), events)
	wantStates(t, events, got, housePlayed(all, houseFresh(all), events))
	return got
}

// threeTimes is one configuration for each of the tenants.
func threeTimes(c impl.TenCfg) []impl.TenCfg {
	return []impl.TenCfg{c, c, c}
}

// waiting is a run after which each tenant has a cached file, a job and fewer tokens than at first.
func waiting(all []impl.TenCfg) []impl.HouEvent {
	var list []impl.HouEvent
	for who, c := range all {
		list = append(list, toOne(who, asked(c, "a", turn)), toOne(who, replied(0, fileFor(who))), toOne(who, asked(c, "b", flipX)))
	}
	return list
}

func TestAKnownRunOfAllTenants(t *testing.T) {
	all := []impl.TenCfg{withKey(config(2, 5, 1, 10, 1, 9), []byte("k0")), withKey(config(3, 4, 2, 20, 2, 30), []byte("k1")), withKey(config(1, 9, 1, 1, 1, 1), nil)}
	got := impl.HouRun(all, impl.HouNew(all), []impl.HouEvent{
		toOne(0, asked(all[0], "cat", flipX)), toOne(1, asked(all[1], "cat")), toOne(1, asked(all[0], "cat")), toOne(2, passed(3)), toAll(4), toOne(3, asked(all[0], "cat")), toOne(0, replied(0, fileFor(1))),
		toOne(2, askedText("/")), toAll(4), toOne(-1, asked(all[0], "cat")), toOne(1, asked(all[1], "dog")), toAll(9), toOne(1, failed(0)), toOne(0, failed(0)), toOne(2, asked(all[2], "dog")),
	})
	data, _ := impl.TurnFile(fileFor(1), []impl.OpOp{flipX})
	wantStates(t, "a known run", got, []impl.TenState{
		{Clock: 9, Tokens: 2, Since: 5, Next: 1, Files: []impl.TenFile{{Path: "cat", At: 4, Data: fileFor(1)}}, Asked: []string{"cat"}, Outs: []impl.TenOut{{Id: 0, Code: 200, Data: data}}},
		{Clock: 9, Tokens: 3, Since: 8, Next: 3, Jobs: []impl.TenJob{{Id: 2, Path: "dog", Born: 4}}, Asked: []string{"cat", "dog"}, Outs: []impl.TenOut{{Id: 1, Code: 403}, {Id: 0, Code: 502}}},
		{Clock: 9, Tokens: 0, Since: 9, Next: 2, Jobs: []impl.TenJob{{Id: 1, Path: "dog", Born: 9}}, Asked: []string{"dog"}, Outs: []impl.TenOut{{Id: 0, Code: 400}}},
	})
}

// Each tenant has something that time would change.
func TestTimeForOneTenantAlone(t *testing.T) {
	all := threeTimes(config(9, 5, 4, 10, 3, 9))
	list := playedByAll(t, all, waiting(all)...)
	later := impl.HouStep(all, list, toAll(9))
	for who := range 3 {
		wantCodes(t, later[who], 200, 504)
		wantNumbers(t, "tokens", later[who].Tokens, list[who].Tokens+1)
		for _, at := range []int{1, 5, 9, 11, 9999, 10000, 0, -1, math.MaxInt} {
			alone := toOne(who, passed(at))
			wantStates(t, alone, impl.HouStep(all, list, alone), list)
			wantStates(t, alone, impl.HouRun(all, list, []impl.HouEvent{alone, toAll(9)}), later)
			wantStates(t, alone, impl.HouRun(all, list, []impl.HouEvent{toOne(0, passed(at)), toOne(1, passed(at)), toOne(2, passed(at))}), list)
		}
	}
	for _, who := range noTenants() {
		wantStates(t, who, impl.HouStep(all, list, toOne(who, passed(9))), list)
	}
}

func TestTimesForAll(t *testing.T) {
	all := []impl.TenCfg{config(9, 5, 4, 10, 3, 9), config(9, 7, 4, 10, 3, 20), config(9, 99, 4, 10, 3, 999)}
	list := playedByAll(t, all, append(waiting(all), toAll(3))...)
	for _, k := range []struct{ at, time, tokens, late int }{
		{-1, 3, 21, 0}, {0, 3, 21, 0}, {2, 3, 21, 0}, {3, 3, 21, 0}, {4, 4, 21, 0}, {5, 5, 22, 0}, {7, 7, 23, 0}, {8, 8, 23, 0}, {9, 9, 23, 1}, {20, 20, 25, 2},
		{9998, 9998, 27, 3}, {9999, 9999, 27, 3}, {10000, 3, 21, 0}, {10001, 3, 21, 0}, {math.MaxInt, 3, 21, 0}, {math.MinInt, 3, 21, 0}, {9 + 1<<32, 3, 21, 0},
	} {
		tokens, late := 0, 0
		for _, s := range impl.HouStep(all, list, toAll(k.at)) {
			wantNumbers(t, fmt.Sprint("time at ", k.at), s.Clock, k.time)
			tokens += s.Tokens
			late += 1 - len(s.Jobs)
		}
		wantNumbers(t, fmt.Sprint("tokens at ", k.at), tokens, k.tokens)
		wantNumbers(t, fmt.Sprint("late jobs at ", k.at), late, k.late)
	}
	last := impl.HouRun(all, list, []impl.HouEvent{toAll(9999), toAll(10000), toAll(9999), toAll(9998)})
	wantStates(t, "no later time", last, impl.HouStep(all, list, toAll(9999)))
}

func TestEventsOfOtherKindsForAll(t *testing.T) {
	all := threeTimes(config(9, 5, 4, 10, 3, 9))
	list := playedByAll(t, all, waiting(all)...)
	events := []impl.TenEvent{asked(all[0], "a"), asked(all[0], "c"), askedText("/"), replied(1, fileFor(5)), replied(1, nil), failed(1)}
	for _, e := range events {
		for who := range 3 {
			if next := impl.HouStep(all, list, toOne(who, e)); sameState(next[who], list[who]) {
				t.Errorf("%v has no effect on tenant %d", e, who)
			}
		}
		wantUnchanged(t, all, list, toOne(impl.HouAll, e))
	}
	for _, kind := range unknownKinds() {
		wantUnchanged(t, all, list, toOne(impl.HouAll, impl.TenEvent{Kind: kind, Text: events[0].Text, Id: 1, Data: fileFor(5), At: 9}))
	}
}

func TestEventsForNumbersThatAreNoTenant(t *testing.T) {
	all := threeTimes(config(9, 5, 4, 10, 3, 9))
	list := playedByAll(t, all, waiting(all)...)
	numbers := noTenants()
	for who := impl.HouAll + 1; who < 0; who++ {
		numbers = append(numbers, who)
	}
	for _, who := range numbers {
		for _, e := range []impl.TenEvent{asked(all[0], "a"), askedText("/"), replied(1, fileFor(5)), failed(1), passed(9), {}, {Kind: 5}} {
			wantUnchanged(t, all, list, toOne(who, e))
		}
	}
}

func TestUnknownKindsForATenant(t *testing.T) {
	all := threeTimes(config(9, 5, 4, 10, 3, 9))
	list := playedByAll(t, all, waiting(all)...)
	for who := range 3 {
		for _, kind := range unknownKinds() {
			e := toOne(who, impl.TenEvent{Kind: kind, Text: asked(all[0], "a").Text, Id: 1, Data: fileFor(5), At: 9})
			wantUnchanged(t, all, list, e)
			wantEvents(t, kind, impl.HouOf([]impl.HouEvent{e}, who), []impl.TenEvent{e.Do})
		}
	}
}

func TestLongRunsOfAllTenants(t *testing.T) {
	all := threeTimes(config(9, 1, 4, 6, 3, 8))
	for _, e := range []impl.HouEvent{toOne(0, askedText("/")), toOne(2, asked(all[2], "a")), toOne(1, impl.TenEvent{}), toOne(1, passed(4)), toOne(7, askedText("/")), toAll(5), toAll(0)} {
		events := slices.Repeat([]impl.HouEvent{e}, 120)
		wantStates(t, "120 events", impl.HouRun(all, impl.HouNew(all), events), playedHouse(all, events).end())
		for _, n := range []int{121, 122, 240, 256, 256 + 120, 360, 100000} {
			if got := impl.HouRun(all, impl.HouNew(all), slices.Repeat([]impl.HouEvent{e}, n)); got != nil {
				t.Errorf("%d events lead to %v", n, got)
			}
		}
	}
	// The bound is that of all events together, not that of each tenant.
	var mixed []impl.HouEvent
	for k := range 121 {
		mixed = append(mixed, toOne(k%3, asked(all[0], "a", turn)))
	}
	wantStates(t, "120 mixed events", impl.HouRun(all, impl.HouNew(all), mixed[:120]), playedHouse(all, mixed[:120]).end())
	if got := impl.HouRun(all, impl.HouNew(all), mixed); got != nil {
		t.Errorf("121 mixed events lead to %v", got)
	}
}

// Each tenant has its own files and its own numbers.
func TestTwoTenantsWithTheSameNames(t *testing.T) {
	all := threeTimes(config(9, 5, 4, 10, 3, 9))
	ask := asked(all[0], "a", turn)
	list := playedByAll(t, all, toOne(0, ask), toOne(1, ask), toOne(1, replied(0, fileFor(1))), toOne(2, ask))
	for who, jobs := range []int{1, 0, 1} {
		wantNumbers(t, fmt.Sprint("jobs of tenant ", who), len(list[who].Jobs), jobs)
		wantNumbers(t, fmt.Sprint("files of tenant ", who), len(list[who].Files), 1-jobs)
		wantNumbers(t, fmt.Sprint("requests of tenant ", who), list[who].Next, 1)
	}
	list = impl.HouRun(all, list, []impl.HouEvent{toOne(0, replied(0, fileFor(2))), toOne(2, failed(0)), toOne(0, ask), toOne(1, ask), toOne(2, ask)})
	for who, seed := range []int{2, 1} {
		data, _ := impl.TurnFile(fileFor(seed), []impl.OpOp{turn})
		want := []impl.TenOut{{Id: 0, Code: 200, Data: data}, {Id: 1, Code: 200, Data: data}}
		if !sameOuts(list[who].Outs, want) || !sameFiles(list[who].Files, []impl.TenFile{{Path: "a", Data: fileFor(seed)}}) {
			t.Errorf("tenant %d has the file of another one: %v", who, list[who])
		}
	}
	wantCodes(t, list[2], 502)
	wantNumbers(t, "jobs of tenant 2", len(list[2].Jobs), 1)
}

func TestUrlsOfOtherTenants(t *testing.T) {
	all := []impl.TenCfg{withKey(lowest(), []byte("k0")), withKey(lowest(), []byte("k1")), withKey(lowest(), []byte("k2"))}
	for who := range 3 {
		for other, c := range all {
			s := playedByAll(t, all, toOne(who, asked(c, "a")))[who]
			if who == other {
				wantCodes(t, s)
				wantNumbers(t, "jobs", len(s.Jobs), 1)
			} else {
				wantCodes(t, s, 403)
				wantNumbers(t, "tokens", s.Tokens, 1)
			}
		}
	}
}

func TestTheSameEventForEachTenant(t *testing.T) {
	all := threeTimes(config(3, 5, 2, 10, 2, 9))
	want := impl.TenNew(all[0])
	list := impl.HouNew(all)
	for _, e := range []impl.TenEvent{asked(all[0], "a", turn), asked(all[0], "b"), asked(all[0], "c"), replied(0, fileFor(1)), asked(all[0], "a"), failed(1), askedText("/"), {Kind: 6}} {
		want = impl.TenStep(all[0], want, e)
		list = impl.HouRun(all, list, []impl.HouEvent{toOne(2, e), toOne(0, e), toOne(1, e)})
		wantStates(t, e, list, []impl.TenState{want, want, want})
	}
	for _, at := range []int{5, 9, 10, 40} {
		want = impl.TenStep(all[0], want, passed(at))
		list = impl.HouStep(all, list, toAll(at))
		wantStates(t, at, list, []impl.TenState{want, want, want})
	}
}

// HouOf.

// forAnybody are events of all kinds for tenants, for all, and for other numbers; each has a text of its own.
func forAnybody() []impl.HouEvent {
	var list []impl.HouEvent
	for _, who := range append([]int{0, 1, 2, -1}, noTenants()...) {
		for kind := -1; kind <= 5; kind++ {
			e := impl.TenEvent{Kind: kind, Text: fmt.Sprint(who, " ", kind), Id: len(list), Data: filled(len(list)%5, who), At: 200 - len(list)}
			list = append(list, toOne(who, e))
		}
	}
	return list
}

func TestEventsThatConcernATenant(t *testing.T) {
	events := forAnybody()
	for who := range 3 {
		var want []impl.TenEvent
		for _, kind := range []int{-1, 0, 1, 2, 3, 5} {
			want = append(want, events[7*who+kind+1].Do)
		}
		wantEvents(t, who, impl.HouOf(events, who), append(want, events[7*3+4+1].Do))
	}
	wantEvents(t, "all", impl.HouOf(events, impl.HouAll), []impl.TenEvent{events[7*3+4+1].Do})
	for _, who := range []int{-4, 6, 999, -999, 1<<32 + 3} {
		wantEvents(t, who, impl.HouOf(events, who), []impl.TenEvent{events[7*3+4+1].Do})
	}
}

// The chapter allows any number but HouAll, that of a tenant or not, and it leaves the events as they are, whatever is in them.
func TestEventsThatConcernANumber(t *testing.T) {
	events := forAnybody()
	for k, who := range noTenants() {
		want := []impl.TenEvent{events[7*3+4+1].Do}
		for _, kind := range []int{-1, 0, 1, 2, 3, 5} {
			want = append(want, events[7*(4+k)+kind+1].Do)
		}
		wantEvents(t, who, impl.HouOf(events, who), want)
	}
}

func TestEventsOfNoEventsAndOfMany(t *testing.T) {
	for _, who := range append(noTenants(), 0, 1, 2, -1) {
		wantNumbers(t, "events", len(impl.HouOf(nil, who)), 0)
		wantNumbers(t, "events", len(impl.HouOf([]impl.HouEvent{}, who)), 0)
	}
	for _, n := range []int{120, 121, 240, 256, 1000, 100000} {
		events := slices.Repeat([]impl.HouEvent{toOne(1, failed(5)), toAll(4), toOne(2, passed(8))}, n)
		wantNumbers(t, "events of tenant 0", len(impl.HouOf(events, 0)), n)
		wantNumbers(t, "events of tenant 1", len(impl.HouOf(events, 1)), 2*n)
		wantNumbers(t, "events of tenant 2", len(impl.HouOf(events, 2)), n)
		wantNumbers(t, "events of all", len(impl.HouOf(events, -1)), n)
	}
	wantEvents(t, "in order", impl.HouOf([]impl.HouEvent{toAll(9), toOne(1, failed(2)), toAll(3), toOne(1, failed(1)), toAll(9)}, 1), []impl.TenEvent{passed(9), failed(2), passed(3), failed(1), passed(9)})
}

// Invalid arguments.

func wantNoHouse(t *testing.T, all []impl.TenCfg, list []impl.TenState) {
	t.Helper()
	if impl.HouOk(all, list) {
		t.Fatalf("%v are valid for %v", list, all)
	}
	events := []impl.HouEvent{{}, toOne(0, askedText("/")), toOne(2, failed(0)), toOne(1, passed(30)), toAll(30), toOne(5, askedText("/")), toOne(-1, askedText("/"))}
	for _, e := range events {
		if got := impl.HouStep(all, list, e); got != nil {
			t.Fatalf("%v leads from invalid states to %v", e, got)
		}
	}
	for _, n := range []int{0, 1, 7, 120, 121} {
		if got := impl.HouRun(all, list, slices.Repeat(events, 18)[:n]); got != nil {
			t.Fatalf("%d events lead from invalid states to %v", n, got)
		}
	}
}

func TestOtherNumbersOfTenants(t *testing.T) {
	c, s := exampleConfig(), example()
	for n := range 7 {
		for m := range 7 {
			all, list := slices.Repeat([]impl.TenCfg{c}, n), slices.Repeat([]impl.TenState{s}, m)
			if n != 3 || m != 3 {
				wantNoHouse(t, all, list)
				wantNoHouse(t, all, slices.Repeat([]impl.TenState{{}}, m))
			} else if !impl.HouOk(all, list) {
				t.Errorf("%v are invalid", list)
			}
		}
	}
	wantNoHouse(t, nil, nil)
	wantNoHouse(t, threeTimes(c), nil)
	wantNoHouse(t, nil, []impl.TenState{s, s, s})
}

func TestOneInvalidConfiguration(t *testing.T) {
	c, s := exampleConfig(), example()
	for _, wrong := range invalidConfigs() {
		for who := range 3 {
			all := otherThan(threeTimes(c), who, wrong)
			wantNoHouse(t, all, []impl.TenState{s, s, s})
			wantNoHouse(t, all, make([]impl.TenState, 3))
		}
	}
}

// The others are at the time of the invalid state, as far as there is such a time.
func TestOneInvalidState(t *testing.T) {
	all := threeTimes(exampleConfig())
	for _, wrong := range invalidStates() {
		for who := range 3 {
			good := impl.TenState{Clock: min(max(wrong.Clock, 0), 9999)}
			wantNoHouse(t, all, otherThan([]impl.TenState{good, good, good}, who, wrong))
		}
	}
}

func TestStatesThatAreAllInvalid(t *testing.T) {
	all := threeTimes(exampleConfig())
	for _, wrong := range invalidStates() {
		wantNoHouse(t, all, []impl.TenState{wrong, wrong, wrong})
	}
}

func TestStatesAtDifferentTimes(t *testing.T) {
	all := threeTimes(exampleConfig())
	for _, times := range [][]int{{0, 0, 1}, {0, 1, 0}, {1, 0, 0}, {5, 6, 7}, {7, 6, 5}, {20, 20, 21}, {20, 21, 20}, {21, 20, 20}, {21, 21, 20}, {21, 20, 21}, {20, 21, 21}, {9999, 0, 9999}, {9999, 9999, 9998}} {
		var list []impl.TenState
		for _, at := range times {
			list = append(list, impl.TenState{Clock: at})
			if !impl.TenOk(all[0], impl.TenState{Clock: at}) {
				t.Fatalf("no valid state is at %d", at)
			}
		}
		wantNoHouse(t, all, list)
		for who := range list {
			list[who].Clock = times[0]
		}
		if !impl.HouOk(all, list) {
			t.Errorf("%v are invalid", list)
		}
	}
}

// Each state is one of its own configuration, not of another one.
func TestStatesOfTheConfigurationsOfOthers(t *testing.T) {
	c := config(9, 1, 4, 1, 3, 1)
	for who, least := range []impl.TenCfg{config(1, 1, 4, 1, 3, 1), config(9, 1, 1, 1, 3, 1), config(9, 1, 4, 1, 1, 1)} {
		all := otherThan(threeTimes(c), who, least)
		empty := impl.TenState{Clock: 20}
		for place := range 3 {
			list := otherThan([]impl.TenState{empty, empty, empty}, place, example())
			if place == who {
				wantNoHouse(t, all, list)
			} else if !impl.HouOk(all, list) {
				t.Errorf("%v are invalid for %v", list, all)
			}
		}
	}
}

func TestAllValidStatesAtOneTime(t *testing.T) {
	all := threeTimes(exampleConfig())
	for _, s := range validStates() {
		other := impl.TenState{Clock: s.Clock}
		for who := range 3 {
			if list := otherThan([]impl.TenState{other, other, other}, who, s); !impl.HouOk(all, list) {
				t.Errorf("%v are invalid", list)
			}
		}
		if !impl.HouOk(all, []impl.TenState{s, s, s}) {
			t.Errorf("%v is invalid three times", s)
		}
	}
}

// The general rules: arguments are not written to, results are new memory, nothing is kept, and nothing goes on after a call.

func roomyAll(list []impl.TenState) []impl.TenState {
	room := make([]impl.TenState, 0, 9)
	for _, s := range list {
		room = append(room, roomy(s))
	}
	return room
}

func wantUntouchedByAll(t *testing.T, list []impl.TenState, before []impl.TenState) {
	t.Helper()
	wantNumbers(t, "states of an argument", len(list), len(before))
	for who, s := range list {
		wantUntouched(t, s, before[who])
	}
	for _, s := range list[len(list):cap(list)] {
		wantState(t, "behind an argument", s, impl.TenState{})
	}
}

func TestAllTenantsShareNoMemory(t *testing.T) {
	for _, h := range houseHistories() {
		all := append(make([]impl.TenCfg, 0, 9), h.all...)
		for who := range all {
			all[who].Key = append(make([]byte, 0, 99), all[who].Key...)
		}
		wantNew(t, impl.HouNew(all), all)
		for _, k := range h.some() {
			list := roomyAll(h.states[k])
			events := append(make([]impl.HouEvent, 0, 200), h.events[k:]...)
			for n := range events {
				events[n].Do.Data = append(make([]byte, 0, 1100), events[n].Do.Data...)
			}
			wantNew(t, impl.HouRun(all, list, events), all, list, events)
			wantNew(t, impl.HouRun(all, list, nil), all, list)
			wantNew(t, impl.HouStep(all, list, toAll(9999)), all, list)
			for who := -2; who <= 3; who++ {
				wantNew(t, impl.HouOf(events, who), events)
			}
			wantUntouchedByAll(t, list, h.states[k])
			wantUntouchedEvents(t, events, h.events[k:])
			for who, c := range all {
				if !bytes.Equal(c.Key, h.all[who].Key) || !bytes.Equal(c.Key[len(c.Key):cap(c.Key)], make([]byte, cap(c.Key)-len(c.Key))) {
					t.Fatalf("a key is written to: %v", c)
				}
			}
		}
	}
}

func wantUntouchedEvents(t *testing.T, events []impl.HouEvent, before []impl.HouEvent) {
	t.Helper()
	for k, e := range events {
		data := e.Do.Data
		if e.Who != before[k].Who || !sameEvent(e.Do, before[k].Do) || bytes.Count(data[len(data):cap(data)], []byte{0}) != cap(data)-len(data) {
			t.Fatalf("an event is written to: %v", e)
		}
	}
	for _, e := range events[len(events):cap(events)] {
		if e.Who != 0 || !sameEvent(e.Do, impl.TenEvent{}) {
			t.Fatalf("behind the events %v is written", e)
		}
	}
}

// Arguments may have one slice in several places; the results have it in none.
func TestArgumentsThatTenantsShareAreSeparated(t *testing.T) {
	all := threeTimes(exampleConfig())
	s, file := example(), fileFor(1)
	list := []impl.TenState{s, s, s}
	events := []impl.HouEvent{toOne(0, replied(3, file)), toOne(1, replied(3, file)), toOne(2, replied(3, file)), toOne(0, replied(6, file)), toOne(1, asked(all[1], "a1")), toAll(21)}
	for n := range len(events) + 1 {
		got := impl.HouRun(all, list, events[:n])
		wantNew(t, got, all, list, events)
		wantStates(t, n, got, housePlayed(all, list, events[:n]))
	}
	wantNew(t, impl.HouStep(all, list, impl.HouEvent{}), list)
	same := slices.Repeat([]impl.HouEvent{toOne(1, replied(3, file))}, 5)
	wantNew(t, impl.HouOf(same, 1), same)
	wantNew(t, [][]impl.TenEvent{impl.HouOf(same, 1), impl.HouOf(same, 1)}, same)
}

// What is done with a result makes no difference to the next one.
func TestAllTenantsKeepNothing(t *testing.T) {
	for _, h := range houseHistories() {
		wantStates(t, "again", impl.HouRun(h.all, impl.HouNew(h.all), h.events), h.end())
		first := impl.HouRun(h.all, impl.HouNew(h.all), h.events)
		for _, s := range first {
			for k := range s.Files {
				clear(s.Files[k].Data[:cap(s.Files[k].Data)])
			}
			clear(s.Outs[:cap(s.Outs)])
			clear(s.Jobs[:cap(s.Jobs)])
			clear(s.Asked[:cap(s.Asked)])
		}
		clear(first[:cap(first)])
		clear(impl.HouNew(h.all))
		for who := range 3 {
			mine := impl.HouOf(h.events, who)
			for k := range mine {
				clear(mine[k].Data[:cap(mine[k].Data)])
			}
		}
		wantStates(t, "after results were cleared", impl.HouRun(h.all, impl.HouNew(h.all), h.events), h.end())
	}
}

// Many calls at once, with the same arguments, do not disturb each other.
func TestRunsOfAllTenantsAtOnce(t *testing.T) {
	for _, procs := range []int{1, 2, runtime.NumCPU(), 32} {
		before := runtime.GOMAXPROCS(procs)
		var working sync.WaitGroup
		for _, h := range houseHistories() {
			for range 8 {
				working.Go(func() {
					got := impl.HouRun(h.all, impl.HouNew(h.all), h.events)
					if !slices.EqualFunc(got, h.end(), sameState) {
						t.Errorf("among others: %v are not %v", got, h.end())
					}
				})
			}
		}
		working.Wait()
		runtime.GOMAXPROCS(before)
	}
}

// Tenants are goroutines while a call lasts, and no longer. A goroutine needs a moment to end.
func TestNoTenantStaysAtWork(t *testing.T) {
	before := runtime.NumGoroutine()
	for _, h := range houseHistories() {
		impl.HouRun(h.all, impl.HouNew(h.all), h.events)
		impl.HouRun(h.all, h.end(), nil)
		impl.HouStep(h.all, h.end(), impl.HouEvent{})
		impl.HouRun(h.all, h.end(), make([]impl.HouEvent, 121))
		impl.HouRun(h.all[:2], h.end(), h.events)
		impl.HouRun(h.all, h.end()[1:], h.events)
	}
	for range 2000 {
		if runtime.NumGoroutine() <= before {
			return
		}
		time.Sleep(time.Millisecond)
	}
	t.Errorf("there are %d goroutines, not %d", runtime.NumGoroutine(), before)
}
