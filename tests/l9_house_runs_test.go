package tests

import (
	"fmt"
	"math"
	"math/rand/v2"
	"slices"
	"sync"
	"testing"

	"loop.example/easel/impl"
)

// Tenants and their events.

func toOne(who int, e impl.TenEvent) impl.HouEvent {
	return impl.HouEvent{Who: who, Do: e}
}

func toAll(at int) impl.HouEvent {
	return impl.HouEvent{Who: impl.HouAll, Do: passed(at)}
}

// noTenants are numbers that are no tenant, and not HouAll.
func noTenants() []int {
	return []int{-2, -3, 3, 4, 5, 7, -255, 255, 256, 257, 1<<32 - 1, 1 << 32, 1<<32 + 1, 1<<32 + 2, -1 << 32, math.MinInt, math.MinInt + 1, math.MaxInt}
}

// unknownKinds are kinds that no event has.
func unknownKinds() []int {
	return []int{0, -1, -4, 5, 8, 255, 256, 260, 1<<32 + 1, 1<<32 + 4, math.MinInt, math.MaxInt}
}

// houseConfigs are three configurations each: alike, or different in the key, or in all.
func houseConfigs() [][]impl.TenCfg {
	quick := config(9, 1, 4, 6, 3, 8)
	list := [][]impl.TenCfg{
		{quick, quick, quick}, {withKey(quick, nil), withKey(quick, []byte("k1")), withKey(quick, filled(32, 2))}, {lowest(), highest(), lowest()}, {highest(), highest(), lowest()},
	}
	some := configs()
	for k := range some {
		list = append(list, []impl.TenCfg{some[k], some[(k+3)%len(some)], some[(k+7)%len(some)]})
	}
	return list
}

// otherThan changes one of several configurations, or of several states.
func otherThan[T any](list []T, at int, value T) []T {
	list = slices.Clone(list)
	list[at] = value
	return list
}

// The chapter once more, for comparison.

func houseFresh(all []impl.TenCfg) []impl.TenState {
	var list []impl.TenState
	for _, c := range all {
		list = append(list, fresh(c))
	}
	return list
}

// houseStepped are valid states after an event, as the chapter describes it.
func houseStepped(all []impl.TenCfg, list []impl.TenState, e impl.HouEvent) []impl.TenState {
	var next []impl.TenState
	for who, s := range list {
		if e.Who == -1 && e.Do.Kind == 4 || e.Who == who && e.Do.Kind != 4 {
			next = append(next, stepped(all[who], s, e.Do))
		} else {
			next = append(next, copied(s))
		}
	}
	return next
}

func housePlayed(all []impl.TenCfg, list []impl.TenState, events []impl.HouEvent) []impl.TenState {
	for _, e := range events {
		list = houseStepped(all, list, e)
	}
	return list
}

// heard are the events that HouOf returns, as the chapter describes it.
func heard(events []impl.HouEvent, who int) []impl.TenEvent {
	var list []impl.TenEvent
	for _, e := range events {
		ofOne := who != -1 && e.Who == who && e.Do.Kind != 4
		ofAll := e.Who == -1 && e.Do.Kind == 4
		if ofOne || ofAll {
			list = append(list, e.Do)
		}
	}
	return list
}

func sameEvent(a impl.TenEvent, b impl.TenEvent) bool {
	return a.Kind == b.Kind && a.Text == b.Text && a.Id == b.Id && string(a.Data) == string(b.Data) && a.At == b.At
}

func wantEvents(t *testing.T, what any, got []impl.TenEvent, want []impl.TenEvent) {
	t.Helper()
	if !slices.EqualFunc(got, want, sameEvent) {
		t.Fatalf("%v:\n%v are not\n%v", what, got, want)
	}
}

func wantStates(t *testing.T, what any, got []impl.TenState, want []impl.TenState) {
	t.Helper()
	if len(got) != len(want) {
		t.Fatalf("%v: %d states, not %d", what, len(got), len(want))
	}
	for who := range want {
		wantState(t, fmt.Sprint("tenant ", who, ": ", what), got[who], want[who])
	}
}

// wantUnchanged checks that an event changes nothing, alone and between others.
func wantUnchanged(t *testing.T, all []impl.TenCfg, list []impl.TenState, e impl.HouEvent) {
	t.Helper()
	wantStates(t, e, impl.HouStep(all, list, e), list)
	wantStates(t, e, impl.HouRun(all, list, []impl.HouEvent{e}), list)
	for who := range 3 {
		ask := toOne(who, askedText("/"))
		wantStates(t, e, impl.HouRun(all, list, []impl.HouEvent{e, ask, e}), impl.HouStep(all, list, ask))
	}
}

// Runs from HouNew on.

// houseHistory is a run: states[k] are the states before events[k].
type houseHistory struct {
	all    []impl.TenCfg
	events []impl.HouEvent
	states [][]impl.TenState
}

func (h houseHistory) end() []impl.TenState {
	return h.states[len(h.states)-1]
}

// some are a few of the places in a run, the first one and the last one among them.
func (h houseHistory) some() []int {
	var list []int
	for k := 0; k < len(h.events); k += 13 {
		list = append(list, k)
	}
	return append(list, len(h.events))
}

// randomHouseEvent is mostly one that has an effect; time mostly advances for all.
func randomHouseEvent(rnd *rand.Rand, all []impl.TenCfg, list []impl.TenState) impl.HouEvent {
	who := rnd.IntN(3)
	e := toOne(who, randomEvent(rnd, all[who], list[who]))
	switch {
	case rnd.IntN(16) == 0:
		e.Who = pick(rnd, append(noTenants(), -1, -1, -1))
	case e.Do.Kind == impl.EvTime && rnd.IntN(4) > 0:
		e.Who = impl.HouAll
	}
	return e
}

// randomHouseEvents are chosen by the states that the chapter describes, so that they do not depend on the program.
func randomHouseEvents(all []impl.TenCfg, list []impl.TenState, seed int, n int) []impl.HouEvent {
	rnd := rand.New(rand.NewPCG(uint64(seed), 9))
	var events []impl.HouEvent
	for range n {
		e := randomHouseEvent(rnd, all, list)
		events = append(events, e)
		list = houseStepped(all, list, e)
	}
	return events
}

// randomHouse are valid states at one time, but seldom ones that a run leads to.
func randomHouse(rnd *rand.Rand, all []impl.TenCfg) []impl.TenState {
	list := []impl.TenState{randomState(rnd, all[0])}
	for len(list) < 3 {
		if s := randomState(rnd, all[len(list)]); s.Clock == list[0].Clock {
			list = append(list, s)
		}
	}
	return list
}

// playedHouse performs a run with the program, one event at a time.
func playedHouse(all []impl.TenCfg, events []impl.HouEvent) houseHistory {
	h := houseHistory{all: all, events: events, states: [][]impl.TenState{impl.HouNew(all)}}
	for _, e := range events {
		h.states = append(h.states, impl.HouStep(all, h.end(), e))
	}
	return h
}

// houseHistories are random runs of all tenants.
var houseHistories = sync.OnceValue(func() []houseHistory {
	var list []houseHistory
	for k, all := range houseConfigs() {
		for seed, n := range []int{1, 25, 60, 120, 120} {
			list = append(list, playedHouse(all, randomHouseEvents(all, houseFresh(all), 100*k+seed, n)))
		}
	}
	return list
})

// randomHouses are states that need not come from a run, with their configurations.
var randomHouses = sync.OnceValue(func() []houseHistory {
	rnd := rand.New(rand.NewPCG(1, 10))
	var list []houseHistory
	for _, all := range houseConfigs() {
		for range 6 {
			list = append(list, houseHistory{all: all, states: [][]impl.TenState{randomHouse(rnd, all)}})
		}
	}
	return list
})

// eachHouse checks states of runs, and some that do not come from a run.
func eachHouse(t *testing.T, check func(all []impl.TenCfg, list []impl.TenState)) {
	t.Helper()
	for _, h := range houseHistories() {
		for _, k := range h.some() {
			check(h.all, h.states[k])
		}
	}
	for _, h := range randomHouses() {
		check(h.all, h.end())
	}
}

// doings are events of each kind for a tenant that do something where anything can be done; its jobs are met.
func doings(c impl.TenCfg, s impl.TenState) []impl.TenEvent {
	id := 0
	if len(s.Jobs) > 0 {
		id = s.Jobs[0].Id
	}
	return []impl.TenEvent{askedText("/"), asked(c, "a", turn), asked(c, "b"), replied(id, fileFor(4)), replied(id, nil), failed(id)}
}
