package tests

import (
	"fmt"
	"math"
	"math/rand/v2"
	"slices"
	"testing"

	"loop.example/easel/impl"
)

// The program against the chapter once more.

func TestRunsOfAllTenantsAreAsDescribed(t *testing.T) {
	for _, h := range houseHistories() {
		want := houseFresh(h.all)
		wantStates(t, "at first", h.states[0], want)
		for k, e := range h.events {
			want = houseStepped(h.all, want, e)
			wantStates(t, e, h.states[k+1], want)
		}
	}
}

func TestAllHousesAreSteppedAsDescribed(t *testing.T) {
	for seed, h := range randomHouses() {
		all, list := h.all, h.end()
		events := randomHouseEvents(all, list, seed, 12)
		want := list
		for _, e := range events {
			next := houseStepped(all, want, e)
			wantStates(t, e, impl.HouStep(all, want, e), next)
			want = next
		}
		wantStates(t, "a run", impl.HouRun(all, list, events), want)
	}
}

// What the other tests are about occurs in the runs often enough.
func TestRunsOfAllTenantsMeetEverything(t *testing.T) {
	met := map[string]int{}
	for _, h := range houseHistories() {
		for k, e := range h.events {
			before, after := h.states[k], h.states[k+1]
			isTime, ofOne := e.Do.Kind == impl.EvTime, e.Who >= 0 && e.Who < 3
			for what, is := range map[string]bool{
				"later, for all":          isTime && e.Who == impl.HouAll && after[0].Clock > before[0].Clock,
				"not later, for all":      isTime && e.Who == impl.HouAll && after[0].Clock == before[0].Clock,
				"later, for one":          isTime && ofOne && e.Do.At > before[0].Clock,
				"time for no tenant":      isTime && !ofOne && e.Who != impl.HouAll,
				"another kind for all":    !isTime && e.Who == impl.HouAll,
				"for no tenant":           !isTime && !ofOne && e.Who != impl.HouAll,
				"an unknown kind":         ofOne && (e.Do.Kind < impl.EvAsk || e.Do.Kind > impl.EvTime),
				"two with one number":     len(before[0].Jobs) > 0 && len(before[1].Jobs) > 0 && before[0].Jobs[0].Id == before[1].Jobs[0].Id,
				"two with one name":       len(before[1].Files) > 0 && len(before[2].Files) > 0 && before[1].Files[0].Path == before[2].Files[0].Path,
				"several late":            isTime && len(after[0].Jobs) < len(before[0].Jobs) && len(after[1].Jobs) < len(before[1].Jobs),
				"different tokens":        before[0].Tokens != before[1].Tokens,
				"tokens for several":      isTime && after[0].Tokens > before[0].Tokens && after[2].Tokens > before[2].Tokens,
				"a request of tenant 0":   e.Who == 0 && e.Do.Kind == impl.EvAsk,
				"a request of tenant 1":   e.Who == 1 && e.Do.Kind == impl.EvAsk,
				"a request of tenant 2":   e.Who == 2 && e.Do.Kind == impl.EvAsk,
				"an original of tenant 0": e.Who == 0 && e.Do.Kind == impl.EvReply && len(after[0].Jobs) < len(before[0].Jobs),
				"an original of tenant 1": e.Who == 1 && e.Do.Kind == impl.EvReply && len(after[1].Jobs) < len(before[1].Jobs),
				"an original of tenant 2": e.Who == 2 && e.Do.Kind == impl.EvReply && len(after[2].Jobs) < len(before[2].Jobs),
				"a failure":               ofOne && e.Do.Kind == impl.EvFail && len(after[e.Who].Jobs) < len(before[e.Who].Jobs),
			} {
				met[what] += map[bool]int{true: 1}[is]
			}
		}
		for who, s := range h.end() {
			for _, out := range s.Outs {
				met[fmt.Sprint(out.Code, " of tenant ", who)]++
			}
		}
	}
	for who := range 3 {
		for _, code := range []int{200, 400, 403, 413, 415, 422, 429, 502, 503, 504} {
			met[fmt.Sprint(code, " of tenant ", who)] += 0
		}
	}
	for what, n := range met {
		if n < 3 {
			t.Errorf("%q is met only %d times", what, n)
		}
	}
}

func TestConstantsOfAllTenants(t *testing.T) {
	if impl.HouMany != 3 || impl.HouAll != -1 {
		t.Errorf("the constants are %d and %d", impl.HouMany, impl.HouAll)
	}
}

// Promise 9: every tenant behaves as if it were alone.

func TestEveryTenantIsAsIfAlone(t *testing.T) {
	for _, h := range houseHistories() {
		for _, k := range h.some() {
			list := impl.HouRun(h.all, impl.HouNew(h.all), h.events[:k])
			wantStates(t, "step by step", h.states[k], list)
			for who, c := range h.all {
				wantState(t, who, list[who], impl.TenRun(c, impl.TenNew(c), impl.HouOf(h.events[:k], who)))
				wantState(t, who, list[who], impl.TenRun(c, impl.TenNew(c), heard(h.events[:k], who)))
			}
		}
	}
}

func TestEveryTenantIsAsIfAloneFromAnyStatesOn(t *testing.T) {
	for seed, h := range randomHouses() {
		all, list := h.all, h.end()
		for n, events := range [][]impl.HouEvent{randomHouseEvents(all, list, seed, 20), nil} {
			end := impl.HouRun(all, list, events)
			wantNumbers(t, "states", len(end), 3)
			for who, c := range all {
				wantState(t, n, end[who], impl.TenRun(c, list[who], impl.HouOf(events, who)))
			}
		}
	}
}

// Promise 10: the events of others may be arbitrary.

// foreign is an event that concerns others than a tenant, or nobody; it is no advance of time for all.
func foreign(rnd *rand.Rand, h houseHistory, who int) impl.HouEvent {
	at := rnd.IntN(len(h.states))
	other := (who + 1 + rnd.IntN(2)) % 3
	e := toOne(other, randomEvent(rnd, h.all[other], h.states[at][other]))
	own := append(doings(h.all[who], h.states[at][who]), impl.TenEvent{Kind: pick(rnd, unknownKinds())})
	switch rnd.IntN(8) {
	case 0: // what is the tenant's own, but concerns another one
		e.Do = pick(rnd, own)
	case 1: // what is the tenant's own, but concerns all, or nobody
		e = toOne(pick(rnd, append(noTenants(), -1, -1, -1)), pick(rnd, own))
	case 2: // time for one alone
		e = toOne(rnd.IntN(3), passed(h.states[at][who].Clock+1+rnd.IntN(20)))
	}
	return e
}

// amongOthers are the events that concern a tenant, and as many others between them as a run has room for.
func amongOthers(rnd *rand.Rand, h houseHistory, who int) []impl.HouEvent {
	var list []impl.HouEvent
	for _, e := range h.events {
		if e.Who == who && e.Do.Kind != impl.EvTime || e.Who == impl.HouAll && e.Do.Kind == impl.EvTime {
			list = append(list, e)
		}
	}
	for len(list) < 120 {
		list = slices.Insert(list, rnd.IntN(len(list)+1), foreign(rnd, h, who))
	}
	return list
}

func TestEventsOfOthersMayBeArbitrary(t *testing.T) {
	rnd := rand.New(rand.NewPCG(5, 6))
	different := 0
	for _, h := range houseHistories() {
		want := h.end()
		for who := range 3 {
			alone := slices.DeleteFunc(slices.Clone(h.events), func(e impl.HouEvent) bool { return e.Who != who && e.Who != impl.HouAll })
			wantState(t, "without others", impl.HouRun(h.all, impl.HouNew(h.all), alone)[who], want[who])
			events := amongOthers(rnd, h, who)
			got := impl.HouRun(h.all, impl.HouNew(h.all), events)
			wantState(t, "among others", got[who], want[who])
			if !sameState(got[(who+1)%3], want[(who+1)%3]) && !sameState(got[(who+2)%3], want[(who+2)%3]) {
				different++
			}
		}
	}
	if different < 50 {
		t.Errorf("both others are in another state only %d times", different)
	}
}

// Promise 47: another tenant's configuration does not matter.

func TestConfigurationsOfOthersDoNotMatter(t *testing.T) {
	different := 0
	for _, h := range houseHistories() {
		for who := range 3 {
			for _, c := range append(configs(), withKey(h.all[who], []byte("another"))) {
				all := otherThan(h.all, who, c)
				got := impl.HouRun(all, impl.HouNew(all), h.events)
				wantStates(t, c, otherThan(got, who, h.end()[who]), h.end())
				wantState(t, c, got[who], impl.TenRun(c, impl.TenNew(c), heard(h.events, who)))
				if !sameState(got[who], h.end()[who]) {
					different++
				}
			}
		}
	}
	if different < 200 {
		t.Errorf("the tenant itself is in another state only %d times", different)
	}
}

// Promise 48: events of two tenants commute.

func TestEventsOfTwoTenantsCommute(t *testing.T) {
	both := 0
	eachHouse(t, func(all []impl.TenCfg, list []impl.TenState) {
		for one := range 3 {
			other := (one + 1) % 3
			more := append(doings(all[one], list[one]), doings(all[other], list[other])...)
			for k, e := range more {
				for _, f := range []impl.TenEvent{e, more[(k+7)%len(more)]} {
					first, second := toOne(one, e), toOne(other, f)
					got := impl.HouRun(all, list, []impl.HouEvent{first, second})
					wantStates(t, []any{first, second}, impl.HouRun(all, list, []impl.HouEvent{second, first}), got)
					wantStates(t, []any{first, second}, impl.HouStep(all, impl.HouStep(all, list, second), first), got)
					if !sameState(got[one], list[one]) && !sameState(got[other], list[other]) {
						both++
					}
				}
			}
		}
	})
	if both < 1000 {
		t.Errorf("both have an effect only %d times", both)
	}
}

// Promises 49 and 53: all states stay valid, and time advances for all.

func TestAllStatesStayValid(t *testing.T) {
	for _, h := range houseHistories() {
		for k, list := range h.states {
			if !impl.HouOk(h.all, list) || len(list) != 3 {
				t.Fatalf("after %d events: %v are invalid", k, list)
			}
			for who, s := range list {
				if !impl.TenOk(h.all[who], s) || s.Clock != list[0].Clock {
					t.Fatalf("after %d events: %v is invalid, or at another time than %v", k, s, list[0])
				}
			}
		}
	}
	for seed, h := range randomHouses() {
		list := h.end()
		for _, e := range randomHouseEvents(h.all, list, seed, 12) {
			if list = impl.HouStep(h.all, list, e); !impl.HouOk(h.all, list) {
				t.Fatalf("%v are invalid after %v", list, e)
			}
		}
	}
}

func TestTimeAdvancesForAll(t *testing.T) {
	wantTime := func(before []impl.TenState, e impl.HouEvent, after []impl.TenState) {
		want := before[0].Clock
		if e.Who == impl.HouAll && e.Do.Kind == impl.EvTime && e.Do.At > want && e.Do.At <= 9999 {
			want = e.Do.At
		}
		for who := range 3 {
			if after[who].Clock != want {
				t.Fatalf("tenant %d is at %d, not at %d, after %v", who, after[who].Clock, want, e)
			}
		}
	}
	for _, h := range houseHistories() {
		for k, e := range h.events {
			wantTime(h.states[k], e, h.states[k+1])
		}
	}
	for seed, h := range randomHouses() {
		list := h.end()
		for _, e := range randomHouseEvents(h.all, list, seed, 12) {
			next := impl.HouStep(h.all, list, e)
			wantTime(list, e, next)
			list = next
		}
	}
}

// Promise 50: all tenants start without requests.

func TestAllTenantsStartWithoutRequests(t *testing.T) {
	for _, all := range houseConfigs() {
		list := impl.HouNew(all)
		wantStates(t, all, list, houseFresh(all))
		for who, c := range all {
			wantState(t, all, list[who], impl.TenNew(c))
		}
		if !impl.HouOk(all, list) {
			t.Errorf("%v are invalid at first", list)
		}
	}
}

func TestFewerOrMoreTenants(t *testing.T) {
	for _, n := range []int{0, 1, 2, 4, 5, 6, 256 + 3, 1000} {
		for _, c := range []impl.TenCfg{lowest(), highest(), {}} {
			if got := impl.HouNew(slices.Repeat([]impl.TenCfg{c}, n)); got != nil {
				t.Errorf("%d tenants start with %v", n, got)
			}
		}
	}
	if got := impl.HouNew(nil); got != nil {
		t.Errorf("no tenants start with %v", got)
	}
}

func TestInvalidTenantsDoNotStart(t *testing.T) {
	for _, wrong := range invalidConfigs() {
		for who := range 3 {
			for _, all := range [][]impl.TenCfg{houseConfigs()[0], houseConfigs()[2], {wrong, wrong, wrong}} {
				if got := impl.HouNew(otherThan(all, who, wrong)); got != nil {
					t.Fatalf("tenant %d is %v, and all start with %v", who, wrong, got)
				}
			}
		}
	}
}

// Promise 51: runs of all tenants can be split.

func TestRunsOfAllTenantsCanBeSplit(t *testing.T) {
	for _, h := range houseHistories() {
		for k := 0; k <= len(h.events); k += 5 {
			wantStates(t, "a run", impl.HouRun(h.all, h.states[0], h.events[:k]), h.states[k])
			wantStates(t, "the rest of a run", impl.HouRun(h.all, h.states[k], h.events[k:]), h.end())
		}
		wantStates(t, "a whole run", impl.HouRun(h.all, impl.HouNew(h.all), h.events), h.end())
	}
}

func TestEmptyRunsOfAllTenants(t *testing.T) {
	eachHouse(t, func(all []impl.TenCfg, list []impl.TenState) {
		wantStates(t, "no events", impl.HouRun(all, list, nil), list)
		wantStates(t, "no events", impl.HouRun(all, list, []impl.HouEvent{}), list)
	})
}

// Promise 52: each event concerns its tenant.

func TestEachEventConcernsItsTenant(t *testing.T) {
	for _, h := range houseHistories() {
		concerning, advances := 0, 0
		for _, e := range h.events {
			switch {
			case e.Do.Kind != impl.EvTime && e.Who >= 0 && e.Who < 3:
				concerning++
			case e.Do.Kind == impl.EvTime && e.Who == impl.HouAll:
				advances++
			}
		}
		together := 0
		for who := range 3 {
			mine := impl.HouOf(h.events, who)
			wantEvents(t, who, mine, heard(h.events, who))
			together += len(slices.DeleteFunc(mine, func(e impl.TenEvent) bool { return e.Kind == impl.EvTime }))
		}
		wantNumbers(t, "events that concern tenants", together, concerning)
		wantNumbers(t, "advances of time", len(impl.HouOf(h.events, impl.HouAll)), advances)
	}
}

func TestNumbersThatAreNoTenantHaveTheAdvancesOnly(t *testing.T) {
	for _, h := range houseHistories() {
		var advances []impl.TenEvent
		for _, e := range h.events {
			if e.Who == impl.HouAll && e.Do.Kind == impl.EvTime {
				advances = append(advances, e.Do)
			}
		}
		wantEvents(t, "all", impl.HouOf(h.events, impl.HouAll), advances)
		for _, who := range append(noTenants(), 1000, -1000) {
			others := slices.DeleteFunc(slices.Clone(h.events), func(e impl.HouEvent) bool { return e.Who == who })
			wantEvents(t, who, impl.HouOf(others, who), advances)
		}
	}
}

// Promise 90: events for no tenant change nothing.

func TestEventsForNoTenantChangeNothing(t *testing.T) {
	numbers := noTenants()
	eachHouse(t, func(all []impl.TenCfg, list []impl.TenState) {
		for who, c := range all {
			for _, e := range append(doings(c, list[who]), passed(list[0].Clock+1), passed(9999), impl.TenEvent{Kind: 5}) {
				numbers = append(numbers[1:], numbers[0])
				wantUnchanged(t, all, list, toOne(numbers[0], e))
				if e.Kind != impl.EvTime {
					wantUnchanged(t, all, list, toOne(impl.HouAll, e))
				}
			}
		}
	})
}

func TestTimeForOneTenantAloneChangesNothing(t *testing.T) {
	eachHouse(t, func(all []impl.TenCfg, list []impl.TenState) {
		now := list[0].Clock
		for who, c := range all {
			for _, at := range []int{now - 1, now, now + 1, now + c.Every, now + c.Wait, now + 1000, 9999, 10000, 0, -1, math.MinInt, math.MaxInt} {
				wantUnchanged(t, all, list, toOne(who, passed(at)))
			}
		}
	})
}

// Promise 91: the numbering of tenants does not matter.

// movedOn moves what each tenant has on to the next one.
func movedOn[T any](list []T) []T {
	return []T{list[2], list[0], list[1]}
}

func eventsMovedOn(events []impl.HouEvent) []impl.HouEvent {
	var list []impl.HouEvent
	for _, e := range events {
		if e.Who >= 0 && e.Who < 3 {
			e.Who = (e.Who + 1) % 3
		}
		list = append(list, e)
	}
	return list
}

func TestTheNumberingOfTenantsDoesNotMatter(t *testing.T) {
	for _, h := range houseHistories() {
		all, events, want := h.all, h.events, h.end()
		for range 3 {
			all, events, want = movedOn(all), eventsMovedOn(events), movedOn(want)
			wantStates(t, "moved on", impl.HouRun(all, impl.HouNew(all), events), want)
		}
	}
}

// Promise 103: a time that is not later changes nothing.

func TestTimesForAllThatAreNotLater(t *testing.T) {
	eachHouse(t, func(all []impl.TenCfg, list []impl.TenState) {
		now := list[0].Clock
		for _, at := range []int{now, now - 1, now - 2, 0, -1, now - 1<<32, math.MinInt, 10000, 10001, now + 1<<32, 1<<62 + now + 1, math.MaxInt} {
			wantUnchanged(t, all, list, toAll(at))
		}
	})
}

func TestTimesForAllThatAreLater(t *testing.T) {
	eachHouse(t, func(all []impl.TenCfg, list []impl.TenState) {
		now := list[0].Clock
		for _, at := range []int{now + 1, now + 2, now + all[0].Every, now + all[1].Wait, now + all[2].Ttl, 9998, 9999} {
			if at <= now || at > 9999 {
				continue
			}
			next := impl.HouStep(all, list, toAll(at))
			wantNumbers(t, "states", len(next), 3)
			for who, s := range next {
				wantNumbers(t, fmt.Sprint("time of tenant ", who), s.Clock, at)
				wantState(t, at, s, impl.TenStep(all[who], list[who], passed(at)))
			}
		}
	})
}
