package tests

import (
	"math"
	"slices"
	"testing"

	"loop.example/cerberus/impl"
)

// eventsFor is events of all kinds, by and for all who there are, and those who there are not, and with words of all sorts.
func eventsFor(w impl.World) []impl.Event {
	var all []impl.Event
	for _, kind := range []int{1, 2, 3} {
		for _, user := range []int{-1, 0, 1, 2, 3, 4} {
			for _, serv := range []int{0, 3, 4, 5, 6} {
				all = append(all, impl.Event{Kind: kind, A: user, B: serv, Msg: fewMsgs()[1]})
			}
		}
	}
	for _, place := range append(upTo(-2, len(w.Log)+1), math.MinInt, math.MaxInt) {
		all = append(all, bring(place))
	}
	for _, m := range forgingsFor(w) {
		all = append(all, forge(m))
	}
	for _, serv := range []int{math.MinInt, -1, 0, 1, 3, 4, 5, 6, 7, math.MaxInt} {
		all = append(all, fall(serv), impl.Event{Kind: 7, A: 4, B: serv, Msg: fewMsgs()[0]})
	}
	all = append(all, tick(), impl.Event{Kind: 6, A: 2, B: 4})
	return append(all, noEvents()...)
}

// noEvents is events of no kind.
func noEvents() []impl.Event {
	var all []impl.Event
	for _, kind := range []int{math.MinInt, -1, 0, 8, 9, 256 + 6, math.MaxInt} {
		for _, n := range []int{0, 1, 4} {
			all = append(all, impl.Event{Kind: kind, A: n, B: n + 3}, impl.Event{Kind: kind, A: n, B: 4, Msg: fewMsgs()[0]})
		}
	}
	return all
}

// forgingsFor is words that who hears all has heard, can make, and cannot make, and ones that are not in form.
func forgingsFor(w impl.World) []impl.Msg {
	all := joined(fewMsgs(), bentForms(), w.Log[:min(len(w.Log), 9)])
	for user := 1; user <= 3; user++ {
		all = append(all, asAsk(user, 1), asAsk(user, 60), asAsk(user, 61))
	}
	seals := joined(sentSealsWanted(w), makeSeals())
	for i := 0; i < len(seals); i += 1 + len(seals)/24 {
		s, other := seals[i], seals[(i*7+3)%len(seals)]
		all = append(all, impl.Msg{Kind: impl.MsgApBack, Client: 1 + i%3, Seals: []impl.Seal{s}}, apAsk(4+i%2, other, s), tgsAsk(5-i%2, 60-i%60, s, other))
	}
	return all
}

// isStep says whether a world can be one event behind another one: it says nothing of what happened.
func isStep(before, after impl.World) bool {
	grown := len(after.Log) - len(before.Log)
	later := after.Now - before.Now
	return impl.WorldOk(after) && within(grown, 0, 1) && slices.EqualFunc(before.Log, after.Log[:len(before.Log)], sameMsg) &&
		within(later, 0, 1) && after.Kdc.Next >= before.Kdc.Next && after.Bad == before.Bad
}

func TestWorldOk(t *testing.T) {
	for _, w := range goodWorlds() {
		if !impl.WorldOk(w) || !worldOkWanted(w) {
			t.Errorf("WorldOk(%v) = false", w)
		}
	}
	for _, bad := range wrongWorlds() {
		if impl.WorldOk(bad.world) || worldOkWanted(bad.world) {
			t.Errorf("%s: WorldOk(%v) = true", bad.why, bad.world)
		}
	}
}

// Each limit of a world, met exactly, and one beside it.
func TestWorldLimits(t *testing.T) {
	with := func(change func(w *impl.World)) bool {
		w := busyWorld(1)
		change(&w)
		return impl.WorldOk(w)
	}
	for _, n := range upTo(-3, 163) {
		for _, c := range []struct {
			what      string
			got, want bool
		}{
			{"Now", with(func(w *impl.World) { w.Now = n }), within(n, 0, 100)},
			{"Bad", with(func(w *impl.World) { w.Bad = n }), within(n, 0, 3)},
			{"Next", with(func(w *impl.World) { w.Kdc.Next = n }), within(n, 10, 61)},
			{"so many words", with(func(w *impl.World) { *w = withLog(*w, n) }), n <= 80},
			{"so many users", with(func(w *impl.World) { w.Clients = repeated(w.Clients, n) }), n == 3},
			{"so many services", with(func(w *impl.World) { w.Servs = repeated(w.Servs, n) }), n == 2},
			{"the first user", with(func(w *impl.World) { w.Clients[0].Id = n }), n == 1},
			{"the last user", with(func(w *impl.World) { w.Clients[2].Id = n }), n == 3},
			{"the first service", with(func(w *impl.World) { w.Servs[0].Id = n }), n == 4},
			{"the last service", with(func(w *impl.World) { w.Servs[1].Id = n }), n == 5},
			{"the number of a user", with(func(w *impl.World) { w.Clients[1].Num = n }), within(n, 20, 60)},
			{"since when a service is up", with(func(w *impl.World) { w.Servs[1].Since = n }), within(n, -1, 100)},
			{"who is told to", with(func(w *impl.World) { w.Log[len(w.Log)-1].Client = n }), within(n, 1, 3)},
		} {
			if c.got != c.want {
				t.Errorf("%s %d: WorldOk = %v", c.what, n, c.got)
			}
		}
	}
}

// repeated is so many of a list, from its beginning on again and again.
func repeated[T any](list []T, count int) []T {
	var all []T
	for i := range max(0, count) {
		all = append(all, list[i%len(list)])
	}
	return all
}

// All that can happen in worlds of all sorts.
func TestDoCases(t *testing.T) {
	changed := map[int]int{}
	same := map[int]int{}
	for _, w := range goodWorlds() {
		for _, e := range eventsFor(w) {
			if after := checkDo(t, w, e); sameWorld(after, w) {
				same[e.Kind]++
			} else {
				changed[e.Kind]++
			}
		}
	}
	for kind := 1; kind <= 7; kind++ {
		if changed[kind] < 10 || same[kind] < 10 {
			t.Errorf("of kind %d: %d change a world, %d do not", kind, changed[kind], same[kind])
		}
	}
}

// All that happens in plays.
func TestPlaySteps(t *testing.T) {
	count := map[int]int{}
	for _, p := range allPlays() {
		for i, e := range p.events {
			if want := doWanted(p.worlds[i], e); !sameWorld(p.worlds[i+1], want) {
				t.Errorf("%s, %d: WorldDo(%v, %v) = %v; want %v", p.name, i, p.worlds[i], e, p.worlds[i+1], want)
			}
			if !sameWorld(p.worlds[i], p.worlds[i+1]) {
				count[e.Kind]++
			}
		}
	}
	if count[1] < 400 || count[2] < 200 || count[3] < 200 || count[4] < 1000 || count[5] < 400 || count[6] < 500 || count[7] < 100 || len(count) != 7 {
		t.Errorf("of all %v", count)
	}
}

func TestMeetCases(t *testing.T) {
	met := 0
	for _, w := range append(goodWorlds(), ends()...) {
		for _, user := range []int{0, 1, 2, 3, 4} {
			for _, serv := range []int{3, 4, 5, 6} {
				if after := checkMeet(t, w, user, serv); userWanted(user) && len(userOf(after, user).Met) > len(userOf(w, user).Met) {
					met++
				}
			}
		}
	}
	for _, n := range []int{math.MinInt, -1, 0, 4, 5, 6, math.MaxInt} {
		checkMeet(t, busyWorld(1), n, 4)
		checkMeet(t, busyWorld(1), 2, n)
		checkMeet(t, newWorld(0), n, n)
	}
	if met < 800 {
		t.Errorf("of all %d met", met)
	}
}

// Nothing of a world that is not ok, whatever happens in it, whoever meets there.
func TestWorldWrong(t *testing.T) {
	for _, bad := range wrongWorlds() {
		if seals, keys := impl.WorldSeals(bad.world), impl.WorldKeys(bad.world); len(seals) != 0 || len(keys) != 0 {
			t.Errorf("%s: of %v %v are sent, %v are known", bad.why, bad.world, seals, keys)
		}
		for _, e := range []impl.Event{evAs(1), evAs(2), evTgs(2, 4), evAp(3, 5), bring(0), bring(1), forge(asAsk(1, 1)), tick(), fall(4), {}, {Kind: 8}} {
			if after := impl.WorldDo(bad.world, e); !emptyWorld(after) {
				t.Errorf("%s: WorldDo(%v, %v) = %v", bad.why, bad.world, e, after)
			}
		}
		for _, user := range []int{0, 1, 2, 3, 4} {
			if after := impl.WorldMeet(bad.world, user, 3+user); !emptyWorld(after) {
				t.Errorf("%s: WorldMeet(%v, %d, %d) = %v", bad.why, bad.world, user, 3+user, after)
			}
		}
	}
}

// P71: WorldNew is ok, nothing was sent, the time is 0; who hears all has just the bad user's key.
func TestP71New(t *testing.T) {
	for _, bad := range append(oddNumbers(), upTo(-2, 70)...) {
		w, ok := impl.WorldNew(bad)
		if ok != within(bad, 0, 3) || !ok && !emptyWorld(w) {
			t.Errorf("WorldNew(%d) = %v, %v", bad, w, ok)
		}
	}
	for bad := 0; bad <= 3; bad++ {
		w, ok := impl.WorldNew(bad)
		if !ok || !impl.WorldOk(w) || !sameWorld(w, newWorld(bad)) || len(w.Log) != 0 || w.Now != 0 {
			t.Errorf("WorldNew(%d) = %v, %v", bad, w, ok)
		}
		if keys := impl.WorldKeys(w); !slices.Equal(keys, ownKeys(bad)) || len(impl.WorldSeals(w)) != 0 {
			t.Errorf("WorldKeys(%v) = %v", w, keys)
		}
	}
}

// P72: WorldDo is ok; at most one word more was sent, all others before; the time is the same, or one later; keys are made
// in order.
func TestP72Do(t *testing.T) {
	for _, w := range goodWorlds() {
		for _, e := range eventsFor(w) {
			if after := impl.WorldDo(w, e); !isStep(w, after) {
				t.Errorf("WorldDo(%v, %v) = %v", w, e, after)
			}
		}
	}
	for _, p := range allPlays() {
		for i := range p.events {
			if !isStep(p.worlds[i], p.worlds[i+1]) {
				t.Errorf("%s: behind %v %v is %v", p.name, p.events[i], p.worlds[i], p.worlds[i+1])
			}
		}
	}
}

// P73: WorldSeals are just the seals of words that were sent, each once, in order.
func TestP73Seals(t *testing.T) {
	most := 0
	for _, w := range append(goodWorlds(), someWorlds()...) {
		got := impl.WorldSeals(w)
		if want := sentSealsWanted(w); !slices.Equal(got, want) {
			t.Errorf("WorldSeals(%v) = %v; want %v", w, got, want)
		}
		most = max(most, len(got))
		rest := got
		for _, m := range w.Log {
			for _, s := range m.Seals {
				if !slices.Contains(got, s) {
					t.Errorf("%v is not among WorldSeals(%v)", s, w)
				}
				if len(rest) > 0 && rest[0] == s {
					rest = rest[1:]
				}
			}
		}
		if len(rest) != 0 {
			t.Errorf("of WorldSeals(%v) %v were not sent in this order", w, rest)
		}
	}
	if most < 40 {
		t.Errorf("at most %d seals", most)
	}
}

// P74: WorldKeys is KnowKeys of the bad user's key, and WorldSeals; it grows by nothing that he makes.
func TestP74Keys(t *testing.T) {
	some, forged := 0, 0
	for _, w := range append(goodWorlds(), fewWorlds()...) {
		got := impl.WorldKeys(w)
		if !slices.Equal(got, impl.KnowKeys(ownKeys(w.Bad), impl.WorldSeals(w))) || !slices.Equal(got, badKeysWanted(w)) {
			t.Errorf("WorldKeys(%v) = %v; want %v", w, got, badKeysWanted(w))
		}
		if len(got) > 1 {
			some++
		}
		for _, m := range forgingsFor(w) {
			after := impl.WorldDo(w, forge(m))
			forged += len(after.Log) - len(w.Log)
			if keys := impl.WorldKeys(after); !slices.Equal(keys, got) {
				t.Errorf("behind %v WorldKeys(%v) is %v; it was %v", m, w, keys, got)
			}
		}
	}
	if some < 30 || forged < 1000 {
		t.Errorf("of some %d, forged %d", some, forged)
	}
}

// P75: WorldPlay is WorldDo of each event, from WorldNew on.
func TestP75Play(t *testing.T) {
	for _, p := range allPlays() {
		for _, count := range []int{0, 1, len(p.events) / 2, len(p.events)} {
			w, ok := impl.WorldPlay(p.bad, p.events[:min(count, len(p.events))])
			if !ok || !sameWorld(w, p.worlds[min(count, len(p.events))]) {
				t.Errorf("%s: WorldPlay(%d, %v) = %v, %v; want %v", p.name, p.bad, p.events[:count], w, ok, p.worlds[count])
			}
		}
	}
	events := []impl.Event{evAs(1), bring(0), bring(1), evTgs(1, 4), bring(2), bring(3), evAp(1, 4), bring(4), bring(5)}
	for _, bad := range append(oddNumbers(), upTo(-2, 8)...) {
		for _, count := range []int{0, 1, 9, 68, 69, 70, 71, 72, 140, 700} {
			w, ok := impl.WorldPlay(bad, repeated(events, count))
			if ok != (within(bad, 0, 3) && count <= 70) || !ok && !emptyWorld(w) {
				t.Errorf("WorldPlay(%d) of %d events = %v, %v", bad, count, w, ok)
			}
		}
	}
	if w, ok := impl.WorldPlay(2, ticks(70)); !ok || w.Now != 70 {
		t.Errorf("behind 70 ticks there is %v, %v", w, ok)
	}
}

// P84: EvForge sends a word just if KnowBuild of the bad user's key, and WorldSeals, is true of it, and there is room;
// nothing else changes.
func TestP84Forge(t *testing.T) {
	sent, lost, not := 0, 0, 0
	for _, w := range append(goodWorlds(), fewWorlds()...) {
		for _, m := range forgingsFor(w) {
			after := impl.WorldDo(w, forge(m))
			want := ownWorld(w)
			switch can := impl.KnowBuild(ownKeys(w.Bad), impl.WorldSeals(w), m); {
			case can && len(w.Log) < 80:
				want.Log = append(want.Log, m)
				sent++
			case can:
				lost++
			default:
				not++
			}
			if !sameWorld(after, want) {
				t.Errorf("WorldDo(%v, forge %v) = %v; want %v", w, m, after, want)
			}
		}
	}
	if sent < 1000 || lost < 100 || not < 1000 {
		t.Errorf("sent %d, lost %d, not made %d", sent, lost, not)
	}
}

// P85: An event of no kind, of a user, a service, or a word, that there is none of, and what the bad user would do as an
// honest one, change nothing.
func TestP85ChangesNothing(t *testing.T) {
	for _, w := range append(goodWorlds(), ends()...) {
		events := append(noEvents(), bring(-1), bring(len(w.Log)), bring(len(w.Log)+1), bring(math.MinInt), bring(math.MaxInt))
		for _, n := range []int{math.MinInt, -1, 0, 4, 5, 6, 10, math.MaxInt, w.Bad} {
			events = append(events, evAs(n), evTgs(n, 4), evTgs(n, 5), evAp(n, 4), evAp(n, 5))
		}
		for _, n := range []int{math.MinInt, -1, 0, 1, 2, 3, 6, 7, math.MaxInt} {
			events = append(events, fall(n), evTgs(1, n), evTgs(2, n), evTgs(3, n), evAp(1, n), evAp(2, n), evAp(3, n))
		}
		for _, e := range events {
			if after := impl.WorldDo(w, e); !sameWorld(after, w) {
				t.Errorf("WorldDo(%v, %v) = %v", w, e, after)
			}
		}
	}
}

// P88: EvTick is one later, at most TimeMax; nothing else changes.
func TestP88Tick(t *testing.T) {
	for _, w := range append(goodWorlds(), fewWorlds()...) {
		for now := 0; now <= 100; now += 1 + now%7 {
			before := ownWorld(w)
			before.Now = now
			want := ownWorld(before)
			want.Now = min(now+1, 100)
			if after := impl.WorldDo(before, tick()); !sameWorld(after, want) {
				t.Errorf("WorldDo(%v, tick) = %v", before, after)
			}
		}
	}
	w := newWorld(1)
	for now := 1; now <= 104; now++ {
		if w = impl.WorldDo(w, tick()); w.Now != min(now, 100) {
			t.Errorf("behind %d ticks the time is %d", now, w.Now)
		}
	}
}

// P103: By EvAs, EvTgs and EvAp of a user all other users, services, and who gives tickets stay as they were, and the time.
func TestP103Asks(t *testing.T) {
	changed := 0
	for _, w := range append(goodWorlds(), ends()...) {
		for user := 0; user <= 4; user++ {
			for serv := 3; serv <= 6; serv++ {
				for _, e := range []impl.Event{evAs(user), evTgs(user, serv), evAp(user, serv)} {
					after := impl.WorldDo(w, e)
					want := ownWorld(w)
					want.Log = after.Log
					if userWanted(user) {
						want.Clients[user-1] = after.Clients[user-1]
					}
					if !sameWorld(after, want) {
						t.Errorf("WorldDo(%v, %v) = %v", w, e, after)
					}
					changed += len(after.Log) - len(w.Log)
				}
			}
		}
	}
	if changed < 1000 {
		t.Errorf("of all %d change something", changed)
	}
}

// P104: By EvBring of a word to who gives tickets no user, and no service, changes; to a service just that; to a user just he.
func TestP104Bring(t *testing.T) {
	changed := map[int]int{}
	for _, w := range append(goodWorlds(), someWorlds()...) {
		for place, m := range w.Log {
			after := impl.WorldDo(w, bring(place))
			want := ownWorld(w)
			want.Log = after.Log
			switch m.Kind {
			case impl.MsgAsAsk, impl.MsgTgsAsk:
				want.Kdc = after.Kdc
			case impl.MsgApAsk:
				want.Servs[m.Serv-4] = after.Servs[m.Serv-4]
			default:
				want.Clients[m.Client-1] = after.Clients[m.Client-1]
			}
			if !sameWorld(after, want) || m.Client == w.Bad && m.Kind%2 == 0 && !sameWorld(after, w) {
				t.Errorf("WorldDo(%v, bring %v) = %v", w, m, after)
			}
			if !sameWorld(after, w) {
				changed[m.Kind]++
			}
		}
	}
	for kind := 1; kind <= 6; kind++ {
		if changed[kind] < 50 {
			t.Errorf("of kind %d %d change something", kind, changed[kind])
		}
	}
}
