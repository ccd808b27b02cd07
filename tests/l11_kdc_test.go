package tests

import (
	"math/rand"
	"slices"
	"testing"

	"loop.example/cerberus/impl"
)

// checkCache holds what is remembered against the document.
func checkCache(t *testing.T, cache []impl.Seal, auth impl.Seal, now int) bool {
	t.Helper()
	got, ok := impl.CacheWith(cache, auth, now)
	want, wantOk := cacheWanted(cache, auth, now)
	if ok != wantOk || !slices.Equal(got, want) {
		t.Errorf("CacheWith(%v, %v, %d) = %v, %v; want %v, %v", cache, auth, now, got, ok, want, wantOk)
	}
	return ok
}

// checkAs holds what KdcAs answers against the document, and hands it on.
func checkAs(t *testing.T, k impl.Kdc, m impl.Msg, now int) (impl.Kdc, impl.Msg, bool) {
	t.Helper()
	after, answer, ok := impl.KdcAs(k, m, now)
	wantAfter, wantText := asWanted(k, m, now)
	if !sameKdc(after, wantAfter) || impl.MsgText(answer) != wantText || ok != (wantText != "") || !ok && !emptyMsg(answer) {
		t.Errorf("KdcAs(%v, %v, %d) = %v, %v, %v; want %v, %q", k, m, now, after, answer, ok, wantAfter, wantText)
	}
	return after, answer, ok
}

// checkTgs holds what KdcTgs answers against the document, and hands it on.
func checkTgs(t *testing.T, k impl.Kdc, m impl.Msg, now int) (impl.Kdc, impl.Msg, bool) {
	t.Helper()
	after, answer, ok := impl.KdcTgs(k, m, now)
	wantAfter, wantText := tgsWanted(k, m, now)
	if !sameKdc(after, wantAfter) || impl.MsgText(answer) != wantText || ok != (wantText != "") || !ok && !emptyMsg(answer) {
		t.Errorf("KdcTgs(%v, %v, %d) = %v, %v, %v; want %v, %q", k, m, now, after, answer, ok, wantAfter, wantText)
	}
	return after, answer, ok
}

func TestKdcLimits(t *testing.T) {
	if impl.LifeMax != 12 || impl.SkewMax != 3 || impl.CacheMax != 20 {
		t.Error("a limit is not that of the document")
	}
}

func TestKdcOk(t *testing.T) {
	for _, next := range append(oddNumbers(), 9, 10, 60, 61, 62) {
		for _, cache := range joined(cachesAt(40), wrongCaches()) {
			k := impl.Kdc{Next: next, Cache: cache}
			if got, want := impl.KdcOk(k), kdcOkWanted(k); got != want {
				t.Errorf("KdcOk(%v) = %v; want %v", k, got, want)
			}
		}
	}
	for _, cache := range cachesAt(40) {
		if !impl.KdcOk(impl.Kdc{Next: 10, Cache: cache}) || impl.KdcOk(impl.Kdc{Next: 9, Cache: cache}) || !impl.KdcOk(impl.Kdc{Next: 61, Cache: cache}) || impl.KdcOk(impl.Kdc{Next: 62, Cache: cache}) {
			t.Errorf("KdcOk of the limits of Next, with %v", cache)
		}
	}
	for _, cache := range wrongCaches() {
		if impl.KdcOk(impl.Kdc{Next: 10, Cache: cache}) {
			t.Errorf("KdcOk with %v", cache)
		}
	}
}

// The whole of CacheWith: caches, what is told, and times, at the limits and beside them.
func TestCacheCases(t *testing.T) {
	count := map[bool]int{}
	for _, now := range edgeTimes() {
		for _, cache := range cachesAt(now) {
			auths := slices.Clone(cache)
			for _, time := range []int{now, now - 1, now - 3, now - 4, now + 1, now + 3, now + 4, 0, 100, -1, 101} {
				auths = append(auths, told(10, 1, time, 1), told(60, 3, time, 2))
			}
			for _, auth := range auths {
				count[checkCache(t, cache, auth, now)]++
			}
		}
	}
	if count[true] < 500 || count[false] < 500 {
		t.Errorf("of all %v", count)
	}
}

// Nothing and false of a cache, a seal, or a time that is not ok, though all else is.
func TestCacheWrong(t *testing.T) {
	good, auth := toldAt(5, 40, 36, 39), told(10, 1, 40, 1)
	nothing := func(cache []impl.Seal, auth impl.Seal, now int) {
		t.Helper()
		if got, ok := impl.CacheWith(cache, auth, now); ok || len(got) != 0 {
			t.Errorf("CacheWith(%v, %v, %d) = %v, %v", cache, auth, now, got, ok)
		}
	}
	for _, cache := range wrongCaches() {
		nothing(cache, auth, 40)
		nothing(cache, auth, 100)
		nothing(cache, auth, 5)
	}
	for _, s := range joined(wrongSeals(), fewSeals()[:5], fewSeals()[7:]) {
		nothing(good, s, 40)
	}
	for _, now := range oddNumbers() {
		if !timeWanted(now) {
			nothing(good, auth, now)
			nothing(nil, told(10, 1, max(0, min(100, now)), 1), now)
		}
	}
	for _, bent := range bentSeals(auth) {
		checkCache(t, good, bent, 40)
		checkCache(t, []impl.Seal{good[0], bent}, auth, 40)
		checkCache(t, []impl.Seal{bent, good[0]}, auth, 40)
	}
}

// P27: Behind CacheWith that is true it is false of the same, at that time, and as long as it is fresh.
func TestP27NotTwice(t *testing.T) {
	for now := 0; now <= 100; now++ {
		for _, auth := range []impl.Seal{told(10, 1, now, 1), told(60, 3, max(0, now-3), 60), told(33, 2, max(0, now-1), 5)} {
			for _, before := range [][]impl.Seal{nil, toldAt(7, max(0, now-3), now), toldAt(19, now, max(0, now-1)), toldAt(20, 100-now)} {
				cache, ok := impl.CacheWith(before, auth, now)
				if !ok {
					continue
				}
				for later := now; later <= min(100, auth.B+3); later++ {
					other := told(auth.Key, auth.A, later, auth.C%60+1)
					if _, again := impl.CacheWith(cache, auth, later); again {
						t.Errorf("CacheWith(%v, %v, %d) = true, though it was told", cache, auth, later)
					}
					if len(cache) < 20 {
						cache, _ = impl.CacheWith(cache, other, later)
					}
				}
			}
		}
	}
}

// P28: CacheWith is true only of what was told at most SkewMax ahead of the time, not behind it; all that is
// remembered then is so.
func TestP28JustFresh(t *testing.T) {
	for now := 0; now <= 100; now++ {
		for time := 0; time <= 100; time++ {
			for _, before := range [][]impl.Seal{nil, toldAt(6, now, time, max(0, now-4), min(100, now+1), max(0, now-3), 50)} {
				cache, ok := impl.CacheWith(before, told(12, 2, time, 9), now)
				if want := time <= now && now-time <= 3; ok != want {
					t.Errorf("CacheWith(%v, told at %d, %d) = %v", before, time, now, ok)
				}
				for _, s := range cache {
					if s.B > now || now-s.B > 3 {
						t.Errorf("at %d %v is remembered", now, s)
					}
				}
			}
		}
	}
}

// P29: Of what was remembered all that is fresh is remembered behind CacheWith of ok ones, in order, what was told
// behind all.
func TestP29InOrder(t *testing.T) {
	r := rand.New(rand.NewSource(29))
	for range 4000 {
		now := r.Intn(101)
		var cache []impl.Seal
		for i := range r.Intn(21) {
			cache = append(cache, told(10+r.Intn(51), r.Intn(3)+1, max(0, min(100, now-6+r.Intn(9))), i+1))
		}
		auth := told(10+r.Intn(51), r.Intn(3)+1, max(0, min(100, now-4+r.Intn(6))), 60)
		want := freshIn(cache, now)
		got, ok := impl.CacheWith(cache, auth, now)
		if ok {
			want = append(want, auth)
		}
		if !slices.Equal(got, want) {
			t.Errorf("CacheWith(%v, %v, %d) = %v, %v; want %v", cache, auth, now, got, ok, want)
		}
		checkCache(t, cache, auth, now)
	}
}

// P29: what is false forgets what is not fresh, and keeps all else.
func TestP29FalseForgets(t *testing.T) {
	old, later := told(10, 1, 36, 1), told(11, 2, 41, 2)
	kept := []impl.Seal{told(12, 3, 40, 3), told(13, 1, 37, 4), told(14, 2, 38, 5)}
	cache := []impl.Seal{old, kept[0], later, kept[1], old, kept[2], later}
	cache[4].C, cache[6].C = 7, 8
	for _, auth := range []impl.Seal{old, later, kept[0], kept[1], kept[2], told(50, 3, 36, 50), told(50, 3, 41, 50), told(50, 3, 0, 50), told(50, 3, 100, 50)} {
		if got, ok := impl.CacheWith(cache, auth, 40); ok || !slices.Equal(got, kept) {
			t.Errorf("CacheWith(%v, %v, 40) = %v, %v; want %v, false", cache, auth, got, ok, kept)
		}
	}
}

// P30: KdcAs gives a ticket for who gives tickets, of the user, with a new key, and a part that just the user can
// read, with that key, and the number.
func TestP30FirstTickets(t *testing.T) {
	for _, now := range []int{0, 1, 50, 87, 88, 89, 99, 100} {
		for _, next := range []int{10, 11, 37, 59, 60} {
			for user := 1; user <= 3; user++ {
				for _, num := range []int{1, 2, 30, 59, 60} {
					k := impl.Kdc{Next: next, Cache: toldAt(4, now)}
					after, answer, ok := checkAs(t, k, asAsk(user, num), now)
					if !ok || !impl.MsgOk(answer) || !impl.KdcOk(after) || answer.Kind != impl.MsgAsGive || answer.Client != user || after.Next != next+1 || !slices.Equal(after.Cache, k.Cache) {
						t.Fatalf("KdcAs(%v, %v, %d) = %v, %v, %v", k, asAsk(user, num), now, after, answer, ok)
					}
					ticket, part := answer.Seals[0], answer.Seals[1]
					if ticket.Kind != impl.SealTicket || ticket.Key != 6 || ticket.A != user || ticket.B != 6 || ticket.C != next {
						t.Errorf("the ticket is %v", ticket)
					}
					if part.Kind != impl.SealPart || part.Key != user || part.A != 6 || part.B != next || part.C != num || part.D != ticket.E {
						t.Errorf("the part is %v", part)
					}
				}
			}
		}
	}
}

// P31: KdcTgs gives a ticket for the service, of the user of the first ticket, with a new key, no longer than that,
// and a part that who has the first ticket's key can read.
func TestP31TicketsForServices(t *testing.T) {
	for _, now := range []int{0, 1, 50, 88, 89, 99, 100} {
		for user := 1; user <= 3; user++ {
			for serv := 4; serv <= 5; serv++ {
				for _, until := range []int{now, min(now+1, 100), min(now+12, 100), 100} {
					for _, held := range []int{10, 20, 60} {
						first := firstTicket(user, held, max(0, now-5), until)
						k := impl.Kdc{Next: 20 + now%41, Cache: toldAt(3, now)}
						ask := tgsAsk(serv, 33, first, told(held, user, now, 34))
						after, answer, ok := checkTgs(t, k, ask, now)
						if !ok || !impl.MsgOk(answer) || !impl.KdcOk(after) || answer.Kind != impl.MsgTgsGive || answer.Client != user || after.Next != k.Next+1 {
							t.Fatalf("KdcTgs(%v, %v, %d) = %v, %v, %v", k, ask, now, after, answer, ok)
						}
						ticket, part := answer.Seals[0], answer.Seals[1]
						if ticket.Kind != impl.SealTicket || ticket.Key != serv || ticket.A != user || ticket.B != serv || ticket.C != k.Next || ticket.D != now || ticket.E != until {
							t.Errorf("the ticket is %v", ticket)
						}
						if part.Kind != impl.SealPart || part.Key != held || part.A != serv || part.B != k.Next || part.C != 33 || part.D != until {
							t.Errorf("the part is %v", part)
						}
					}
				}
			}
		}
	}
}

// P32: If KdcTgs is true the ticket is for who gives tickets, lasts at that time, and what is told with it is sealed
// with its key, of its user, fresh, and new; then it is not true of the same again.
func TestP32WhatIsShown(t *testing.T) {
	good := tgsAsk(5, 9, firstTicket(2, 10, 30, 42), told(10, 2, 38, 8))
	count := map[bool]int{}
	for _, now := range append(upTo(25, 45), edgeTimes()...) {
		for place := range 2 {
			for _, bent := range append(bentSeals(good.Seals[place]), fewSeals()...) {
				m := ownMsg(good)
				m.Seals[place] = bent
				for _, cache := range [][]impl.Seal{nil, {good.Seals[1]}, toldAt(5, 38, 36, 20, 41)} {
					k := impl.Kdc{Next: 11, Cache: cache}
					after, _, ok := checkTgs(t, k, m, now)
					count[ok]++
					if !ok {
						continue
					}
					ticket, auth := m.Seals[0], m.Seals[1]
					if ticket.Kind != 1 || ticket.B != 6 || now < ticket.D || now > ticket.E || auth.Kind != 3 || auth.Key != ticket.C || auth.A != ticket.A || auth.B > now || auth.B < now-3 || slices.Contains(cache, auth) || !slices.Contains(after.Cache, auth) {
						t.Errorf("KdcTgs(%v, %v, %d) is true", k, m, now)
					}
					for later := now; later <= min(100, now+20); later++ {
						if _, _, again := checkTgs(t, after, m, later); again {
							t.Errorf("KdcTgs(%v, %v, %d) is true again", after, m, later)
						}
					}
				}
			}
		}
	}
	if count[true] < 100 || count[false] < 1000 {
		t.Errorf("of all %v", count)
	}
}

// P32: a ticket's first time and its last, and one time beyond each.
func TestP32FirstAndLastTime(t *testing.T) {
	for _, c := range [][2]int{{0, 0}, {0, 12}, {30, 42}, {88, 100}, {100, 100}, {95, 100}, {42, 30}, {0, 100}} {
		for now := -1; now <= 101; now++ {
			m := tgsAsk(4, 2, firstTicket(3, 60, c[0], c[1]), told(60, 3, max(0, min(100, now)), 1))
			after, _, ok := checkTgs(t, impl.KdcNew(), m, now)
			if want := within(now, c[0], c[1]); ok != want {
				t.Errorf("at %d a ticket from %d until %d is taken: %v", now, c[0], c[1], ok)
			}
			if !timeWanted(now) && !emptyKdc(after) {
				t.Errorf("at %d there is %v", now, after)
			}
		}
	}
}

// P32: a ticket for a service, shown to who gives tickets, gives nothing, though all else is as it must be.
func TestP32TicketForAService(t *testing.T) {
	for _, serv := range []int{4, 5} {
		ticket := impl.Seal{Key: serv, Kind: 1, A: 1, B: serv, C: 10, D: 30, E: 42}
		k := impl.Kdc{Next: 11, Cache: toldAt(6, 33, 32, 20)}
		for _, asked := range []int{4, 5} {
			after, _, ok := checkTgs(t, k, tgsAsk(asked, 2, ticket, told(10, 1, 33, 1)), 33)
			if ok || !sameKdc(after, k) {
				t.Errorf("%v gives %v, %v", ticket, after, ok)
			}
		}
	}
}

// P33: Of two answers, one behind the other, the keys that are given differ, and are greater than all ahead.
func TestP33KeysAscend(t *testing.T) {
	for seed := range int64(60) {
		w := &kdcWalk{r: rand.New(rand.NewSource(seed)), kdc: impl.KdcNew()}
		last := 9
		for range 150 {
			m := w.ask()
			for _, check := range []func(*testing.T, impl.Kdc, impl.Msg, int) (impl.Kdc, impl.Msg, bool){checkAs, checkTgs} {
				after, answer, ok := check(t, w.kdc, m, w.now)
				if ok && (answer.Seals[0].C != last+1 || answer.Seals[1].B != last+1) {
					t.Fatalf("behind the key %d there is %v", last, answer)
				}
				if ok {
					last++
				}
				if after.Next != last+1 || !impl.KdcOk(after) {
					t.Fatalf("behind the key %d there is %v", last, after)
				}
				w.hear(after, answer, ok)
			}
		}
		if last < 40 {
			t.Errorf("of the walk %d the last key is %d", seed, last)
		}
	}
}

// P34: Of the answers of KdcAs and KdcTgs who has neither the user's key, nor the first ticket's, nor that of who the
// ticket is for, comes to no new key.
func TestP34Secret(t *testing.T) {
	for user := 1; user <= 3; user++ {
		for next := 10; next <= 60; next++ {
			_, first, _ := impl.KdcAs(impl.Kdc{Next: next}, asAsk(user, 5), 7)
			checkSecret(t, first.Seals, next, user, 6)
			for serv := 4; serv <= 5; serv++ {
				held := 10 + (next+17)%51
				_, later, ok := impl.KdcTgs(impl.Kdc{Next: next}, tgsAsk(serv, 8, firstTicket(user, held, 5, 15), told(held, user, 7, 7)), 7)
				if !ok {
					t.Fatalf("no ticket for %d", serv)
				}
				checkSecret(t, later.Seals, next, held, serv)
			}
		}
	}
}

// checkSecret asks that just who has one of these keys comes to the one that is given.
func checkSecret(t *testing.T, seals []impl.Seal, given int, keys ...int) {
	t.Helper()
	others := slices.DeleteFunc(upTo(1, 60), func(n int) bool { return n == given || slices.Contains(keys, n) })
	if known := impl.KnowKeys(others, seals); !slices.Equal(known, others) {
		t.Errorf("who has neither of %v comes to %d by %v", keys, given, seals)
	}
	for _, key := range keys {
		if !slices.Contains(impl.KnowKeys([]int{key}, seals), given) {
			t.Errorf("who has %d does not come to %d by %v", key, given, seals)
		}
	}
}

// P34: of all answers to honest users, one behind the other, each user comes to the keys of his own tickets alone, and
// each service to those of tickets for it.
func TestP34EachHisOwn(t *testing.T) {
	var seals []impl.Seal
	own := map[int][]int{}
	k := impl.KdcNew()
	for round := range 5 {
		for user := 1; user <= 3; user++ {
			after, first, _ := checkAs(t, k, asAsk(user, round+1), round*5)
			k, seals = after, joined(seals, first.Seals)
			own[user], own[6] = append(own[user], first.Seals[0].C), append(own[6], first.Seals[0].C)
			for serv := 4; serv <= 5; serv++ {
				held := first.Seals[0].C
				after, later, ok := checkTgs(t, k, tgsAsk(serv, serv*10+1, first.Seals[0], told(held, user, round*5+1, serv*10)), round*5+2)
				if !ok {
					t.Fatalf("no ticket of %d for %d", user, serv)
				}
				k, seals = after, joined(seals, later.Seals)
				for _, who := range []int{user, serv, 6} {
					own[who] = append(own[who], later.Seals[0].C)
				}
			}
		}
	}
	for who := 1; who <= 6; who++ {
		if known := impl.KnowKeys([]int{who}, seals); !slices.Equal(known, append([]int{who}, own[who]...)) {
			t.Errorf("%d comes to %v; want %v", who, known, own[who])
		}
	}
	if known := impl.KnowKeys(nil, seals); len(known) != 0 {
		t.Errorf("who has no key comes to %v", known)
	}
}

// P35: Behind CacheWith at a time more than SkewMax later just what is told then is remembered.
func TestP35LaterAllIsForgotten(t *testing.T) {
	for now := 0; now <= 96; now++ {
		for _, count := range []int{0, 1, 5, 19, 20} {
			cache := toldAt(count, now, max(0, now-1), max(0, now-3))
			for later := now + 1; later <= min(100, now+9); later++ {
				for _, time := range []int{later, max(0, later-3)} {
					auth := told(10, 1, time, 1)
					got, ok := impl.CacheWith(cache, auth, later)
					if later > now+3 && (!ok || !slices.Equal(got, []impl.Seal{auth})) {
						t.Errorf("CacheWith(%v, %v, %d) = %v, %v", cache, auth, later, got, ok)
					}
					checkCache(t, cache, auth, later)
				}
			}
		}
	}
}

// P36: Two that can be taken, and are not one, can be taken one behind the other; both are remembered then. (With room
// for one alone the limit of what is remembered comes first.)
func TestP36Two(t *testing.T) {
	for _, now := range []int{0, 1, 3, 4, 50, 99, 100} {
		base := told(10, 1, now, 1)
		near := []impl.Seal{told(11, 1, now, 1), told(10, 2, now, 1), told(10, 1, max(0, now-1), 2), told(10, 1, now, 2), told(60, 3, max(0, now-3), 60), base}
		if now > 0 {
			near = append(near, told(10, 1, now-1, 1))
		}
		for _, count := range []int{0, 1, 10, 17, 18, 19, 20} {
			before := toldAt(count, now, max(0, now-2))
			for _, second := range near {
				cache, _ := impl.CacheWith(before, base, now)
				got, ok := impl.CacheWith(cache, second, now)
				want := second != base && count <= 18
				if ok != want || want && !slices.Equal(got, joined(before, []impl.Seal{base, second})) {
					t.Errorf("behind %d, and %v, %v is taken: %v, %v", count, base, second, ok, got)
				}
			}
		}
	}
}

// P37: KdcAs answers just MsgAsAsk, KdcTgs just MsgTgsAsk; what is not answered makes no key.
func TestP37JustWhatAsks(t *testing.T) {
	shown := []impl.Seal{firstTicket(2, 10, 30, 42), told(10, 2, 38, 8)}
	for _, cache := range [][]impl.Seal{nil, toldAt(9, 38, 30, 40)} {
		k := impl.Kdc{Next: 11, Cache: cache}
		for kind := -1; kind <= 8; kind++ {
			for _, m := range []impl.Msg{
				{Kind: kind, Client: 2, Nonce: 7}, {Kind: kind, Client: 2, Seals: shown}, {Kind: kind, Serv: 4, Nonce: 7, Seals: shown},
				{Kind: kind, Serv: 5, Seals: shown}, {Kind: kind, Client: 3, Seals: shown[1:]},
			} {
				afterAs, _, asOk := checkAs(t, k, m, 40)
				afterTgs, _, tgsOk := checkTgs(t, k, m, 40)
				if asOk != (kind == 1 && msgWanted(m)) || tgsOk != (kind == 3 && msgWanted(m)) {
					t.Errorf("of %v KdcAs is %v, KdcTgs %v", m, asOk, tgsOk)
				}
				if !asOk && !sameKdc(afterAs, k) || !tgsOk && !sameKdc(afterTgs, k) {
					t.Errorf("%v, which is not answered, leaves %v, %v", m, afterAs, afterTgs)
				}
			}
		}
	}
}

// P37: a word that is not in form is not answered, and nothing is forgotten by it.
func TestP37NotInForm(t *testing.T) {
	k := impl.Kdc{Next: 11, Cache: toldAt(9, 38, 30, 41)}
	for _, m := range []impl.Msg{asAsk(2, 7), tgsAsk(5, 9, firstTicket(2, 10, 30, 42), told(10, 2, 38, 8))} {
		for _, bent := range joined(bentMsgs(m), bentForms()) {
			afterAs, _, asOk := checkAs(t, k, bent, 40)
			afterTgs, _, tgsOk := checkTgs(t, k, bent, 40)
			if !msgWanted(bent) && (asOk || tgsOk || !sameKdc(afterAs, k) || !sameKdc(afterTgs, k)) {
				t.Errorf("%v is answered, or leaves %v, %v", bent, afterAs, afterTgs)
			}
		}
	}
}

// P38: With another user, another key, a later time, or one that is too old in what is told, or a ticket that lasts no
// more, KdcTgs is false.
func TestP38WrongTold(t *testing.T) {
	for _, now := range []int{4, 5, 40, 96, 99} {
		ticket := firstTicket(2, 30, now-1, now+1)
		k := impl.Kdc{Next: 31}
		asks := func(ticket, auth impl.Seal) bool {
			_, _, ok := checkTgs(t, k, tgsAsk(4, 2, ticket, auth), now)
			return ok
		}
		for _, time := range []int{now, now - 1, now - 2, now - 3} {
			if !asks(ticket, told(30, 2, time, 1)) {
				t.Errorf("at %d what is told at %d is not taken", now, time)
			}
		}
		for _, auth := range []impl.Seal{told(30, 1, now, 1), told(30, 3, now, 1), told(29, 2, now, 1), told(31, 2, now, 1), told(10, 2, now, 1), told(60, 2, now, 1), told(30, 2, now+1, 1), told(30, 2, 100, 1), told(30, 2, now-4, 1), told(30, 2, 0, 1)} {
			if asks(ticket, auth) {
				t.Errorf("at %d %v is taken", now, auth)
			}
		}
		for _, other := range []impl.Seal{firstTicket(2, 30, 0, now-1), firstTicket(2, 30, now+1, 100), firstTicket(1, 30, now-1, now+1), firstTicket(2, 31, now-1, now+1), firstTicket(2, 30, now+1, now-1)} {
			if asks(other, told(30, 2, now, 1)) {
				t.Errorf("at %d %v is taken", now, other)
			}
		}
	}
}

// P39: KdcAs of an ok one, with a key left, is true of each word in form that asks, whoever sends it; without a key
// left of none.
func TestP39WhoeverAsks(t *testing.T) {
	for _, next := range []int{8, 9, 10, 11, 59, 60, 61, 62, 63} {
		for _, now := range edgeTimes() {
			for _, cache := range joined(cachesAt(now), wrongCaches()[:8]) {
				for _, m := range []impl.Msg{asAsk(1, 1), asAsk(2, 60), asAsk(3, 30), asAsk(0, 1), asAsk(4, 1), asAsk(1, 0), asAsk(1, 61)} {
					k := impl.Kdc{Next: next, Cache: cache}
					after, _, ok := checkAs(t, k, m, now)
					good := kdcOkWanted(k) && timeWanted(now)
					if want := good && next <= 60 && msgWanted(m); ok != want {
						t.Errorf("KdcAs(%v, %v, %d) = %v", k, m, now, ok)
					}
					if !good && !emptyKdc(after) || good && !slices.Equal(after.Cache, cache) {
						t.Errorf("KdcAs(%v, %v, %d) leaves %v", k, m, now, after)
					}
				}
			}
		}
	}
}

// P40: The same word of MsgAsAsk once more, if there is a key left, gives another ticket, with another key, of the same
// user and number.
func TestP40OnceMore(t *testing.T) {
	for user := 1; user <= 3; user++ {
		for _, num := range []int{1, 33, 60} {
			k, m := impl.KdcNew(), asAsk(user, num)
			for key := 10; key <= 60; key++ {
				after, answer, ok := checkAs(t, k, m, 40)
				if !ok || answer.Client != user || answer.Seals[0].A != user || answer.Seals[0].C != key || answer.Seals[1].B != key || answer.Seals[1].C != num {
					t.Errorf("KdcAs(%v, %v, 40) = %v, %v", k, m, answer, ok)
				}
				k = after
			}
			if after, answer, ok := checkAs(t, k, m, 40); ok || !emptyMsg(answer) || after.Next != 61 {
				t.Errorf("KdcAs(%v, %v, 40) = %v, %v, %v", k, m, after, answer, ok)
			}
		}
	}
}

// P41: It lasts from that time on, LifeMax long, or to TimeMax.
func TestP41HowLong(t *testing.T) {
	for now := 0; now <= 100; now++ {
		_, answer, ok := checkAs(t, impl.KdcNew(), asAsk(2, 7), now)
		if !ok {
			t.Fatalf("at %d no answer", now)
		}
		ticket := answer.Seals[0]
		if ticket.D != now || ticket.E-ticket.D != 12 && ticket.E != 100 || ticket.E-ticket.D > 12 || ticket.E > 100 || answer.Seals[1].D != ticket.E {
			t.Errorf("at %d %v is given", now, answer)
		}
		for later := now; later <= 100; later++ {
			_, _, ok := checkTgs(t, impl.Kdc{Next: 11}, tgsAsk(4, 9, ticket, told(10, 2, later, 8)), later)
			if ok != (later <= now+12) {
				t.Errorf("at %d the ticket of %d is taken: %v", later, now, ok)
			}
		}
	}
}

// P42: Told with another number the same first ticket gives another ticket, with another key.
func TestP42OtherNumber(t *testing.T) {
	for _, serv := range []int{4, 5} {
		k, first, _ := impl.KdcAs(impl.KdcNew(), asAsk(3, 1), 90)
		keys := map[int]bool{10: true}
		for num := 2; num <= 30; num++ {
			now := 90 + num/3
			after, answer, ok := checkTgs(t, k, tgsAsk(serv, 40, first.Seals[0], told(10, 3, now, num)), now)
			if !ok || keys[answer.Seals[0].C] || answer.Seals[0].A != 3 || answer.Seals[0].B != serv || answer.Seals[0].E != 100 || answer.Seals[1].B != answer.Seals[0].C {
				t.Fatalf("with the number %d there is %v, %v", num, answer, ok)
			}
			keys[answer.Seals[0].C] = true
			if _, _, again := checkTgs(t, after, tgsAsk(9-serv, 41, first.Seals[0], told(10, 3, now, num)), now); again {
				t.Errorf("the number %d is taken twice", num)
			}
			k = after
		}
	}
}

// P43: KdcNew is ok, remembers nothing, and answers each word that asks for a first ticket with the first key.
func TestP43New(t *testing.T) {
	k := impl.KdcNew()
	if !impl.KdcOk(k) || k.Next != 10 || len(k.Cache) != 0 {
		t.Fatalf("KdcNew() = %v", k)
	}
	for now := 0; now <= 100; now++ {
		for user := 1; user <= 3; user++ {
			for num := 1; num <= 60; num++ {
				_, answer, ok := checkAs(t, k, asAsk(user, num), now)
				if !ok || answer.Seals[0].C != 10 || answer.Seals[1].B != 10 {
					t.Fatalf("KdcAs(KdcNew(), %v, %d) = %v, %v", asAsk(user, num), now, answer, ok)
				}
			}
		}
	}
}

// P44: A cache of CacheMax that are fresh at a time takes nothing then; later than SkewMax it does again.
func TestP44Full(t *testing.T) {
	for now := 0; now <= 100; now++ {
		full := toldAt(20, now, max(0, now-1), max(0, now-2))
		first := firstTicket(1, 10, 0, 100)
		for later := now; later <= min(100, now+6); later++ {
			room := len(freshIn(full, later)) < 20
			for _, auth := range []impl.Seal{told(10, 1, later, 1), told(10, 1, max(0, later-3), 2), full[0], full[19]} {
				got, ok := impl.CacheWith(full, auth, later)
				if !room && (ok || !slices.Equal(got, full)) {
					t.Errorf("a full cache takes %v at %d: %v, %v", auth, later, got, ok)
				}
				if later > now+3 && slices.Index(full, auth) < 0 && (!ok || len(got) != 1) {
					t.Errorf("a cache full of what is old does not take %v at %d: %v, %v", auth, later, got, ok)
				}
				checkCache(t, full, auth, later)
			}
			ask := tgsAsk(4, 2, first, told(10, 1, later, 1))
			if _, _, ok := checkTgs(t, impl.Kdc{Next: 11, Cache: full}, ask, later); ok != room {
				t.Errorf("at %d, behind a full cache of %d, KdcTgs is %v", later, now, ok)
			}
			if _, _, ok := checkTgs(t, impl.Kdc{Next: 11, Cache: full[:19]}, ask, later); !ok {
				t.Errorf("at %d, behind a cache of 19 of %d, KdcTgs is false", later, now)
			}
		}
	}
}

// What is forgotten when nothing is given: behind a ticket that is shown what is not fresh, ahead of that nothing.
func TestKdcForgets(t *testing.T) {
	fresh := []impl.Seal{told(10, 2, 37, 1), told(11, 1, 40, 2), told(12, 3, 39, 3)}
	cache := []impl.Seal{told(10, 2, 36, 4), fresh[0], told(13, 1, 41, 5), fresh[1], told(14, 1, 0, 6), told(15, 1, 100, 7), fresh[2], told(10, 2, 20, 8)}
	ticket := firstTicket(2, 10, 30, 42)
	for _, c := range []struct {
		why  string
		next int
		m    impl.Msg
		want []impl.Seal
	}{
		{"told already", 20, tgsAsk(4, 9, ticket, fresh[0]), fresh},
		{"too old", 20, tgsAsk(4, 9, ticket, told(10, 2, 36, 9)), fresh},
		{"too old, and told already", 20, tgsAsk(4, 9, ticket, cache[0]), fresh},
		{"later", 20, tgsAsk(5, 9, ticket, told(10, 2, 41, 9)), fresh},
		{"told already, with the last key", 60, tgsAsk(4, 9, ticket, fresh[0]), fresh},
		{"no key left, though told already", 61, tgsAsk(4, 9, ticket, fresh[0]), cache},
		{"no key left", 61, tgsAsk(4, 9, ticket, told(10, 2, 40, 9)), cache},
		{"another key", 20, tgsAsk(4, 9, ticket, fresh[1]), cache},
		{"another user", 20, tgsAsk(4, 9, ticket, told(10, 3, 40, 9)), cache},
		{"lasts no more", 20, tgsAsk(4, 9, firstTicket(2, 10, 30, 39), told(10, 2, 40, 9)), cache},
		{"lasts not yet", 20, tgsAsk(4, 9, firstTicket(2, 10, 41, 45), told(10, 2, 40, 9)), cache},
		{"for a service", 20, tgsAsk(4, 9, ticketOf(2, 4, 10), told(10, 2, 40, 9)), cache},
		{"no ticket", 20, tgsAsk(4, 9, fresh[0], fresh[0]), cache},
		{"nothing told", 20, tgsAsk(4, 9, ticket, ticket), cache},
		{"an answer, of a time that is the user's number", 20, tgsAsk(4, 9, ticket, impl.Seal{Key: 10, Kind: impl.SealBack, A: 2, B: 40}), cache},
		{"a part", 20, tgsAsk(4, 9, ticket, partOf(10, 4, 40)), cache},
		{"a part, in place of the ticket", 20, tgsAsk(4, 9, partOf(10, 6, 10), told(10, 2, 40, 9)), cache},
		{"in the other order", 20, tgsAsk(4, 9, told(10, 2, 40, 9), ticket), cache},
		{"not in form", 20, tgsAsk(6, 9, ticket, told(10, 2, 40, 9)), cache},
		{"of another kind", 20, impl.Msg{Kind: impl.MsgApAsk, Serv: 4, Seals: []impl.Seal{ticket, told(10, 2, 40, 9)}}, cache},
		{"a first ticket", 20, asAsk(2, 9), cache},
	} {
		k := impl.Kdc{Next: c.next, Cache: cache}
		after, answer, ok := checkTgs(t, k, c.m, 40)
		if ok || !emptyMsg(answer) || after.Next != c.next || !slices.Equal(after.Cache, c.want) {
			t.Errorf("%s: KdcTgs = %v, %v, %v; want %v", c.why, after, answer, ok, c.want)
		}
		if c.m.Kind != impl.MsgAsAsk {
			if after, _, _ := checkAs(t, k, c.m, 40); !sameKdc(after, k) {
				t.Errorf("%s: KdcAs leaves %v", c.why, after)
			}
		}
	}
}

// What is forgotten when nothing is given, of a full cache: all of it, or nothing.
func TestKdcForgetsAll(t *testing.T) {
	old := toldAt(20, 10, 11, 60, 36)
	k := impl.Kdc{Next: 20, Cache: old}
	ticket := firstTicket(2, 10, 30, 42)
	if after, _, ok := checkTgs(t, k, tgsAsk(4, 9, ticket, told(10, 2, 36, 1)), 40); ok || after.Next != 20 || len(after.Cache) != 0 {
		t.Errorf("behind what is too old there is %v, %v", after, ok)
	}
	if after, _, ok := checkTgs(t, k, tgsAsk(4, 9, ticket, told(11, 2, 40, 1)), 40); ok || !sameKdc(after, k) {
		t.Errorf("behind what is told with another key there is %v, %v", after, ok)
	}
	if after, _, ok := checkTgs(t, k, tgsAsk(4, 9, ticket, told(10, 2, 40, 1)), 40); !ok || !slices.Equal(after.Cache, []impl.Seal{told(10, 2, 40, 1)}) {
		t.Errorf("behind what is taken there is %v, %v", after, ok)
	}
}

// Nothing and false of one that is not ok, and at what is no time, whatever is asked.
func TestKdcWrong(t *testing.T) {
	good := tgsAsk(4, 9, firstTicket(2, 10, 0, 100), told(10, 2, 40, 8))
	nothing := func(k impl.Kdc, now int) {
		t.Helper()
		for _, m := range []impl.Msg{asAsk(2, 7), good, {}} {
			if after, answer, ok := checkAs(t, k, m, now); ok || !emptyKdc(after) || !emptyMsg(answer) {
				t.Errorf("KdcAs(%v, %v, %d) = %v, %v, %v", k, m, now, after, answer, ok)
			}
			if after, answer, ok := checkTgs(t, k, m, now); ok || !emptyKdc(after) || !emptyMsg(answer) {
				t.Errorf("KdcTgs(%v, %v, %d) = %v, %v, %v", k, m, now, after, answer, ok)
			}
		}
	}
	for _, cache := range wrongCaches() {
		nothing(impl.Kdc{Next: 11, Cache: cache}, 40)
	}
	for _, n := range oddNumbers() {
		if !within(n, 10, 61) {
			nothing(impl.Kdc{Next: n}, 40)
			nothing(impl.Kdc{Next: n, Cache: toldAt(3, 40)}, 40)
		}
		if !timeWanted(n) {
			nothing(impl.Kdc{Next: 11, Cache: toldAt(3, 40)}, n)
			nothing(impl.KdcNew(), n)
		}
	}
	for _, next := range []int{10, 60} {
		if _, _, ok := checkTgs(t, impl.Kdc{Next: next}, good, 40); !ok {
			t.Errorf("KdcTgs with the next key %d is false", next)
		}
	}
}

// First tickets, and tickets for each service, asked for by each user, one behind the other, as time goes on.
func TestKdcOneBehindTheOther(t *testing.T) {
	k, key := impl.KdcNew(), 10
	for _, start := range []int{0, 13, 50, 88, 95} {
		for user := 1; user <= 3; user++ {
			after, first, ok := checkAs(t, k, asAsk(user, 1), start)
			if !ok || first.Seals[0].C != key || len(after.Cache) != len(k.Cache) {
				t.Fatalf("at %d the user %d is given %v", start, user, first)
			}
			k, key = after, key+1
			for serv := 4; serv <= 5; serv++ {
				auth := told(first.Seals[0].C, user, start+serv-4, serv)
				after, later, ok := checkTgs(t, k, tgsAsk(serv, serv+10, first.Seals[0], auth), start+serv-3)
				if !ok || later.Seals[0].C != key || later.Seals[0].E != first.Seals[0].E || after.Cache[len(after.Cache)-1] != auth {
					t.Fatalf("at %d the user %d is given %v", start, user, later)
				}
				k, key = after, key+1
			}
		}
	}
}

// scribble writes into a list, and into its spare room.
func scribble(list []impl.Seal) {
	room := list[:cap(list)]
	for i := range room {
		room[i] = impl.Seal{Key: -1, Kind: -1}
	}
}

// roomy is a list with some more behind its end, and that, too.
func roomy(list []impl.Seal) ([]impl.Seal, []impl.Seal) {
	all := append(slices.Clone(list), fewSeals()...)
	return all[:len(list)], all
}

// What CacheWith answers shares nothing with an argument, or with another answer, and no argument is written into, or
// behind its end.
func TestCacheMemory(t *testing.T) {
	for _, now := range edgeTimes() {
		for _, list := range append(cachesAt(now), wrongCaches()[:6]...) {
			for _, time := range []int{now, now - 3, now - 4, now + 1} {
				cache, all := roomy(list)
				before := slices.Clone(all)
				auth := told(10, 1, time, 1)
				one, _ := impl.CacheWith(cache, auth, now)
				other, _ := impl.CacheWith(cache, auth, now)
				kept := slices.Clone(one)
				again, _ := impl.CacheWith(one, auth, now)
				scribble(other)
				scribble(again)
				if !slices.Equal(one, kept) {
					t.Errorf("an answer of CacheWith(%v, %v, %d) was written into", list, auth, now)
				}
				scribble(one)
				if !slices.Equal(all, before) {
					t.Errorf("%v was written into", list)
				}
			}
		}
	}
}

// What KdcAs and KdcTgs answer shares nothing with an argument, with another answer, or its own other list, and no
// argument is written into, or behind its end.
func TestKdcMemory(t *testing.T) {
	type answering func(impl.Kdc, impl.Msg, int) (impl.Kdc, impl.Msg, bool)
	first := firstTicket(2, 10, 0, 100)
	for _, now := range edgeTimes() {
		asks := []impl.Msg{asAsk(2, 7), tgsAsk(4, 9, fewSeals()[0], told(10, 2, 5, 8))}
		for _, time := range []int{now, now - 4} {
			asks = append(asks, tgsAsk(4, 9, first, told(10, 2, time, 8)))
		}
		for _, list := range append(cachesAt(now), wrongCaches()[:4]...) {
			for _, next := range []int{11, 60, 61, 62} {
				for _, m := range asks {
					for _, answer := range []answering{impl.KdcAs, impl.KdcTgs} {
						checkKdcMemory(t, answer, impl.Kdc{Next: next, Cache: list}, m, now)
					}
				}
			}
		}
	}
}

func checkKdcMemory(t *testing.T, answer func(impl.Kdc, impl.Msg, int) (impl.Kdc, impl.Msg, bool), k impl.Kdc, m impl.Msg, now int) {
	t.Helper()
	cache, cacheAll := roomy(k.Cache)
	seals, sealsAll := roomy(m.Seals)
	cacheBefore, sealsBefore := slices.Clone(cacheAll), slices.Clone(sealsAll)
	k.Cache, m.Seals = cache, seals
	one, word, _ := answer(k, m, now)
	other, otherWord, _ := answer(k, m, now)
	keptKdc, keptMsg := ownKdc(one), ownMsg(word)
	scribble(other.Cache)
	scribble(otherWord.Seals)
	if !sameKdc(one, keptKdc) || !sameMsg(word, keptMsg) {
		t.Errorf("an answer to %v, %v, %d was written into", k, m, now)
	}
	scribble(one.Cache)
	if !sameMsg(word, keptMsg) {
		t.Errorf("the word that answers %v, %v, %d shares memory with what is remembered", k, m, now)
	}
	scribble(word.Seals)
	if !slices.Equal(cacheAll, cacheBefore) || !slices.Equal(sealsAll, sealsBefore) {
		t.Errorf("%v, or %v, was written into at %d", k, m, now)
	}
}
