package tests

import (
	"slices"
	"testing"

	"loop.example/cerberus/impl"
)

// checkServe holds what ServHear answers against the document, and hands it on.
func checkServe(t *testing.T, s impl.Serv, m impl.Msg, now int) (impl.Serv, impl.Msg, bool) {
	t.Helper()
	after, answer, ok := impl.ServHear(s, m, now)
	wantAfter, wantText := serveWanted(s, m, now)
	if !sameServ(after, wantAfter) || impl.MsgText(answer) != wantText || ok != (wantText != "") || !ok && !emptyMsg(answer) {
		t.Errorf("ServHear(%v, %v, %d) = %v, %v, %v; want %v, %q", s, m, now, after, answer, ok, wantAfter, wantText)
	}
	return after, answer, ok
}

// checkFall holds what ServFall answers against the document, and hands it on.
func checkFall(t *testing.T, s impl.Serv, now int) impl.Serv {
	t.Helper()
	after := impl.ServFall(s, now)
	if want := fallWanted(s, now); !sameServ(after, want) {
		t.Errorf("ServFall(%v, %d) = %v; want %v", s, now, after, want)
	}
	return after
}

// checkUnheard asks that a service does not hear a word, and that but for what it remembers it stays as it was.
func checkUnheard(t *testing.T, why string, s impl.Serv, m impl.Msg, now int) impl.Serv {
	t.Helper()
	after, answer, ok := checkServe(t, s, m, now)
	if ok || !emptyMsg(answer) || after.Id != s.Id || after.Since != s.Since || !slices.Equal(after.Took, s.Took) {
		t.Errorf("%s: ServHear(%v, %v, %d) = %v, %v, %v", why, s, m, now, after, answer, ok)
	}
	return after
}

// checkTakes asks that a service hears a word, and hands on what it is behind that.
func checkTakes(t *testing.T, why string, s impl.Serv, m impl.Msg, now int) impl.Serv {
	t.Helper()
	after, _, ok := checkServe(t, s, m, now)
	if !ok {
		t.Errorf("%s: ServHear(%v, %v, %d) is false", why, s, m, now)
	}
	return after
}

// callIn is the call that a word tells of.
func callIn(m impl.Msg) impl.Call {
	auth := m.Seals[1]
	return impl.Call{Peer: auth.A, Key: auth.Key, Time: auth.B, Num: auth.C}
}

func TestServOk(t *testing.T) {
	for _, now := range []int{0, 4, 40, 100} {
		for _, s := range goodServs(now) {
			if !impl.ServOk(s) {
				t.Errorf("ServOk(%v) = false", s)
			}
		}
	}
	for _, bad := range wrongServs() {
		if impl.ServOk(bad.serv) || servOkWanted(bad.serv) {
			t.Errorf("%s: ServOk(%v) = true", bad.why, bad.serv)
		}
	}
	count := map[bool]int{}
	for _, s := range []impl.Serv{busyServ(4), busyServ(5), newServ(4), {Id: 5, Since: 100, Cache: toldAt(20, 100, 0), Took: tookOf(61)}} {
		for _, bent := range bentServs(s) {
			got := impl.ServOk(bent)
			count[got]++
			if want := servOkWanted(bent); got != want {
				t.Errorf("ServOk(%v) = %v; want %v", bent, got, want)
			}
		}
	}
	if count[true] < 500 || count[false] < 500 || impl.ServOk(impl.Serv{}) {
		t.Errorf("of all %v", count)
	}
}

// Each limit of a service, met exactly, and one beside it.
func TestServLimits(t *testing.T) {
	call := impl.Call{Peer: 2, Key: 30, Time: 50, Num: 20}
	with := func(change func(s *impl.Serv)) bool {
		s := impl.Serv{Id: 4, Since: 20, Cache: toldAt(3, 40), Took: []impl.Call{call, call}}
		change(&s)
		return impl.ServOk(s)
	}
	for _, n := range upTo(-3, 103) {
		for _, c := range []struct {
			what      string
			got, want bool
		}{
			{"Id", with(func(s *impl.Serv) { s.Id = n }), within(n, 4, 5)},
			{"Since", with(func(s *impl.Serv) { s.Since = n }), within(n, -1, 100)},
			{"Peer", with(func(s *impl.Serv) { s.Took[1].Peer = n }), within(n, 1, 3)},
			{"Key", with(func(s *impl.Serv) { s.Took[1].Key = n }), within(n, 10, 60)},
			{"Time", with(func(s *impl.Serv) { s.Took[1].Time = n }), within(n, 0, 100)},
			{"Num", with(func(s *impl.Serv) { s.Took[1].Num = n }), within(n, 1, 60)},
			{"a seal's Key", with(func(s *impl.Serv) { s.Cache[2].Key = n }), within(n, 10, 60)},
			{"a seal's time", with(func(s *impl.Serv) { s.Cache[2].B = n }), within(n, 0, 100)},
			{"so many seals", with(func(s *impl.Serv) { s.Cache = toldAt(max(0, n), 40, 41) }), n <= 20},
		} {
			if c.got != c.want {
				t.Errorf("%s %d: ServOk = %v", c.what, n, c.got)
			}
		}
	}
}

// All that services hear: calls at each limit, and in each way other than they must be, at times at the limits.
func TestServeCases(t *testing.T) {
	count := map[bool]int{}
	for _, now := range edgeTimes() {
		for _, s := range goodServs(now) {
			for _, m := range callsFor(s, now) {
				_, _, ok := checkServe(t, s, m, now)
				count[ok]++
			}
		}
	}
	if count[true] < 500 || count[false] < 500 {
		t.Errorf("of all %v", count)
	}
}

// Nothing and false of a service that is not ok, and at what is no time, whatever is heard; behind a fall nothing, too.
func TestServWrong(t *testing.T) {
	nothing := func(why string, s impl.Serv, now int) {
		t.Helper()
		for _, m := range []impl.Msg{callOf(2, 4, 30, 40, 20), callOf(1, 5, 60, 40, 60), callOf(1, 5, 60, 0, 60), callOf(3, 4, 10, 100, 1), apAsk(s.Id, firstTicket(1, 10, 0, 100), told(10, 1, 40, 9)), asAsk(2, 1), {}} {
			if after, answer, ok := checkServe(t, s, m, now); ok || !emptyServ(after) || !emptyMsg(answer) {
				t.Errorf("%s: ServHear(%v, %v, %d) = %v, %v, %v", why, s, m, now, after, answer, ok)
			}
		}
		if after := checkFall(t, s, now); !emptyServ(after) {
			t.Errorf("%s: ServFall(%v, %d) = %v", why, s, now, after)
		}
	}
	for _, bad := range wrongServs() {
		for _, now := range []int{0, 40, 100} {
			nothing(bad.why, bad.serv, now)
		}
	}
	for _, now := range oddNumbers() {
		if !timeWanted(now) {
			for _, s := range []impl.Serv{newServ(4), newServ(5), busyServ(4), busyServ(5), {Id: 4, Since: 100}} {
				nothing("no time", s, now)
			}
		}
	}
	nothing("nothing", impl.Serv{}, 40)
}

// P59: ServNew is ok, nobody called it, and it hears of what is told at any time.
func TestP59New(t *testing.T) {
	for _, id := range append(oddNumbers(), upTo(-2, 70)...) {
		s, ok := impl.ServNew(id)
		if ok != servWanted(id) || !ok && !emptyServ(s) {
			t.Errorf("ServNew(%d) = %v, %v", id, s, ok)
		}
	}
	for id := 4; id <= 5; id++ {
		s, ok := impl.ServNew(id)
		if !ok || !impl.ServOk(s) || s.Id != id || s.Since != -1 || len(s.Cache) != 0 || len(s.Took) != 0 {
			t.Fatalf("ServNew(%d) = %v, %v", id, s, ok)
		}
		for now := 0; now <= 100; now++ {
			for time := max(0, now-3); time <= now; time++ {
				for user := 1; user <= 3; user++ {
					for _, key := range []int{10, 11, 33, 59, 60} {
						m := callOf(user, id, key, time, 60-now%60)
						after := checkTakes(t, "new", s, m, now)
						if after.Id != id || after.Since != -1 || !slices.Equal(after.Took, []impl.Call{callIn(m)}) || !slices.Equal(after.Cache, m.Seals[1:]) || !impl.ServOk(after) {
							t.Errorf("behind %v there is %v", m, after)
						}
					}
				}
			}
		}
	}
}

// P60: If ServHear is true the ticket is for this service, lasts then, and what is told with it is sealed with its key, of
// its user, fresh, new, and later than Since; it is behind Took.
func TestP60WhatIsHeard(t *testing.T) {
	count := map[bool]int{}
	good := apAsk(5, servTicket(2, 5, 30, 37, 43), told(30, 2, 39, 8))
	for _, now := range append(upTo(34, 46), 0, 100) {
		for _, s := range []impl.Serv{newServ(5), newServ(4), busyServ(5), {Id: 5, Since: 38, Cache: toldAt(5, 40), Took: tookOf(2)}, {Id: 5, Since: 39}, {Id: 5, Since: -1, Cache: good.Seals[1:], Took: tookOf(1)}} {
			for place := range 2 {
				for _, bent := range append(bentSeals(good.Seals[place]), fewSeals()...) {
					m := ownMsg(good)
					m.Seals[place] = bent
					after, _, ok := checkServe(t, s, m, now)
					count[ok]++
					if ok {
						checkHeard(t, s, m, now, after)
					}
				}
			}
		}
	}
	if count[true] < 100 || count[false] < 1000 {
		t.Errorf("of all %v", count)
	}
}

// checkHeard asks all that must hold of a word that was heard.
func checkHeard(t *testing.T, s impl.Serv, m impl.Msg, now int, after impl.Serv) {
	t.Helper()
	if m.Kind != impl.MsgApAsk || m.Serv != s.Id || !impl.MsgOk(m) {
		t.Fatalf("%v heard %v", s, m)
	}
	ticket, auth := m.Seals[0], m.Seals[1]
	if ticket.Kind != impl.SealTicket || ticket.Key != s.Id || ticket.B != s.Id || now < ticket.D || now > ticket.E {
		t.Errorf("%v took the ticket %v at %d", s, ticket, now)
	}
	if auth.Kind != impl.SealAuth || auth.Key != ticket.C || auth.A != ticket.A || auth.B > now || auth.B < now-3 || auth.B <= s.Since || slices.Contains(s.Cache, auth) {
		t.Errorf("%v took %v at %d, with %v", s, auth, now, ticket)
	}
	if !slices.Equal(after.Took, append(slices.Clone(s.Took), callIn(m))) || after.Id != s.Id || after.Since != s.Since || !slices.Contains(after.Cache, auth) || !impl.ServOk(after) {
		t.Errorf("%v, behind %v, is %v", s, m, after)
	}
}

// P61: What ServHear answers is for the user of the ticket, sealed with its key, with the time and the number that were
// told.
func TestP61Answer(t *testing.T) {
	for _, now := range []int{0, 1, 40, 99, 100} {
		for _, s := range []impl.Serv{newServ(4), newServ(5), {Id: 4, Since: -1, Cache: toldAt(20, now)[1:], Took: tookOf(5)}} {
			for user := 1; user <= 3; user++ {
				for _, num := range []int{1, 2, 59, 60} {
					for _, key := range []int{10, 40, 60} {
						m := callOf(user, s.Id, key, max(0, now-num%4), num)
						_, answer, ok := checkServe(t, s, m, now)
						if !ok || !impl.MsgOk(answer) || answer.Kind != impl.MsgApBack || answer.Client != user || answer.Serv != 0 || answer.Nonce != 0 {
							t.Fatalf("ServHear(%v, %v, %d) = %v, %v", s, m, now, answer, ok)
						}
						if want := (impl.Seal{Key: key, Kind: impl.SealBack, A: m.Seals[1].B, B: num}); answer.Seals[0] != want {
							t.Errorf("ServHear(%v, %v, %d) answers %v", s, m, now, answer)
						}
						caller := impl.Client{Id: user, Num: num, Sent: []impl.Call{{Peer: s.Id, Key: key, Time: m.Seals[1].B, Num: num}}}
						if met := impl.ClientHear(caller, answer).Met; !slices.Equal(met, caller.Sent) {
							t.Errorf("%v, behind %v, met %v", caller, answer, met)
						}
					}
				}
			}
		}
	}
}

// P62: The same word once more, then or later, is not heard.
func TestP62Once(t *testing.T) {
	for _, now := range edgeTimes() {
		for _, s := range goodServs(now) {
			for _, time := range []int{now, now - 3} {
				if !timeWanted(time) {
					continue
				}
				m := callOf(2, s.Id, 60, time, 60)
				after, _, ok := checkServe(t, s, m, now)
				if !ok {
					continue
				}
				for later := now; later <= min(100, now+6); later++ {
					checkUnheard(t, "heard already", after, m, later)
				}
				checkUnheard(t, "heard already", after, m, 100)
			}
		}
	}
}

// P62: nor is it behind others, which may be as many as can be remembered, or that make forget.
func TestP62BehindOthers(t *testing.T) {
	for now := 0; now <= 100; now++ {
		m := callOf(1, 4, 10, now, 1)
		s := checkTakes(t, "new", newServ(4), m, now)
		for later := now; later <= min(100, now+5); later++ {
			for num := 2; num <= 6; num++ {
				s, _, _ = checkServe(t, s, callOf(num%3+1, 4, 10, later, num), later)
				s = checkUnheard(t, "heard already", s, m, later)
				s = checkUnheard(t, "heard already", s, callOf(num%3+1, 4, 10, later, num), later)
			}
		}
		if count := len(s.Took); count != 1+5*min(6, 101-now) && count < 20 {
			t.Errorf("from %d on %d calls are taken", now, count)
		}
	}
}

// P62: with another ticket, from or until another time, or another user's, what was told once is not heard either.
func TestP62OtherTicket(t *testing.T) {
	auth := told(30, 2, 40, 9)
	s := checkTakes(t, "new", newServ(5), apAsk(5, servTicket(2, 5, 30, 30, 42), auth), 40)
	for _, ticket := range []impl.Seal{servTicket(2, 5, 30, 31, 42), servTicket(2, 5, 30, 30, 100), servTicket(2, 5, 30, 0, 41), servTicket(1, 5, 30, 30, 42), servTicket(2, 5, 31, 30, 42)} {
		for now := 40; now <= 45; now++ {
			checkUnheard(t, "told already", s, apAsk(5, ticket, auth), now)
		}
	}
}

// P63: Behind ServFall what is told at that time, or ahead, is not heard, though it was not heard yet; who called is
// remembered.
func TestP63Fall(t *testing.T) {
	for fall := 0; fall <= 100; fall++ {
		for _, s := range []impl.Serv{newServ(4), {Id: 5, Since: 0, Cache: toldAt(20, fall), Took: tookOf(7)}, {Id: 4, Since: max(-1, fall-2), Cache: toldAt(3, fall, 50), Took: tookOf(1)}, {Id: 5, Since: fall, Took: tookOf(2)}} {
			fallen := checkFall(t, s, fall)
			if !impl.ServOk(fallen) || fallen.Id != s.Id || fallen.Since != fall || len(fallen.Cache) != 0 || !slices.Equal(fallen.Took, s.Took) {
				t.Errorf("ServFall(%v, %d) = %v", s, fall, fallen)
			}
			for time := max(0, fall-5); time <= min(100, fall+5); time++ {
				for now := time; now <= min(100, time+4); now++ {
					m := callOf(3, s.Id, 20, time, 5)
					after, _, ok := checkServe(t, fallen, m, now)
					if ok != (time > fall && now <= time+3) || !ok && !sameServ(after, fallen) && time <= fall {
						t.Errorf("behind a fall at %d what is told at %d is heard at %d: %v, %v", fall, time, now, after, ok)
					}
				}
			}
		}
	}
}

// P63: a call that was taken ahead of a fall is not taken behind it, at any time, and stays taken; nor is one that was told
// then, and was not heard yet.
func TestP63TakenAheadOfAFall(t *testing.T) {
	for now := 0; now <= 100; now++ {
		for time := max(0, now-3); time <= now; time++ {
			m, late := callOf(2, 5, 44, time, 7), callOf(1, 5, 45, time, 8)
			s := checkTakes(t, "new", newServ(5), m, now)
			for fall := now; fall <= min(100, now+4); fall++ {
				fallen := checkFall(t, s, fall)
				if !slices.Equal(fallen.Took, []impl.Call{callIn(m)}) {
					t.Errorf("behind a fall at %d just %v called", fall, fallen.Took)
				}
				for later := fall; later <= min(100, fall+5); later++ {
					for _, old := range []impl.Msg{m, late} {
						if after := checkUnheard(t, "told ahead of a fall", fallen, old, later); !sameServ(after, fallen) {
							t.Errorf("%v, behind %v, is %v", fallen, old, after)
						}
					}
				}
			}
		}
	}
}

// P63: a fall between two calls, and one behind it: the first one is not heard again, the second one is, once.
func TestP63BetweenTwoCalls(t *testing.T) {
	one, two := callOf(1, 4, 10, 40, 3), callOf(1, 4, 10, 42, 4)
	s := checkFall(t, checkTakes(t, "new", newServ(4), one, 40), 41)
	s = checkUnheard(t, "ahead of the fall", s, one, 41)
	s = checkTakes(t, "behind the fall", s, two, 42)
	s = checkUnheard(t, "ahead of the fall", s, one, 42)
	s = checkUnheard(t, "heard already", s, two, 43)
	s = checkFall(t, s, 43)
	for now := 43; now <= 50; now++ {
		s = checkUnheard(t, "ahead of the fall", s, one, now)
		s = checkUnheard(t, "ahead of the fall", s, two, now)
	}
	if !slices.Equal(s.Took, []impl.Call{callIn(one), callIn(two)}) || s.Since != 43 {
		t.Errorf("in the end there is %v", s)
	}
}

// P64: ServFall twice at one time is once; behind one at an elder time it is that of the later one.
func TestP64Twice(t *testing.T) {
	for _, s := range append(goodServs(40), goodServs(100)...) {
		for _, one := range []int{0, 1, 35, 39, 40, 41, 99, 100} {
			once := checkFall(t, s, one)
			if twice := checkFall(t, once, one); !sameServ(twice, once) {
				t.Errorf("ServFall(%v, %d), twice, is %v", s, one, twice)
			}
			for _, two := range []int{0, 1, 38, 40, 42, 99, 100} {
				later := checkFall(t, s, max(one, two))
				if both := checkFall(t, once, two); !sameServ(both, later) {
					t.Errorf("behind the falls at %d and %d %v is %v; want %v", one, two, s, both, later)
				}
			}
		}
	}
}

// P64: a fall at a time elder than Since leaves Since, and forgets all; what was told up to Since is not heard behind it.
func TestP64Elder(t *testing.T) {
	for _, since := range []int{1, 2, 40, 99, 100} {
		s := impl.Serv{Id: 4, Since: since, Cache: toldAt(9, since, 100), Took: tookOf(3)}
		for _, fall := range []int{0, since - 1, since} {
			fallen := checkFall(t, s, fall)
			if fallen.Since != since || len(fallen.Cache) != 0 || !slices.Equal(fallen.Took, s.Took) {
				t.Errorf("ServFall(%v, %d) = %v", s, fall, fallen)
			}
			checkUnheard(t, "told up to Since", fallen, callOf(1, 4, 10, since, 1), since)
			checkUnheard(t, "told up to Since", fallen, callOf(1, 4, 10, fall, 1), max(fall, since-2))
			if since < 100 {
				checkTakes(t, "told behind Since", fallen, callOf(1, 4, 10, since+1, 1), since+1)
			}
		}
	}
}

// P65: A word for another service, with a ticket of another one, or told by another user than the ticket's, is not heard,
// and changes at most what is remembered.
func TestP65OfAnotherOne(t *testing.T) {
	for _, now := range []int{0, 3, 40, 99, 100} {
		for _, cache := range cachesAt(now) {
			for id := 4; id <= 5; id++ {
				s := impl.Serv{Id: id, Since: -1, Cache: cache, Took: tookOf(2)}
				for user := 1; user <= 3; user++ {
					ticket, auth := servTicket(user, id, 60, 0, 100), told(60, user, now, 60)
					away := servTicket(user, 9-id, 60, 0, 100)
					for _, m := range []impl.Msg{
						apAsk(9-id, ticket, auth), apAsk(9-id, away, auth), apAsk(id, away, auth), apAsk(id, firstTicket(user, 60, 0, 100), auth),
						apAsk(id, ticket, told(60, user%3+1, now, 60)), apAsk(id, ticket, told(60, (user+1)%3+1, now, 60)), apAsk(id, ticket, told(59, user, now, 60)),
						apAsk(6, ticket, auth), apAsk(3, ticket, auth), apAsk(0, ticket, auth),
					} {
						if after := checkUnheard(t, "of another one", s, m, now); !slices.Equal(after.Cache, cache) {
							t.Errorf("%v, behind %v at %d, is %v", s, m, now, after)
						}
					}
				}
			}
		}
	}
}

// P66: Of two calls of one ticket, with two numbers, both are taken, and answered each with its own.
func TestP66TwoNumbers(t *testing.T) {
	for _, now := range []int{0, 1, 3, 40, 99, 100} {
		for id := 4; id <= 5; id++ {
			for _, count := range []int{0, 1, 17, 18} {
				s := impl.Serv{Id: id, Since: -1, Cache: toldAt(count, now), Took: tookOf(count)}
				for _, nums := range [][2]int{{1, 2}, {2, 1}, {59, 60}, {60, 1}} {
					ticket := servTicket(2, id, 10, max(0, now-3), now)
					one, two := apAsk(id, ticket, told(10, 2, now, nums[0])), apAsk(id, ticket, told(10, 2, max(0, now-nums[1]%2), nums[1]))
					first, back, ok := checkServe(t, s, one, now)
					second, again, okToo := checkServe(t, first, two, now)
					if !ok || !okToo || back.Seals[0].B != nums[0] || again.Seals[0].B != nums[1] {
						t.Errorf("%v hears %v, %v, and answers %v, %v", s, one, two, back, again)
					}
					if !slices.Equal(second.Took, joined(s.Took, []impl.Call{callIn(one), callIn(two)})) || !slices.Equal(second.Cache, joined(s.Cache, one.Seals[1:], two.Seals[1:])) {
						t.Errorf("%v, behind %v and %v, is %v", s, one, two, second)
					}
				}
			}
		}
	}
}

// P67: If ServHear is false Took, and Since, are as they were, and nothing is answered; the service is ok.
func TestP67False(t *testing.T) {
	count := 0
	for _, now := range edgeTimes() {
		if !timeWanted(now) {
			continue
		}
		for _, s := range goodServs(now) {
			for _, m := range joined(callsFor(s, now), bentForms()) {
				after, answer, ok := impl.ServHear(s, m, now)
				if !impl.ServOk(after) || after.Since != s.Since || after.Id != s.Id {
					t.Errorf("ServHear(%v, %v, %d) = %v", s, m, now, after)
				}
				if ok {
					continue
				}
				count++
				if !slices.Equal(after.Took, s.Took) || !emptyMsg(answer) || !slices.Equal(after.Cache, s.Cache) && !slices.Equal(after.Cache, freshIn(s.Cache, now)) {
					t.Errorf("ServHear(%v, %v, %d) = %v, %v, %v", s, m, now, after, answer, ok)
				}
			}
		}
	}
	if count < 1000 {
		t.Errorf("just %d are false", count)
	}
}

// P67: a word that is not in form, or of another kind, is not heard, and nothing is forgotten by it.
func TestP67NotInForm(t *testing.T) {
	s := busyServ(5)
	good := callOf(2, 5, 60, 40, 60)
	checkTakes(t, "in form", s, good, 40)
	for _, bent := range bentMsgs(good) {
		after, _, ok := checkServe(t, s, bent, 40)
		if ok && !sameMsg(bent, good) || !msgWanted(bent) && !sameServ(after, s) {
			t.Errorf("ServHear(%v, %v, 40) = %v, %v", s, bent, after, ok)
		}
	}
	for kind := -1; kind <= 8; kind++ {
		for _, m := range []impl.Msg{
			{Kind: kind, Serv: 5, Seals: good.Seals}, {Kind: kind, Serv: 5, Nonce: 7, Seals: good.Seals}, {Kind: kind, Client: 2, Seals: good.Seals},
			{Kind: kind, Client: 2, Serv: 5, Seals: good.Seals}, {Kind: kind, Client: 2, Nonce: 7}, {Kind: kind, Client: 2, Seals: good.Seals[1:]},
		} {
			after, _, ok := checkServe(t, s, m, 40)
			if ok != sameMsg(m, good) || !ok && !sameServ(after, s) {
				t.Errorf("ServHear(%v, %v, 40) = %v, %v", s, m, after, ok)
			}
		}
	}
}

// P68: Who has neither the service's key, nor the ticket's, cannot make a word with that ticket that is heard, of seals that
// do not have what was told.
func TestP68CannotBeMade(t *testing.T) {
	made := map[bool]int{}
	for id := 4; id <= 5; id++ {
		for user := 1; user <= 3; user++ {
			for _, key := range []int{10, 37, 60} {
				ticket := servTicket(user, id, key, 36, 44)
				seals := []impl.Seal{ticket, partOf(user%3+1, id, (key+1)%51+10), partOf((user+1)%3+1, 9-id, (key+7)%51+10), backOf(key), partOf(key, 9-id, 20), firstTicket(user, key, 36, 44)}
				others := slices.DeleteFunc(upTo(1, 60), func(n int) bool { return n == id || n == key || n == 6 })
				for _, num := range []int{1, 30, 60} {
					for _, time := range []int{38, 40, 41} {
						for teller := 1; teller <= 3; teller++ {
							for _, auth := range []impl.Seal{told(key, teller, time, num), told(key%51+10, teller, time, num), backOf(key), ticket} {
								m := apAsk(id, ticket, auth)
								_, _, heard := checkServe(t, newServ(id), m, 41)
								can := impl.KnowBuild(others, seals, m)
								made[can]++
								if heard && can {
									t.Errorf("who has %v makes %v, which is heard", others, m)
								}
								if heard && (!impl.KnowBuild(append(others, key), seals, m) || !impl.KnowBuild(append(others, id), seals, m)) {
									t.Errorf("who has %d, or %d, cannot make %v", key, id, m)
								}
							}
						}
					}
				}
			}
		}
	}
	if made[true] < 100 || made[false] < 100 {
		t.Errorf("of all %v", made)
	}
}

// P68: what was told by users, and their keys, is of no use with the ticket of another user.
func TestP68TicketOfAnotherUser(t *testing.T) {
	theirs, own := servTicket(1, 4, 20, 0, 100), servTicket(3, 4, 21, 0, 100)
	keys, seals := []int{3, 21}, []impl.Seal{theirs, own, partOf(1, 4, 20), partOf(3, 4, 21)}
	for _, key := range upTo(10, 60) {
		for user := 1; user <= 3; user++ {
			for _, ticket := range []impl.Seal{theirs, own, servTicket(1, 4, 21, 0, 100), servTicket(3, 4, 20, 0, 100)} {
				m := apAsk(4, ticket, told(key, user, 40, 9))
				after, _, heard := checkServe(t, newServ(4), m, 40)
				if heard && impl.KnowBuild(keys, seals, m) && (after.Took[0].Peer != 3 || after.Took[0].Key != 21) {
					t.Errorf("the user 3 makes %v, by which %v is taken", m, after.Took)
				}
			}
		}
	}
}

// P69: The same ticket told at a time behind its end is not heard; at its end it is.
func TestP69End(t *testing.T) {
	for _, ends := range [][2]int{{0, 0}, {0, 12}, {30, 42}, {88, 100}, {100, 100}, {95, 100}, {42, 30}, {0, 100}, {41, 40}} {
		for now := -1; now <= 101; now++ {
			at := max(0, min(100, now))
			m := apAsk(5, servTicket(3, 5, 60, ends[0], ends[1]), told(60, 3, at, 1))
			for _, s := range []impl.Serv{newServ(5), {Id: 5, Since: -1, Cache: toldAt(4, at, 50), Took: tookOf(1)}} {
				after, _, ok := checkServe(t, s, m, now)
				if want := within(now, ends[0], ends[1]); ok != (want && timeWanted(now)) {
					t.Errorf("at %d a ticket from %d until %d is taken: %v", now, ends[0], ends[1], ok)
				}
				if !ok && timeWanted(now) && !sameServ(after, s) {
					t.Errorf("at %d a ticket from %d until %d leaves %v", now, ends[0], ends[1], after)
				}
			}
		}
	}
}

// P69: one ticket told again and again, up to its end, and once behind it.
func TestP69UpToTheEnd(t *testing.T) {
	s, ticket := newServ(4), servTicket(2, 4, 11, 30, 42)
	for now := 27; now <= 45; now++ {
		m := apAsk(4, ticket, told(11, 2, now, now))
		after, _, ok := checkServe(t, s, m, now)
		if ok != within(now, 30, 42) {
			t.Errorf("at %d %v is heard: %v", now, m, ok)
		}
		s = after
	}
	// What was told while it lasted is not heard behind its end either, though it is fresh.
	checkUnheard(t, "behind its end", s, apAsk(4, ticket, told(11, 2, 42, 60)), 43)
	checkUnheard(t, "ahead of its beginning", newServ(4), apAsk(4, ticket, told(11, 2, 29, 60)), 29)
	checkTakes(t, "told ahead of its beginning", newServ(4), apAsk(4, ticket, told(11, 2, 29, 60)), 30)
}

// P70: What is told later than the time, or more than SkewMax ahead of it, or not later than Since, is not heard.
func TestP70WhenItIsTold(t *testing.T) {
	for now := 0; now <= 100; now++ {
		for time := 0; time <= 100; time++ {
			for _, since := range []int{-1, 0, now - 4, now - 3, now - 1, now, time - 1, time, time + 1, 100} {
				if !within(since, -1, 100) {
					continue
				}
				_, _, ok := checkServe(t, impl.Serv{Id: 4, Since: since}, callOf(1, 4, 33, time, 9), now)
				if want := time <= now && time >= now-3 && time > since; ok != want {
					t.Errorf("told at %d, heard at %d since %d: %v", time, now, since, ok)
				}
			}
		}
	}
}

// As many as can be remembered, and no more: with one less than CacheMax that are fresh a call is heard, with CacheMax none
// is, with one more the service is not ok; later it hears again.
func TestServeFull(t *testing.T) {
	for now := 0; now <= 100; now++ {
		m := callOf(1, 5, 10, now, 1)
		for count, want := range map[int]bool{0: true, 18: true, 19: true, 20: false, 21: false} {
			s := impl.Serv{Id: 5, Since: -1, Cache: toldAt(count, now, max(0, now-1), max(0, now-2)), Took: tookOf(3)}
			after, _, ok := checkServe(t, s, m, now)
			if ok != want || count == 20 && !sameServ(after, s) || count == 21 && !emptyServ(after) {
				t.Errorf("with %d that are fresh at %d there is %v, %v", count, now, after, ok)
			}
			if now <= 96 && count <= 20 {
				late := callOf(1, 5, 10, now+4, 2)
				if after := checkTakes(t, "later", s, late, now+4); !slices.Equal(after.Cache, late.Seals[1:]) {
					t.Errorf("at %d %v is remembered", now+4, after.Cache)
				}
			}
		}
	}
}

// What is forgotten when nothing is heard: behind a word that is shown, and told later than Since, what is not fresh; else
// nothing.
func TestServForgets(t *testing.T) {
	fresh := []impl.Seal{told(10, 2, 38, 1), told(11, 1, 40, 2), told(12, 3, 39, 3)}
	cache := []impl.Seal{told(10, 2, 36, 4), fresh[0], told(13, 1, 41, 5), fresh[1], told(14, 1, 0, 6), told(15, 1, 100, 7), fresh[2], told(10, 2, 37, 8), told(10, 2, 20, 8)}
	kept := []impl.Seal{fresh[0], fresh[1], fresh[2], cache[7]}
	ticket := servTicket(2, 4, 10, 30, 42)
	for _, c := range []struct {
		why   string
		since int
		m     impl.Msg
		want  []impl.Seal
	}{
		{"told already", 37, apAsk(4, ticket, fresh[0]), kept},
		{"told already, since ever", -1, apAsk(4, ticket, cache[7]), kept},
		{"later", 37, apAsk(4, ticket, told(10, 2, 41, 9)), kept},
		{"much later", 37, apAsk(4, ticket, told(10, 2, 100, 9)), kept},
		{"too old", 35, apAsk(4, ticket, told(10, 2, 36, 9)), kept},
		{"too old, and told already", 19, apAsk(4, ticket, cache[8]), kept},
		{"too old, the first time", -1, apAsk(4, ticket, told(10, 2, 0, 9)), kept},
		{"at Since", 38, apAsk(4, ticket, told(10, 2, 38, 9)), cache},
		{"at Since, told already", 38, apAsk(4, ticket, fresh[0]), cache},
		{"ahead of Since", 39, apAsk(4, ticket, told(10, 2, 38, 9)), cache},
		{"too old, and at Since", 36, apAsk(4, ticket, told(10, 2, 36, 9)), cache},
		{"since later", 100, apAsk(4, ticket, told(10, 2, 40, 9)), cache},
		{"another key", 37, apAsk(4, ticket, fresh[1]), cache},
		{"another key, told already", 37, apAsk(4, ticket, told(11, 2, 40, 2)), cache},
		{"another user", 37, apAsk(4, ticket, told(10, 3, 40, 9)), cache},
		{"lasts no more", 37, apAsk(4, servTicket(2, 4, 10, 30, 39), told(10, 2, 40, 9)), cache},
		{"lasts not yet", 37, apAsk(4, servTicket(2, 4, 10, 41, 45), told(10, 2, 40, 9)), cache},
		{"for the other service", 37, apAsk(4, servTicket(2, 5, 10, 30, 42), fresh[0]), cache},
		{"a first ticket", 37, apAsk(4, firstTicket(2, 10, 30, 42), fresh[0]), cache},
		{"brought to the other service", 37, apAsk(5, ticket, fresh[0]), cache},
		{"no ticket", 37, apAsk(4, fresh[0], fresh[0]), cache},
		{"a part, in place of the ticket", 37, apAsk(4, partOf(10, 4, 10), fresh[0]), cache},
		{"nothing told", 37, apAsk(4, ticket, ticket), cache},
		{"a part", 37, apAsk(4, ticket, partOf(10, 4, 40)), cache},
		{"an answer, of a time that is the user's number", 37, apAsk(4, ticket, impl.Seal{Key: 10, Kind: impl.SealBack, A: 2, B: 40}), cache},
		{"in the other order", 37, apAsk(4, fresh[0], ticket), cache},
		{"not in form", 37, impl.Msg{Kind: impl.MsgApAsk, Client: 2, Serv: 4, Seals: []impl.Seal{ticket, fresh[0]}}, cache},
		{"of another kind", 37, tgsAsk(4, 9, ticket, fresh[0]), cache},
		{"an answer", 37, impl.Msg{Kind: impl.MsgApBack, Client: 2, Seals: fresh[:1]}, cache},
		{"a first ticket asked for", 37, asAsk(2, 9), cache},
	} {
		s := impl.Serv{Id: 4, Since: c.since, Cache: cache, Took: tookOf(3)}
		if after := checkUnheard(t, c.why, s, c.m, 40); !slices.Equal(after.Cache, c.want) {
			t.Errorf("%s: behind %v %v is remembered; want %v", c.why, c.m, after.Cache, c.want)
		}
	}
	s := impl.Serv{Id: 4, Since: 39, Cache: cache, Took: tookOf(3)}
	heard := told(10, 2, 40, 9)
	if after := checkTakes(t, "just behind Since", s, apAsk(4, ticket, heard), 40); !slices.Equal(after.Cache, append(slices.Clone(kept), heard)) {
		t.Errorf("behind what is heard %v is remembered", after.Cache)
	}
}

// Each service is called by each user, once, and twice, at several times one behind the other, with tickets that they were
// given; all that is taken stays, in order, and who called is answered, and meets.
func TestServOneBehindTheOther(t *testing.T) {
	w := newServWalk(0)
	took := map[int][]impl.Call{}
	for _, start := range []int{0, 13, 40, 70} {
		for user := range w.users {
			for serv := 4; serv <= 5; serv++ {
				for _, now := range []int{start, start, start + 2, start + 9} {
					took[serv] = append(took[serv], callAndMeet(t, w, user, serv, now))
					if got := w.servs[serv].Took; !slices.Equal(got, took[serv]) {
						t.Fatalf("%d was called by %v; want %v", serv, got, took[serv])
					}
				}
			}
		}
		for serv := 4; serv <= 5; serv++ {
			w.servs[serv] = checkFall(t, w.servs[serv], start+10)
		}
	}
}

// callAndMeet lets a user get what he has not, call a service, and hear its answer; it hands on the call.
func callAndMeet(t *testing.T, w *servWalk, user, serv, now int) impl.Call {
	t.Helper()
	c := w.users[user]
	var ask, give impl.Msg
	if _, has := credWanted(c, 6, now); !has {
		c, ask, _ = impl.ClientAs(c)
		w.kdc, give, _ = impl.KdcAs(w.kdc, ask, now)
		c = impl.ClientHear(c, give)
	}
	if _, has := credWanted(c, serv, now); !has {
		c, ask, _ = impl.ClientTgs(c, serv, now)
		w.kdc, give, _ = impl.KdcTgs(w.kdc, ask, now)
		c = impl.ClientHear(c, give)
	}
	c, ask, ok := impl.ClientAp(c, serv, now)
	after, answer, heard := checkServe(t, w.servs[serv], ask, now)
	met := len(c.Met)
	c = impl.ClientHear(c, answer)
	if !ok || !heard || len(c.Met) != met+1 || c.Met[met].Peer != serv {
		t.Fatalf("at %d %v calls %d by %v, and is answered %v", now, c, serv, ask, answer)
	}
	w.users[user], w.servs[serv] = c, after
	return callIn(ask)
}

// Of all that is brought to services at random, late, again, with one number odd, and behind falls, just what may be heard
// is, each call once.
func TestServWalks(t *testing.T) {
	heard, falls := 0, 0
	for seed := range int64(120) {
		w := newServWalk(seed)
		once := map[impl.Call]bool{}
		for range 400 {
			s := w.step(t)
			if !s.ok {
				continue
			}
			heard++
			checkHeard(t, s.before, s.word, w.now, s.after)
			call := callIn(s.word)
			if once[call] || call.Time <= w.fell[s.before.Id] {
				t.Fatalf("in the walk %d, behind a fall at %d, %v is taken", seed, w.fell[s.before.Id], call)
			}
			once[call] = true
		}
		for id := 4; id <= 5; id++ {
			if w.fell[id] >= 0 {
				falls++
			}
			for _, m := range w.calls {
				if call := callIn(m); call.Time <= w.fell[id] {
					checkUnheard(t, "told ahead of a fall", w.servs[id], m, w.now)
				}
			}
		}
	}
	if heard < 1000 || falls < 100 {
		t.Errorf("of all %d were heard, and %d fell", heard, falls)
	}
}
