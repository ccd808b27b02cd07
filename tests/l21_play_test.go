package tests

import (
	"fmt"
	"slices"
	"testing"

	"loop.example/cerberus/impl"
)

// What must never be is told by a text, so that one test can ask it behind each event, and another one behind the last.

// notCalledByHim tells of a call that a service took as one of a user who is not bad, and who did not call so.
func notCalledByHim(w impl.World) string {
	for _, s := range w.Servs {
		for _, took := range s.Took {
			sent := impl.Call{Peer: s.Id, Key: took.Key, Time: took.Time, Num: took.Num}
			if took.Peer != w.Bad && !slices.Contains(userOf(w, took.Peer).Sent, sent) {
				return fmt.Sprintf("%d took %v, which was not sent", s.Id, took)
			}
		}
	}
	return ""
}

// takenTwice tells of a call that a service took twice, or two services did.
func takenTwice(w impl.World) string {
	by := map[impl.Call]int{}
	for _, s := range w.Servs {
		for _, took := range s.Took {
			if other, twice := by[took]; twice {
				return fmt.Sprintf("%d took %v, which %d took already", s.Id, took, other)
			}
			by[took] = s.Id
		}
	}
	return ""
}

// metUntaken tells of a call that a user who is not bad has met, and that his service did not take.
func metUntaken(w impl.World) string {
	for _, c := range w.Clients {
		for _, met := range c.Met {
			took := impl.Call{Peer: c.Id, Key: met.Key, Time: met.Time, Num: met.Num}
			if c.Id != w.Bad && !slices.Contains(servOf(w, met.Peer).Took, took) {
				return fmt.Sprintf("%d met %v, which was not taken", c.Id, met)
			}
		}
	}
	return ""
}

// heldKeys is the keys that a user has, or called with.
func heldKeys(c impl.Client) []int {
	var all []int
	for _, d := range c.Creds {
		all = append(all, d.Key)
	}
	for _, call := range c.Sent {
		all = append(all, call.Key)
	}
	return all
}

// knownToBad tells of a key to which the bad user must not come.
func knownToBad(w impl.World) string {
	keys := impl.WorldKeys(w)
	for n := 1; n <= 6; n++ {
		if slices.Contains(keys, n) != (n == w.Bad) {
			return fmt.Sprintf("of users, services, and who gives tickets he has %v", keys)
		}
	}
	for _, c := range w.Clients {
		for _, key := range heldKeys(c) {
			if c.Id != w.Bad && slices.Contains(keys, key) {
				return fmt.Sprintf("he has %d, which %d has, or called with", key, c.Id)
			}
		}
	}
	return ""
}

// neverAnything tells of anything that must never be.
func neverAnything(w impl.World) string {
	for _, ask := range []func(impl.World) string{notCalledByHim, takenTwice, metUntaken, knownToBad} {
		if told := ask(w); told != "" {
			return told
		}
	}
	return ""
}

// checkNever asks behind all plays that something is not.
func checkNever(t *testing.T, what func(impl.World) string) {
	t.Helper()
	for _, p := range allPlays() {
		if told := what(p.last()); told != "" {
			t.Errorf("%s, bad %d, behind %v: %s", p.name, p.bad, p.events, told)
		}
	}
}

// countOf is how many of something there are behind all plays.
func countOf(of func(impl.World) int) int {
	count := 0
	for _, w := range ends() {
		count += of(w)
	}
	return count
}

// tookAs counts the calls that services took as such of the bad user, or as such of others.
func tookAs(bad bool) func(impl.World) int {
	return func(w impl.World) int {
		count := 0
		for _, s := range w.Servs {
			for _, took := range s.Took {
				if (took.Peer == w.Bad) == bad {
					count++
				}
			}
		}
		return count
	}
}

func metCount(w impl.World) int {
	return len(w.Clients[0].Met) + len(w.Clients[1].Met) + len(w.Clients[2].Met)
}

// The plays must have in them what they are to show; else the promises about them would hold of nothing.
func TestPlaysHaveAll(t *testing.T) {
	for _, c := range []struct {
		what  string
		count int
		least int
	}{
		{"calls taken of honest users", countOf(tookAs(false)), 200},
		{"calls taken of the bad user", countOf(tookAs(true)), 50},
		{"calls met", countOf(metCount), 150},
		{"keys that the bad user comes to", countOf(func(w impl.World) int { return len(impl.WorldKeys(w)) }), 400},
		{"words sent that call", countOf(func(w impl.World) int { return len(sentOf(w, impl.MsgApAsk)) }), 600},
		{"words sent that ask for tickets", countOf(func(w impl.World) int { return len(sentOf(w, impl.MsgTgsAsk)) }), 600},
		{"keys made", countOf(func(w impl.World) int { return w.Kdc.Next - 10 }), 600},
		{"services that fell", countOf(func(w impl.World) int { return min(1, 1+w.Servs[0].Since) + min(1, 1+w.Servs[1].Since) }), 100},
	} {
		t.Log(c.what, c.count)
		if c.count < c.least {
			t.Errorf("%s: %d", c.what, c.count)
		}
	}
}

// P76: each service was called as a user who is not bad just by him, with that key, at that time, with that number.
func TestP76NeverAnotherOne(t *testing.T) {
	checkNever(t, notCalledByHim)
}

// P77: no service took a call twice, nor did two services one.
func TestP77NeverAgain(t *testing.T) {
	checkNever(t, takenTwice)
}

// P78: each call that a user who is not bad has met was taken by the service that he called.
func TestP78NeverMetAnotherOne(t *testing.T) {
	checkNever(t, metUntaken)
}

// P79: WorldKeys has, of users, services, and who gives tickets, just the bad user's key, and none that another user has,
// or called with.
func TestP79Secret(t *testing.T) {
	checkNever(t, knownToBad)
}

// P80: All this holds behind each of the events.
func TestP80BehindEach(t *testing.T) {
	for _, p := range allPlays() {
		for i, w := range p.worlds {
			if told := neverAnything(w); told != "" {
				t.Errorf("%s, bad %d, behind %v: %s", p.name, p.bad, p.events[:i], told)
				break
			}
		}
	}
}

// enough says whether there are keys, numbers, time, and room, that a user meets a service once.
func enough(w impl.World, user, serv int) bool {
	hasRoom := func(cache []impl.Seal) bool { return len(freshIn(cache, w.Now+1)) < 20 }
	return w.Kdc.Next+2 <= 61 && userOf(w, user).Num+4 <= 60 && w.Now < 100 && len(w.Log)+6 <= 80 && hasRoom(w.Kdc.Cache) && hasRoom(servOf(w, serv).Cache)
}

// isOneMore says whether by the last of the steps a user called a service, which took it then, and was met.
func isOneMore(before, after impl.World, user, serv int) bool {
	b, c := userOf(before, user), userOf(after, user)
	if len(c.Met) != len(b.Met)+1 || len(c.Sent) != len(b.Sent)+1 {
		return false
	}
	call := c.Met[len(c.Met)-1]
	took := impl.Call{Peer: user, Key: call.Key, Time: call.Time, Num: call.Num}
	want := append(slices.Clone(servOf(before, serv).Took), took)
	return call.Peer == serv && call.Time == before.Now+1 && slices.Equal(servOf(after, serv).Took, want) && !slices.Contains(b.Sent, call)
}

// others is who is not bad.
func others(bad int) []int {
	return slices.DeleteFunc(upTo(1, 3), func(user int) bool { return user == bad })
}

// P81: as long as there are keys, numbers, time, and room, behind WorldMeet of a user who is not bad, and a service, one
// more call is met, which the service took then.
func TestP81ComesToIt(t *testing.T) {
	count := 0
	for _, w := range someWorlds() {
		for _, user := range others(w.Bad) {
			for serv := 4; serv <= 5; serv++ {
				if !enough(w, user, serv) {
					continue
				}
				count++
				if after := impl.WorldMeet(w, user, serv); !isOneMore(w, after, user, serv) {
					t.Errorf("WorldMeet(%v, %d, %d) = %v", w, user, serv, after)
				}
			}
		}
	}
	if count < 4000 {
		t.Errorf("of all %d could meet", count)
	}
}

// P81, P82: with just as many keys, numbers, so much time, and room, as a user who has nothing needs, one more call is met;
// with one less none is, and all else holds.
func TestMeetJustEnough(t *testing.T) {
	met := func(change func(w *impl.World)) bool {
		w := newPlay("", 3)
		w.meet(2, 4)
		w.do(forge(asAsk(1, 1)))
		before := ownWorld(w.last())
		change(&before)
		if !impl.WorldOk(before) {
			t.Errorf("%v is not ok", before)
		}
		after := checkMeet(t, before, 1, 4)
		if told := neverAnything(after); told != "" {
			t.Errorf("WorldMeet(%v, 1, 4) = %v: %s", before, after, told)
		}
		return isOneMore(before, after, 1, 4)
	}
	full := func(count, time int) []impl.Seal { return toldAt(count, time) }
	for _, c := range []struct {
		what string
		want bool
		by   func(w *impl.World)
	}{
		{"two keys left", true, func(w *impl.World) { w.Kdc.Next = 59 }},
		{"one key left", false, func(w *impl.World) { w.Kdc.Next = 60 }},
		{"no key left", false, func(w *impl.World) { w.Kdc.Next = 61 }},
		{"four numbers left", true, func(w *impl.World) { w.Clients[0].Num = 56 }},
		{"three numbers left", false, func(w *impl.World) { w.Clients[0].Num = 57 }},
		{"two numbers left", false, func(w *impl.World) { w.Clients[0].Num = 58 }},
		{"no number left", false, func(w *impl.World) { w.Clients[0].Num = 60 }},
		{"one time left", true, func(w *impl.World) { w.Now = 99 }},
		{"one time left, behind a fall", true, func(w *impl.World) { w.Now, w.Servs[0].Since = 99, 99 }},
		{"no time left, behind a fall", false, func(w *impl.World) { w.Now, w.Servs[0].Since = 100, 100 }},
		{"up later", false, func(w *impl.World) { w.Servs[0].Since = w.Now + 1 }},
		{"room for six words", true, func(w *impl.World) { *w = withLog(*w, 74) }},
		{"room for five words", false, func(w *impl.World) { *w = withLog(*w, 75) }},
		{"room for one word", false, func(w *impl.World) { *w = withLog(*w, 79) }},
		{"no room for a word", false, func(w *impl.World) { *w = withLog(*w, 80) }},
		{"room for one that is told", true, func(w *impl.World) { w.Kdc.Cache, w.Servs[0].Cache = full(19, w.Now), full(19, w.Now) }},
		{"who gives tickets remembers no more", false, func(w *impl.World) { w.Kdc.Cache = full(20, w.Now) }},
		{"the service remembers no more", false, func(w *impl.World) { w.Servs[0].Cache = full(20, w.Now) }},
		{"the other service remembers no more", true, func(w *impl.World) { w.Servs[1].Cache = full(20, w.Now) }},
		{"what is remembered is old", true, func(w *impl.World) {
			w.Now, w.Kdc.Cache, w.Servs[0].Cache = 50, full(20, 47), full(20, 47)
		}},
		{"what is remembered is just not old", false, func(w *impl.World) {
			w.Now, w.Kdc.Cache, w.Servs[0].Cache = 50, full(20, 48), full(20, 48)
		}},
	} {
		if got := met(c.by); got != c.want {
			t.Errorf("%s: met one more is %v", c.what, got)
		}
	}
	w := newWorld(0)
	w.Now = 100
	if after := checkMeet(t, w, 2, 5); len(userOf(after, 2).Met) != 1 || after.Now != 100 {
		t.Errorf("at the last time, without a fall, there is %v", after)
	}
}

// P82: Behind such events, and WorldMeet, all holds that must never be otherwise; with the bad user nothing is sent.
func TestP82Meet(t *testing.T) {
	for _, w := range ends() {
		for user := 0; user <= 4; user++ {
			for serv := 3; serv <= 6; serv++ {
				after := impl.WorldMeet(w, user, serv)
				if told := neverAnything(after); told != "" {
					t.Errorf("WorldMeet(%v, %d, %d) = %v: %s", w, user, serv, after, told)
				}
				if (user == w.Bad || !userWanted(user)) && !sameWorld(after, impl.WorldDo(w, tick())) {
					t.Errorf("WorldMeet(%v, %d, %d) = %v", w, user, serv, after)
				}
			}
		}
	}
}

// P83: each word that calls is brought again to its service, twice: the second time nothing is taken, and nothing answered.
func TestP83CallsAgain(t *testing.T) {
	first := 0
	for _, w := range someWorlds() {
		for _, place := range sentOf(w, impl.MsgApAsk) {
			once := impl.WorldDo(w, bring(place))
			twice := impl.WorldDo(once, bring(place))
			if tooks(twice) != tooks(once) || len(twice.Log) != len(once.Log) {
				t.Errorf("in %v %v is taken again", w, w.Log[place])
			}
			first += tooks(once) - tooks(w)
		}
	}
	if first < 100 {
		t.Errorf("the first time %d are taken", first)
	}
}

// tooks is how many calls services took.
func tooks(w impl.World) int {
	return len(w.Servs[0].Took) + len(w.Servs[1].Took)
}

// P86: If no user is bad WorldKeys is nothing, behind any events; each call was sent by who is told to have.
func TestP86NobodyBad(t *testing.T) {
	count := 0
	for _, p := range allPlays() {
		for _, w := range p.worlds {
			if w.Bad != 0 {
				break
			}
			if told := notCalledByHim(w); len(impl.WorldKeys(w)) != 0 || told != "" {
				t.Errorf("%s, behind %v: %v is known, %s", p.name, p.events, impl.WorldKeys(w), told)
			}
			count += tooks(w)
		}
	}
	if count < 1000 {
		t.Errorf("of all %d taken", count)
	}
}

// P87: a fall of a service, and every word that was sent brought to it, it took nothing more.
func TestP87Fall(t *testing.T) {
	without := 0
	for _, w := range someWorlds() {
		for serv := 4; serv <= 5; serv++ {
			fell, not := impl.WorldDo(w, fall(serv)), w
			for _, place := range sentOf(w, impl.MsgApAsk) {
				fell, not = impl.WorldDo(fell, bring(place)), impl.WorldDo(not, bring(place))
			}
			if !slices.Equal(servOf(fell, serv).Took, servOf(w, serv).Took) {
				t.Errorf("behind a fall of %d in %v it took %v", serv, w, servOf(fell, serv).Took)
			}
			without += len(servOf(not, serv).Took) - len(servOf(w, serv).Took)
		}
	}
	if without < 100 {
		t.Errorf("without a fall %d are taken", without)
	}
}

// P89: no call was sent, nor taken, at a time that is not yet; no key was made that is not below the next one.
func TestP89NotYet(t *testing.T) {
	for _, p := range allPlays() {
		for i, w := range p.worlds {
			var calls []impl.Call
			var keys []int
			for _, c := range w.Clients {
				calls = append(calls, c.Sent...)
				keys = append(keys, heldKeys(c)...)
			}
			for _, s := range w.Servs {
				calls = append(calls, s.Took...)
			}
			for _, call := range calls {
				keys = append(keys, call.Key)
				if call.Time > w.Now {
					t.Errorf("%s, behind %v: %v at %d", p.name, p.events[:i], call, w.Now)
				}
			}
			for _, s := range sentSealsWanted(w) {
				keys = append(keys, holdsWanted(s))
			}
			for _, key := range append(keys, impl.WorldKeys(w)...) {
				if key >= w.Kdc.Next {
					t.Errorf("%s, behind %v: a key %d, and the next one is %d", p.name, p.events[:i], key, w.Kdc.Next)
				}
			}
		}
	}
}

// P90: no two users who are not bad, and no one of them for two, have, or called with, one key.
func TestP90KeysDiffer(t *testing.T) {
	for _, p := range allPlays() {
		for i, w := range p.worlds {
			owner := map[int][2]int{}
			has := func(key, user, peer int) {
				if other, twice := owner[key]; twice && other != [2]int{user, peer} {
					t.Errorf("%s, behind %v: %d has %d for %d, and %d for %d", p.name, p.events[:i], user, key, peer, other[0], other[1])
				}
				owner[key] = [2]int{user, peer}
			}
			for _, user := range others(w.Bad) {
				for _, d := range userOf(w, user).Creds {
					has(d.Key, user, d.Serv)
				}
				for _, call := range userOf(w, user).Sent {
					has(call.Key, user, call.Peer)
				}
			}
		}
	}
}

// P91: each ticket that was sent has a key below the next one, and who hears all comes to its key only if it is the bad
// user's.
func TestP91Tickets(t *testing.T) {
	known, not := 0, 0
	for _, p := range allPlays() {
		for i, w := range p.worlds {
			keys := impl.WorldKeys(w)
			for _, ticket := range sealsOf(w, impl.SealTicket) {
				knows := slices.Contains(keys, ticket.C)
				if ticket.C >= w.Kdc.Next || knows && ticket.A != w.Bad {
					t.Errorf("%s, behind %v: %v, of %v, the next one is %d", p.name, p.events[:i], ticket, keys, w.Kdc.Next)
				}
				if knows {
					known++
				} else {
					not++
				}
			}
		}
	}
	if known < 1000 || not < 1000 {
		t.Errorf("known %d, not known %d", known, not)
	}
}

// P92: Of events without EvBring nobody was given anything, called, or met; no key was made.
func TestP92NothingBrought(t *testing.T) {
	sent := 0
	for _, p := range allPlays() {
		events := slices.DeleteFunc(slices.Clone(p.events), func(e impl.Event) bool { return e.Kind == impl.EvBring })
		w, ok := impl.WorldPlay(p.bad, events)
		if !ok || w.Kdc.Next != 10 || len(w.Kdc.Cache) != 0 || tooks(w) != 0 || metCount(w) != 0 {
			t.Errorf("WorldPlay(%d, %v) = %v, %v", p.bad, events, w, ok)
		}
		for _, c := range w.Clients {
			if len(c.Creds) != 0 || len(c.Sent) != 0 {
				t.Errorf("behind %v there is %v", events, c)
			}
		}
		sent += len(w.Log)
	}
	if sent < 1000 {
		t.Errorf("of all %d words sent", sent)
	}
}

// P93: From WorldNew on, WorldMeet of each user who is not bad, and each service, one behind the other, are all met; who
// hears all has no key more.
func TestP93AllMeet(t *testing.T) {
	for bad := 0; bad <= 3; bad++ {
		for _, users := range [][]int{upTo(1, 3), reversed(upTo(1, 3)), {2, 3, 1}} {
			for _, servs := range [][]int{{4, 5}, {5, 4}} {
				w := newWorld(bad)
				for _, user := range slices.DeleteFunc(slices.Clone(users), func(user int) bool { return user == bad }) {
					for _, serv := range servs {
						before := w
						if w = checkMeet(t, w, user, serv); !isOneMore(before, w, user, serv) {
							t.Errorf("WorldMeet(%v, %d, %d) = %v", before, user, serv, w)
						}
					}
				}
				if metCount(w) != 2*len(others(bad)) || !slices.Equal(impl.WorldKeys(w), ownKeys(bad)) || tooks(w) != metCount(w) {
					t.Errorf("in the end there is %v, and he has %v", w, impl.WorldKeys(w))
				}
			}
		}
	}
}

// tookKeys is the keys with which a service was called, and who called with each.
func tookKeys(s impl.Serv) map[int][]int {
	all := map[int][]int{}
	for _, took := range s.Took {
		all[took.Key] = append(all[took.Key], took.Peer)
	}
	return all
}

// P94: with which key a service was called, the other one was not. P95: all calls that a service took with one key are of
// one user.
func TestP94P95Keys(t *testing.T) {
	many := 0
	for _, p := range allPlays() {
		for i, w := range p.worlds {
			one, other := tookKeys(w.Servs[0]), tookKeys(w.Servs[1])
			for key := range one {
				if len(other[key]) != 0 {
					t.Errorf("%s, behind %v: both were called with %d", p.name, p.events[:i], key)
				}
			}
			for _, keys := range []map[int][]int{one, other} {
				for key, users := range keys {
					if len(sorted(users)) > 1 {
						t.Errorf("%s, behind %v: %v called with %d", p.name, p.events[:i], users, key)
					}
					many += len(users) - 1
				}
			}
		}
	}
	if many < 1000 {
		t.Errorf("of all %d calls with a key that was called with already", many)
	}
}

// P96: Behind WorldMeet, once more, as long as there is enough, one more call is met, with another key, one later.
func TestP96MeetAgain(t *testing.T) {
	count := 0
	for _, w := range ends() {
		for _, user := range others(w.Bad) {
			serv := 4 + (user+w.Now)%2
			for before := w; enough(before, user, serv); count++ {
				after := impl.WorldMeet(before, user, serv)
				if !isOneMore(before, after, user, serv) {
					t.Errorf("WorldMeet(%v, %d, %d) = %v", before, user, serv, after)
					break
				}
				met := userOf(after, user).Met
				call := met[len(met)-1]
				if len(met) > 1 && slices.ContainsFunc(met[:len(met)-1], func(c impl.Call) bool { return c.Key == call.Key }) || call.Time != before.Now+1 {
					t.Errorf("WorldMeet(%v, %d, %d): met is %v", before, user, serv, met)
				}
				before = after
			}
		}
	}
	if count < 1500 {
		t.Errorf("of all %d met", count)
	}
}

// forgeAndBring lets who hears all send a word, and brings it; the answer is nothing, if there is none, or the word is not
// sent.
func forgeAndBring(w impl.World, m impl.Msg) (impl.World, impl.Msg) {
	place := len(w.Log)
	if w = impl.WorldDo(w, forge(m)); len(w.Log) == place {
		return w, impl.Msg{}
	}
	if w = impl.WorldDo(w, bring(place)); len(w.Log) == place+1 {
		return w, impl.Msg{}
	}
	return w, w.Log[place+1]
}

// givenByForging lets the bad user be given a ticket of his own for a service, by words that he makes.
func givenByForging(w impl.World, serv int) (impl.World, impl.Seal) {
	w, give := forgeAndBring(w, asAsk(w.Bad, 33))
	if len(give.Seals) != 2 {
		return w, impl.Seal{}
	}
	first := give.Seals[0]
	w, give = forgeAndBring(w, tgsAsk(serv, 34, first, told(first.C, w.Bad, w.Now, 35)))
	if len(give.Seals) != 2 {
		return w, impl.Seal{}
	}
	return w, give.Seals[0]
}

// canForge says whether there are keys and room for a ticket of the bad user's own, and one call.
func canForge(w impl.World, serv int) bool {
	hasRoom := func(cache []impl.Seal) bool { return len(freshIn(cache, w.Now)) < 20 }
	return w.Bad != 0 && w.Kdc.Next <= 59 && len(w.Log)+6 <= 80 && hasRoom(w.Kdc.Cache) && hasRoom(servOf(w, serv).Cache) && servOf(w, serv).Since < w.Now
}

// P97: with keys and room left, words that the bad user makes come to a ticket of his own, and the service takes his call
// as his. P98: with that ticket, a call that he makes as another user is not taken.
func TestP97P98HisOwnTicket(t *testing.T) {
	count := 0
	for _, before := range someWorlds() {
		for serv := 4; serv <= 5; serv++ {
			if before = impl.WorldDo(before, tick()); !canForge(before, serv) {
				continue
			}
			count++
			w, ticket := givenByForging(before, serv)
			if ticket.Kind != impl.SealTicket || ticket.A != w.Bad || ticket.B != serv || !slices.Contains(impl.WorldKeys(w), ticket.C) {
				t.Errorf("in %v he is given %v, and has %v", before, ticket, impl.WorldKeys(w))
				continue
			}
			for _, user := range others(w.Bad) {
				after, answer := forgeAndBring(w, apAsk(serv, ticket, told(ticket.C, user, w.Now, 36)))
				if tooks(after) != tooks(w) || !emptyMsg(answer) || len(after.Log) != len(w.Log)+1 {
					t.Errorf("in %v he called %d as %d: %v", w, serv, user, after)
				}
			}
			after, answer := forgeAndBring(w, apAsk(serv, ticket, told(ticket.C, w.Bad, w.Now, 36)))
			want := append(slices.Clone(servOf(w, serv).Took), impl.Call{Peer: w.Bad, Key: ticket.C, Time: w.Now, Num: 36})
			if !slices.Equal(servOf(after, serv).Took, want) || answer.Kind != impl.MsgApBack || answer.Client != w.Bad || neverAnything(after) != "" {
				t.Errorf("in %v he called %d: %v", w, serv, after)
			}
		}
	}
	if count < 1000 {
		t.Errorf("of all %d worlds with enough", count)
	}
}

// P99: more than SkewMax times later, no word that was sent then, and does not tell of a time still to come, is taken by
// any service.
func TestP99Later(t *testing.T) {
	earlier := 0
	for _, w := range someWorlds() {
		for _, later := range []int{0, 4, 5, 9} {
			if w.Now+later > 100 {
				continue
			}
			after := w
			for range later {
				after = impl.WorldDo(after, tick())
			}
			for _, place := range sentOf(w, impl.MsgApAsk) {
				if auth := w.Log[place].Seals[1]; auth.Kind == impl.SealAuth && auth.B > w.Now {
					continue
				}
				taken := tooks(impl.WorldDo(after, bring(place))) - tooks(after)
				if later > 0 && taken != 0 {
					t.Errorf("%d later than %v %v is taken", later, w, w.Log[place])
				}
				earlier += taken
			}
		}
	}
	if earlier < 100 {
		t.Errorf("at that time %d are taken", earlier)
	}
}

// P100: each seal that was sent, with a key that who hears all does not have, in which a user who is not bad tells of
// himself, tells of a time that is not later, and of a number that he told.
func TestP100WhatIsTold(t *testing.T) {
	count := 0
	for _, p := range allPlays() {
		for i, w := range p.worlds {
			keys := impl.WorldKeys(w)
			for _, auth := range sealsOf(w, impl.SealAuth) {
				if slices.Contains(keys, auth.Key) || auth.A == w.Bad {
					continue
				}
				count++
				if auth.B > w.Now || auth.C > userOf(w, auth.A).Num {
					t.Errorf("%s, behind %v: %v is told, at %d, by %v", p.name, p.events[:i], auth, w.Now, userOf(w, auth.A))
				}
			}
		}
	}
	if count < 1000 {
		t.Errorf("of all %d told", count)
	}
}

// P101: each answer that was sent, sealed with a key that who hears all does not have, is of a call that a service took.
func TestP101Answers(t *testing.T) {
	count := 0
	for _, p := range allPlays() {
		for i, w := range p.worlds {
			keys := impl.WorldKeys(w)
			for _, back := range sealsOf(w, impl.SealBack) {
				if slices.Contains(keys, back.Key) {
					continue
				}
				count++
				is := func(took impl.Call) bool { return took.Key == back.Key && took.Time == back.A && took.Num == back.B }
				if !slices.ContainsFunc(append(slices.Clone(w.Servs[0].Took), w.Servs[1].Took...), is) {
					t.Errorf("%s, behind %v: %v is answered", p.name, p.events[:i], back)
				}
			}
		}
	}
	if count < 1000 {
		t.Errorf("of all %d answered", count)
	}
}

// P102: each key that a user who is not bad has for a service is in a ticket that was sent, of him, and for that service.
func TestP102Given(t *testing.T) {
	count := 0
	for _, p := range allPlays() {
		for i, w := range p.worlds {
			for _, user := range others(w.Bad) {
				for _, d := range userOf(w, user).Creds {
					is := func(s impl.Seal) bool { return s.A == user && s.B == d.Serv && s.C == d.Key }
					if d.Serv != 6 && !slices.ContainsFunc(sealsOf(w, impl.SealTicket), is) {
						t.Errorf("%s, behind %v: %d has %v", p.name, p.events[:i], user, d)
					}
					count++
				}
			}
		}
	}
	if count < 1000 {
		t.Errorf("of all %d had", count)
	}
}

// P105: By WorldMeet all other users, and the other service, stay as they were.
func TestP105Meet(t *testing.T) {
	for _, w := range ends() {
		for user := 0; user <= 4; user++ {
			for serv := 3; serv <= 6; serv++ {
				after := impl.WorldMeet(w, user, serv)
				for id := 1; id <= 3; id++ {
					if id != user && !sameClient(userOf(after, id), userOf(w, id)) {
						t.Errorf("by WorldMeet(%v, %d, %d) %d is %v", w, user, serv, id, userOf(after, id))
					}
				}
				for id := 4; id <= 5; id++ {
					if id != serv && !sameServ(servOf(after, id), servOf(w, id)) {
						t.Errorf("by WorldMeet(%v, %d, %d) %d is %v", w, user, serv, id, servOf(after, id))
					}
				}
			}
		}
	}
}

// P106: Log is at most LogMax words in form, at most as many as there were events; no user waits with a number that he did
// not tell.
func TestP106Log(t *testing.T) {
	most := 0
	for _, p := range allPlays() {
		for i, w := range p.worlds {
			if len(w.Log) > 80 || len(w.Log) > i || slices.ContainsFunc(w.Log, func(m impl.Msg) bool { return !msgWanted(m) }) {
				t.Errorf("%s, behind %v: sent is %v", p.name, p.events[:i], w.Log)
			}
			most = max(most, len(w.Log))
			for _, c := range w.Clients {
				if slices.ContainsFunc(c.Wants, func(want impl.Want) bool { return !within(want.Nonce, 1, c.Num) }) {
					t.Errorf("%s, behind %v: there is %v", p.name, p.events[:i], c)
				}
			}
		}
	}
	if most < 50 {
		t.Errorf("at most %d words are sent", most)
	}
}
