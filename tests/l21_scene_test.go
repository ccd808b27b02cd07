package tests

import (
	"slices"
	"strings"
	"testing"

	"loop.example/cerberus/impl"
)

// textOf is all words that were sent from a place on, one behind the other.
func textOf(log []impl.Msg) string {
	var text strings.Builder
	for _, m := range log {
		text.WriteString(impl.MsgText(m))
	}
	return text.String()
}

// The words of a user who calls a service, one by one, and of another one, and the other service.
func TestSceneWords(t *testing.T) {
	w := checkMeet(t, newWorld(3), 1, 4)
	want := "1 1 0 1\n" +
		"2 1 0 0\nticket 6 1 6 10 1 13\npart 1 6 10 1 13 0\n" +
		"3 0 4 3\nticket 6 1 6 10 1 13\nauth 10 1 1 2 0 0\n" +
		"4 1 0 0\nticket 4 1 4 11 1 13\npart 10 4 11 3 13 0\n" +
		"5 0 4 0\nticket 4 1 4 11 1 13\nauth 11 1 1 4 0 0\n" +
		"6 1 0 0\nback 11 1 4 0 0 0\n"
	if got := textOf(w.Log); got != want || w.Now != 1 || w.Kdc.Next != 12 {
		t.Errorf("behind WorldMeet there is %v; sent is %q", w, got)
	}
	if took := w.Servs[0].Took; !slices.Equal(took, []impl.Call{{Peer: 1, Key: 11, Time: 1, Num: 4}}) {
		t.Errorf("took %v", took)
	}
	if met := w.Clients[0].Met; !slices.Equal(met, []impl.Call{{Peer: 4, Key: 11, Time: 1, Num: 4}}) {
		t.Errorf("met %v", met)
	}
	w = checkMeet(t, w, 2, 5)
	want = "1 2 0 1\n" +
		"2 2 0 0\nticket 6 2 6 12 2 14\npart 2 6 12 1 14 0\n" +
		"3 0 5 3\nticket 6 2 6 12 2 14\nauth 12 2 2 2 0 0\n" +
		"4 2 0 0\nticket 5 2 5 13 2 14\npart 12 5 13 3 14 0\n" +
		"5 0 5 0\nticket 5 2 5 13 2 14\nauth 13 2 2 4 0 0\n" +
		"6 2 0 0\nback 13 2 4 0 0 0\n"
	if got := textOf(w.Log[6:]); got != want || w.Now != 2 || w.Kdc.Next != 14 || !slices.Equal(impl.WorldKeys(w), []int{3}) {
		t.Errorf("behind one more there is %v; sent is %q", w, got)
	}
}

// WorldMeet is its steps, each an event.
func TestSceneMeetIsItsSteps(t *testing.T) {
	for bad := 0; bad <= 3; bad++ {
		for user := 1; user <= 3; user++ {
			for serv := 4; serv <= 5; serv++ {
				p := newPlay("meet", bad)
				p.do(tick(), evAs(user), bring(0), bring(1), evTgs(user, serv), bring(2), bring(3), evAp(user, serv), bring(4), bring(5))
				if after := checkMeet(t, newWorld(bad), user, serv); !sameWorld(after, p.last()) || metCount(after) == 0 != (user == bad) {
					t.Errorf("WorldMeet, bad %d, of %d and %d = %v; want %v", bad, user, serv, after, p.last())
				}
			}
		}
	}
}

// Words brought once, twice, later, and in another order.
func TestSceneBrought(t *testing.T) {
	for bad := 0; bad <= 3; bad++ {
		p := newPlay("brought", bad)
		one, other := p.honest()
		p.meet(one, 4)
		for _, c := range []struct {
			what   string
			events []impl.Event
			took   int
			met    int
			keys   int
		}{
			{"the call again", []impl.Event{bring(4)}, 1, 1, 12},
			{"its answer again", []impl.Event{bring(5)}, 1, 1, 12},
			{"what asks for a first ticket again", []impl.Event{bring(0)}, 1, 1, 13},
			{"that answer, which nobody waits for", []impl.Event{bring(6)}, 1, 1, 13},
			{"what asks for a ticket again", []impl.Event{bring(2)}, 1, 1, 13},
			{"the call at each later time", []impl.Event{tick(), bring(4), tick(), bring(4), tick(), bring(4), tick(), bring(4), tick(), bring(4)}, 1, 1, 13},
			{"one more call, later than what was told", []impl.Event{evAp(one, 4), tick(), tick(), tick(), bring(7), bring(8)}, 2, 2, 13},
			{"one more call, too late", []impl.Event{evAp(one, 4), tick(), tick(), tick(), tick(), bring(9)}, 2, 2, 13},
			{"the ticket lasts no more", []impl.Event{tick(), evAp(one, 4), evTgs(one, 4), evTgs(one, 5), bring(10)}, 2, 2, 13},
			{"another one meanwhile", []impl.Event{evAs(other), bring(10), bring(11), evTgs(other, 4), bring(12), bring(13), evAp(other, 4), bring(14), bring(15)}, 3, 3, 15},
			{"two calls, the later one first", []impl.Event{evAp(other, 4), evAp(other, 4), bring(17), bring(16), bring(19), bring(18)}, 5, 5, 15},
		} {
			p.do(c.events...)
			if w := p.last(); tooks(w) != c.took || metCount(w) != c.met || w.Kdc.Next != c.keys {
				t.Errorf("bad %d, %s: %d taken, %d met, the next key is %d; %v", bad, c.what, tooks(w), metCount(w), w.Kdc.Next, w)
			}
		}
	}
}

// A fall between a call and its answer, and between two calls.
func TestSceneFall(t *testing.T) {
	p := newPlay("fall", 3)
	p.meet(1, 4)
	for _, c := range []struct {
		what   string
		events []impl.Event
		took   int
		met    int
	}{
		{"ahead of the answer", []impl.Event{tick(), evAp(1, 4), bring(6), fall(4), bring(7)}, 2, 2},
		{"the call that was taken, again", []impl.Event{bring(6)}, 2, 2},
		{"ahead of the call", []impl.Event{tick(), evAp(1, 4), fall(4), bring(8)}, 2, 2},
		{"that call, later", []impl.Event{tick(), bring(8), tick(), bring(8)}, 2, 2},
		{"behind it", []impl.Event{evAp(1, 4), bring(9), bring(10)}, 3, 3},
		{"between two calls at one time", []impl.Event{fall(4), evAp(1, 4), bring(11)}, 3, 3},
		{"of the other one", []impl.Event{fall(5), tick(), fall(5), evAp(1, 4), bring(12), bring(13)}, 4, 4},
		{"told at the time of the fall", []impl.Event{fall(4), evAp(1, 4), tick(), bring(14)}, 4, 4},
		{"told one later", []impl.Event{evAp(1, 4), bring(15), bring(16)}, 5, 5},
	} {
		p.do(c.events...)
		if w := p.last(); tooks(w) != c.took || metCount(w) != c.met || neverAnything(w) != "" {
			t.Errorf("%s: %d taken, %d met; %v", c.what, tooks(w), metCount(w), w)
		}
	}
	if since := p.last().Servs[1].Since; since != 6 || p.last().Servs[0].Since != 6 {
		t.Errorf("since %d", since)
	}
}

// What the bad user has, and can make.
func TestSceneBadUser(t *testing.T) {
	for bad := 1; bad <= 3; bad++ {
		p := newPlay("bad", bad)
		one, other := p.honest()
		p.meet(one, 4)
		sent := len(p.last().Log)
		for _, m := range []impl.Msg{
			answerMsg(one, userOf(p.last(), one).Sent[0]), giveFirst(one, 12, 1, 13), withKey(giveFirst(one, 12, 1, 13), bad), giveFirst(bad, 12, 1, 13),
			apAsk(4, p.last().Log[4].Seals[0], told(11, one, 1, 5)), apAsk(4, servTicket(bad, 4, 12, 1, 13), told(12, bad, 1, 5)), asAsk(4, 1), asAsk(bad, 0), {},
		} {
			p.do(forge(m))
			if heard := impl.KnowBuild([]int{bad}, impl.WorldSeals(p.last()), m); heard != (len(p.last().Log) > sent) {
				t.Errorf("bad %d: %v is sent", bad, m)
			}
			sent = len(p.last().Log)
		}
		before := p.last()
		p.do(evAs(bad), evTgs(bad, 4), evAp(bad, 4), evTgs(bad, 5), evAp(bad, 5))
		if !sameWorld(p.last(), before) {
			t.Errorf("bad %d asks as an honest one: %v", bad, p.last())
		}
		first := p.do(forge(asAsk(bad, 60)))
		p.do(bring(first - 1))
		if keys := impl.WorldKeys(p.last()); !slices.Equal(keys, []int{bad, 12}) {
			t.Errorf("bad %d has %v of a first ticket", bad, keys)
		}
		if before = p.last(); !sameWorld(impl.WorldDo(before, bring(first)), before) || len(userOf(before, bad).Creds) != 0 {
			t.Errorf("bad %d hears what gives him a ticket: %v", bad, impl.WorldDo(before, bring(first)))
		}
		p.badTicket(5, 59)
		if keys := impl.WorldKeys(p.last()); !slices.Equal(keys, []int{bad, 12, 13}) {
			t.Errorf("bad %d has %v of a ticket for a service", bad, keys)
		}
		for _, user := range []int{one, other} {
			p.doBrought(forge(p.tells(impl.MsgTgsAsk, 4, user, p.last().Now, 58)), forge(p.tells(impl.MsgApAsk, 5, user, p.last().Now, 57)))
		}
		if w := p.last(); tooks(w) != 1 || w.Kdc.Next != 14 {
			t.Errorf("bad %d is taken for another one: %v", bad, w)
		}
		p.doBrought(forge(p.tells(impl.MsgApAsk, 5, bad, p.last().Now, 56)))
		if w := p.last(); !slices.Equal(w.Servs[1].Took, []impl.Call{{Peer: bad, Key: 13, Time: 1, Num: 56}}) || neverAnything(w) != "" {
			t.Errorf("bad %d calls as himself: %v", bad, w)
		}
	}
}

// Without a bad user one hears all the same, and sends what was sent in other words, but makes no seal.
func TestSceneNobodyBad(t *testing.T) {
	p := newPlay("nobody bad", 0)
	p.meet(1, 4)
	w := p.last()
	ticket, auth := w.Log[4].Seals[0], w.Log[4].Seals[1]
	for _, c := range []struct {
		word impl.Msg
		sent bool
	}{
		{asAsk(2, 9), true}, {apAsk(5, ticket, auth), true}, {apAsk(4, auth, ticket), true}, {tgsAsk(5, 1, w.Log[2].Seals...), true},
		{impl.Msg{Kind: impl.MsgApBack, Client: 3, Seals: w.Log[5].Seals}, true}, {impl.Msg{Kind: impl.MsgTgsGive, Client: 2, Seals: w.Log[1].Seals}, true},
		{apAsk(4, ticket, told(11, 1, 1, 5)), false}, {apAsk(4, ticket), false}, {giveFirst(1, 10, 1, 13), false}, {asAsk(0, 9), false},
	} {
		after := checkDo(t, w, forge(c.word))
		if len(after.Log) > len(w.Log) != c.sent || len(impl.WorldKeys(after)) != 0 {
			t.Errorf("%v is sent is %v", c.word, !c.sent)
		}
	}
}

// fullWorld is a world whose Log is full, in which a user has all tickets, and all kinds of words may be brought.
func fullWorld() impl.World {
	p := newPlay("full", 3)
	p.do(evAs(1), evAs(2), bring(0), bring(2), evTgs(1, 4), bring(3), bring(4), evAp(1, 4), evAs(1), bring(6), bring(1))
	w := ownWorld(p.last())
	for len(w.Log) < 80 {
		w.Log = append(w.Log, asAsk(3, 1))
	}
	return w
}

// A world whose Log is full: what is heard is heard all the same, and the word that would be sent is lost.
func TestSceneLogFull(t *testing.T) {
	w := fullWorld()
	for place, c := range []struct {
		keys, took, first int
	}{{1, 0, 10}, {1, 0, 10}, {0, 0, 10}, {0, 0, 10}, {0, 0, 10}, {0, 1, 10}, {1, 0, 10}, {0, 0, 12}, {0, 0, 10}, {1, 0, 10}} {
		after := checkDo(t, w, bring(place))
		first, _ := credWanted(userOf(after, 1), 6, 0)
		if len(after.Log) != 80 || after.Kdc.Next-w.Kdc.Next != c.keys || tooks(after)-tooks(w) != c.took || first.Key != c.first {
			t.Errorf("brought %v in a full world there is %v", w.Log[place], after)
		}
	}
	if after := checkDo(t, w, bring(8)); len(userOf(w, 2).Creds) != 0 || len(userOf(after, 2).Creds) != 1 {
		t.Errorf("in a full world he hears nothing: %v", after)
	}
	for _, e := range []impl.Event{evAs(1), evTgs(1, 4), evAp(1, 4)} {
		if after := checkDo(t, w, e); len(after.Log) != 80 || userOf(after, 1).Num <= userOf(w, 1).Num {
			t.Errorf("behind %v in a full world there is %v", e, after)
		}
	}
	for _, room := range []int{78, 79, 80} {
		some := withLog(w, room)
		for _, e := range []impl.Event{forge(asAsk(3, 2)), evAs(1), bring(0)} {
			if after := checkDo(t, some, e); len(after.Log) != min(80, room+1) {
				t.Errorf("behind %v there are %d words; there were %d", e, len(after.Log), room)
			}
		}
	}
	if after := checkDo(t, w, forge(asAsk(3, 2))); !sameWorld(after, w) {
		t.Errorf("forged in a full world: %v", after)
	}
}

// WorldMeet where something is missing does what can be done.
func TestSceneMeetLacks(t *testing.T) {
	base := newPlay("lacks", 2)
	base.meet(1, 4)
	for _, c := range []struct {
		what       string
		change     func(w *impl.World)
		user, serv int
		took, met  int
		words, num int
	}{
		{"nothing", func(w *impl.World) {}, 1, 4, 2, 2, 6, 8},
		{"a full Log: he asks and calls, and nothing is brought", func(w *impl.World) { *w = withLog(*w, 80) }, 1, 4, 1, 1, 0, 8},
		{"room for one: that is brought, its answer lost", func(w *impl.World) { *w = withLog(*w, 79) }, 1, 4, 1, 1, 1, 8},
		{"room for five: the call is taken, and the answer lost", func(w *impl.World) { *w = withLog(*w, 75) }, 1, 4, 2, 1, 5, 8},
		{"keys: he calls with the ticket that he has", func(w *impl.World) { w.Kdc.Next = 61 }, 1, 4, 2, 2, 4, 8},
		{"all but one key: the same", func(w *impl.World) { w.Kdc.Next = 60 }, 1, 4, 2, 2, 5, 8},
		{"keys, and a ticket for the other one", func(w *impl.World) { w.Kdc.Next = 61 }, 1, 5, 1, 1, 2, 7},
		{"keys, of one who has nothing", func(w *impl.World) { w.Kdc.Next = 61 }, 3, 4, 1, 1, 1, 1},
		{"numbers", func(w *impl.World) { w.Clients[0].Num = 60 }, 1, 4, 1, 1, 0, 60},
		{"all but one number", func(w *impl.World) { w.Clients[0].Num = 59 }, 1, 4, 1, 1, 2, 60},
		{"all but two numbers: he calls with the ticket that he has", func(w *impl.World) { w.Clients[0].Num = 58 }, 1, 4, 2, 2, 4, 60},
		{"all but three numbers", func(w *impl.World) { w.Clients[0].Num = 57 }, 1, 4, 1, 1, 4, 60},
		{"all but four numbers", func(w *impl.World) { w.Clients[0].Num = 56 }, 1, 4, 2, 2, 6, 60},
		{"time", func(w *impl.World) { w.Now = 100 }, 1, 4, 2, 2, 6, 8},
		{"time behind a fall", func(w *impl.World) { w.Now, w.Servs[0].Since = 100, 100 }, 1, 4, 1, 1, 5, 8},
		{"a user", func(w *impl.World) {}, 0, 4, 1, 1, 0, 4},
		{"a user, as there are no more", func(w *impl.World) {}, 4, 4, 1, 1, 0, 4},
		{"an honest user", func(w *impl.World) {}, 2, 4, 1, 1, 0, 0},
		{"a service", func(w *impl.World) {}, 1, 3, 1, 1, 2, 5},
		{"a service, as there is who gives tickets", func(w *impl.World) {}, 3, 6, 1, 1, 2, 1},
	} {
		w := ownWorld(base.last())
		c.change(&w)
		after := checkMeet(t, w, c.user, c.serv)
		num := userOf(w, 1).Num
		if userWanted(c.user) {
			num = userOf(after, c.user).Num
		}
		if tooks(after) != c.took || metCount(after) != c.met || len(after.Log)-len(w.Log) != c.words || num != c.num || after.Now != min(100, w.Now+1) {
			t.Errorf("without %s: %d taken, %d met, %d words more, the number %d; %v", c.what, tooks(after), metCount(after), len(after.Log)-len(w.Log), num, after)
		}
	}
}
