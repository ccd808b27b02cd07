package tests

import (
	"math"
	"slices"
	"testing"

	"loop.example/cerberus/impl"
)

// worldOkWanted is what the document says of a world that is ok.
func worldOkWanted(w impl.World) bool {
	if !timeWanted(w.Now) || !kdcOkWanted(w.Kdc) || !within(w.Bad, 0, 3) || len(w.Clients) != 3 || len(w.Servs) != 2 || len(w.Log) > 80 {
		return false
	}
	for i, c := range w.Clients {
		if c.Id != 1+i || !clientOkWanted(c) {
			return false
		}
	}
	for i, s := range w.Servs {
		if s.Id != 4+i || !servOkWanted(s) {
			return false
		}
	}
	for _, m := range w.Log {
		if !msgWanted(m) {
			return false
		}
	}
	return true
}

// sentSealsWanted is all seals that were sent, in order, each once.
func sentSealsWanted(w impl.World) []impl.Seal {
	if !worldOkWanted(w) {
		return nil
	}
	seen := map[impl.Seal]bool{}
	var all []impl.Seal
	for _, m := range w.Log {
		for _, s := range m.Seals {
			if !seen[s] {
				seen[s] = true
				all = append(all, s)
			}
		}
	}
	return all
}

// badKeysWanted is all keys to which the bad user comes by what was sent.
func badKeysWanted(w impl.World) []int {
	if !worldOkWanted(w) {
		return nil
	}
	return keysWanted(ownKeys(w.Bad), sentSealsWanted(w))
}

// ownKeys is the key that the bad user has of his own.
func ownKeys(bad int) []int {
	if bad == 0 {
		return nil
	}
	return []int{bad}
}

// doWanted is a world behind an event.
func doWanted(w impl.World, e impl.Event) impl.World {
	if !worldOkWanted(w) {
		return impl.World{}
	}
	after, text := ownWorld(w), ""
	honest := userWanted(e.A) && e.A != w.Bad
	switch {
	case e.Kind == 1 && honest:
		after.Clients[e.A-1], text = askFirstWanted(w.Clients[e.A-1])
	case e.Kind == 2 && honest:
		after.Clients[e.A-1], text = askTicketWanted(w.Clients[e.A-1], e.B, w.Now)
	case e.Kind == 3 && honest:
		after.Clients[e.A-1], text = callWanted(w.Clients[e.A-1], e.B, w.Now)
	case e.Kind == 4 && within(e.A, 0, len(w.Log)-1):
		after, text = bringWanted(after, w.Log[e.A])
	case e.Kind == 5 && buildWanted(ownKeys(w.Bad), sentSealsWanted(w), e.Msg):
		text = impl.MsgText(e.Msg)
	case e.Kind == 6 && w.Now < 100:
		after.Now++
	case e.Kind == 7 && servWanted(e.B):
		after.Servs[e.B-4] = fallWanted(w.Servs[e.B-4], w.Now)
	}
	if m, ok := msgReadWanted(text); ok && len(w.Log) < 80 {
		after.Log = append(after.Log, m)
	}
	return after
}

// bringWanted is a world behind a word that is heard, and the text of what is answered; that is empty, if nothing is.
func bringWanted(w impl.World, m impl.Msg) (impl.World, string) {
	text := ""
	switch {
	case m.Kind == 1:
		w.Kdc, text = asWanted(w.Kdc, m, w.Now)
	case m.Kind == 3:
		w.Kdc, text = tgsWanted(w.Kdc, m, w.Now)
	case m.Kind == 5:
		w.Servs[m.Serv-4], text = serveWanted(w.Servs[m.Serv-4], m, w.Now)
	case m.Client != w.Bad:
		w.Clients[m.Client-1] = hearWanted(w.Clients[m.Client-1], m)
	}
	return w, text
}

// meetWanted is a world behind WorldMeet.
func meetWanted(w impl.World, user, serv int) impl.World {
	w = doWanted(w, tick())
	for _, e := range []impl.Event{evAs(user), evTgs(user, serv), evAp(user, serv)} {
		first := len(w.Log)
		w = doWanted(w, e)
		if len(w.Log) == first {
			continue
		}
		w = doWanted(w, bring(first))
		if len(w.Log) > first+1 {
			w = doWanted(w, bring(first+1))
		}
	}
	return w
}

// sameWorld takes the empty list and the nil list for the same.
func sameWorld(a, b impl.World) bool {
	return a.Now == b.Now && a.Bad == b.Bad && sameKdc(a.Kdc, b.Kdc) && slices.EqualFunc(a.Clients, b.Clients, sameClient) &&
		slices.EqualFunc(a.Servs, b.Servs, sameServ) && slices.EqualFunc(a.Log, b.Log, sameMsg)
}

func emptyWorld(w impl.World) bool { return sameWorld(w, impl.World{}) }

// ownWorld is a world that shares no memory with that one.
func ownWorld(w impl.World) impl.World {
	w.Kdc, w.Clients, w.Servs, w.Log = ownKdc(w.Kdc), slices.Clone(w.Clients), slices.Clone(w.Servs), slices.Clone(w.Log)
	for i, c := range w.Clients {
		w.Clients[i] = ownClient(c)
	}
	for i, s := range w.Servs {
		w.Servs[i] = ownServ(s)
	}
	for i, m := range w.Log {
		w.Log[i] = ownMsg(m)
	}
	return w
}

func evAs(user int) impl.Event                { return impl.Event{Kind: impl.EvAs, A: user} }
func evTgs(user, serv int) impl.Event         { return impl.Event{Kind: impl.EvTgs, A: user, B: serv} }
func evAp(user, serv int) impl.Event          { return impl.Event{Kind: impl.EvAp, A: user, B: serv} }
func bring(place int) impl.Event              { return impl.Event{Kind: impl.EvBring, A: place} }
func forge(m impl.Msg) impl.Event             { return impl.Event{Kind: impl.EvForge, Msg: m} }
func tick() impl.Event                        { return impl.Event{Kind: impl.EvTick} }
func fall(serv int) impl.Event                { return impl.Event{Kind: impl.EvFall, B: serv} }
func userOf(w impl.World, id int) impl.Client { return w.Clients[id-1] }
func servOf(w impl.World, id int) impl.Serv   { return w.Servs[id-4] }

// newWorld is a world at the beginning, written out.
func newWorld(bad int) impl.World {
	return impl.World{
		Kdc:     impl.Kdc{Next: 10},
		Clients: []impl.Client{{Id: 1}, {Id: 2}, {Id: 3}},
		Servs:   []impl.Serv{{Id: 4, Since: -1}, {Id: 5, Since: -1}},
		Bad:     bad,
	}
}

// busyWorld is an ok world in which all wait, have, called, fell and remember, and the words of all kinds were sent.
func busyWorld(bad int) impl.World {
	w := impl.World{Now: 40, Kdc: impl.Kdc{Next: 33, Cache: toldAt(9, 40, 36, 38, 41)}, Bad: bad}
	for id := 1; id <= 3; id++ {
		w.Clients = append(w.Clients, busyUser(id))
	}
	for id := 4; id <= 5; id++ {
		w.Servs = append(w.Servs, busyServ(id))
	}
	w.Log = append(fewMsgs(), asAsk(1, 60), asAsk(3, 1), tgsAsk(4, 9, firstTicket(1, 20, 30, 50), told(20, 1, 39, 9)))
	for serv := 4; serv <= 5; serv++ {
		w.Log = append(w.Log, callOf(1, serv, 11, 40, 60), callOf(2, serv, 12, 36, 9), callOf(3, serv, 13, 41, 9))
	}
	for id := 1; id <= 3; id++ {
		w.Log = append(w.Log, giveFirst(id, 14, 20, 45), giveTicket(id, 10, 4, 15, 13, 45), answerMsg(id, w.Clients[id-1].Sent[3]))
	}
	return w
}

// withLog is a world with so many words sent, those that it has again and again.
func withLog(w impl.World, count int) impl.World {
	w = ownWorld(w)
	var log []impl.Msg
	for i := range count {
		log = append(log, ownMsg(w.Log[i%len(w.Log)]))
	}
	w.Log = log
	return w
}

// goodWorlds is ok worlds: new ones, busy ones, and ones at each limit.
func goodWorlds() []impl.World {
	var all []impl.World
	for bad := 0; bad <= 3; bad++ {
		busy := busyWorld(bad)
		all = append(all, newWorld(bad), busy)
		for _, count := range []int{1, 79, 80} {
			all = append(all, withLog(busy, count))
		}
		for _, now := range []int{0, 1, 39, 41, 99, 100} {
			w := ownWorld(busy)
			w.Now, w.Kdc.Next = now, 61-now%3
			for i := range w.Clients {
				w.Clients[i] = crowded(i+1, 57+(now+i)%4, now)
			}
			for i := range w.Servs {
				caches := cachesAt(now)
				w.Servs[i].Cache, w.Servs[i].Since = caches[len(caches)-1-i], now-1+i%2
			}
			all = append(all, w, withLog(w, 79+now%2))
		}
	}
	return all
}

// bentWorld is a world with one thing changed.
type bentWorld struct {
	why   string
	world impl.World
}

// wrongWorlds is worlds that are not ok, each by something else, all else of which is.
func wrongWorlds() []bentWorld {
	var all []bentWorld
	bend := func(why string, change func(w *impl.World)) {
		for _, good := range []impl.World{busyWorld(2), newWorld(1), newWorld(0)} {
			w := ownWorld(good)
			change(&w)
			all = append(all, bentWorld{why, w})
		}
	}
	for _, n := range []int{math.MinInt, -1, 101, math.MaxInt} {
		bend("no time", func(w *impl.World) { w.Now = n })
	}
	for _, n := range []int{math.MinInt, -1, 4, 5, 6, math.MaxInt} {
		bend("bad is no user, nor 0", func(w *impl.World) { w.Bad = n })
	}
	for _, n := range []int{-1, 0, 9, 62} {
		bend("no such next key", func(w *impl.World) { w.Kdc.Next = n })
	}
	for _, cache := range wrongCaches()[:9] {
		bend("who gives tickets cannot remember so", func(w *impl.World) { w.Kdc.Cache = cache })
	}
	for place := range 3 {
		bend("a user too few", func(w *impl.World) { w.Clients = slices.Delete(w.Clients, place, place+1) })
		bend("a user twice", func(w *impl.World) { w.Clients[place] = ownClient(w.Clients[(place+1)%3]) })
		bend("users out of order", func(w *impl.World) {
			w.Clients[place], w.Clients[(place+1)%3] = w.Clients[(place+1)%3], w.Clients[place]
		})
		for _, bad := range wrongUsers() {
			bend("a user who is not ok: "+bad.why, func(w *impl.World) {
				w.Clients[place] = ownClient(bad.user)
				if bad.user.Id == 2 {
					w.Clients[place].Id = place + 1
				}
			})
		}
	}
	bend("a user too many", func(w *impl.World) { w.Clients = append(w.Clients, impl.Client{Id: 3}) })
	bend("a user who is none too many", func(w *impl.World) { w.Clients = append(w.Clients, impl.Client{Id: 4}) })
	bend("no users", func(w *impl.World) { w.Clients = nil })
	return append(all, wrongServWorlds()...)
}

// wrongServWorlds is worlds that are not ok by a service, or by what was sent.
func wrongServWorlds() []bentWorld {
	all := []bentWorld{{"nothing", impl.World{}}}
	bend := func(why string, change func(w *impl.World)) {
		for _, good := range []impl.World{busyWorld(3), newWorld(2), newWorld(0)} {
			w := ownWorld(good)
			change(&w)
			all = append(all, bentWorld{why, w})
		}
	}
	for place := range 2 {
		bend("a service too few", func(w *impl.World) { w.Servs = slices.Delete(w.Servs, place, place+1) })
		bend("a service twice", func(w *impl.World) { w.Servs[place] = ownServ(w.Servs[1-place]) })
		for _, bad := range wrongServs() {
			bend("a service that is not ok: "+bad.why, func(w *impl.World) {
				w.Servs[place] = ownServ(bad.serv)
				if bad.serv.Id == 5 {
					w.Servs[place].Id = 4 + place
				}
			})
		}
	}
	bend("services out of order", func(w *impl.World) { w.Servs[0], w.Servs[1] = w.Servs[1], w.Servs[0] })
	bend("a service too many", func(w *impl.World) { w.Servs = append(w.Servs, newServ(5)) })
	bend("a service that is none too many", func(w *impl.World) { w.Servs = append(w.Servs, impl.Serv{Id: 6, Since: -1}) })
	bend("no services", func(w *impl.World) { w.Servs = nil })
	for _, m := range bentForms() {
		bend("a word not in form", func(w *impl.World) { w.Log = append([]impl.Msg{m}, w.Log...) })
		bend("a last word not in form", func(w *impl.World) { w.Log = append(w.Log, m) })
	}
	for _, count := range []int{81, 82, 160} {
		bend("too many words", func(w *impl.World) {
			w.Log = nil
			for range count {
				w.Log = append(w.Log, asAsk(1, 1))
			}
		})
	}
	return all
}

// checkDo holds what WorldDo answers against the document, and hands it on.
func checkDo(t *testing.T, w impl.World, e impl.Event) impl.World {
	t.Helper()
	after := impl.WorldDo(w, e)
	if want := doWanted(w, e); !sameWorld(after, want) {
		t.Errorf("WorldDo(%v, %v) = %v; want %v", w, e, after, want)
	}
	return after
}

// checkMeet holds what WorldMeet answers against the document, and hands it on.
func checkMeet(t *testing.T, w impl.World, user, serv int) impl.World {
	t.Helper()
	after := impl.WorldMeet(w, user, serv)
	if want := meetWanted(w, user, serv); !sameWorld(after, want) {
		t.Errorf("WorldMeet(%v, %d, %d) = %v; want %v", w, user, serv, after, want)
	}
	return after
}
