package tests

import (
	"cmp"
	"slices"
	"testing"
	"unsafe"

	"loop.example/cerberus/impl"
)

// stretch is where a list, and its spare room, lie in memory, and whose list it is.
type stretch struct {
	whose    string
	from, to uintptr
}

// stretchOf is where a list lies, if it has any room.
func stretchOf[T any](whose string, list []T) []stretch {
	if cap(list) == 0 {
		return nil
	}
	var one T
	from := uintptr(unsafe.Pointer(unsafe.SliceData(list)))
	return []stretch{{whose, from, from + uintptr(cap(list))*unsafe.Sizeof(one)}}
}

// stretchesOf is where all lists of a world lie, and those in the spare room of others.
func stretchesOf(whose string, w impl.World) []stretch {
	all := joined(stretchOf(whose+".Kdc.Cache", w.Kdc.Cache), stretchOf(whose+".Clients", w.Clients), stretchOf(whose+".Servs", w.Servs), stretchOf(whose+".Log", w.Log))
	for _, c := range w.Clients[:cap(w.Clients)] {
		all = joined(all, stretchOf(whose+".Wants", c.Wants), stretchOf(whose+".Creds", c.Creds), stretchOf(whose+".Sent", c.Sent), stretchOf(whose+".Met", c.Met))
	}
	for _, s := range w.Servs[:cap(w.Servs)] {
		all = joined(all, stretchOf(whose+".Cache", s.Cache), stretchOf(whose+".Took", s.Took))
	}
	for _, m := range w.Log[:cap(w.Log)] {
		all = joined(all, stretchOf(whose+".Seals", m.Seals))
	}
	return all
}

// shared tells of two of these that lie on each other.
func shared(all []stretch) string {
	slices.SortFunc(all, func(a, b stretch) int { return cmp.Compare(a.from, b.from) })
	for i := 1; i < len(all); i++ {
		if all[i].from < all[i-1].to {
			return all[i-1].whose + " and " + all[i].whose
		}
	}
	return ""
}

// roomyWorld is the same world, with more behind the ends of all its lists.
func roomyWorld(w impl.World) impl.World {
	w = ownWorld(w)
	w.Kdc.Cache, _ = withRoom(w.Kdc.Cache, told(59, 1, 9, 59), told(58, 2, 8, 60))
	for i, c := range w.Clients {
		w.Clients[i], _ = roomyClient(c)
	}
	for i, s := range w.Servs {
		w.Servs[i], _ = roomyServ(s)
	}
	for i, m := range w.Log {
		w.Log[i] = roomyMsg(m)
	}
	w.Clients, _ = withRoom(w.Clients, busyUser(1), busyUser(2))
	w.Servs, _ = withRoom(w.Servs, busyServ(4), busyServ(5))
	w.Log, _ = withRoom(w.Log, fewMsgs()[1], fewMsgs()[4])
	return w
}

func roomyMsg(m impl.Msg) impl.Msg {
	m.Seals, _ = withRoom(m.Seals, fewSeals()[:3]...)
	return m
}

// spread is a world with all that is in the spare room of its lists in them, in the same memory, but for the lists in others.
func spread(w impl.World) impl.World {
	w.Kdc.Cache, w.Clients, w.Servs, w.Log = w.Kdc.Cache[:cap(w.Kdc.Cache)], slices.Clone(w.Clients[:cap(w.Clients)]), slices.Clone(w.Servs[:cap(w.Servs)]), slices.Clone(w.Log[:cap(w.Log)])
	for i, c := range w.Clients {
		w.Clients[i].Wants, w.Clients[i].Creds, w.Clients[i].Sent, w.Clients[i].Met = c.Wants[:cap(c.Wants)], c.Creds[:cap(c.Creds)], c.Sent[:cap(c.Sent)], c.Met[:cap(c.Met)]
	}
	for i, s := range w.Servs {
		w.Servs[i].Cache, w.Servs[i].Took = s.Cache[:cap(s.Cache)], s.Took[:cap(s.Took)]
	}
	for i, m := range w.Log {
		w.Log[i].Seals = m.Seals[:cap(m.Seals)]
	}
	return w
}

// checkWorldMemory asks that what is answered shares nothing with an argument, with another answer, or with another list of
// its own, and that no argument is written into, or behind its end.
func checkWorldMemory(t *testing.T, what string, w impl.World, m impl.Msg, answer func(impl.World, impl.Msg) impl.World) {
	t.Helper()
	arg, word := roomyWorld(w), roomyMsg(m)
	before, wordBefore := ownWorld(spread(arg)), slices.Clone(word.Seals[:cap(word.Seals)])
	one := answer(arg, word)
	kept := ownWorld(one)
	other := answer(arg, word)
	again := answer(one, word)
	if told := shared(joined(stretchesOf("the argument", arg), stretchOf("the word's Seals", word.Seals), stretchesOf("an answer", one),
		stretchesOf("another answer", other), stretchesOf("the answer of that", again))); told != "" {
		t.Errorf("%s of %v, %v: %s share memory", what, w, m, told)
	}
	if !sameWorld(one, other) || !sameWorld(one, kept) {
		t.Errorf("%s of %v, %v is %v, then %v", what, w, m, one, other)
	}
	if !sameWorld(spread(arg), before) || !slices.Equal(word.Seals[:cap(word.Seals)], wordBefore) {
		t.Errorf("%s writes into %v, or %v", what, w, m)
	}
}

// memoryWorlds is worlds of all sorts, some of them not ok.
func memoryWorlds() []impl.World {
	all := append(fewWorlds()[:20], impl.World{})
	for i, w := range goodWorlds() {
		if i%3 == 0 {
			all = append(all, w)
		}
	}
	for i, bad := range wrongWorlds() {
		if i%40 == 0 {
			all = append(all, bad.world)
		}
	}
	return all
}

func TestWorldDoMemory(t *testing.T) {
	for _, w := range memoryWorlds() {
		events := []impl.Event{tick(), {}, evAs(0), fall(4), fall(5), fall(6)}
		for user := 1; user <= 3; user++ {
			events = append(events, evAs(user), evTgs(user, 4), evAp(user, 5))
		}
		for _, place := range joined(upTo(-1, 6), upTo(max(7, len(w.Log)-6), len(w.Log))) {
			events = append(events, bring(place))
		}
		for i, m := range forgingsFor(w) {
			if i%4 == 0 {
				events = append(events, forge(m))
			}
		}
		for _, e := range events {
			checkWorldMemory(t, "WorldDo", w, e.Msg, func(w impl.World, m impl.Msg) impl.World {
				return impl.WorldDo(w, impl.Event{Kind: e.Kind, A: e.A, B: e.B, Msg: m})
			})
		}
	}
}

func TestWorldMeetMemory(t *testing.T) {
	for _, w := range memoryWorlds() {
		for user := 0; user <= 3; user++ {
			for serv := 3; serv <= 5; serv++ {
				checkWorldMemory(t, "WorldMeet", w, impl.Msg{}, func(w impl.World, _ impl.Msg) impl.World { return impl.WorldMeet(w, user, serv) })
			}
		}
	}
}

func TestWorldSealsAndKeysMemory(t *testing.T) {
	for _, w := range memoryWorlds() {
		arg := roomyWorld(w)
		before := ownWorld(spread(arg))
		all := stretchesOf("the argument", arg)
		for range 2 {
			all = joined(all, stretchOf("WorldSeals", impl.WorldSeals(arg)), stretchOf("WorldKeys", impl.WorldKeys(arg)))
		}
		if told := shared(all); told != "" {
			t.Errorf("of %v %s share memory", w, told)
		}
		if !sameWorld(spread(arg), before) {
			t.Errorf("WorldSeals, or WorldKeys, writes into %v", w)
		}
	}
}

func TestWorldNewAndPlayMemory(t *testing.T) {
	var all []stretch
	for bad := 0; bad <= 3; bad++ {
		for range 2 {
			w, _ := impl.WorldNew(bad)
			all = append(all, stretchesOf("WorldNew", w)...)
		}
	}
	if told := shared(all); told != "" {
		t.Errorf("%s share memory", told)
	}
	for _, p := range allPlays() {
		events := append(slices.Clone(p.events), evAs(1), fall(4))
		for i := range events {
			events[i].Msg = roomyMsg(events[i].Msg)
		}
		before := slices.Clone(events)
		var all []stretch
		for i, e := range events {
			before[i].Msg = ownMsg(impl.Msg{Seals: e.Msg.Seals[:cap(e.Msg.Seals)]})
			all = append(all, stretchOf("an event's Seals", e.Msg.Seals)...)
		}
		for range 2 {
			w, _ := impl.WorldPlay(p.bad, events[:len(p.events)])
			all = append(all, stretchesOf("WorldPlay", w)...)
		}
		if told := shared(append(all, stretchOf("events", events)...)); told != "" {
			t.Errorf("%s: %s share memory", p.name, told)
		}
		for i, e := range events {
			if !slices.Equal(e.Msg.Seals[:cap(e.Msg.Seals)], before[i].Msg.Seals) || e.Kind != before[i].Kind || e.A != before[i].A || e.B != before[i].B {
				t.Errorf("%s: WorldPlay writes into %v", p.name, events)
			}
		}
	}
}
