package tests

import (
	"fmt"
	"math/rand"
	"slices"
	"testing"

	"loop.example/cerberus/impl"
)

// servOkWanted is what the document says of a service that is ok.
func servOkWanted(s impl.Serv) bool {
	for _, call := range s.Took {
		if !userWanted(call.Peer) || !keyWanted(call.Key) || !timeWanted(call.Time) || !numWanted(call.Num) {
			return false
		}
	}
	return servWanted(s.Id) && within(s.Since, -1, 100) && cacheOkWanted(s.Cache)
}

// shownToWanted says whether a word calls a service with a ticket that is shown to it, and was told later than Since.
func shownToWanted(s impl.Serv, m impl.Msg, now int) bool {
	return m.Kind == 5 && msgWanted(m) && m.Serv == s.Id && shownWanted(m.Seals[0], m.Seals[1], s.Id, now) && m.Seals[1].B > s.Since
}

// serveWanted is a service behind ServHear, and the text of its answer; that is empty, if there is none.
func serveWanted(s impl.Serv, m impl.Msg, now int) (impl.Serv, string) {
	if !servOkWanted(s) || !timeWanted(now) {
		return impl.Serv{}, ""
	}
	after := ownServ(s)
	if !shownToWanted(s, m, now) {
		return after, ""
	}
	auth := m.Seals[1]
	cache, ok := cacheWanted(s.Cache, auth, now)
	after.Cache = cache
	if !ok {
		return after, ""
	}
	after.Took = append(after.Took, impl.Call{Peer: auth.A, Key: auth.Key, Time: auth.B, Num: auth.C})
	return after, fmt.Sprintf("6 %d 0 0\nback %d %d %d 0 0 0\n", auth.A, auth.Key, auth.B, auth.C)
}

// fallWanted is a service behind ServFall.
func fallWanted(s impl.Serv, now int) impl.Serv {
	if !servOkWanted(s) || !timeWanted(now) {
		return impl.Serv{}
	}
	after := ownServ(s)
	after.Cache = nil
	if now > s.Since {
		after.Since = now
	}
	return after
}

// sameServ takes the empty list and the nil list for the same.
func sameServ(a, b impl.Serv) bool {
	return a.Id == b.Id && a.Since == b.Since && slices.Equal(a.Cache, b.Cache) && slices.Equal(a.Took, b.Took)
}

func emptyServ(s impl.Serv) bool { return sameServ(s, impl.Serv{}) }

// ownServ is a service that shares no memory with that one.
func ownServ(s impl.Serv) impl.Serv {
	s.Cache, s.Took = append([]impl.Seal(nil), s.Cache...), append([]impl.Call(nil), s.Took...)
	return s
}

// servTicket is a ticket of a user for a service.
func servTicket(user, serv, held, from, until int) impl.Seal {
	return impl.Seal{Key: serv, Kind: impl.SealTicket, A: user, B: serv, C: held, D: from, E: until}
}

func apAsk(serv int, seals ...impl.Seal) impl.Msg {
	return impl.Msg{Kind: impl.MsgApAsk, Serv: serv, Seals: seals}
}

// callOf is a word by which a user calls a service, with a ticket that always lasts.
func callOf(user, serv, key, time, num int) impl.Msg {
	return apAsk(serv, servTicket(user, serv, key, 0, 100), told(key, user, time, num))
}

// newServ is a service that nobody called.
func newServ(id int) impl.Serv { return impl.Serv{Id: id, Since: -1} }

// tookOf is so many calls that differ, of all users, with keys, times and numbers up to the limits.
func tookOf(count int) []impl.Call {
	var all []impl.Call
	for i := range count {
		all = append(all, impl.Call{Peer: i%3 + 1, Key: 60 - i%51, Time: i * 50 % 101, Num: i*59%60 + 1})
	}
	return all
}

// busyServ is an ok service that fell once, remembers some, of which a few are not fresh at 40, and was called.
func busyServ(id int) impl.Serv {
	return impl.Serv{Id: id, Since: 35, Cache: toldAt(6, 40, 36, 38, 41), Took: tookOf(4)}
}

// goodServs is ok services: new ones, and ones at each limit, with what is fresh at a time, and what is not.
func goodServs(now int) []impl.Serv {
	var all []impl.Serv
	sinces := []int{-1, 0, now - 5, now - 4, now - 3, now - 1, now, now + 1, 99, 100}
	for i, cache := range cachesAt(now) {
		for j, since := range sinces {
			all = append(all, impl.Serv{Id: 4 + (i+j)%2, Since: since, Cache: cache, Took: tookOf((i + j) % 5)})
		}
		all = append(all, impl.Serv{Id: 4 + i%2, Since: -1, Cache: cache, Took: append(tookOf(61+i), tookOf(2)...)})
	}
	all = append(all, newServ(4), newServ(5))
	return slices.DeleteFunc(all, func(s impl.Serv) bool { return !servOkWanted(s) })
}

// callsFor is words that a service could hear at a time: calls at each limit and beside it, and ones with something
// other than it must be.
func callsFor(s impl.Serv, now int) []impl.Msg {
	at := func(time int) int { return max(0, min(100, time)) }
	var all []impl.Msg
	for i, time := range []int{now, now + 1, now - 1, now - 3, now - 4, s.Since, s.Since + 1, s.Since - 1} {
		user, key := i%3+1, []int{10, 60, 33}[i%3]
		all = append(all, callOf(user, s.Id, key, at(time), 60-i), callOf(user, 9-s.Id, key, at(time), 60-i))
	}
	for _, ends := range [][2]int{{now, now}, {now + 1, 100}, {0, now - 1}, {now - 1, now + 1}, {now, now - 1}} {
		all = append(all, apAsk(s.Id, servTicket(3, s.Id, 20, at(ends[0]), at(ends[1])), told(20, 3, at(now), 9)))
	}
	good := callOf(2, s.Id, 50, at(now), 1)
	ticket, auth := good.Seals[0], good.Seals[1]
	for _, seals := range [][]impl.Seal{
		{ticket, told(50, 1, at(now), 1)}, {ticket, told(51, 2, at(now), 1)}, {auth, ticket}, {ticket, ticket}, {auth, auth},
		{servTicket(2, 9-s.Id, 50, 0, 100), auth}, {firstTicket(2, 50, 0, 100), auth}, {servTicket(1, s.Id, 50, 0, 100), auth}, {servTicket(2, s.Id, 49, 0, 100), auth},
		{partOf(50, s.Id, 50), auth}, {ticket, partOf(50, s.Id, 50)}, {ticket, {Key: 50, Kind: impl.SealBack, A: at(now), B: 1}}, {ticket}, {auth}, {ticket, auth, auth},
	} {
		all = append(all, apAsk(s.Id, seals...))
	}
	for _, heard := range s.Cache[:min(len(s.Cache), 3)] {
		all = append(all, apAsk(s.Id, servTicket(heard.A, s.Id, heard.Key, 0, 100), heard))
	}
	other := ownMsg(good)
	other.Serv = 9 - s.Id
	return append(all, good, other, withKind(good, 3), withKind(good, 6), tgsAsk(s.Id, 9, ticket, auth), asAsk(2, 9), impl.Msg{})
}

// bentServ is a service with one thing changed.
type bentServ struct {
	why  string
	serv impl.Serv
}

// wrongServs is services that are not ok, each by something else, all else of which is.
func wrongServs() []bentServ {
	var all []bentServ
	bend := func(why string, change func(s *impl.Serv)) {
		s := ownServ(busyServ(5))
		change(&s)
		all = append(all, bentServ{why, s})
	}
	for _, n := range []int{-1, 0, 1, 3, 6, 7, 10} {
		bend("no such service", func(s *impl.Serv) { s.Id = n })
	}
	for _, n := range []int{-100, -2, 101, 102} {
		bend("up since no time", func(s *impl.Serv) { s.Since = n })
	}
	for _, cache := range wrongCaches() {
		bend("cannot remember so", func(s *impl.Serv) { s.Cache = cache })
	}
	for place := range 4 {
		for _, n := range []int{-1, 0, 4, 5} {
			bend("called by no user", func(s *impl.Serv) { s.Took[place].Peer = n })
		}
		for _, n := range []int{-1, 0, 5, 9, 61} {
			bend("called with no key made for some time", func(s *impl.Serv) { s.Took[place].Key = n })
		}
		for _, n := range []int{-1, 101} {
			bend("called at no time", func(s *impl.Serv) { s.Took[place].Time = n })
		}
		for _, n := range []int{-1, 0, 61} {
			bend("called with no number", func(s *impl.Serv) { s.Took[place].Num = n })
		}
		bend("called by nobody", func(s *impl.Serv) { s.Took[place] = impl.Call{} })
	}
	return all
}

// servPlaces is where a service has its numbers.
func servPlaces(s *impl.Serv) []*int {
	all := []*int{&s.Id, &s.Since}
	for i := range s.Cache {
		all = append(all, &s.Cache[i].Kind)
		all = append(all, numPlaces(&s.Cache[i])...)
	}
	for i := range s.Took {
		all = append(all, &s.Took[i].Peer, &s.Took[i].Key, &s.Took[i].Time, &s.Took[i].Num)
	}
	return all
}

// bentServs is a service with each odd number in each of its places.
func bentServs(s impl.Serv) []impl.Serv {
	var all []impl.Serv
	for _, n := range oddNumbers() {
		for i := range servPlaces(&s) {
			bent := ownServ(s)
			*servPlaces(&bent)[i] = n
			all = append(all, bent)
		}
	}
	return all
}

// heardCall is a word that a service heard, and when it did.
type heardCall struct {
	serv, now int
	word      impl.Msg
}

// servWalk lets users get tickets and call services at random, one who meddles bring what was sent to any service, late,
// and again, with one number odd, and services fall, as time goes on.
type servWalk struct {
	r     *rand.Rand
	users []impl.Client
	kdc   impl.Kdc
	servs map[int]impl.Serv
	fell  map[int]int
	now   int
	calls []impl.Msg
	heard []heardCall
}

func newServWalk(seed int64) *servWalk {
	w := &servWalk{r: rand.New(rand.NewSource(seed)), kdc: impl.KdcNew(), servs: map[int]impl.Serv{}, fell: map[int]int{4: -1, 5: -1}}
	for id := 1; id <= 3; id++ {
		c, _ := impl.ClientNew(id)
		w.users = append(w.users, c)
	}
	for id := 4; id <= 5; id++ {
		w.servs[id], _ = impl.ServNew(id)
	}
	return w
}

// call lets a user call a service, with a ticket that he has, or asks for.
func (w *servWalk) call() {
	c, serv := &w.users[w.r.Intn(3)], 4+w.r.Intn(2)
	var ask, give impl.Msg
	var ok bool
	if _, has := credWanted(*c, 6, w.now); !has {
		*c, ask, _ = impl.ClientAs(*c)
		w.kdc, give, _ = impl.KdcAs(w.kdc, ask, w.now)
		*c = impl.ClientHear(*c, give)
	}
	if _, has := credWanted(*c, serv, w.now); !has {
		*c, ask, _ = impl.ClientTgs(*c, serv, w.now)
		w.kdc, give, _ = impl.KdcTgs(w.kdc, ask, w.now)
		*c = impl.ClientHear(*c, give)
	}
	if *c, ask, ok = impl.ClientAp(*c, serv, w.now); ok {
		w.calls = append(w.calls, ask)
	}
}

// word is a call that was sent, most often one of the last ones, or one with one number odd; its service, too.
func (w *servWalk) word() impl.Msg {
	if len(w.calls) == 0 {
		return callOf(1, 4, 60, w.now, 1)
	}
	m := ownMsg(w.calls[max(0, len(w.calls)-1-w.r.Intn(8))])
	if w.r.Intn(4) == 0 {
		place := w.r.Intn(2)
		odd := []int{1, 2, 3, 4, 5, 6, 10, 11, 12, 20, w.now, max(0, w.now-1)}
		*numPlaces(&m.Seals[place])[w.r.Intn(6)] = odd[w.r.Intn(len(odd))]
	}
	if w.r.Intn(8) == 0 {
		m.Serv = 4 + w.r.Intn(2)
	}
	return m
}

// servStep is what a service heard: it, ahead and behind, the word, its answer, and whether there is one.
type servStep struct {
	before, after impl.Serv
	word, answer  impl.Msg
	ok            bool
}

// step lets a service hear a word, or fall, behind what users do ahead of it, and holds that against the document.
func (w *servWalk) step(t *testing.T) servStep {
	t.Helper()
	if w.r.Intn(4) == 0 {
		w.now = min(w.now+w.r.Intn(3), 100)
	}
	if w.r.Intn(3) == 0 {
		w.call()
	}
	if id := 4 + w.r.Intn(2); w.r.Intn(40) == 0 {
		w.servs[id] = checkFall(t, w.servs[id], w.now)
		w.fell[id] = w.now
	}
	m, id := w.word(), 4+w.r.Intn(2)
	if w.r.Intn(8) > 0 && servWanted(m.Serv) {
		id = m.Serv
	}
	s := servStep{before: w.servs[id], word: m}
	s.after, s.answer, s.ok = checkServe(t, s.before, m, w.now)
	w.servs[id] = s.after
	return s
}
