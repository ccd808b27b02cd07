package tests

import (
	"fmt"
	"math/rand"
	"slices"

	"loop.example/cerberus/impl"
)

// cacheOkWanted says whether this is at most 20 ok seals that tell of oneself, each once.
func cacheOkWanted(cache []impl.Seal) bool {
	seen := map[impl.Seal]bool{}
	for _, s := range cache {
		if s.Kind != 3 || !sealWanted(s) || seen[s] {
			return false
		}
		seen[s] = true
	}
	return len(cache) <= 20
}

func kdcOkWanted(k impl.Kdc) bool { return within(k.Next, 10, 61) && cacheOkWanted(k.Cache) }

// freshIn is those of these that were told at the time, or up to 3 ahead of it, in order.
func freshIn(cache []impl.Seal, now int) []impl.Seal {
	return slices.DeleteFunc(slices.Clone(cache), func(s impl.Seal) bool { return s.B < now-3 || s.B > now })
}

// cacheWanted is what the document says of remembering.
func cacheWanted(cache []impl.Seal, auth impl.Seal, now int) ([]impl.Seal, bool) {
	if !cacheOkWanted(cache) || auth.Kind != 3 || !sealWanted(auth) || !timeWanted(now) {
		return nil, false
	}
	fresh := freshIn(cache, now)
	if len(freshIn([]impl.Seal{auth}, now)) == 0 || slices.Contains(fresh, auth) || len(fresh) >= 20 {
		return fresh, false
	}
	return append(fresh, auth), true
}

// asWanted is who gives tickets behind KdcAs, and the text of its answer; that is empty, if there is none.
func asWanted(k impl.Kdc, m impl.Msg, now int) (impl.Kdc, string) {
	if !kdcOkWanted(k) || !timeWanted(now) {
		return impl.Kdc{}, ""
	}
	if m.Kind != 1 || !msgWanted(m) || k.Next == 61 {
		return k, ""
	}
	until := now + 12
	if until > 100 {
		until = 100
	}
	text := fmt.Sprintf("2 %d 0 0\nticket 6 %d 6 %d %d %d\npart %d 6 %d %d %d 0\n", m.Client, m.Client, k.Next, now, until, m.Client, k.Next, m.Nonce, until)
	return impl.Kdc{Next: k.Next + 1, Cache: k.Cache}, text
}

// tgsWanted is who gives tickets behind KdcTgs, and the text of its answer; that is empty, if there is none.
func tgsWanted(k impl.Kdc, m impl.Msg, now int) (impl.Kdc, string) {
	if !kdcOkWanted(k) || !timeWanted(now) {
		return impl.Kdc{}, ""
	}
	if m.Kind != 3 || !msgWanted(m) || k.Next == 61 || !shownWanted(m.Seals[0], m.Seals[1], 6, now) {
		return k, ""
	}
	cache, ok := cacheWanted(k.Cache, m.Seals[1], now)
	if !ok {
		return impl.Kdc{Next: k.Next, Cache: cache}, ""
	}
	first := m.Seals[0]
	text := fmt.Sprintf("4 %d 0 0\nticket %d %d %d %d %d %d\npart %d %d %d %d %d 0\n", first.A, m.Serv, first.A, m.Serv, k.Next, now, first.E, first.C, m.Serv, k.Next, m.Nonce, first.E)
	return impl.Kdc{Next: k.Next + 1, Cache: cache}, text
}

// shownWanted is what the document says of a ticket that is shown to somebody.
func shownWanted(ticket, auth impl.Seal, peer, now int) bool {
	return ticket.Kind == 1 && ticket.Key == peer && within(now, ticket.D, ticket.E) &&
		auth.Kind == 3 && auth.Key == ticket.C && auth.A == ticket.A
}

// sameKdc takes the empty list and the nil list for the same.
func sameKdc(a, b impl.Kdc) bool {
	return a.Next == b.Next && slices.Equal(a.Cache, b.Cache)
}

func emptyMsg(m impl.Msg) bool   { return sameMsg(m, impl.Msg{}) }
func emptyKdc(k impl.Kdc) bool   { return sameKdc(k, impl.Kdc{}) }
func ownKdc(k impl.Kdc) impl.Kdc { return impl.Kdc{Next: k.Next, Cache: slices.Clone(k.Cache)} }

// told is what a user tells of himself.
func told(key, user, time, num int) impl.Seal {
	return impl.Seal{Key: key, Kind: impl.SealAuth, A: user, B: time, C: num}
}

// firstTicket is a ticket for who gives tickets.
func firstTicket(user, held, from, until int) impl.Seal {
	return impl.Seal{Key: 6, Kind: impl.SealTicket, A: user, B: 6, C: held, D: from, E: until}
}

func asAsk(user, num int) impl.Msg {
	return impl.Msg{Kind: impl.MsgAsAsk, Client: user, Nonce: num}
}

func tgsAsk(serv, num int, seals ...impl.Seal) impl.Msg {
	return impl.Msg{Kind: impl.MsgTgsAsk, Serv: serv, Nonce: num, Seals: seals}
}

// toldAt is so many seals that differ, told at these times, one behind the other, again and again.
func toldAt(count int, times ...int) []impl.Seal {
	var all []impl.Seal
	for i := range count {
		all = append(all, told(10+i*7%51, i%3+1, times[i%len(times)], 60-i))
	}
	return all
}

// edgeTimes is times at the limits, one beside them, and ordinary ones.
func edgeTimes() []int { return []int{-1, 0, 1, 3, 4, 5, 40, 88, 89, 99, 100, 101} }

// cachesAt is caches that are ok, of nothing to 20, with what is fresh at a time, too old, or of later, in any order.
func cachesAt(now int) [][]impl.Seal {
	var fresh, gone []int
	for _, time := range []int{now, now - 3, now - 1, now - 2} {
		if timeWanted(time) {
			fresh = append(fresh, time)
		}
	}
	for _, time := range []int{now - 4, now + 1, now - 20, now + 3, 0, 100} {
		if timeWanted(time) && !within(time, now-3, now) {
			gone = append(gone, time)
		}
	}
	all := [][]impl.Seal{nil, {}}
	for _, times := range [][]int{fresh, gone, joined(fresh, gone), joined(gone, fresh), joined(gone[:1], fresh, gone[:1]), joined(fresh, gone, fresh)} {
		for _, count := range []int{1, 2, 5, 18, 19, 20} {
			if len(times) > 0 {
				all = append(all, toldAt(count, times...))
			}
		}
	}
	return all
}

// wrongCaches is caches that are not ok, each by something else.
func wrongCaches() [][]impl.Seal {
	good := toldAt(20, 40, 39)
	all := [][]impl.Seal{toldAt(21, 40, 39, 38), toldAt(21, 1), toldAt(40, 40, 3), append(toldAt(20, 40), good[0])}
	for _, s := range joined(wrongSeals(), fewSeals()[:5], fewSeals()[7:]) {
		for _, place := range []int{0, 10, 19} {
			bad := slices.Clone(good)
			bad[place] = s
			all = append(all, []impl.Seal{s}, bad)
		}
	}
	for _, places := range [][2]int{{0, 1}, {0, 19}, {19, 0}, {18, 19}, {7, 12}} {
		twice := slices.Clone(good)
		twice[places[0]] = twice[places[1]]
		all = append(all, twice)
	}
	return append(all, []impl.Seal{good[0], good[0]}, []impl.Seal{good[0], good[1], good[0]})
}

// kdcWalk lets who gives tickets be asked at random, by users who are honest, and by ones who are not, as time goes on.
type kdcWalk struct {
	r     *rand.Rand
	kdc   impl.Kdc
	now   int
	asked []impl.Msg
	given []impl.Msg
}

// ask is a word to who gives tickets: a new one, one that was asked already, or one with one number odd.
func (w *kdcWalk) ask() impl.Msg {
	if w.r.Intn(3) == 0 {
		w.now = min(w.now+w.r.Intn(3), 100)
	}
	var m impl.Msg
	switch pick := w.r.Intn(10); {
	case pick == 0 && len(w.asked) > 0:
		return w.asked[w.r.Intn(len(w.asked))]
	case pick <= 2 || len(w.given) == 0:
		m = asAsk(w.r.Intn(3)+1, w.r.Intn(60)+1)
	default:
		first := w.given[w.r.Intn(len(w.given))].Seals[0]
		if w.r.Intn(4) > 0 {
			first = w.given[w.r.Intn(min(3, len(w.given)))].Seals[0]
		}
		time := max(0, min(100, w.now-w.r.Intn(6)+1))
		m = tgsAsk(w.r.Intn(2)+4, w.r.Intn(60)+1, first, told(first.C, first.A, time, w.r.Intn(60)+1))
		if w.r.Intn(8) == 0 {
			m.Seals[1].A = w.r.Intn(3) + 1
		}
		if w.r.Intn(8) == 0 {
			m.Seals[1].Key = w.r.Intn(51) + 10
		}
	}
	w.asked = append(w.asked, m)
	return m
}

// hear takes what was answered.
func (w *kdcWalk) hear(after impl.Kdc, answer impl.Msg, ok bool) {
	w.kdc = after
	if ok {
		w.given = append(w.given, answer)
	}
}
