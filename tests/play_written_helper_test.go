package tests

import (
	"slices"

	"loop.example/cerberus/impl"
)

// writtenPlays is the plays that are written out, without a bad user, and with each of the three.
func writtenPlays() []*play {
	var all []*play
	for bad := 0; bad <= 3; bad++ {
		for _, one := range []struct {
			name  string
			write func(*play)
		}{
			{"all meet", playAllMeet}, {"brought again", playAgain}, {"at once again", playTwice}, {"to another service", playOtherService},
			{"tickets of his own", playOwnTickets}, {"as another user", playAsOthers}, {"tickets mixed", playMixed}, {"falls", playFalls},
			{"late", playLate}, {"lies", playLies}, {"told to another one", playToldToOther}, {"out of order", playOutOfOrder}, {"told ahead", playAhead},
			{"much told", playMuch},
		} {
			p := newPlay(one.name, bad)
			one.write(p)
			all = append(all, p)
		}
	}
	return all
}

// honest is two users who are not bad.
func (p *play) honest() (int, int) {
	one := p.bad%3 + 1
	if p.bad == 0 {
		return one, 2
	}
	return one, one%3 + 1
}

// badFirst lets the bad user be given a first ticket by a word that he forges.
func (p *play) badFirst(num int) {
	if p.bad > 0 {
		p.doBrought(forge(asAsk(p.bad, num)))
	}
}

// tells is a word that shows the last ticket of the bad user, told with its key, as some user, at a time.
func (p *play) tells(kind, serv, user, time, num int) impl.Msg {
	peer := serv
	if kind == impl.MsgTgsAsk {
		peer = impl.TgsId
	}
	for _, s := range slices.Backward(sealsOf(p.last(), impl.SealTicket)) {
		if s.A == p.bad && s.B == peer {
			m := apAsk(serv, s, told(s.C, user, time, num))
			if m.Kind = kind; kind == impl.MsgTgsAsk {
				m.Nonce = num
			}
			return m
		}
	}
	return impl.Msg{}
}

// badTicket lets the bad user be given a ticket for a service, by his first one.
func (p *play) badTicket(serv, num int) {
	p.doBrought(forge(p.tells(impl.MsgTgsAsk, serv, p.bad, p.last().Now, num)))
}

func playAllMeet(p *play) {
	for user := 1; user <= 3; user++ {
		for serv := 4; serv <= 5; serv++ {
			p.meet(user, serv)
		}
	}
}

// playAgain brings all words that were sent again, the last ones first, then later, and behind a fall.
func playAgain(p *play) {
	one, _ := p.honest()
	p.meet(one, 4)
	for place := range reversed(p.last().Log) {
		p.do(bring(len(p.last().Log) - 1 - place))
	}
	for _, events := range [][]impl.Event{{tick()}, ticks(2), ticks(3), {fall(4)}, {tick()}, ticks(8), {fall(4), tick()}} {
		p.do(events...)
		for _, place := range sentOf(p.last(), impl.MsgApAsk) {
			p.do(bring(place), bring(place))
		}
	}
}

// playTwice brings each word twice, as soon as it is sent.
func playTwice(p *play) {
	one, other := p.honest()
	for _, user := range []int{one, other} {
		for _, e := range []impl.Event{evAs(user), evTgs(user, 5), evAp(user, 5), evAp(user, 5), tick(), evTgs(user, 4), evAp(user, 4)} {
			for place, sent := len(p.last().Log), p.do(e); place < sent; place++ {
				p.do(bring(place))
				sent = p.do(bring(place))
			}
		}
	}
}

// playOtherService brings to one service what was told to the other one, in words that have the seals of both.
func playOtherService(p *play) {
	one, other := p.honest()
	p.doBrought(evAs(one), evTgs(one, 4), evTgs(one, 5), evAs(other), evTgs(other, 4))
	for _, e := range []impl.Event{evAp(one, 4), evAp(one, 5), evAp(other, 4)} {
		p.do(e)
	}
	w := p.last()
	for _, ticket := range sealsOf(w, impl.SealTicket) {
		for _, auth := range sealsOf(w, impl.SealAuth) {
			if within(ticket.B, 4, 5) {
				p.do(forge(apAsk(9-ticket.B, ticket, auth)))
				place := p.do(forge(apAsk(ticket.B, ticket, auth)))
				p.do(bring(place-1), bring(place-2), bring(place-1))
			}
		}
	}
}

// playOwnTickets lets the bad user be given tickets for both services, and call them as himself, some words twice.
func playOwnTickets(p *play) {
	one, _ := p.honest()
	p.meet(one, 4)
	p.badFirst(7)
	for serv := 4; serv <= 5; serv++ {
		p.badTicket(serv, 10+serv)
		for num := 1; num <= 3; num++ {
			p.doBrought(forge(p.tells(impl.MsgApAsk, serv, p.bad, p.last().Now, num)))
			p.do(bring(sentOf(p.last(), impl.MsgApAsk)[0]), bring(len(p.last().Log)-2), tick())
		}
	}
	p.doBrought(tick(), fall(5), forge(p.tells(impl.MsgApAsk, 5, p.bad, p.last().Now, 9)), evAp(one, 4))
}

// playAsOthers lets the bad user tell that he is another one, with tickets of his own, and with those of others.
func playAsOthers(p *play) {
	one, other := p.honest()
	p.meet(one, 4)
	p.badFirst(1)
	p.badTicket(4, 2)
	for _, user := range []int{one, other, p.bad} {
		p.doBrought(forge(p.tells(impl.MsgTgsAsk, 5, user, p.last().Now, 20+user)), forge(p.tells(impl.MsgApAsk, 4, user, p.last().Now, 30+user)))
	}
	if p.bad == 0 {
		return
	}
	for _, ticket := range sealsOf(p.last(), impl.SealTicket) {
		for _, key := range impl.WorldKeys(p.last()) {
			auth := told(key, ticket.A, p.last().Now, 40+key%20)
			p.doBrought(forge(tgsAsk(4, 3, ticket, auth)), forge(apAsk(4, ticket, auth)))
		}
	}
}

// playMixed gives a user the ticket of another one with the part of his own, ahead of what was meant for him.
func playMixed(p *play) {
	one, other := p.honest()
	p.do(evAs(one), evAs(other), bring(0), bring(1))
	p.badFirst(3)
	w := p.last()
	for _, ticket := range sealsOf(w, impl.SealTicket) {
		for _, part := range sealsOf(w, impl.SealPart)[:1] {
			p.doBrought(forge(impl.Msg{Kind: impl.MsgAsGive, Client: one, Seals: []impl.Seal{ticket, part}}))
		}
	}
	p.doBrought(bring(2), bring(3), evTgs(one, 4), evTgs(other, 4), evAp(one, 4), evAp(other, 4))
	for _, ticket := range sealsOf(p.last(), impl.SealTicket) {
		for _, auth := range sealsOf(p.last(), impl.SealAuth) {
			p.doBrought(forge(tgsAsk(5, 50, ticket, auth)))
		}
	}
	p.meet(one, 4)
	p.meet(other, 5)
}

// playFalls lets a service fall between a call and its answer, ahead of a call that was sent, and between two calls.
func playFalls(p *play) {
	one, other := p.honest()
	p.doBrought(evAs(one), evTgs(one, 4), evAs(other), evTgs(other, 4), tick())
	place := p.do(evAp(one, 4))
	p.do(bring(place-1), fall(4), bring(place-1), bring(place))
	p.do(evAp(other, 4), fall(4), bring(place+1), tick(), bring(place+1))
	p.doBrought(evAp(other, 4), fall(4), evAp(one, 4), tick(), evAp(one, 4), fall(5), evAp(one, 4), tick(), fall(4), tick(), evAp(other, 4))
	for _, place := range sentOf(p.last(), impl.MsgApAsk) {
		p.do(bring(place))
	}
}

// playLate brings what was sent so late that tickets, or what is told with them, last no more.
func playLate(p *play) {
	one, other := p.honest()
	p.doBrought(evAs(one), evTgs(one, 4))
	first := p.do(evAp(one, 4))
	p.do(ticks(3)...)
	second := p.do(evAp(one, 4), bring(first-1), bring(first-1))
	p.do(ticks(4)...)
	p.do(bring(second-2), bring(second-1), evAp(one, 4))
	p.do(ticks(6)...)
	p.doBrought(evAp(one, 4), evTgs(one, 4), evTgs(one, 5), evAs(other))
	p.do(ticks(9)...)
	for _, kind := range []int{impl.MsgTgsAsk, impl.MsgApAsk, impl.MsgTgsGive, impl.MsgApBack} {
		for _, place := range sentOf(p.last(), kind) {
			p.do(bring(place))
		}
	}
	p.meet(other, 4)
}

// playLies lets the bad user make words by which a user would have keys of his, or meet him, ahead of what is meant for that
// user.
func playLies(p *play) {
	one, _ := p.honest()
	p.badFirst(1)
	p.badTicket(4, 2)
	p.do(evAs(one))
	keys := impl.WorldKeys(p.last())
	for _, key := range append(slices.Clone(keys), one) {
		for _, ticket := range sealsOf(p.last(), impl.SealTicket) {
			part := impl.Seal{Key: key, Kind: impl.SealPart, A: 6, B: ticket.C, C: 1, D: 12}
			p.doBrought(forge(impl.Msg{Kind: impl.MsgAsGive, Client: one, Seals: []impl.Seal{ticket, part}}))
		}
	}
	p.doBrought(evTgs(one, 4), evAp(one, 4))
	p.meet(one, 4)
	p.do(evAp(one, 4), evTgs(one, 4))
	want := userOf(p.last(), one).Num
	for _, call := range slices.Backward(userOf(p.last(), one).Sent) {
		for _, call.Key = range append(slices.Clone(keys), call.Key) {
			p.doBrought(forge(answerMsg(one, call)))
		}
	}
	for _, key := range keys {
		for _, ticket := range sealsOf(p.last(), impl.SealTicket)[:min(2, len(keys)-1)] {
			part := impl.Seal{Key: key, Kind: impl.SealPart, A: 4, B: ticket.C, C: want, D: 12}
			p.doBrought(forge(impl.Msg{Kind: impl.MsgTgsGive, Client: one, Seals: []impl.Seal{ticket, part}}))
		}
	}
}

// playToldToOther brings to who gives tickets what was told to a service, and the other way round.
func playToldToOther(p *play) {
	one, other := p.honest()
	p.meet(one, 4)
	p.meet(other, 4)
	w := p.last()
	for _, ticket := range sealsOf(w, impl.SealTicket) {
		for _, auth := range sealsOf(w, impl.SealAuth) {
			if auth.A == one {
				p.doBrought(forge(tgsAsk(4, 9, ticket, auth)), forge(apAsk(4, ticket, auth)))
			}
		}
	}
}

// playOutOfOrder lets two of each be asked for ahead of all answers, and brings these the last ones first.
func playOutOfOrder(p *play) {
	one, other := p.honest()
	for _, e := range []impl.Event{evAs(one), evTgs(one, 4), evTgs(one, 5), evAp(one, 4)} {
		first := len(p.last().Log)
		p.do(e, evAs(other))
		sent := p.do(e)
		for place := sent - 1; place >= first; place-- {
			p.do(bring(place))
		}
		for place := len(p.last().Log) - 1; place >= sent; place-- {
			p.do(bring(place))
		}
	}
	p.doBrought(evTgs(other, 4), evAp(other, 4), evAs(other), evAp(other, 4))
}

// playAhead lets the bad user tell of times still to come, and brings that at each time; a service falls meanwhile.
func playAhead(p *play) {
	one, _ := p.honest()
	p.badFirst(1)
	p.badTicket(5, 2)
	for time := range 6 {
		p.do(forge(p.tells(impl.MsgApAsk, 5, p.bad, p.last().Now+time, 3)))
	}
	for now := range 5 {
		for _, place := range sentOf(p.last(), impl.MsgApAsk) {
			p.do(bring(place))
		}
		if now == 2 {
			p.do(fall(5))
		}
		p.do(tick())
	}
	p.meet(one, 5)
}

// playMuch lets the bad user tell so much at one time that nothing more is remembered, and then later.
func playMuch(p *play) {
	one, _ := p.honest()
	p.badFirst(1)
	p.badTicket(5, 2)
	for num := range 21 {
		place := p.do(forge(p.tells(impl.MsgApAsk, 5, p.bad, p.last().Now, 60-num)))
		p.do(bring(place - 1))
	}
	last := len(p.last().Log) - 1
	p.do(ticks(4)...)
	p.do(bring(last), bring(4))
	p.meet(one, 5)
}
