package tests

import (
	"math/rand"
	"slices"
	"sync"

	"loop.example/cerberus/impl"
)

// play is events from the beginning of a world on; worlds has one more, as the first one is ahead of all events.
type play struct {
	name   string
	bad    int
	events []impl.Event
	worlds []impl.World
}

func newPlay(name string, bad int) *play {
	w, _ := impl.WorldNew(bad)
	return &play{name: name, bad: bad, worlds: []impl.World{w}}
}

func (p *play) last() impl.World { return p.worlds[len(p.worlds)-1] }

// do lets events happen, as long as there is room for them, and tells how many words were sent by then.
func (p *play) do(events ...impl.Event) int {
	for _, e := range events {
		if len(p.events) < 70 {
			p.events, p.worlds = append(p.events, e), append(p.worlds, impl.WorldDo(p.last(), e))
		}
	}
	return len(p.last().Log)
}

// doBrought lets something happen, and brings all that comes of it.
func (p *play) doBrought(events ...impl.Event) {
	for _, e := range events {
		for place, sent := len(p.last().Log), p.do(e); place < sent; place++ {
			sent = p.do(bring(place))
		}
	}
}

// meet lets a user call a service, with all that is asked and answered ahead of it.
func (p *play) meet(user, serv int) {
	p.doBrought(tick(), evAs(user), evTgs(user, serv), evAp(user, serv))
}

// ticks is so many events by which time goes on.
func ticks(count int) []impl.Event {
	return slices.Repeat([]impl.Event{tick()}, count)
}

// sentOf is the places of the words of a kind that were sent.
func sentOf(w impl.World, kind int) []int {
	var all []int
	for i, m := range w.Log {
		if m.Kind == kind {
			all = append(all, i)
		}
	}
	return all
}

// wordAt is a word that was sent, the last one being at -1.
func wordAt(w impl.World, kind, place int) impl.Msg {
	all := sentOf(w, kind)
	if place < 0 {
		place += len(all)
	}
	return w.Log[all[place]]
}

// style is how often of a hundred what happens, and how often of ten a word that was sent just now is brought at once.
type style struct {
	prompt, honest, again, forge, tick, fall int
}

var styles = []style{
	{prompt: 10, honest: 60, again: 8, forge: 14, tick: 12, fall: 3},
	{prompt: 8, honest: 30, again: 20, forge: 34, tick: 10, fall: 3},
	{prompt: 9, honest: 14, again: 20, forge: 50, tick: 8, fall: 4},
	{prompt: 5, honest: 35, again: 30, forge: 15, tick: 10, fall: 6},
	{prompt: 8, honest: 40, again: 12, forge: 8, tick: 34, fall: 3},
}

// player draws what happens next.
type player struct {
	*play
	r     *rand.Rand
	style style
}

// draw is one more event; of those that are left over of a hundred many a one is of no kind, or of nobody.
func (d *player) draw() impl.Event {
	w := d.last()
	if n := len(d.worlds); n > 1 && len(w.Log) > len(d.worlds[n-2].Log) && d.r.Intn(10) < d.style.prompt {
		return bring(len(w.Log) - 1)
	}
	s, pick := d.style, d.r.Intn(100)
	for i, often := range []int{s.honest, s.again, s.forge, s.tick, s.fall} {
		if pick -= often; pick >= 0 {
			continue
		}
		switch i {
		case 0:
			return d.asks(w)
		case 1:
			return bring(d.r.Intn(len(w.Log) + 1))
		case 2:
			return forge(d.forged(w))
		case 3:
			return tick()
		default:
			return fall(4 + d.r.Intn(2))
		}
	}
	return impl.Event{Kind: d.r.Intn(9), A: d.r.Intn(7) - 1, B: d.r.Intn(5) + 3}
}

// asks is what an honest user would do next, or anything that one could.
func (d *player) asks(w impl.World) impl.Event {
	user, serv := 1+d.r.Intn(3), 4+d.r.Intn(2)
	c := userOf(w, user)
	_, first := credWanted(c, 6, w.Now)
	_, has := credWanted(c, serv, w.Now)
	switch pick := d.r.Intn(10); {
	case pick == 0:
		return evAs(user)
	case pick == 1:
		return evTgs(user, serv)
	case pick == 2, has:
		return evAp(user, serv)
	case first:
		return evTgs(user, serv)
	}
	return evAs(user)
}

// forged is a word that who hears all would like to be heard; some of them he cannot make.
func (d *player) forged(w impl.World) impl.Msg {
	user, serv, num := 1+d.r.Intn(3), 4+d.r.Intn(2), 1+d.r.Intn(60)
	if d.r.Intn(3) > 0 && d.bad > 0 {
		user = d.bad
	}
	pick := d.r.Intn(12)
	if pick > 5 {
		pick = 2 + pick%2
		if len(d.ticketsWithKey(w, 6)) == 0 && d.bad > 0 {
			pick = 1
		} else if len(d.ticketsWithKey(w, serv)) == 0 {
			pick = 2
		}
	}
	switch pick {
	case 1:
		return asAsk(user, num)
	case 2:
		return tgsAsk(serv, num, d.showing(w, 6)...)
	case 3:
		return apAsk(serv, d.showing(w, serv)...)
	case 0, 4:
		return d.recombined(w, 1+d.r.Intn(6))
	}
	return d.lying(w)
}

// ticketsWithKey is the tickets for somebody that were sent, with whose keys who hears all can tell something.
func (d *player) ticketsWithKey(w impl.World, peer int) []impl.Seal {
	keys := impl.WorldKeys(w)
	return slices.DeleteFunc(sealsOf(w, impl.SealTicket), func(s impl.Seal) bool { return s.B != peer || !slices.Contains(keys, s.C) })
}

// sealsOf is the seals of a kind that were sent.
func sealsOf(w impl.World, kind int) []impl.Seal {
	return slices.DeleteFunc(sentSealsWanted(w), func(s impl.Seal) bool { return s.Kind != kind })
}

// showing is a ticket, and what is told with it: by who has its key, or with any other key that who hears all has.
func (d *player) showing(w impl.World, peer int) []impl.Seal {
	tickets := d.ticketsWithKey(w, peer)
	if len(tickets) == 0 || d.r.Intn(8) == 0 {
		tickets = sealsOf(w, impl.SealTicket)
	}
	if len(tickets) == 0 {
		return nil
	}
	ticket := tickets[len(tickets)-1-d.r.Intn(min(3, len(tickets)))]
	key, user := ticket.C, ticket.A
	if d.r.Intn(6) == 0 {
		key = d.madeKey(w)
	}
	if d.r.Intn(5) == 0 {
		user = 1 + d.r.Intn(3)
	}
	time := w.Now + []int{0, 0, 0, 0, 0, 0, -1, -2, -3, -4, 1, 3}[d.r.Intn(12)]
	return []impl.Seal{ticket, told(key, user, max(0, min(100, time)), 1+d.r.Intn(60))}
}

// madeKey is a key made for some time that who hears all has, or one that he does not have.
func (d *player) madeKey(w impl.World) int {
	keys := slices.DeleteFunc(impl.WorldKeys(w), func(key int) bool { return !keyWanted(key) })
	if len(keys) == 0 || d.r.Intn(8) == 0 {
		return 10 + d.r.Intn(max(1, w.Kdc.Next-10))
	}
	return keys[d.r.Intn(len(keys))]
}

// recombined is a word of seals that were sent in others.
func (d *player) recombined(w impl.World, kind int) impl.Msg {
	m := impl.Msg{Kind: kind}
	if kind%2 == 0 || kind == 1 {
		m.Client = 1 + d.r.Intn(3)
	} else {
		m.Serv = 4 + d.r.Intn(2)
	}
	if kind == 1 || kind == 3 {
		m.Nonce = 1 + d.r.Intn(60)
	}
	kinds := map[int][]int{2: {1, 2}, 3: {1, 3}, 4: {1, 2}, 5: {1, 3}, 6: {4}}[kind]
	for _, kind := range kinds {
		all := sealsOf(w, kind)
		if d.r.Intn(10) == 0 {
			all = sentSealsWanted(w)
		}
		if len(all) > 0 {
			m.Seals = append(m.Seals, all[len(all)-1-d.r.Intn(min(6, len(all)))])
		}
	}
	return m
}

// lying is a word that would make a user have a key of who hears all, or meet him.
func (d *player) lying(w impl.World) impl.Msg {
	user := 1 + d.r.Intn(3)
	c, key := userOf(w, user), d.madeKey(w)
	if len(c.Sent) > 0 && d.r.Intn(3) == 0 {
		call := c.Sent[len(c.Sent)-1-d.r.Intn(min(3, len(c.Sent)))]
		if d.r.Intn(4) > 0 {
			call.Key = key
		}
		return answerMsg(user, call)
	}
	want := impl.Want{Serv: 4 + d.r.Intn(3), Nonce: 1 + d.r.Intn(60)}
	if len(c.Wants) > 0 {
		want = c.Wants[d.r.Intn(len(c.Wants))]
	}
	keys := append(impl.WorldKeys(w), user, key)
	part := impl.Seal{Key: keys[d.r.Intn(len(keys))], Kind: impl.SealPart, A: want.Serv, B: key, C: want.Nonce, D: min(100, w.Now+9)}
	ticket := firstTicket(user, key, w.Now, part.D)
	if tickets := sealsOf(w, impl.SealTicket); len(tickets) > 0 {
		ticket = tickets[d.r.Intn(len(tickets))]
	}
	return impl.Msg{Kind: 2 + 2*d.r.Intn(2), Client: user, Seals: []impl.Seal{ticket, part}}
}

// drawnPlay is a play of 70 events that are drawn at random with a fixed start.
func drawnPlay(bad int, seed int64) *play {
	d := &player{play: newPlay("drawn", bad), r: rand.New(rand.NewSource(seed))}
	d.style = styles[seed%int64(len(styles))]
	for len(d.events) < 70 {
		d.do(d.draw())
	}
	return d.play
}

// allPlays is the plays that are written out, and drawn ones, without a bad user, and with each of the three.
var allPlays = sync.OnceValue(func() []*play {
	all := writtenPlays()
	for seed := range int64(240) {
		all = append(all, drawnPlay(int(seed)%4, seed))
	}
	return all
})

// ends is the worlds behind all plays.
func ends() []impl.World {
	var all []impl.World
	for _, p := range allPlays() {
		all = append(all, p.last())
	}
	return all
}

// someWorlds is the worlds behind all plays, and some of those that they came through.
func someWorlds() []impl.World {
	all := ends()
	for i, p := range allPlays() {
		for place := i % 9; place < len(p.worlds); place += 9 {
			all = append(all, p.worlds[place])
		}
	}
	return all
}

// fewWorlds is some of the worlds behind plays, without a bad user, and with each of the three.
func fewWorlds() []impl.World {
	var all []impl.World
	for i, w := range ends() {
		if i%5 == 0 {
			all = append(all, w)
		}
	}
	return all
}
