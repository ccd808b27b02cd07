package tests

import (
	"fmt"
	"math/rand"
	"slices"
	"testing"

	"loop.example/cerberus/impl"
)

// clientOkWanted is what the document says of a user that is ok.
func clientOkWanted(c impl.Client) bool {
	last := 0
	for _, w := range c.Wants {
		if !peerWanted(w.Serv) || !within(w.Nonce, last+1, c.Num) {
			return false
		}
		last = w.Nonce
	}
	count := map[int]int{}
	for _, d := range c.Creds {
		count[d.Serv]++
		if !peerWanted(d.Serv) || count[d.Serv] > 1 || !keyWanted(d.Key) || !timeWanted(d.Until) || !sealWanted(d.Ticket) {
			return false
		}
	}
	last = 0
	sent := map[impl.Call]int{}
	for _, call := range c.Sent {
		sent[call]++
		if !servWanted(call.Peer) || !keyWanted(call.Key) || !timeWanted(call.Time) || !within(call.Num, last+1, c.Num) {
			return false
		}
		last = call.Num
	}
	for _, call := range c.Met {
		sent[call]--
		if sent[call] != 0 {
			return false
		}
	}
	return userWanted(c.Id) && within(c.Num, 0, 60)
}

// credWanted is what a user has for somebody that lasts at a time.
func credWanted(c impl.Client, peer, now int) (impl.Cred, bool) {
	for _, d := range c.Creds {
		if d.Serv == peer && d.Until >= now {
			return d, true
		}
	}
	return impl.Cred{}, false
}

// askFirstWanted is a user behind ClientAs, and the text of his word; that is empty, if there is none.
func askFirstWanted(c impl.Client) (impl.Client, string) {
	if !clientOkWanted(c) {
		return impl.Client{}, ""
	}
	after := ownClient(c)
	if c.Num == 60 {
		return after, ""
	}
	after.Num = c.Num + 1
	after.Wants = append(after.Wants, impl.Want{Serv: 6, Nonce: c.Num + 1})
	return after, fmt.Sprintf("1 %d 0 %d\n", c.Id, c.Num+1)
}

// askTicketWanted is a user behind ClientTgs, and the text of his word; that is empty, if there is none.
func askTicketWanted(c impl.Client, serv, now int) (impl.Client, string) {
	if !clientOkWanted(c) || !timeWanted(now) {
		return impl.Client{}, ""
	}
	after := ownClient(c)
	d, ok := credWanted(c, 6, now)
	if !ok || !servWanted(serv) || c.Num >= 59 {
		return after, ""
	}
	after.Num = c.Num + 2
	after.Wants = append(after.Wants, impl.Want{Serv: serv, Nonce: c.Num + 2})
	return after, fmt.Sprintf("3 0 %d %d\n%s\nauth %d %d %d %d 0 0\n", serv, c.Num+2, impl.SealText(d.Ticket), d.Key, c.Id, now, c.Num+1)
}

// callWanted is a user behind ClientAp, and the text of his word; that is empty, if there is none.
func callWanted(c impl.Client, serv, now int) (impl.Client, string) {
	if !clientOkWanted(c) || !timeWanted(now) {
		return impl.Client{}, ""
	}
	after := ownClient(c)
	d, ok := credWanted(c, serv, now)
	if !ok || !servWanted(serv) || c.Num == 60 {
		return after, ""
	}
	after.Num = c.Num + 1
	after.Sent = append(after.Sent, impl.Call{Peer: serv, Key: d.Key, Time: now, Num: c.Num + 1})
	return after, fmt.Sprintf("5 0 %d 0\n%s\nauth %d %d %d %d 0 0\n", serv, impl.SealText(d.Ticket), d.Key, c.Id, now, c.Num+1)
}

// hearWanted is a user behind ClientHear.
func hearWanted(c impl.Client, m impl.Msg) impl.Client {
	if !clientOkWanted(c) {
		return impl.Client{}
	}
	after := ownClient(c)
	switch {
	case !msgWanted(m) || m.Client != c.Id:
	case m.Kind == 6 && m.Seals[0].Kind == 4:
		for _, call := range c.Sent {
			if m.Seals[0] == answerTo(call) && !slices.Contains(c.Met, call) {
				after.Met = append(after.Met, call)
			}
		}
	case canTakeWanted(c, m):
		part := m.Seals[1]
		after.Wants = slices.DeleteFunc(after.Wants, func(w impl.Want) bool { return w == impl.Want{Serv: part.A, Nonce: part.C} })
		if len(after.Wants) == len(c.Wants) {
			return after
		}
		taken := impl.Cred{Serv: part.A, Key: part.B, Until: part.D, Ticket: m.Seals[0]}
		for i, d := range after.Creds {
			if d.Serv == part.A {
				after.Creds[i] = taken
				return after
			}
		}
		after.Creds = append(after.Creds, taken)
	}
	return after
}

// canTakeWanted says whether a word in form gives a ticket, by a part that this user can read; not whether he waits for it.
func canTakeWanted(c impl.Client, m impl.Msg) bool {
	if m.Kind != 2 && m.Kind != 4 || m.Seals[0].Kind != 1 || m.Seals[1].Kind != 2 {
		return false
	}
	if part := m.Seals[1]; m.Kind == 2 {
		return part.Key == c.Id && part.A == 6
	} else {
		first, has := credWanted(c, 6, -1)
		return has && part.Key == first.Key && servWanted(part.A)
	}
}

// answerTo is the seal with which a service answers a call.
func answerTo(call impl.Call) impl.Seal {
	return impl.Seal{Key: call.Key, Kind: impl.SealBack, A: call.Time, B: call.Num}
}

// sameClient takes the empty list and the nil list for the same.
func sameClient(a, b impl.Client) bool {
	return a.Id == b.Id && a.Num == b.Num && slices.Equal(a.Wants, b.Wants) && slices.Equal(a.Creds, b.Creds) &&
		slices.Equal(a.Sent, b.Sent) && slices.Equal(a.Met, b.Met)
}

func emptyClient(c impl.Client) bool { return sameClient(c, impl.Client{}) }

// ownClient is a user who shares no memory with that one.
func ownClient(c impl.Client) impl.Client {
	c.Wants, c.Creds = append([]impl.Want(nil), c.Wants...), append([]impl.Cred(nil), c.Creds...)
	c.Sent, c.Met = append([]impl.Call(nil), c.Sent...), append([]impl.Call(nil), c.Met...)
	return c
}

// giveFirst is a word that gives a user a first ticket, with this key.
func giveFirst(user, held, num, until int) impl.Msg {
	part := impl.Seal{Key: user, Kind: impl.SealPart, A: 6, B: held, C: num, D: until}
	return impl.Msg{Kind: impl.MsgAsGive, Client: user, Seals: []impl.Seal{firstTicket(user, held, 0, until), part}}
}

// giveTicket is a word that gives a user a ticket for a service, with the key held, by a part with the other key.
func giveTicket(user, key, serv, held, num, until int) impl.Msg {
	ticket := impl.Seal{Key: serv, Kind: impl.SealTicket, A: user, B: serv, C: held, E: until}
	part := impl.Seal{Key: key, Kind: impl.SealPart, A: serv, B: held, C: num, D: until}
	return impl.Msg{Kind: impl.MsgTgsGive, Client: user, Seals: []impl.Seal{ticket, part}}
}

func answerMsg(user int, call impl.Call) impl.Msg {
	return impl.Msg{Kind: impl.MsgApBack, Client: user, Seals: []impl.Seal{answerTo(call)}}
}

// credOf is what one has for somebody, of an ordinary ticket.
func credOf(user, peer, key, until int) impl.Cred {
	ticket := impl.Seal{Key: peer, Kind: impl.SealTicket, A: user, B: peer, C: key, E: until}
	return impl.Cred{Serv: peer, Key: key, Until: until, Ticket: ticket}
}

// busyUser is an ok user who waits for some tickets, has one for each, called four times, and met two of these.
func busyUser(id int) impl.Client {
	sent := []impl.Call{{Peer: 4, Key: 11, Time: 30, Num: 5}, {Peer: 5, Key: 12, Time: 30, Num: 6}, {Peer: 4, Key: 11, Time: 31, Num: 7}, {Peer: 4, Key: 13, Time: 31, Num: 20}}
	return impl.Client{
		Id:    id,
		Num:   20,
		Wants: []impl.Want{{Serv: 6, Nonce: 1}, {Serv: 4, Nonce: 9}, {Serv: 5, Nonce: 11}, {Serv: 4, Nonce: 13}, {Serv: 6, Nonce: 20}},
		Creds: []impl.Cred{credOf(id, 4, 13, 40), credOf(id, 6, 10, 40), credOf(id, 5, 12, 39)},
		Sent:  sent,
		Met:   []impl.Call{sent[2], sent[0]},
	}
}

// goodUsers is ok users: new ones, busy ones, and ones at each limit, with lists of all sizes.
func goodUsers() []impl.Client {
	var all []impl.Client
	tickets := fewSeals()
	for _, num := range []int{0, 1, 2, 20, 57, 58, 59, 60} {
		for i, until := range []int{0, 39, 40, 41, 100} {
			id := i%3 + 1
			busy := busyUser(id)
			creds := []impl.Cred{credOf(id, 6, 10, until), credOf(id, 4, 60, until), {Serv: 5, Key: 11, Until: until, Ticket: tickets[(num+i)%len(tickets)]}}
			all = append(all, impl.Client{Id: id, Num: num}, impl.Client{Id: id, Num: num, Creds: creds[:1]}, impl.Client{Id: id, Num: num, Creds: creds[1:]}, impl.Client{Id: id, Num: num, Creds: reversed(creds)})
			one := impl.Client{Id: id, Num: num, Creds: creds, Wants: []impl.Want{{Serv: 4 + i%3, Nonce: num}}, Sent: []impl.Call{{Peer: 4 + i%2, Key: 60, Time: 100, Num: num}}}
			met := ownClient(one)
			met.Met = slices.Clone(met.Sent)
			first := ownClient(one)
			first.Wants[0].Nonce, first.Sent[0].Num, first.Sent[0].Time = 1, 1, 0
			busy.Num, busy.Creds = num, creds
			all = append(all, one, met, first, busy, crowded(id, num, until))
		}
	}
	return slices.DeleteFunc(append(all, busyUser(1), busyUser(2), busyUser(3)), func(c impl.Client) bool { return !clientOkWanted(c) })
}

// crowded is a user who waits, and called, with each of his numbers, and met all whom he called, the last one first.
func crowded(id, num, until int) impl.Client {
	c := impl.Client{Id: id, Num: num, Creds: []impl.Cred{credOf(id, 5, 10, until), credOf(id, 6, 60, until)}}
	for n := 1; n <= num; n++ {
		c.Wants = append(c.Wants, impl.Want{Serv: 4 + n%3, Nonce: n})
		c.Sent = append(c.Sent, impl.Call{Peer: 4 + n%2, Key: 10 + n%51, Time: n, Num: n})
	}
	c.Met = reversed(c.Sent)
	return c
}

// bentUser is a user with one thing changed.
type bentUser struct {
	why  string
	user impl.Client
}

// wrongUsers is users who are not ok, each by something else, all else of whom is.
func wrongUsers() []bentUser {
	var all []bentUser
	bend := func(why string, change func(c *impl.Client)) {
		c := busyUser(2)
		change(&c)
		all = append(all, bentUser{why, c})
	}
	for _, n := range []int{-1, 0, 4, 6, 10} {
		bend("no such user", func(c *impl.Client) { c.Id = n })
	}
	for _, n := range []int{-1, 0, 19, 61, 62} {
		bend("no such number told", func(c *impl.Client) { c.Num = n })
	}
	for _, place := range []int{0, 2, 4} {
		for _, n := range []int{-1, 0, 3, 7} {
			bend("waits for nobody", func(c *impl.Client) { c.Wants[place].Serv = n })
		}
		for _, n := range []int{-1, 0, 21, 61} {
			bend("waits with no number of his", func(c *impl.Client) { c.Wants[place].Nonce = n })
		}
	}
	bend("waits with one number twice", func(c *impl.Client) { c.Wants[2].Nonce = 9 })
	bend("waits twice for the same", func(c *impl.Client) { c.Wants[2] = c.Wants[1] })
	bend("waits in another order", func(c *impl.Client) { c.Wants[1], c.Wants[2] = c.Wants[2], c.Wants[1] })
	for place := range 3 {
		for _, n := range []int{-1, 0, 3, 7} {
			bend("has what is for nobody", func(c *impl.Client) { c.Creds[place].Serv = n })
		}
		for _, n := range []int{0, 6, 9, 61} {
			bend("has no such key", func(c *impl.Client) { c.Creds[place].Key = n })
		}
		for _, n := range []int{-1, 101} {
			bend("has it until no time", func(c *impl.Client) { c.Creds[place].Until = n })
		}
		for _, s := range wrongSeals() {
			bend("has a ticket that is not ok", func(c *impl.Client) { c.Creds[place].Ticket = s })
		}
		bend("has two for one", func(c *impl.Client) { c.Creds[place].Serv = c.Creds[(place+1)%3].Serv })
		bend("has the same twice", func(c *impl.Client) { c.Creds = append(c.Creds, c.Creds[place]) })
	}
	return append(all, wrongCallers()...)
}

// wrongCallers is users who are not ok by what they called, or met.
func wrongCallers() []bentUser {
	var all []bentUser
	bend := func(why string, change func(c *impl.Client)) {
		c := busyUser(2)
		change(&c)
		all = append(all, bentUser{why, c})
	}
	for _, place := range []int{1, 3} {
		for _, n := range []int{0, 3, 6, 7} {
			bend("called no service", func(c *impl.Client) { c.Sent[place].Peer = n })
		}
		for _, n := range []int{0, 2, 9, 61} {
			bend("called with no such key", func(c *impl.Client) { c.Sent[place].Key = n })
		}
		for _, n := range []int{-1, 101} {
			bend("called at no time", func(c *impl.Client) { c.Sent[place].Time = n })
		}
		for _, n := range []int{-1, 0, 21, 61} {
			bend("called with no number of his", func(c *impl.Client) { c.Sent[place].Num = n })
		}
	}
	bend("called with one number twice", func(c *impl.Client) { c.Sent[1].Num = 5 })
	bend("called two with one key, time and number", func(c *impl.Client) {
		c.Sent[1] = c.Sent[0]
		c.Sent[1].Peer = 5
	})
	bend("called the same twice", func(c *impl.Client) { c.Sent[1] = c.Sent[0] })
	bend("called in another order", func(c *impl.Client) { c.Sent[0], c.Sent[1] = c.Sent[1], c.Sent[0] })
	bend("met the same twice", func(c *impl.Client) { c.Met = append(c.Met, c.Met[0]) })
	bend("met the same twice, one behind the other", func(c *impl.Client) { c.Met[1] = c.Met[0] })
	bend("met, and called nobody", func(c *impl.Client) { c.Sent = nil })
	for place := range 2 {
		bend("met another one", func(c *impl.Client) { c.Met[place].Peer = 5 })
		bend("met by another key", func(c *impl.Client) { c.Met[place].Key++ })
		bend("met of another time", func(c *impl.Client) { c.Met[place].Time++ })
		bend("met with another number", func(c *impl.Client) { c.Met[place].Num++ })
		bend("met nobody", func(c *impl.Client) { c.Met[place] = impl.Call{} })
	}
	return all
}

// clientPlaces is where a user has his numbers.
func clientPlaces(c *impl.Client) []*int {
	all := []*int{&c.Id, &c.Num}
	for i := range c.Wants {
		all = append(all, &c.Wants[i].Serv, &c.Wants[i].Nonce)
	}
	for i := range c.Creds {
		all = append(all, &c.Creds[i].Serv, &c.Creds[i].Key, &c.Creds[i].Until, &c.Creds[i].Ticket.Kind)
		all = append(all, numPlaces(&c.Creds[i].Ticket)...)
	}
	for _, calls := range [][]impl.Call{c.Sent, c.Met} {
		for i := range calls {
			all = append(all, &calls[i].Peer, &calls[i].Key, &calls[i].Time, &calls[i].Num)
		}
	}
	return all
}

// bentUsers is a user with each odd number in each of his places.
func bentUsers(c impl.Client) []impl.Client {
	var all []impl.Client
	for _, n := range append(oddNumbers(), 12, 13, 19, 20, 21, 40) {
		for i := range clientPlaces(&c) {
			bent := ownClient(c)
			*clientPlaces(&bent)[i] = n
			all = append(all, bent)
		}
	}
	return all
}

// wordsFor is words that a user could hear: what he waits for, in each way other than it must be, and answers to what
// he called, in each way other than they must be.
func wordsFor(c impl.Client) []impl.Msg {
	all := joined(fewMsgs(), bentForms(), []impl.Msg{asAsk(c.Id, 1), asAsk(c.Id, max(1, c.Num))})
	nums, keys := []int{1, 60, max(1, c.Num), min(60, c.Num+1)}, []int{10, 60}
	for _, w := range c.Wants[:min(len(c.Wants), 6)] {
		nums = append(nums, w.Nonce, min(60, w.Nonce+1))
	}
	for _, d := range c.Creds {
		keys = append(keys, d.Key, min(60, d.Key+1))
	}
	for _, num := range sorted(nums) {
		for user := 1; user <= 3; user++ {
			all = append(all, giveFirst(user, 44, num, 50), withKey(giveFirst(c.Id, 44, num, 50), user))
			for serv := 4; serv <= 6; serv++ {
				all = append(all, withKind(giveTicket(user, user, serv, 45, num, 50), 2), giveTicket(c.Id, user, serv, 45, num, 50))
			}
		}
		for _, key := range sorted(keys) {
			all = append(all, withKey(giveFirst(c.Id, 46, num, 50), key))
			for serv := 4; serv <= 6; serv++ {
				good := giveTicket(c.Id, key, serv, 47, num, 50)
				all = append(all, good, withKind(good, 2), giveTicket(c.Id%3+1, key, serv, 47, num, 50))
			}
		}
	}
	for i, call := range c.Sent[:min(len(c.Sent), 8)] {
		all = append(all, answerMsg(c.Id, call), answerMsg(c.Id%3+1, call))
		for _, bent := range bentSeals(answerTo(call))[i%3*3 : i%3*3+40] {
			all = append(all, impl.Msg{Kind: impl.MsgApBack, Client: c.Id, Seals: []impl.Seal{bent}})
		}
		all = append(all, impl.Msg{Kind: impl.MsgApBack, Client: c.Id, Seals: []impl.Seal{told(call.Key, c.Id, call.Time, call.Num)}})
	}
	return all
}

// sorted is these numbers, ascending, each once.
func sorted(nums []int) []int {
	return slices.Compact(slices.Sorted(slices.Values(nums)))
}

// withKey is a word whose part is sealed with another key.
func withKey(m impl.Msg, key int) impl.Msg {
	bent := ownMsg(m)
	bent.Seals[1].Key = key
	return bent
}

// withKind is the same word, of another kind.
func withKind(m impl.Msg, kind int) impl.Msg {
	bent := ownMsg(m)
	bent.Kind = kind
	return bent
}

// clientWalk lets a user ask, call and hear at random, of who gives tickets, of services that answer each call, and of
// one who meddles, as time goes on.
type clientWalk struct {
	r    *rand.Rand
	user impl.Client
	kdc  impl.Kdc
	now  int
	sent []impl.Msg
	back []impl.Msg
}

func newClientWalk(seed int64) *clientWalk {
	c, _ := impl.ClientNew(int(seed)%3 + 1)
	return &clientWalk{r: rand.New(rand.NewSource(seed)), user: c, kdc: impl.KdcNew()}
}

// word is one that he could hear: what answers him, late or again, with one number odd, or anything.
func (w *clientWalk) word() impl.Msg {
	if w.r.Intn(4) == 0 {
		w.now = min(w.now+w.r.Intn(4), 100)
	}
	if len(w.sent) > 0 {
		w.answer(w.sent[w.r.Intn(len(w.sent))])
	}
	if len(w.back) == 0 || w.r.Intn(20) == 0 {
		return fewMsgs()[w.r.Intn(7)]
	}
	m := ownMsg(w.back[max(0, len(w.back)-1-w.r.Intn(6))])
	if w.r.Intn(3) == 0 {
		place := w.r.Intn(len(m.Seals))
		odd := []int{1, 2, 3, 4, 5, 6, 10, 11, 12, 20, w.user.Num, w.now}
		*numPlaces(&m.Seals[place])[w.r.Intn(6)] = odd[w.r.Intn(len(odd))]
	}
	if w.r.Intn(10) == 0 {
		m.Client = w.r.Intn(3) + 1
	}
	if w.r.Intn(10) == 0 {
		m.Kind = w.r.Intn(6) + 1
	}
	return m
}

// answer lets who is asked by a word answer it.
func (w *clientWalk) answer(m impl.Msg) {
	var give impl.Msg
	var ok bool
	switch m.Kind {
	case impl.MsgAsAsk:
		w.kdc, give, ok = impl.KdcAs(w.kdc, m, w.now)
	case impl.MsgTgsAsk:
		w.kdc, give, ok = impl.KdcTgs(w.kdc, m, w.now)
	case impl.MsgApAsk:
		auth := m.Seals[1]
		give, ok = answerMsg(auth.A, impl.Call{Key: auth.Key, Time: auth.B, Num: auth.C}), true
	}
	if ok {
		w.back = append(w.back, give)
	}
}

// clientStep is what a user did, or heard: who he was ahead of it, and the word that he sent, or heard.
type clientStep struct {
	before impl.Client
	word   impl.Msg
	hears  bool
}

// step lets the user ask, call, or hear, and holds what he does against the document.
func (w *clientWalk) step(t *testing.T) clientStep {
	t.Helper()
	s := clientStep{before: w.user}
	serv := []int{4, 5, 4, 5, 4, 5, 3, 6, 7}[w.r.Intn(9)]
	switch pick := w.r.Intn(16); {
	case pick == 0:
		w.user, s.word, _ = checkAskFirst(t, w.user)
	case pick <= 2:
		w.user, s.word, _ = checkAskTicket(t, w.user, serv, w.now)
	case pick <= 4:
		w.user, s.word, _ = checkCall(t, w.user, serv, w.now)
	default:
		s.word, s.hears = w.word(), true
		w.user = checkHear(t, w.user, s.word)
	}
	if !s.hears && s.word.Kind != 0 {
		w.sent = append(w.sent, s.word)
	}
	return s
}

// numbersOf is the numbers that a user told by a step, in the order in which he took them; of what he heard none.
func numbersOf(s clientStep) []int {
	switch {
	case s.hears || s.word.Kind == 0:
		return nil
	case s.word.Kind == impl.MsgAsAsk:
		return []int{s.word.Nonce}
	case s.word.Kind == impl.MsgTgsAsk:
		return []int{s.word.Seals[1].C, s.word.Nonce}
	}
	return []int{s.word.Seals[1].C}
}
