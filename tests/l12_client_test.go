package tests

import (
	"slices"
	"testing"

	"loop.example/cerberus/impl"
)

// checkSays holds a user, his word, and whether there is one, against those that are wanted.
func checkSays(t *testing.T, what string, c, after, wantAfter impl.Client, word impl.Msg, ok bool, wantText string) {
	t.Helper()
	if !sameClient(after, wantAfter) || impl.MsgText(word) != wantText || ok != (wantText != "") || !ok && !emptyMsg(word) {
		t.Errorf("%s of %v = %v, %v, %v; want %v, %q", what, c, after, word, ok, wantAfter, wantText)
	}
}

// checkAskFirst holds what ClientAs answers against the document, and hands it on.
func checkAskFirst(t *testing.T, c impl.Client) (impl.Client, impl.Msg, bool) {
	t.Helper()
	after, word, ok := impl.ClientAs(c)
	wantAfter, wantText := askFirstWanted(c)
	checkSays(t, "ClientAs", c, after, wantAfter, word, ok, wantText)
	return after, word, ok
}

// checkAskTicket holds what ClientTgs answers against the document, and hands it on.
func checkAskTicket(t *testing.T, c impl.Client, serv, now int) (impl.Client, impl.Msg, bool) {
	t.Helper()
	after, word, ok := impl.ClientTgs(c, serv, now)
	wantAfter, wantText := askTicketWanted(c, serv, now)
	checkSays(t, "ClientTgs", c, after, wantAfter, word, ok, wantText)
	return after, word, ok
}

// checkCall holds what ClientAp answers against the document, and hands it on.
func checkCall(t *testing.T, c impl.Client, serv, now int) (impl.Client, impl.Msg, bool) {
	t.Helper()
	after, word, ok := impl.ClientAp(c, serv, now)
	wantAfter, wantText := callWanted(c, serv, now)
	checkSays(t, "ClientAp", c, after, wantAfter, word, ok, wantText)
	return after, word, ok
}

// checkHear holds what ClientHear answers against the document, and hands it on.
func checkHear(t *testing.T, c impl.Client, m impl.Msg) impl.Client {
	t.Helper()
	after := impl.ClientHear(c, m)
	if want := hearWanted(c, m); !sameClient(after, want) {
		t.Errorf("ClientHear(%v, %v) = %v; want %v", c, m, after, want)
	}
	return after
}

// checkDeaf asks that a user hears a word without being changed by it.
func checkDeaf(t *testing.T, why string, c impl.Client, m impl.Msg) {
	t.Helper()
	if after := checkHear(t, c, m); !sameClient(after, c) {
		t.Errorf("%s: %v changes %v to %v", why, m, c, after)
	}
}

// nobodys is services, and others that are none.
func nobodys() []int { return append(upTo(-1, 8), 10, 60) }

func TestClientOk(t *testing.T) {
	for _, c := range goodUsers() {
		if !impl.ClientOk(c) {
			t.Errorf("ClientOk(%v) = false", c)
		}
	}
	for _, bad := range wrongUsers() {
		if impl.ClientOk(bad.user) || clientOkWanted(bad.user) {
			t.Errorf("%s: ClientOk(%v) = true", bad.why, bad.user)
		}
	}
	count := map[bool]int{}
	for _, c := range []impl.Client{busyUser(1), busyUser(3), crowded(2, 60, 40), crowded(1, 3, 100)} {
		for _, bent := range bentUsers(c) {
			got := impl.ClientOk(bent)
			count[got]++
			if want := clientOkWanted(bent); got != want {
				t.Errorf("ClientOk(%v) = %v; want %v", bent, got, want)
			}
		}
	}
	if count[true] < 500 || count[false] < 500 || impl.ClientOk(impl.Client{}) {
		t.Errorf("of all %v", count)
	}
}

// A ticket that a user has may be any ok seal, as he cannot read it; he shows it as it is.
func TestClientTicketOfAnyKind(t *testing.T) {
	for _, s := range fewSeals() {
		c := impl.Client{Id: 2, Num: 4, Creds: []impl.Cred{{Serv: 4, Key: 10, Until: 50, Ticket: s}, {Serv: 6, Key: 60, Until: 50, Ticket: s}}}
		if !impl.ClientOk(c) {
			t.Errorf("ClientOk(%v) = false", c)
		}
		_, ask, asked := checkAskTicket(t, c, 5, 50)
		_, call, called := checkCall(t, c, 4, 50)
		if !asked || !called || ask.Seals[0] != s || call.Seals[0] != s {
			t.Errorf("with %v there is %v, %v", s, ask, call)
		}
	}
}

// All that users ask and call, at the limits and beside them.
func TestClientCases(t *testing.T) {
	var asked, called int
	for _, c := range goodUsers() {
		checkAskFirst(t, c)
		for _, serv := range nobodys() {
			for _, now := range append(edgeTimes(), 39, 41) {
				if _, _, ok := checkAskTicket(t, c, serv, now); ok {
					asked++
				}
				if _, _, ok := checkCall(t, c, serv, now); ok {
					called++
				}
			}
		}
	}
	if asked < 500 || called < 500 {
		t.Errorf("of all %d asked, and %d called", asked, called)
	}
}

// All that users hear: what they wait for, and in each way other than it must be.
func TestHearCases(t *testing.T) {
	var took, met int
	for _, c := range goodUsers() {
		for _, m := range wordsFor(c) {
			after := checkHear(t, c, m)
			if len(after.Wants) < len(c.Wants) {
				took++
			}
			if len(after.Met) > len(c.Met) {
				met++
			}
		}
	}
	if took < 500 || met < 50 {
		t.Errorf("of all %d took a ticket, and %d met", took, met)
	}
}

// Nothing and false of a user who is not ok, and at what is no time, whatever is asked, called, or heard.
func TestClientWrong(t *testing.T) {
	for _, bad := range wrongUsers() {
		c := bad.user
		after, word, ok := checkAskFirst(t, c)
		if ok || !emptyClient(after) || !emptyMsg(word) {
			t.Errorf("%s: ClientAs(%v) = %v, %v, %v", bad.why, c, after, word, ok)
		}
		for _, serv := range []int{4, 5, 6} {
			checkSpeechless(t, c, serv, 35)
		}
		for _, m := range []impl.Msg{{}, asAsk(2, 1), giveFirst(2, 50, 1, 60), giveTicket(2, 10, 4, 50, 9, 60), answerMsg(2, busyUser(2).Sent[1])} {
			if after := checkHear(t, c, m); !emptyClient(after) {
				t.Errorf("%s: ClientHear(%v, %v) = %v", bad.why, c, m, after)
			}
		}
	}
	for _, now := range oddNumbers() {
		if !timeWanted(now) {
			checkSpeechless(t, busyUser(1), 4, now)
			checkSpeechless(t, busyUser(1), 5, now)
			checkSpeechless(t, crowded(3, 58, 100), 5, now)
			checkSpeechless(t, impl.Client{Id: 2}, 6, now)
		}
	}
}

// checkSpeechless asks that of a user, or at a time, of whom nothing can be answered, nothing is.
func checkSpeechless(t *testing.T, c impl.Client, serv, now int) {
	t.Helper()
	if after, word, ok := checkAskTicket(t, c, serv, now); ok || !emptyClient(after) || !emptyMsg(word) {
		t.Errorf("ClientTgs(%v, %d, %d) = %v, %v, %v", c, serv, now, after, word, ok)
	}
	if after, word, ok := checkCall(t, c, serv, now); ok || !emptyClient(after) || !emptyMsg(word) {
		t.Errorf("ClientAp(%v, %d, %d) = %v, %v, %v", c, serv, now, after, word, ok)
	}
}

// P45: ClientNew is ok, told no number, waits for nothing, has nothing, and can call nobody.
func TestP45New(t *testing.T) {
	for id := 1; id <= 3; id++ {
		c, ok := impl.ClientNew(id)
		if !ok || !impl.ClientOk(c) || c.Id != id || c.Num != 0 || len(c.Wants) != 0 || len(c.Creds) != 0 || len(c.Sent) != 0 || len(c.Met) != 0 {
			t.Fatalf("ClientNew(%d) = %v, %v", id, c, ok)
		}
		for now := 0; now <= 100; now++ {
			for _, serv := range nobodys() {
				if after, _, ok := checkAskTicket(t, c, serv, now); ok || !sameClient(after, c) {
					t.Errorf("at %d one who has nothing asks for %d", now, serv)
				}
				if after, _, ok := checkCall(t, c, serv, now); ok || !sameClient(after, c) {
					t.Errorf("at %d one who has nothing calls %d", now, serv)
				}
			}
		}
		for _, m := range wordsFor(busyUser(id)) {
			checkDeaf(t, "he waits for nothing", c, m)
		}
	}
	for _, id := range oddNumbers() {
		if c, ok := impl.ClientNew(id); !userWanted(id) && (ok || !emptyClient(c)) {
			t.Errorf("ClientNew(%d) = %v, %v", id, c, ok)
		}
	}
}

// P46: Behind ClientAs the user is ok, waits with the next number, and asks with it; all else stays.
func TestP46AskFirst(t *testing.T) {
	for _, c := range goodUsers() {
		after, word, ok := checkAskFirst(t, c)
		if ok != (c.Num < 60) || !impl.ClientOk(after) {
			t.Errorf("ClientAs(%v) = %v, %v", c, after, ok)
		}
		if !ok {
			if !sameClient(after, c) || !emptyMsg(word) {
				t.Errorf("ClientAs(%v), which is false, leaves %v, %v", c, after, word)
			}
			continue
		}
		if !sameMsg(word, asAsk(c.Id, c.Num+1)) || !impl.MsgOk(word) {
			t.Errorf("ClientAs(%v) asks %v", c, word)
		}
		if after.Num != c.Num+1 || !slices.Equal(after.Wants, joined(c.Wants, []impl.Want{{Serv: 6, Nonce: c.Num + 1}})) {
			t.Errorf("ClientAs(%v) leaves %v", c, after)
		}
		if after.Id != c.Id || !slices.Equal(after.Creds, c.Creds) || !slices.Equal(after.Sent, c.Sent) || !slices.Equal(after.Met, c.Met) {
			t.Errorf("ClientAs(%v) leaves %v", c, after)
		}
	}
}

// P47: Behind ClientTgs the user waits with the next number but one; the word has his first ticket, and what he tells of
// himself, with its key, then, and the next number.
func TestP47AskTicket(t *testing.T) {
	for _, num := range []int{0, 1, 20, 57, 58, 59, 60} {
		for _, now := range []int{0, 1, 39, 40, 99, 100} {
			for serv := 4; serv <= 5; serv++ {
				for _, key := range []int{10, 33, 60} {
					c := impl.Client{Id: num%3 + 1, Num: num, Creds: []impl.Cred{credOf(num%3+1, 4, 20, 100), credOf(num%3+1, 6, key, now), credOf(num%3+1, 5, 21, 100)}}
					after, word, ok := checkAskTicket(t, c, serv, now)
					if ok != (num <= 58) || !impl.ClientOk(after) {
						t.Errorf("ClientTgs(%v, %d, %d) = %v, %v", c, serv, now, after, ok)
					}
					if !ok {
						continue
					}
					if !impl.MsgOk(word) || word.Kind != impl.MsgTgsAsk || word.Serv != serv || word.Nonce != num+2 || word.Seals[0] != c.Creds[1].Ticket || word.Seals[1] != told(key, c.Id, now, num+1) {
						t.Errorf("ClientTgs(%v, %d, %d) asks %v", c, serv, now, word)
					}
					want := ownClient(c)
					want.Num, want.Wants = num+2, []impl.Want{{Serv: serv, Nonce: num + 2}}
					if !sameClient(after, want) {
						t.Errorf("ClientTgs(%v, %d, %d) leaves %v", c, serv, now, after)
					}
				}
			}
		}
	}
}

// P48: Behind ClientAp the call is behind Sent; the word has the ticket for the service, and what he tells of himself,
// with its key, then, and the next number.
func TestP48Call(t *testing.T) {
	for _, num := range []int{20, 21, 57, 58, 59, 60} {
		for _, now := range []int{0, 1, 39, 40, 99, 100} {
			for serv := 4; serv <= 5; serv++ {
				for _, key := range []int{10, 33, 60} {
					c := busyUser(num%3 + 1)
					c.Num, c.Creds = num, []impl.Cred{credOf(c.Id, 6, 20, 100), credOf(c.Id, 9-serv, 21, 100), credOf(c.Id, serv, key, now)}
					after, word, ok := checkCall(t, c, serv, now)
					if ok != (num <= 59) || !impl.ClientOk(after) {
						t.Errorf("ClientAp(%v, %d, %d) = %v, %v", c, serv, now, after, ok)
					}
					if !ok {
						continue
					}
					if !impl.MsgOk(word) || word.Kind != impl.MsgApAsk || word.Serv != serv || word.Seals[0] != c.Creds[2].Ticket || word.Seals[1] != told(key, c.Id, now, num+1) {
						t.Errorf("ClientAp(%v, %d, %d) calls %v", c, serv, now, word)
					}
					want := ownClient(c)
					want.Num, want.Sent = num+1, append(want.Sent, impl.Call{Peer: serv, Key: key, Time: now, Num: num + 1})
					if !sameClient(after, want) {
						t.Errorf("ClientAp(%v, %d, %d) leaves %v", c, serv, now, after)
					}
				}
			}
		}
	}
}

// P49: Behind ClientHear that changes what he has, he has it from a part that just he could read, of a number for which
// he waited, and does not any more; the same again changes nothing.
func TestP49FromAPartOfHis(t *testing.T) {
	count := map[int]int{}
	for _, c := range goodUsers() {
		for _, m := range wordsFor(c) {
			after := impl.ClientHear(c, m)
			if slices.Equal(after.Creds, c.Creds) && slices.Equal(after.Wants, c.Wants) {
				continue
			}
			count[m.Kind]++
			key := c.Id
			if m.Kind == impl.MsgTgsGive {
				first, _ := credWanted(c, 6, -1)
				key = first.Key
			}
			part := m.Seals[1]
			want := impl.Want{Serv: part.A, Nonce: part.C}
			if part.Kind != impl.SealPart || part.Key != key || !slices.Contains(c.Wants, want) || slices.Contains(after.Wants, want) {
				t.Errorf("%v, behind %v, is %v", c, m, after)
			}
			if !slices.Contains(after.Creds, impl.Cred{Serv: part.A, Key: part.B, Until: part.D, Ticket: m.Seals[0]}) {
				t.Errorf("%v, behind %v, has %v", c, m, after.Creds)
			}
			checkDeaf(t, "heard already", after, m)
		}
	}
	if count[2] < 100 || count[4] < 100 || len(count) != 2 {
		t.Errorf("of all %v", count)
	}
}

// P49: of two words with one number the first one is taken, and the other one is not, however much he would take it.
func TestP49TwoWithOneNumber(t *testing.T) {
	c := busyUser(2)
	for _, words := range [][2]impl.Msg{
		{giveFirst(2, 50, 1, 60), giveFirst(2, 51, 1, 61)},
		{giveFirst(2, 50, 20, 60), giveFirst(2, 50, 20, 61)},
		{giveTicket(2, 10, 4, 50, 9, 60), giveTicket(2, 10, 4, 51, 9, 60)},
		{giveTicket(2, 10, 5, 50, 11, 60), giveTicket(2, 10, 5, 50, 11, 59)},
		{giveTicket(2, 10, 4, 50, 13, 60), giveTicket(2, 10, 4, 52, 13, 61)},
	} {
		for _, pair := range [][2]impl.Msg{words, {words[1], words[0]}} {
			one := checkHear(t, c, pair[0])
			if sameClient(one, c) || len(one.Wants) != len(c.Wants)-1 {
				t.Errorf("%v does not take %v", c, pair[0])
			}
			checkDeaf(t, "the number was heard already", one, pair[1])
			checkDeaf(t, "the same again", one, pair[0])
		}
	}
}

// P50: Behind ClientHear just a call is met that was sent, by an answer that is sealed with its key, of its time and
// number; nobody is met no more.
func TestP50JustWhoWasCalled(t *testing.T) {
	count := 0
	for _, c := range goodUsers() {
		for _, m := range wordsFor(c) {
			after := impl.ClientHear(c, m)
			if len(after.Met) < len(c.Met) || !slices.Equal(after.Met[:len(c.Met)], c.Met) {
				t.Errorf("%v, behind %v, met %v", c, m, after.Met)
			}
			for _, call := range after.Met[min(len(c.Met), len(after.Met)):] {
				count++
				if !slices.Contains(c.Sent, call) || slices.Contains(c.Met, call) || m.Kind != impl.MsgApBack || m.Client != c.Id || m.Seals[0] != answerTo(call) {
					t.Errorf("%v, behind %v, met %v", c, m, call)
				}
			}
			if !slices.Equal(after.Sent, c.Sent) || !impl.ClientOk(after) {
				t.Errorf("%v, behind %v, is %v", c, m, after)
			}
		}
	}
	if count < 50 {
		t.Errorf("just %d were met", count)
	}
}

// P50: an answer with one number other than it must be meets nobody; the right one meets once.
func TestP50OtherAnswers(t *testing.T) {
	c := busyUser(1)
	for _, call := range []impl.Call{c.Sent[1], c.Sent[3]} {
		for _, bent := range bentSeals(answerTo(call)) {
			after := checkHear(t, c, withSeals(answerMsg(1, call), bent))
			if bent != answerTo(call) && !sameClient(after, c) {
				t.Errorf("by %v there is %v", bent, after)
			}
		}
		after := checkHear(t, c, answerMsg(1, call))
		if !slices.Equal(after.Met, append(slices.Clone(c.Met), call)) || !slices.Equal(after.Wants, c.Wants) || !slices.Equal(after.Creds, c.Creds) {
			t.Errorf("by %v there is %v", answerTo(call), after)
		}
		checkDeaf(t, "met already", after, answerMsg(1, call))
		for _, s := range []impl.Seal{told(call.Key, 1, call.Time, call.Num), partOf(call.Key, call.Peer, 50), ticketOf(1, call.Peer, call.Key)} {
			checkDeaf(t, "no answer", c, withSeals(answerMsg(1, call), s))
		}
	}
	for _, call := range c.Met {
		checkDeaf(t, "met already", c, answerMsg(1, call))
	}
}

// P50: a seal of another kind meets nobody, though its numbers are those of an answer: the user that one tells to be is a
// time, too, and so is who a part is for.
func TestP50OfAnotherKind(t *testing.T) {
	for time := 1; time <= 6; time++ {
		for _, num := range []int{1, 9, 10, 60} {
			call := impl.Call{Peer: 4, Key: 11, Time: time, Num: num}
			c := impl.Client{Id: 2, Num: 60, Sent: []impl.Call{call}}
			for kind := 1; kind <= 3; kind++ {
				for _, more := range []impl.Seal{{}, {C: 1}, {C: 10, D: 2, E: 9}, {C: 1, D: 9}} {
					s := impl.Seal{Key: 11, Kind: kind, A: time, B: num, C: more.C, D: more.D, E: more.E}
					checkDeaf(t, "no answer", c, withSeals(answerMsg(2, call), s))
				}
			}
			if after := checkHear(t, c, answerMsg(2, call)); !slices.Equal(after.Met, c.Sent) {
				t.Errorf("%v, answered, leaves %v", call, after)
			}
		}
	}
}

// P50: of calls that are the same but for one thing just that of the answer is met; two of one key, time and number
// would both be, but who sent such is not ok.
func TestP50NearCalls(t *testing.T) {
	call := impl.Call{Peer: 4, Key: 11, Time: 30, Num: 5}
	near := []impl.Call{{Peer: 4, Key: 11, Time: 30, Num: 6}, {Peer: 5, Key: 11, Time: 30, Num: 6}, {Peer: 5, Key: 12, Time: 30, Num: 6}, {Peer: 4, Key: 11, Time: 31, Num: 60}}
	for _, other := range near {
		c := impl.Client{Id: 3, Num: 60, Sent: []impl.Call{call, other}}
		one := checkHear(t, c, answerMsg(3, call))
		both := checkHear(t, one, answerMsg(3, other))
		if !slices.Equal(one.Met, []impl.Call{call}) || !slices.Equal(both.Met, []impl.Call{call, other}) {
			t.Errorf("of %v he met %v, then %v", c.Sent, one.Met, both.Met)
		}
		late := checkHear(t, checkHear(t, c, answerMsg(3, other)), answerMsg(3, call))
		if !slices.Equal(late.Met, []impl.Call{other, call}) {
			t.Errorf("of %v, in the other order, he met %v", c.Sent, late.Met)
		}
	}
	two := impl.Client{Id: 3, Num: 60, Sent: []impl.Call{call, {Peer: 5, Key: 11, Time: 30, Num: 5}}}
	if impl.ClientOk(two) || !emptyClient(checkHear(t, two, answerMsg(3, call))) {
		t.Errorf("%v is ok", two)
	}
}

// P51: A word for another user, one that is not in form, and one that asks, change nothing.
func TestP51OtherWords(t *testing.T) {
	for id := 1; id <= 3; id++ {
		c := busyUser(id)
		good := []impl.Msg{giveFirst(id, 50, 1, 60), giveFirst(id, 50, 20, 60), giveTicket(id, 10, 4, 50, 9, 60), giveTicket(id, 10, 5, 50, 11, 60), answerMsg(id, c.Sent[1]), answerMsg(id, c.Sent[3])}
		for _, m := range good {
			if after := checkHear(t, c, m); sameClient(after, c) {
				t.Errorf("%v changes nothing of %v", m, c)
			}
			for _, bent := range bentMsgs(m) {
				if after := checkHear(t, c, bent); (bent.Client != id || !msgWanted(bent)) && !sameClient(after, c) {
					t.Errorf("%v changes %v to %v", bent, c, after)
				}
			}
			for _, other := range []int{-1, 0, id%3 + 1, (id+1)%3 + 1, 4} {
				bent := ownMsg(m)
				bent.Client = other
				checkDeaf(t, "for another user", c, bent)
			}
			for _, kind := range []int{-1, 0, 1, 3, 5, 7} {
				checkDeaf(t, "of another kind", c, withKind(m, kind))
			}
			checkDeaf(t, "a seal less", c, withSeals(m, m.Seals[1:]...))
			checkDeaf(t, "a seal more", c, withSeals(m, joined(m.Seals, m.Seals[:1])...))
		}
		for _, m := range joined(bentForms(), []impl.Msg{asAsk(id, 1), asAsk(id, 20), fewMsgs()[2], fewMsgs()[4], tgsAsk(4, 9, good[2].Seals...), {Kind: 5, Serv: 4, Seals: good[2].Seals}}) {
			checkDeaf(t, "it asks, or is not in form", c, m)
		}
	}
}

// P52: ClientTgs is true only with a first ticket that lasts, ClientAp only with one for the service; what is false
// changes nothing.
func TestP52JustWithATicket(t *testing.T) {
	all := []impl.Cred{credOf(1, 4, 11, 50), credOf(1, 5, 12, 50), credOf(1, 6, 10, 50)}
	for some := range 8 {
		c := impl.Client{Id: 1, Num: 20}
		for i, cred := range all {
			if some>>i&1 == 1 {
				c.Creds = append(c.Creds, cred)
			}
		}
		for _, serv := range nobodys() {
			asked, _, asks := checkAskTicket(t, c, serv, 50)
			called, _, calls := checkCall(t, c, serv, 50)
			if asks != (servWanted(serv) && some >= 4) {
				t.Errorf("ClientTgs(%v, %d, 50) = %v", c, serv, asks)
			}
			if calls != (serv == 4 && some&1 == 1 || serv == 5 && some&2 == 2) {
				t.Errorf("ClientAp(%v, %d, 50) = %v", c, serv, calls)
			}
			if !asks && !sameClient(asked, c) || !calls && !sameClient(called, c) {
				t.Errorf("what is false changes %v to %v, or %v", c, asked, called)
			}
		}
	}
}

// P52: of all users what is false changes nothing, and what is true has such a ticket.
func TestP52FalseChangesNothing(t *testing.T) {
	for _, c := range goodUsers() {
		for _, serv := range nobodys() {
			for _, now := range []int{0, 1, 38, 39, 40, 41, 42, 99, 100} {
				after, word, ok := impl.ClientTgs(c, serv, now)
				if cred, has := credWanted(c, 6, now); ok && (!has || word.Seals[0] != cred.Ticket) || !ok && !sameClient(after, c) {
					t.Errorf("ClientTgs(%v, %d, %d) = %v, %v, %v", c, serv, now, after, word, ok)
				}
				after, word, ok = impl.ClientAp(c, serv, now)
				if cred, has := credWanted(c, serv, now); ok && (!has || word.Seals[0] != cred.Ticket) || !ok && !sameClient(after, c) {
					t.Errorf("ClientAp(%v, %d, %d) = %v, %v, %v", c, serv, now, after, word, ok)
				}
			}
		}
	}
}

// P53: Of all that a user asks, and calls, one behind the other, the numbers ascend, and are at most NumMax.
func TestP53NumbersAscend(t *testing.T) {
	ended := 0
	for seed := range int64(60) {
		w, last := newClientWalk(seed), 0
		for range 400 {
			s := w.step(t)
			for _, num := range numbersOf(s) {
				if num <= last || num > 60 {
					t.Fatalf("behind the number %d, in the walk %d, there is %v", last, seed, s.word)
				}
				last = num
			}
			if w.user.Num != last {
				t.Fatalf("behind the number %d, in the walk %d, there is %v", last, seed, w.user)
			}
		}
		if last == 60 {
			ended++
		}
	}
	if ended < 20 {
		t.Errorf("just %d of all came to the last number", ended)
	}
}

// P53: of one kind alone, up to the last number, which is met exactly.
func TestP53ToTheLast(t *testing.T) {
	start := impl.Client{Id: 2, Creds: []impl.Cred{credOf(2, 6, 10, 40), credOf(2, 4, 11, 40)}}
	for _, first := range []int{0, 1} {
		asks, tickets, calls := ownClient(start), ownClient(start), ownClient(start)
		asks.Num, tickets.Num, calls.Num = first, first, first
		for num := first + 1; num <= 62; num++ {
			var word impl.Msg
			var ok bool
			if asks, word, ok = checkAskFirst(t, asks); ok != (num <= 60) || ok && word.Nonce != num {
				t.Errorf("the number %d is told: %v, %v", num, ok, word)
			}
			if calls, word, ok = checkCall(t, calls, 4, 40); ok != (num <= 60) || ok && word.Seals[1].C != num {
				t.Errorf("the number %d is told: %v, %v", num, ok, word)
			}
			if (num-first)%2 == 0 {
				continue
			}
			if tickets, word, ok = checkAskTicket(t, tickets, 5, 40); ok != (num <= 59) || ok && (word.Seals[1].C != num || word.Nonce != num+1) {
				t.Errorf("the number %d is told: %v, %v", num, ok, word)
			}
		}
		if asks.Num != 60 || calls.Num != 60 || tickets.Num != 60-first || !impl.ClientOk(asks) || !impl.ClientOk(tickets) || !impl.ClientOk(calls) {
			t.Errorf("in the end there are %v, %v, %v", asks, tickets, calls)
		}
	}
}

// P54: Behind ClientHear he has at most one for each service, and a first one; for all others than that of the part what
// he had.
func TestP54OneForEach(t *testing.T) {
	for _, c := range goodUsers() {
		for _, m := range wordsFor(c) {
			after := impl.ClientHear(c, m)
			count := map[int]int{}
			for _, cred := range after.Creds {
				count[cred.Serv]++
				if count[cred.Serv] > 1 || !peerWanted(cred.Serv) {
					t.Errorf("%v, behind %v, has %v", c, m, after.Creds)
				}
			}
			for peer := 4; peer <= 6; peer++ {
				had, has := credWanted(c, peer, -1)
				now, hasNow := credWanted(after, peer, -1)
				given := len(m.Seals) == 2 && m.Seals[1].A == peer
				if !given && (had != now || has != hasNow) || has && !hasNow {
					t.Errorf("%v, behind %v, has for %d %v", c, m, peer, now)
				}
			}
		}
	}
}

// P54: a ticket comes in place of the one that was there, and else behind all.
func TestP54Places(t *testing.T) {
	for _, order := range [][]int{{}, {4}, {5}, {6}, {4, 5}, {5, 4}, {4, 6}, {6, 4}, {6, 5}, {4, 5, 6}, {5, 6, 4}, {6, 4, 5}, {6, 5, 4}} {
		c := impl.Client{Id: 3, Num: 9, Wants: []impl.Want{{Serv: 4, Nonce: 3}, {Serv: 5, Nonce: 4}, {Serv: 6, Nonce: 5}}}
		for i, peer := range order {
			c.Creds = append(c.Creds, credOf(3, peer, 10+i, 30))
		}
		first, hasFirst := credWanted(c, 6, -1)
		for peer := 4; peer <= 6; peer++ {
			m := giveFirst(3, 40, 5, 50)
			if peer < 6 {
				m = giveTicket(3, max(10, first.Key), peer, 40, peer-1, 50)
			}
			want := slices.Clone(c.Creds)
			taken := impl.Cred{Serv: peer, Key: 40, Until: 50, Ticket: m.Seals[0]}
			if place := slices.Index(order, peer); place >= 0 && (peer == 6 || hasFirst) {
				want[place] = taken
			} else if peer == 6 || hasFirst {
				want = append(want, taken)
			}
			if after := checkHear(t, c, m); !slices.Equal(after.Creds, want) {
				t.Errorf("%v, behind %v, has %v; want %v", c, m, after.Creds, want)
			}
		}
	}
}

// P55: A part with another key, another number, or for another service than was asked, changes nothing.
func TestP55OtherParts(t *testing.T) {
	for id := 1; id <= 3; id++ {
		c := busyUser(id)
		for _, good := range []impl.Msg{giveFirst(id, 50, 1, 60), giveFirst(id, 50, 20, 60), giveTicket(id, 10, 4, 50, 9, 60), giveTicket(id, 10, 5, 50, 11, 60), giveTicket(id, 10, 4, 50, 13, 60)} {
			part := good.Seals[1]
			if after := checkHear(t, c, good); sameClient(after, c) {
				t.Errorf("%v changes nothing of %v", good, c)
			}
			for key := range 62 {
				if key != part.Key {
					checkDeaf(t, "another key", c, withKey(good, key))
				}
			}
			for num := -1; num <= 62; num++ {
				bent := ownMsg(good)
				bent.Seals[1].C = num
				if !slices.Contains(c.Wants, impl.Want{Serv: part.A, Nonce: num}) {
					checkDeaf(t, "another number", c, bent)
				}
			}
			for _, peer := range nobodys() {
				bent := ownMsg(good)
				bent.Seals[1].A = peer
				if peer != part.A {
					checkDeaf(t, "for another one", c, bent)
				}
			}
			checkBentGives(t, c, good)
		}
	}
}

// checkBentGives asks that a user does not hear a word that gives what he waits for, if its kind, or one of its seals, is
// of another kind, or they stand in the other order.
func checkBentGives(t *testing.T, c impl.Client, good impl.Msg) {
	t.Helper()
	ticket, part := good.Seals[0], good.Seals[1]
	checkDeaf(t, "of the other kind", c, withKind(good, 6-good.Kind))
	checkDeaf(t, "in the other order", c, withSeals(good, part, ticket))
	checkDeaf(t, "two parts", c, withSeals(good, part, part))
	checkDeaf(t, "two tickets", c, withSeals(good, ticket, ticket))
	for _, s := range joined(fewSeals()[3:], wrongSeals()) {
		checkDeaf(t, "no ticket", c, withSeals(good, s, part))
	}
	for _, s := range joined(fewSeals()[:3], fewSeals()[5:], wrongSeals()) {
		checkDeaf(t, "no part", c, withSeals(good, ticket, s))
	}
	for _, bent := range bentSeals(part) {
		checkHear(t, c, withSeals(good, ticket, bent))
	}
	for _, other := range fewSeals()[:3] {
		after := checkHear(t, c, withSeals(good, other, part))
		if !slices.Contains(after.Creds, impl.Cred{Serv: part.A, Key: part.B, Until: part.D, Ticket: other}) {
			t.Errorf("the ticket %v, of whatever, with %v, leaves %v", other, part, after)
		}
	}
}

// P55: with no first ticket no ticket for a service is taken, and with a new one none by the key of the one before.
func TestP55KeyOfTheFirst(t *testing.T) {
	c := busyUser(2)
	c.Creds = []impl.Cred{c.Creds[0], c.Creds[2]}
	for key := range 62 {
		for serv := 4; serv <= 6; serv++ {
			for _, num := range []int{1, 9, 11, 13, 20} {
				checkDeaf(t, "he has no first ticket", c, giveTicket(2, key, serv, 50, num, 60))
			}
		}
	}
	had := busyUser(2)
	renewed := checkHear(t, had, giveFirst(2, 50, 1, 60))
	checkDeaf(t, "by the key of the first ticket before", renewed, giveTicket(2, 10, 4, 51, 9, 60))
	if after := checkHear(t, renewed, giveTicket(2, 50, 4, 51, 9, 60)); after.Creds[0].Key != 51 {
		t.Errorf("by the key of the new first ticket there is %v", after)
	}
	late := checkHear(t, checkHear(t, had, giveTicket(2, 10, 4, 51, 9, 60)), giveFirst(2, 50, 1, 60))
	if late.Creds[0].Key != 51 || late.Creds[1].Key != 50 {
		t.Errorf("in the other order there is %v", late)
	}
}

// P55: one that nobody waits for, and one for which two wait: two of one user, with two numbers, and two users with one.
func TestP55WhoWaits(t *testing.T) {
	c := impl.Client{Id: 1, Num: 9, Wants: []impl.Want{{Serv: 4, Nonce: 3}, {Serv: 4, Nonce: 5}, {Serv: 6, Nonce: 6}, {Serv: 6, Nonce: 9}}, Creds: []impl.Cred{credOf(1, 6, 10, 40)}}
	for _, num := range []int{1, 2, 4, 6, 7, 8, 9, 10, 60} {
		checkDeaf(t, "nobody waits", c, giveTicket(1, 10, 4, 50, num, 60))
	}
	for _, num := range []int{1, 3, 5, 7, 8, 10} {
		checkDeaf(t, "nobody waits", c, giveFirst(1, 50, num, 60))
	}
	for i, want := range c.Wants {
		m := giveFirst(1, 50, want.Nonce, 60)
		if want.Serv == 4 {
			m = giveTicket(1, 10, 4, 50, want.Nonce, 60)
		}
		left := slices.Delete(slices.Clone(c.Wants), i, i+1)
		if after := checkHear(t, c, m); !slices.Equal(after.Wants, left) {
			t.Errorf("behind %v he waits for %v; want %v", m, after.Wants, left)
		}
	}
	for id := 1; id <= 3; id++ {
		user, _ := impl.ClientNew(id)
		user, _, _ = checkAskFirst(t, user)
		for other := 1; other <= 3; other++ {
			after := checkHear(t, user, giveFirst(other, 50, 1, 60))
			if took := len(after.Creds) == 1 && len(after.Wants) == 0; took != (other == id) {
				t.Errorf("the user %d takes what is for %d: %v", id, other, took)
			}
		}
	}
}

// P56: At a time behind Until ClientAp is false, and ClientTgs, if the first ticket lasts no more.
func TestP56LastsNoMore(t *testing.T) {
	for _, until := range []int{0, 1, 39, 40, 41, 99, 100} {
		for now := 0; now <= 100; now++ {
			for serv := 4; serv <= 5; serv++ {
				calls := impl.Client{Id: 1, Num: 3, Creds: []impl.Cred{credOf(1, 6, 10, 100-until), credOf(1, 9-serv, 12, 100-until), credOf(1, serv, 11, until)}}
				after, _, ok := checkCall(t, calls, serv, now)
				if ok != (now <= until) || !ok && !sameClient(after, calls) {
					t.Errorf("at %d a call with a ticket until %d is sent: %v", now, until, ok)
				}
				asks := impl.Client{Id: 1, Num: 3, Creds: []impl.Cred{credOf(1, 4, 11, 100-until), credOf(1, 5, 12, 100-until), credOf(1, 6, 10, until)}}
				after, _, ok = checkAskTicket(t, asks, serv, now)
				if ok != (now <= until) || !ok && !sameClient(after, asks) {
					t.Errorf("at %d a ticket is asked for with one until %d: %v", now, until, ok)
				}
			}
		}
	}
}

// P56: it is Until of what was told him that counts, and not what the ticket has, which he cannot read.
func TestP56NotTheTickets(t *testing.T) {
	for peer := 4; peer <= 6; peer++ {
		c := impl.Client{Id: 1, Num: 3, Creds: []impl.Cred{{Serv: peer, Key: 11, Until: 40, Ticket: credOf(2, peer, 33, 20).Ticket}}}
		for _, now := range []int{19, 20, 21, 40, 41} {
			_, _, asks := checkAskTicket(t, c, 4, now)
			_, _, calls := checkCall(t, c, peer, now)
			if asks != (peer == 6 && now <= 40) || calls != (peer < 6 && now <= 40) {
				t.Errorf("at %d, with %v, he asks: %v, calls: %v", now, c.Creds, asks, calls)
			}
		}
	}
}

// P57: Behind ClientHear that takes a ticket ClientTgs of a first one, and ClientAp of one for a service, is true, as
// long as it lasts, and there are numbers.
func TestP57CanUseIt(t *testing.T) {
	count := map[int]int{}
	for _, c := range goodUsers() {
		first, has := credWanted(c, 6, -1)
		for _, want := range c.Wants[max(0, len(c.Wants)-5):] {
			for _, until := range []int{0, 40, 100} {
				m := giveFirst(c.Id, 47, want.Nonce, until)
				if want.Serv != 6 {
					m = giveTicket(c.Id, first.Key, want.Serv, 47, want.Nonce, until)
				}
				after := checkHear(t, c, m)
				if want.Serv != 6 && !has {
					continue
				}
				count[want.Serv]++
				for _, now := range []int{0, 1, 39, 40, 41, 99, 100} {
					checkUse(t, after, want.Serv, now, until)
				}
			}
		}
	}
	if count[4] < 20 || count[5] < 20 || count[6] < 20 {
		t.Errorf("of all %v", count)
	}
}

// checkUse asks that who took a ticket with the key 47 can show it, as long as it lasts, and there are numbers.
func checkUse(t *testing.T, c impl.Client, peer, now, until int) {
	t.Helper()
	if peer < 6 {
		_, word, ok := checkCall(t, c, peer, now)
		if ok != (now <= until && c.Num <= 59) || ok && word.Seals[1].Key != 47 {
			t.Errorf("ClientAp(%v, %d, %d) = %v, %v", c, peer, now, word, ok)
		}
		return
	}
	for serv := 4; serv <= 5; serv++ {
		_, word, ok := checkAskTicket(t, c, serv, now)
		if ok != (now <= until && c.Num <= 58) || ok && word.Seals[1].Key != 47 {
			t.Errorf("ClientTgs(%v, %d, %d) = %v, %v", c, serv, now, word, ok)
		}
	}
}

// P58: Whatever he hears, who he is, his number, and whom he called stay; what he met stays, and he waits for no more
// than he did.
func TestP58WhatStays(t *testing.T) {
	for _, c := range goodUsers() {
		for _, m := range wordsFor(c) {
			checkStays(t, c, impl.ClientHear(c, m), m)
		}
	}
	var took, met int
	for seed := range int64(60) {
		w := newClientWalk(seed)
		for range 400 {
			s := w.step(t)
			if s.hears {
				checkStays(t, s.before, w.user, s.word)
			}
			if s.hears && len(w.user.Wants) < len(s.before.Wants) {
				took++
			}
			if s.hears && len(w.user.Met) > len(s.before.Met) {
				met++
			}
		}
	}
	if took < 200 || met < 100 {
		t.Errorf("in all walks %d were taken, %d met", took, met)
	}
}

func checkStays(t *testing.T, c, after impl.Client, m impl.Msg) {
	t.Helper()
	if after.Id != c.Id || after.Num != c.Num || !slices.Equal(after.Sent, c.Sent) || !impl.ClientOk(after) {
		t.Errorf("%v, behind %v, is %v", c, m, after)
	}
	if len(after.Met) < len(c.Met) || !slices.Equal(after.Met[:len(c.Met)], c.Met) {
		t.Errorf("%v, behind %v, met %v", c, m, after.Met)
	}
	left := 0
	for _, want := range c.Wants {
		if left < len(after.Wants) && after.Wants[left] == want {
			left++
		}
	}
	if left != len(after.Wants) || left < len(c.Wants)-1 {
		t.Errorf("%v, behind %v, waits for %v", c, m, after.Wants)
	}
}

// Each user asks for a first ticket, hears it, asks for a ticket for each service, hears it, calls each service, and
// hears its answer.
func TestClientOneBehindTheOther(t *testing.T) {
	k := impl.KdcNew()
	for _, start := range []int{0, 30, 95} {
		for id := 1; id <= 3; id++ {
			c, _ := impl.ClientNew(id)
			c, ask, _ := checkAskFirst(t, c)
			after, give, _ := impl.KdcAs(k, ask, start)
			c, k = checkHear(t, c, give), after
			for serv := 4; serv <= 5; serv++ {
				var ok bool
				if c, ask, ok = checkAskTicket(t, c, serv, start+1); !ok {
					t.Fatalf("at %d %v cannot ask for %d", start, c, serv)
				}
				if k, give, ok = impl.KdcTgs(k, ask, start+2); !ok {
					t.Fatalf("at %d %v is not given", start, ask)
				}
				c = checkHear(t, c, give)
			}
			c = callBoth(t, c, start+3)
			if len(c.Wants) != 0 || len(c.Creds) != 3 || c.Num != 7 || !slices.Equal(c.Met, c.Sent) || !impl.ClientOk(c) {
				t.Errorf("at %d the user %d is %v", start, id, c)
			}
		}
	}
}

// callBoth lets a user call each service, which answers.
func callBoth(t *testing.T, c impl.Client, now int) impl.Client {
	t.Helper()
	for serv := 4; serv <= 5; serv++ {
		after, word, ok := checkCall(t, c, serv, now)
		if !ok || word.Seals[0].B != serv || word.Seals[0].C != word.Seals[1].Key {
			t.Fatalf("ClientAp(%v, %d, %d) = %v, %v", c, serv, now, word, ok)
		}
		call := impl.Call{Peer: serv, Key: word.Seals[1].Key, Time: now, Num: word.Seals[1].C}
		met := checkHear(t, after, answerMsg(c.Id, call))
		if len(met.Met) != len(c.Met)+1 || met.Met[len(c.Met)] != call {
			t.Errorf("%v, behind an answer to %v, met %v", after, call, met.Met)
		}
		c = met
	}
	return c
}

// Several tickets are waited for, and several calls sent, at once, and answered in another order than asked.
func TestClientInAnotherOrder(t *testing.T) {
	c, _ := impl.ClientNew(2)
	for range 3 {
		c, _, _ = checkAskFirst(t, c)
	}
	for i, num := range []int{3, 1, 2} {
		c = checkHear(t, c, giveFirst(2, 10+i, num, 40))
		if len(c.Creds) != 1 || c.Creds[0].Key != 10+i || len(c.Wants) != 2-i {
			t.Fatalf("behind the number %d there is %v", num, c)
		}
	}
	for _, serv := range []int{4, 5, 4} {
		c, _, _ = checkAskTicket(t, c, serv, 20)
	}
	for _, give := range []impl.Msg{giveTicket(2, 12, 4, 20, 9, 40), giveTicket(2, 12, 5, 21, 7, 40), giveTicket(2, 12, 4, 22, 5, 40)} {
		c = checkHear(t, c, give)
	}
	if len(c.Wants) != 0 || !slices.Equal(c.Creds, []impl.Cred{credOf(2, 6, 12, 40), credOf(2, 4, 22, 40), credOf(2, 5, 21, 40)}) {
		t.Fatalf("behind all tickets there is %v", c)
	}
	for i, serv := range []int{5, 4, 4, 5} {
		c, _, _ = checkCall(t, c, serv, 21+i/2)
	}
	var want []impl.Call
	for _, place := range []int{2, 0, 3, 1} {
		want = append(want, c.Sent[place])
		if c = checkHear(t, c, answerMsg(2, c.Sent[place])); !slices.Equal(c.Met, want) {
			t.Errorf("he met %v; want %v", c.Met, want)
		}
	}
}
