package tests

import (
	"testing"

	"loop.example/cerberus/impl"
)

// withRoom is a list with these behind its end, and both.
func withRoom[T any](list []T, more ...T) ([]T, []T) {
	all := append(append(make([]T, 0, len(list)+len(more)), list...), more...)
	return all[:len(list)], all
}

// fill writes into a list, and into its spare room.
func fill[T any](list []T, with T) {
	room := list[:cap(list)]
	for i := range room {
		room[i] = with
	}
}

// isFull says whether a list, and its spare room, have just that.
func isFull[T comparable](list []T, with T) bool {
	for _, has := range list[:cap(list)] {
		if has != with {
			return false
		}
	}
	return true
}

// roomyClient is a user whose lists have more behind their ends, and one whose lists have that, too, in the same memory.
func roomyClient(c impl.Client) (impl.Client, impl.Client) {
	all := c
	call := impl.Call{Peer: 5, Key: 59, Time: 9, Num: 59}
	c.Wants, all.Wants = withRoom(c.Wants, impl.Want{Serv: 5, Nonce: 59}, impl.Want{Serv: 4, Nonce: 60})
	c.Creds, all.Creds = withRoom(c.Creds, credOf(1, 4, 58, 90), credOf(2, 5, 59, 91))
	c.Sent, all.Sent = withRoom(c.Sent, call, impl.Call{Peer: 4, Key: 58, Time: 8, Num: 60})
	c.Met, all.Met = withRoom(c.Met, call, impl.Call{Peer: 4, Key: 58, Time: 8, Num: 58})
	return c, all
}

// fillAnswer writes into all lists of an answer, into each something else.
func fillAnswer(c impl.Client, m impl.Msg, mark int) {
	fill(c.Wants, impl.Want{Serv: mark, Nonce: mark})
	fill(c.Creds, impl.Cred{Serv: mark, Key: mark})
	fill(c.Sent, impl.Call{Peer: mark, Num: 1})
	fill(c.Met, impl.Call{Peer: mark, Num: 2})
	fill(m.Seals, impl.Seal{Kind: mark, Key: mark})
}

// isAnswerFull says whether all lists of an answer have just what fillAnswer wrote into them.
func isAnswerFull(c impl.Client, m impl.Msg, mark int) bool {
	return isFull(c.Wants, impl.Want{Serv: mark, Nonce: mark}) && isFull(c.Creds, impl.Cred{Serv: mark, Key: mark}) &&
		isFull(c.Sent, impl.Call{Peer: mark, Num: 1}) && isFull(c.Met, impl.Call{Peer: mark, Num: 2}) &&
		isFull(m.Seals, impl.Seal{Kind: mark, Key: mark})
}

// checkClientMemory asks that what is answered shares nothing with an argument, with another answer, or with another list
// of its own, and that no argument is written into, or behind its end.
func checkClientMemory(t *testing.T, what string, c impl.Client, m impl.Msg, answer func(impl.Client, impl.Msg) (impl.Client, impl.Msg)) {
	t.Helper()
	arg, argAll := roomyClient(c)
	heard := m
	var sealsAll []impl.Seal
	heard.Seals, sealsAll = withRoom(m.Seals, fewSeals()...)
	before, sealsBefore := ownClient(argAll), ownMsg(impl.Msg{Seals: sealsAll})
	one, oneWord := answer(arg, heard)
	kept, keptWord := ownClient(one), ownMsg(oneWord)
	other, otherWord := answer(arg, heard)
	if !sameClient(one, other) || !sameMsg(oneWord, otherWord) {
		t.Errorf("%s of %v, %v is %v, then %v", what, c, m, one, other)
	}
	again, againWord := answer(one, oneWord)
	fillAnswer(again, againWord, -3)
	fillAnswer(other, otherWord, -2)
	if !sameClient(one, kept) || !sameMsg(oneWord, keptWord) {
		t.Errorf("an answer of %s of %v, %v was written into", what, c, m)
	}
	fillAnswer(one, oneWord, -1)
	if !isAnswerFull(one, oneWord, -1) || !isAnswerFull(other, otherWord, -2) || !isAnswerFull(again, againWord, -3) {
		t.Errorf("two lists that %s of %v, %v answers share memory", what, c, m)
	}
	if !sameClient(argAll, before) || !sameMsg(impl.Msg{Seals: sealsAll}, sealsBefore) {
		t.Errorf("%s writes into %v, or %v", what, c, m)
	}
}

// askingWays is all that a user can ask and call, for services, others, and times of all sorts.
func askingWays() []func(impl.Client, impl.Msg) (impl.Client, impl.Msg) {
	ways := []func(impl.Client, impl.Msg) (impl.Client, impl.Msg){
		func(c impl.Client, _ impl.Msg) (impl.Client, impl.Msg) {
			after, word, _ := impl.ClientAs(c)
			return after, word
		},
	}
	for _, serv := range []int{3, 4, 5, 6} {
		for _, now := range []int{-1, 0, 40, 100} {
			ways = append(ways, func(c impl.Client, _ impl.Msg) (impl.Client, impl.Msg) {
				after, word, _ := impl.ClientTgs(c, serv, now)
				return after, word
			}, func(c impl.Client, _ impl.Msg) (impl.Client, impl.Msg) {
				after, word, _ := impl.ClientAp(c, serv, now)
				return after, word
			})
		}
	}
	return ways
}

// fullUsers is users who called so often that their lists have spare room of all sorts, and met few of those.
func fullUsers() []impl.Client {
	var all []impl.Client
	for num := 1; num <= 60; num++ {
		for met := range 3 {
			c := crowded(num%3+1, num, 40)
			c.Met = c.Met[:min(met, num)]
			all = append(all, c)
		}
	}
	return all
}

func TestClientAskMemory(t *testing.T) {
	users := joined(goodUsers(), fullUsers())
	for _, bad := range wrongUsers() {
		users = append(users, bad.user)
	}
	for _, c := range users {
		for _, way := range askingWays() {
			checkClientMemory(t, "what a user asks or calls", c, impl.Msg{}, way)
		}
	}
}

func TestClientHearMemory(t *testing.T) {
	hear := func(c impl.Client, m impl.Msg) (impl.Client, impl.Msg) { return impl.ClientHear(c, m), impl.Msg{} }
	for _, c := range goodUsers() {
		for i, m := range wordsFor(c) {
			// Of what changes nothing a few words are as good as all.
			if i%20 == 0 || !sameClient(impl.ClientHear(c, m), c) {
				checkClientMemory(t, "ClientHear", c, m, hear)
			}
		}
	}
	for _, c := range fullUsers() {
		for _, m := range []impl.Msg{{}, answerMsg(c.Id, c.Sent[0]), giveFirst(c.Id, 50, c.Num, 60), giveTicket(c.Id, 60, 4+c.Num%3, 50, c.Num, 60)} {
			checkClientMemory(t, "ClientHear", c, m, hear)
		}
	}
	for _, bad := range wrongUsers() {
		checkClientMemory(t, "ClientHear", bad.user, giveFirst(2, 50, 1, 60), hear)
	}
}

func TestClientNewMemory(t *testing.T) {
	for id := 1; id <= 3; id++ {
		one, _ := impl.ClientNew(id)
		fillAnswer(one, impl.Msg{}, -1)
		one.Num, one.Sent = 9, append(one.Sent, impl.Call{})
		if other, ok := impl.ClientNew(id); !ok || !sameClient(other, impl.Client{Id: id}) {
			t.Errorf("ClientNew(%d), once more, is %v, %v", id, other, ok)
		}
	}
}
