package tests

import (
	"math"
	"regexp"
	"slices"
	"strconv"
	"strings"

	"loop.example/cerberus/impl"
)

func servWanted(n int) bool { return within(n, 4, 5) }

// msgWanted is what the document's table says of a word.
func msgWanted(m impl.Msg) bool {
	for _, s := range m.Seals {
		if !sealWanted(s) {
			return false
		}
	}
	n := len(m.Seals)
	switch m.Kind {
	case 1:
		return userWanted(m.Client) && zeroWanted(m.Serv) && numWanted(m.Nonce) && n == 0
	case 2, 4:
		return userWanted(m.Client) && zeroWanted(m.Serv) && zeroWanted(m.Nonce) && n == 2
	case 3:
		return zeroWanted(m.Client) && servWanted(m.Serv) && numWanted(m.Nonce) && n == 2
	case 5:
		return zeroWanted(m.Client) && servWanted(m.Serv) && zeroWanted(m.Nonce) && n == 2
	case 6:
		return userWanted(m.Client) && zeroWanted(m.Serv) && zeroWanted(m.Nonce) && n == 1
	}
	return false
}

// wordForm is how a word's text looks, whatever its numbers and its seals are.
var wordForm = regexp.MustCompile(`\A((?:0|[1-9][0-9]{0,2})(?: (?:0|[1-9][0-9]{0,2})){3})\n((?:[^\n]*\n)*)\z`)

// msgReadWanted reads a text by its form and the tables alone.
func msgReadWanted(text string) (impl.Msg, bool) {
	if len(text) > 200 {
		return impl.Msg{}, false
	}
	found := wordForm.FindStringSubmatch(text)
	if found == nil {
		return impl.Msg{}, false
	}
	var m impl.Msg
	nums := strings.Split(found[1], " ")
	for i, place := range msgPlaces(&m) {
		*place, _ = strconv.Atoi(nums[i])
	}
	lines := strings.Split(found[2], "\n")
	for _, line := range lines[:len(lines)-1] {
		s, ok := readWanted(line)
		if !ok {
			return impl.Msg{}, false
		}
		m.Seals = append(m.Seals, s)
	}
	if !msgWanted(m) {
		return impl.Msg{}, false
	}
	return m, true
}

// msgPlaces is where a word has the numbers of its first line, in order.
func msgPlaces(m *impl.Msg) []*int {
	return []*int{&m.Kind, &m.Client, &m.Serv, &m.Nonce}
}

// sameMsg takes the empty list and the nil list for the same.
func sameMsg(a, b impl.Msg) bool {
	return a.Kind == b.Kind && a.Client == b.Client && a.Serv == b.Serv && a.Nonce == b.Nonce && slices.Equal(a.Seals, b.Seals)
}

// ownMsg is a word that shares no memory with that one.
func ownMsg(m impl.Msg) impl.Msg {
	m.Seals = append([]impl.Seal(nil), m.Seals...)
	return m
}

// withSeals is a word with these seals in place of its own.
func withSeals(m impl.Msg, seals ...impl.Seal) impl.Msg {
	m.Seals = append([]impl.Seal(nil), seals...)
	return m
}

// bareMsgs is the words in form of all kinds that meet the limits, or are one within them, but for their seals.
func bareMsgs() []impl.Msg {
	var all []impl.Msg
	nums := []int{1, 2, 59, 60}
	for _, user := range []int{1, 2, 3} {
		for _, num := range nums {
			all = append(all, impl.Msg{Kind: 1, Client: user, Nonce: num})
		}
		for _, kind := range []int{2, 4, 6} {
			all = append(all, impl.Msg{Kind: kind, Client: user})
		}
	}
	for _, serv := range []int{4, 5} {
		for _, num := range nums {
			all = append(all, impl.Msg{Kind: 3, Serv: serv, Nonce: num})
		}
		all = append(all, impl.Msg{Kind: 5, Serv: serv})
	}
	return all
}

// sealCount is how many seals the table says that a kind has.
func sealCount(kind int) int {
	return map[int]int{2: 2, 3: 2, 4: 2, 5: 2, 6: 1}[kind]
}

// sealLists is all lists of so many seals of these, in any order, one of them twice too.
func sealLists(count int, of []impl.Seal) [][]impl.Seal {
	lists := [][]impl.Seal{nil}
	for range count {
		var longer [][]impl.Seal
		for _, list := range lists {
			for _, s := range of {
				longer = append(longer, append(slices.Clone(list), s))
			}
		}
		lists = longer
	}
	return lists
}

// edgeMsgs is words in form: all of bareMsgs, each with all lists of the few seals.
func edgeMsgs() []impl.Msg {
	var all []impl.Msg
	for _, m := range bareMsgs() {
		for _, list := range sealLists(sealCount(m.Kind), fewSeals()) {
			all = append(all, withSeals(m, list...))
		}
	}
	return all
}

// fewMsgs is ordinary words in form, at least one of each kind.
func fewMsgs() []impl.Msg {
	s := fewSeals()
	return []impl.Msg{
		{Kind: impl.MsgAsAsk, Client: 2, Nonce: 7},
		{Kind: impl.MsgAsGive, Client: 3, Seals: []impl.Seal{s[1], s[3]}},
		{Kind: impl.MsgTgsAsk, Serv: 5, Nonce: 60, Seals: []impl.Seal{s[1], s[6]}},
		{Kind: impl.MsgTgsGive, Client: 1, Seals: []impl.Seal{s[0], s[4]}},
		{Kind: impl.MsgApAsk, Serv: 4, Seals: []impl.Seal{s[0], s[6]}},
		{Kind: impl.MsgApBack, Client: 1, Seals: []impl.Seal{s[8]}},
		{Kind: impl.MsgApBack, Client: 2, Seals: []impl.Seal{s[2]}},
	}
}

// wrongSeals is seals that are not ok, each by something else.
func wrongSeals() []impl.Seal {
	return []impl.Seal{
		{},
		{Key: 5, Kind: 1, A: 1, B: 4, C: 10, D: 2, E: 14},
		{Key: 4, Kind: 1, A: 4, B: 4, C: 10, D: 2, E: 14},
		{Key: 4, Kind: 1, A: 1, B: 4, C: 10, D: 2, E: 101},
		{Key: 6, Kind: 2, A: 6, B: 11, C: 3, D: 9},
		{Key: 2, Kind: 2, A: 6, B: 11, C: 3, D: 9, E: 1},
		{Key: 61, Kind: 3, A: 3, B: 0, C: 60},
		{Key: 12, Kind: 3, A: 3, B: -1, C: 60},
		{Key: 10, Kind: 4, A: 0, B: 61},
		{Key: 10, Kind: 4, A: 0, B: 1, C: math.MaxInt},
		{Key: 10, Kind: 5, A: 0, B: 1},
	}
}

// bentMsgs is a word with each odd number in each place, its kind too, and with other lists of seals.
func bentMsgs(m impl.Msg) []impl.Msg {
	var all []impl.Msg
	for _, n := range oddNumbers() {
		for i := range msgPlaces(&m) {
			bent := ownMsg(m)
			*msgPlaces(&bent)[i] = n
			all = append(all, bent)
		}
	}
	for i := range m.Seals {
		for _, wrong := range wrongSeals() {
			bent := ownMsg(m)
			bent.Seals[i] = wrong
			all = append(all, bent)
		}
	}
	s := fewSeals()
	for count := range 6 {
		all = append(all, withSeals(m, s[:count]...), withSeals(m, wrongSeals()[:count]...))
	}
	empty := m
	empty.Seals = []impl.Seal{}
	return append(all, empty)
}
