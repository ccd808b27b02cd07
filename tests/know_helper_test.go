package tests

import (
	"math"
	"math/rand"
	"slices"

	"loop.example/cerberus/impl"
)

// knowCase is keys and seals that one has.
type knowCase struct {
	keys  []int
	seals []impl.Seal
}

// keysWanted goes through all seals again and again, until there is no key more.
func keysWanted(keys []int, seals []impl.Seal) []int {
	var has [61]bool
	for _, key := range keys {
		if within(key, 1, 60) {
			has[key] = true
		}
	}
	for more := true; more; {
		more = false
		for _, s := range seals {
			if held := holdsWanted(s); held != 0 && has[s.Key] && !has[held] {
				has[held], more = true, true
			}
		}
	}
	var all []int
	for key, known := range has {
		if known {
			all = append(all, key)
		}
	}
	return all
}

// sealsReadWanted is the ok seals whose key one can come to.
func sealsReadWanted(keys []int, seals []impl.Seal) []impl.Seal {
	known := keysWanted(keys, seals)
	var all []impl.Seal
	for _, s := range seals {
		if sealWanted(s) && slices.Contains(known, s.Key) {
			all = append(all, s)
		}
	}
	return all
}

// buildWanted says whether a word is in form, and one has, or can make, each seal of it.
func buildWanted(keys []int, seals []impl.Seal, m impl.Msg) bool {
	known := keysWanted(keys, seals)
	for _, s := range m.Seals {
		held := holdsWanted(s)
		made := slices.Contains(known, s.Key) && (held == 0 || slices.Contains(known, held))
		if !made && !slices.Contains(seals, s) {
			return false
		}
	}
	return msgWanted(m)
}

func ticketOf(user, peer, held int) impl.Seal {
	return impl.Seal{Key: peer, Kind: 1, A: user, B: peer, C: held, D: 2, E: 14}
}

func partOf(key, peer, held int) impl.Seal {
	return impl.Seal{Key: key, Kind: 2, A: peer, B: held, C: 3, D: 9}
}

func authOf(key int) impl.Seal { return impl.Seal{Key: key, Kind: 3, A: 2, B: 7, C: 5} }
func backOf(key int) impl.Seal { return impl.Seal{Key: key, Kind: 4, A: 7, B: 5} }

// chainOf is parts each of which has the key of the next one in it, from the first key of these to the last one.
func chainOf(keys ...int) []impl.Seal {
	var all []impl.Seal
	for i := range len(keys) - 1 {
		all = append(all, partOf(keys[i], 4, keys[i+1]))
	}
	return all
}

// upTo is the numbers from one to another one, both of them among these.
func upTo(least, most int) []int {
	var all []int
	for n := least; n <= most; n++ {
		all = append(all, n)
	}
	return all
}

// reversed is a new list in the other order.
func reversed[T any](list []T) []T {
	other := slices.Clone(list)
	slices.Reverse(other)
	return other
}

// joined is a new list of all these, one behind the other.
func joined[T any](lists ...[]T) []T {
	return slices.Concat(lists...)
}

// keyLists is lists of keys, with the edges that the document names.
func keyLists() [][]int {
	return [][]int{
		nil, {}, {0}, {-1}, {61}, {1}, {2}, {3}, {4}, {5}, {6}, {7}, {9}, {10}, {11}, {60}, {59},
		{0, 1, 60, 61}, {61, 60, 1, 0}, {1, 1}, {60, 60, 60}, {2, 10, 2, 10}, {12, 11, 10}, {3, 2, 1},
		{math.MinInt, -60, -10, -2, -1, 0}, {61, 62, 100, 256 + 10, math.MaxInt}, {math.MaxUint32 + 11, math.MinInt + 10}, {-10, 10, -11},
		{7, 8, 9}, {1, 2, 3, 4, 5, 6}, upTo(1, 60), reversed(upTo(1, 60)), upTo(-5, 70), oddNumbers(),
	}
}

// sealKnowLists is lists of seals: chains, rings, and ones that are not ok, which open nothing.
func sealKnowLists() [][]impl.Seal {
	long := joined([]impl.Seal{partOf(1, 6, 10)}, chainOf(upTo(10, 60)...))
	down := joined([]impl.Seal{partOf(2, 6, 60)}, chainOf(reversed(upTo(10, 60))...))
	tickets := []impl.Seal{ticketOf(1, 6, 10), ticketOf(2, 5, 11), ticketOf(3, 4, 60)}
	fromTicket := joined(tickets, chainOf(11, 20, 30), chainOf(60, 59, 10))
	ring := []impl.Seal{partOf(10, 4, 11), partOf(11, 5, 10)}
	broken := slices.Clone(long)
	broken[20].E = 1
	return [][]impl.Seal{
		nil, {}, fewSeals(), reversed(fewSeals()), wrongSeals(), joined(wrongSeals(), fewSeals(), wrongSeals()),
		long, reversed(long), down, reversed(down), broken, reversed(broken), fromTicket, reversed(fromTicket), tickets,
		ring, reversed(ring), joined(ring, chainOf(1, 11)), joined(ring, chainOf(11, 12, 13, 10), chainOf(3, 60, 60)), {partOf(10, 6, 10)},
		joined(long, long), joined(fromTicket, reversed(fromTicket)), {authOf(10), backOf(10), authOf(60), backOf(11)}, joined(down, []impl.Seal{authOf(33), backOf(10)}),
		{partOf(2, 6, 11), partOf(2, 6, 12), partOf(2, 5, 12), partOf(12, 4, 13), partOf(11, 4, 13)},
	}
}

// knowCases is each of the lists of keys with each of those of seals, and random ones.
func knowCases() []knowCase {
	var all []knowCase
	for _, keys := range keyLists() {
		for _, seals := range sealKnowLists() {
			all = append(all, knowCase{keys, seals})
		}
	}
	r := rand.New(rand.NewSource(3))
	for range 1500 {
		all = append(all, randomCase(r))
	}
	return all
}

// randomCase has few keys that differ, so that many a seal opens another one.
func randomCase(r *rand.Rand) knowCase {
	var c knowCase
	odd := oddNumbers()
	for range r.Intn(4) {
		c.keys = append(c.keys, []int{1, 2, 3, 4, 6, 10, 12, 60, odd[r.Intn(len(odd))]}[r.Intn(9)])
	}
	for range r.Intn(16) {
		c.seals = append(c.seals, randomSeal(r))
	}
	return c
}

// randomSeal is ok, but for one of ten, in which one number is odd.
func randomSeal(r *rand.Rand) impl.Seal {
	made := func() int { return []int{10, 11, 12, 13, 14, 15, 59, 60}[r.Intn(8)] }
	s := ticketOf(r.Intn(3)+1, r.Intn(3)+4, made())
	switch r.Intn(8) {
	case 0:
		s = authOf(made())
	case 1:
		s = backOf(made())
	case 2:
		s = partOf(r.Intn(3)+1, r.Intn(3)+4, made())
	case 3, 4, 5, 6:
		s = partOf(made(), r.Intn(3)+4, made())
	}
	if r.Intn(10) == 0 {
		odd := oddNumbers()
		*numPlaces(&s)[r.Intn(6)] = odd[r.Intn(len(odd))]
	}
	return s
}

// buildMsgs is words of all six kinds, in form and not, of seals that one has, can make, and cannot make.
func buildMsgs(c knowCase) []impl.Msg {
	all := joined(fewMsgs(), bentForms())
	all = append(all, impl.Msg{Kind: 1, Client: 1, Nonce: 1}, impl.Msg{Kind: 1, Client: 3, Nonce: 60, Seals: []impl.Seal{}})
	pool := joined(c.seals[:min(len(c.seals), 4)], c.seals[max(0, len(c.seals)-3):], makeSeals(), wrongSeals()[:2])
	bare := bareMsgs()
	for i, s := range pool {
		m := bare[i%len(bare)]
		other := pool[(i*7+3)%len(pool)]
		all = append(all, withSeals(m, []impl.Seal{s, other}[:sealCount(m.Kind)]...))
		all = append(all, impl.Msg{Kind: 6, Client: i%3 + 1, Seals: []impl.Seal{s}})
		all = append(all, impl.Msg{Kind: 5, Serv: 4, Seals: []impl.Seal{other, s}})
	}
	return all
}

// makeSeals is seals of all kinds whose keys, and the keys in them, one has or does not have, as the case may be.
func makeSeals() []impl.Seal {
	return []impl.Seal{
		ticketOf(1, 4, 10), ticketOf(2, 5, 60), ticketOf(3, 6, 12), ticketOf(3, 6, 50),
		partOf(1, 6, 10), partOf(2, 6, 60), partOf(3, 4, 13), partOf(10, 4, 11), partOf(10, 4, 50), partOf(60, 5, 10), partOf(50, 5, 10), partOf(13, 5, 13),
		authOf(10), authOf(12), authOf(50), authOf(60), backOf(10), backOf(13), backOf(50), backOf(60),
	}
}

// bentForms is words that are not in form.
func bentForms() []impl.Msg {
	s := fewSeals()
	return []impl.Msg{
		{}, {Kind: 7, Client: 1}, {Kind: 1, Client: 0, Nonce: 1}, {Kind: 1, Client: 4, Nonce: 1}, {Kind: 1, Client: 1}, {Kind: 1, Client: 1, Nonce: 61}, {Kind: 1, Client: 1, Nonce: 1, Seals: s[7:8]},
		{Kind: 6, Client: 1}, {Kind: 6, Client: 1, Seals: s[7:9]}, {Kind: 6, Client: 1, Serv: 4, Seals: s[7:8]}, {Kind: 6, Client: 1, Seals: wrongSeals()[:1]}, {Kind: 6, Client: -1, Seals: s[7:8]},
		{Kind: 5, Serv: 6, Seals: s[:2]}, {Kind: 5, Client: 1, Seals: s[:2]}, {Kind: 5, Serv: 4, Seals: s[:1]}, {Kind: 3, Serv: 4, Seals: s[:2]}, {Kind: 3, Serv: 4, Nonce: 1, Seals: s[:3]}, {Kind: 2, Client: 1, Nonce: 1, Seals: s[:2]},
	}
}
