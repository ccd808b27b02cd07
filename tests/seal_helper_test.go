package tests

import (
	"math"
	"regexp"
	"strconv"
	"strings"

	"loop.example/cerberus/impl"
)

// The limits are written out as numbers here, so that a constant of the program that is wrong is seen.

func within(n, least, most int) bool { return least <= n && n <= most }

func userWanted(n int) bool { return within(n, 1, 3) }
func peerWanted(n int) bool { return within(n, 4, 6) }
func keyWanted(n int) bool  { return within(n, 10, 60) }
func timeWanted(n int) bool { return within(n, 0, 100) }
func numWanted(n int) bool  { return within(n, 1, 60) }
func zeroWanted(n int) bool { return n == 0 }

// sealWanted is what the document's table says of a seal.
func sealWanted(s impl.Seal) bool {
	switch s.Kind {
	case 1:
		return s.Key == s.B && userWanted(s.A) && peerWanted(s.B) && keyWanted(s.C) && timeWanted(s.D) && timeWanted(s.E)
	case 2:
		return (userWanted(s.Key) || keyWanted(s.Key)) && peerWanted(s.A) && keyWanted(s.B) && numWanted(s.C) && timeWanted(s.D) && zeroWanted(s.E)
	case 3:
		return keyWanted(s.Key) && userWanted(s.A) && timeWanted(s.B) && numWanted(s.C) && zeroWanted(s.D) && zeroWanted(s.E)
	case 4:
		return keyWanted(s.Key) && timeWanted(s.A) && numWanted(s.B) && zeroWanted(s.C) && zeroWanted(s.D) && zeroWanted(s.E)
	}
	return false
}

// holdsWanted is the key that the table says is in a seal.
func holdsWanted(s impl.Seal) int {
	switch {
	case !sealWanted(s):
		return 0
	case s.Kind == 1:
		return s.C
	case s.Kind == 2:
		return s.B
	}
	return 0
}

// textForm is how a seal's text looks, whatever its numbers are.
var textForm = regexp.MustCompile(`\A(ticket|part|auth|back)( (0|[1-9][0-9]{0,2})){6}\z`)

// readWanted reads a text by its form and the table alone.
func readWanted(text string) (impl.Seal, bool) {
	if !textForm.MatchString(text) {
		return impl.Seal{}, false
	}
	words := strings.Split(text, " ")
	s := impl.Seal{Kind: map[string]int{"ticket": 1, "part": 2, "auth": 3, "back": 4}[words[0]]}
	for i, place := range numPlaces(&s) {
		*place, _ = strconv.Atoi(words[i+1])
	}
	if !sealWanted(s) {
		return impl.Seal{}, false
	}
	return s, true
}

// numPlaces is where a seal has the numbers of its text, in order.
func numPlaces(s *impl.Seal) []*int {
	return []*int{&s.Key, &s.A, &s.B, &s.C, &s.D, &s.E}
}

// edgeSeals is seals that are ok: of each kind all that meet the limits, or are one within them.
func edgeSeals() []impl.Seal {
	users, peers := []int{1, 2, 3}, []int{4, 5, 6}
	keys, times, nums := []int{10, 11, 59, 60}, []int{0, 1, 99, 100}, []int{1, 2, 59, 60}
	partKeys := append([]int{1, 2, 3}, keys...)
	zero := []int{0}
	var all []impl.Seal
	for _, peer := range peers {
		all = append(all, crossSeals(1, []int{peer}, users, []int{peer}, keys, times, times)...)
	}
	all = append(all, crossSeals(2, partKeys, peers, keys, nums, times, zero)...)
	all = append(all, crossSeals(3, keys, users, times, nums, zero, zero)...)
	return append(all, crossSeals(4, keys, times, nums, zero, zero, zero)...)
}

// crossSeals is the seals of a kind with each choice of a Key, and A to E, of these.
func crossSeals(kind int, choices ...[]int) []impl.Seal {
	all := []impl.Seal{{Kind: kind}}
	for i, choice := range choices {
		var more []impl.Seal
		for _, s := range all {
			for _, n := range choice {
				*numPlaces(&s)[i] = n
				more = append(more, s)
			}
		}
		all = more
	}
	return all
}

// fewSeals is ordinary seals, some of each kind.
func fewSeals() []impl.Seal {
	return []impl.Seal{
		{Key: 4, Kind: impl.SealTicket, A: 1, B: 4, C: 10, D: 2, E: 14},
		{Key: 6, Kind: impl.SealTicket, A: 3, B: 6, C: 60, D: 0, E: 100},
		{Key: 5, Kind: impl.SealTicket, A: 2, B: 5, C: 33, D: 50, E: 9},
		{Key: 2, Kind: impl.SealPart, A: 6, B: 11, C: 3, D: 9},
		{Key: 44, Kind: impl.SealPart, A: 5, B: 45, C: 60, D: 100},
		{Key: 12, Kind: impl.SealAuth, A: 3, B: 0, C: 60},
		{Key: 60, Kind: impl.SealAuth, A: 1, B: 77, C: 7},
		{Key: 10, Kind: impl.SealBack, A: 0, B: 1},
		{Key: 31, Kind: impl.SealBack, A: 100, B: 42},
	}
}

// oddNumbers is numbers at the limits, one beside them, below 0, and very great.
func oddNumbers() []int {
	return []int{
		math.MinInt, math.MinInt + 1, math.MinInt32, -100, -60, -10, -2, -1, 0, 1, 2, 3, 4, 5, 6, 7, 8, 9, 10, 11,
		30, 59, 60, 61, 62, 99, 100, 101, 102, 255, 256, 257, 260, 266, math.MaxInt32, math.MaxInt32 + 1, math.MaxUint32 + 11, math.MaxInt - 1, math.MaxInt,
	}
}

// bentSeals is a seal with each odd number in each of its places, its kind too.
func bentSeals(s impl.Seal) []impl.Seal {
	var all []impl.Seal
	for _, n := range oddNumbers() {
		for i := range numPlaces(&s) {
			bent := s
			*numPlaces(&bent)[i] = n
			all = append(all, bent)
		}
		bent := s
		bent.Kind = n
		all = append(all, bent)
	}
	return all
}

// bentTexts is a text with a byte less, another byte, or a byte more, at each place.
func bentTexts(text string) []string {
	var all []string
	for i := range len(text) + 1 {
		for b := range 256 {
			more := string([]byte{byte(b)})
			all = append(all, text[:i]+more+text[i:])
			if i < len(text) {
				all = append(all, text[:i]+more+text[i+1:])
			}
		}
		if i < len(text) {
			all = append(all, text[:i]+text[i+1:], text[:i], text[i+1:])
		}
	}
	return all
}
