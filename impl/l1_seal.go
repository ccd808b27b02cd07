package impl

import (
	"strconv"
	"strings"
)

// Who there is: users from 1 on, services behind them, and who gives tickets.
const (
	UserMax = 3
	ServMin = 4
	ServMax = 5
	TgsId   = 6
)

// Limits of keys, times, and numbers.
const (
	KeyFirst = 10
	KeyMax   = 60
	TimeMax  = 100
	NumMax   = 60
)

// Kinds of seals.
const (
	SealTicket = 1
	SealPart   = 2
	SealAuth   = 3
	SealBack   = 4
)

// The first words of seals' texts.
const (
	ticketWord = "ticket"
	partWord   = "part"
	authWord   = "auth"
	backWord   = "back"
)

// sealNums is how many numbers stand behind the first word of a seal's text.
const sealNums = 6

// Seal is what is sealed with a key, so that just who has that can read it, or make it.
type Seal struct {
	Key  int
	Kind int
	A    int
	B    int
	C    int
	D    int
	E    int
}

// sealed is a seal as its kind has it, under the names of that kind.
type sealed interface {
	ok() bool
}

type ticketSeal struct {
	key, user, peer, held, from, until int
}

type partSeal struct {
	key, peer, held, num, until int
}

type authSeal struct {
	key, user, time, num int
}

type backSeal struct {
	key, time, num int
}

// SealOk says whether a seal is ok.
func SealOk(s Seal) bool {
	_, ok := okSealed(s)
	return ok
}

// SealText is the text of a seal.
func SealText(s Seal) string {
	x, ok := okSealed(s)
	if !ok {
		return ""
	}
	words := []string{sealWord(x)}
	for _, n := range [sealNums]int{s.Key, s.A, s.B, s.C, s.D, s.E} {
		words = append(words, strconv.Itoa(n))
	}
	return strings.Join(words, " ")
}

// SealRead is the seal of a text.
func SealRead(text string) (Seal, bool) {
	words := strings.SplitN(text, " ", sealNums+2)
	if len(words) != sealNums+1 {
		return Seal{}, false
	}
	n, ok := readSealNums(words[1:])
	if !ok {
		return Seal{}, false
	}
	s := Seal{Key: n[0], Kind: sealKind(words[0]), A: n[1], B: n[2], C: n[3], D: n[4], E: n[5]}
	// A number can be spelt in many ways (07, +7, -0), of which a seal's text has one.
	if !SealOk(s) || SealText(s) != text {
		return Seal{}, false
	}
	return s, true
}

// SealHolds is the key that is in a seal; 0, if there is none.
func SealHolds(s Seal) int {
	x, ok := okSealed(s)
	if !ok {
		return 0
	}
	return heldKey(x)
}

// okSealed is a seal as its kind has it, if it is ok.
func okSealed(s Seal) (sealed, bool) {
	x := sealedOf(s)
	if x == nil || !x.ok() {
		return nil, false
	}
	return x, true
}

// sealedOf is nil of what is of no kind, and of what has more in it than its kind has a name for.
func sealedOf(s Seal) sealed {
	switch {
	case s.Kind == SealTicket:
		return ticketSeal{key: s.Key, user: s.A, peer: s.B, held: s.C, from: s.D, until: s.E}
	case s.Kind == SealPart && s.E == 0:
		return partSeal{key: s.Key, peer: s.A, held: s.B, num: s.C, until: s.D}
	case s.Kind == SealAuth && s.D == 0 && s.E == 0:
		return authSeal{key: s.Key, user: s.A, time: s.B, num: s.C}
	case s.Kind == SealBack && s.C == 0 && s.D == 0 && s.E == 0:
		return backSeal{key: s.Key, time: s.A, num: s.B}
	}
	return nil
}

// ok asks for the key of who the ticket is for, as nobody else may look into it.
func (t ticketSeal) ok() bool {
	return t.key == t.peer && isUser(t.user) && isPeer(t.peer) && isMadeKey(t.held) && isTime(t.from) && isTime(t.until)
}

// ok takes a user's key, for a first ticket, or one made for some time, for those behind it.
func (p partSeal) ok() bool {
	return (isUser(p.key) || isMadeKey(p.key)) && isPeer(p.peer) && isMadeKey(p.held) && isNum(p.num) && isTime(p.until)
}

func (a authSeal) ok() bool {
	return isMadeKey(a.key) && isUser(a.user) && isTime(a.time) && isNum(a.num)
}

func (b backSeal) ok() bool {
	return isMadeKey(b.key) && isTime(b.time) && isNum(b.num)
}

// sealWord is the first word of the text of such a seal.
func sealWord(x sealed) string {
	switch x.(type) {
	case ticketSeal:
		return ticketWord
	case partSeal:
		return partWord
	case authSeal:
		return authWord
	case backSeal:
		return backWord
	}
	return ""
}

// heldKey is the key in such a seal; 0, if its kind has none.
func heldKey(x sealed) int {
	switch y := x.(type) {
	case ticketSeal:
		return y.held
	case partSeal:
		return y.held
	}
	return 0
}

// sealKind is the kind whose word this is; 0, which is none, of any other word.
func sealKind(word string) int {
	switch word {
	case ticketWord:
		return SealTicket
	case partWord:
		return SealPart
	case authWord:
		return SealAuth
	case backWord:
		return SealBack
	}
	return 0
}

// readSealNums reads as many words as a seal has numbers. It takes any spelling; who calls it asks whether that is the right one.
func readSealNums(words []string) ([sealNums]int, bool) {
	var nums [sealNums]int
	for i := range nums {
		n, err := strconv.Atoi(words[i])
		if err != nil {
			return nums, false
		}
		nums[i] = n
	}
	return nums, true
}

func isUser(n int) bool {
	return n >= 1 && n <= UserMax
}

func isServ(n int) bool {
	return n >= ServMin && n <= ServMax
}

// isPeer says whether a ticket can be for this one.
func isPeer(n int) bool {
	return isServ(n) || n == TgsId
}

// isMadeKey says whether this is a key made for some time, and not that of a user, a service, or who gives tickets.
func isMadeKey(n int) bool {
	return n >= KeyFirst && n <= KeyMax
}

func isTime(n int) bool {
	return n >= 0 && n <= TimeMax
}

func isNum(n int) bool {
	return n >= 1 && n <= NumMax
}
