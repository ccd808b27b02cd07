package tests

import (
	"math"
	"math/rand"
	"strconv"
	"strings"
	"testing"

	"loop.example/cerberus/impl"
)

// checkRead holds what SealRead answers against the document's table.
func checkRead(t *testing.T, text string) {
	t.Helper()
	want, wantOk := readWanted(text)
	got, gotOk := impl.SealRead(text)
	if got != want || gotOk != wantOk {
		t.Errorf("SealRead(%q) = %v, %v; want %v, %v", text, got, gotOk, want, wantOk)
	}
	if gotOk && (!impl.SealOk(got) || impl.SealText(got) != text) {
		t.Errorf("SealRead(%q) = %v, which is not ok, or has the text %q", text, got, impl.SealText(got))
	}
}

// checkSeal holds all that is told of a seal against the document's table.
func checkSeal(t *testing.T, s impl.Seal) {
	t.Helper()
	want := sealWanted(s)
	if got := impl.SealOk(s); got != want {
		t.Errorf("SealOk(%v) = %v; want %v", s, got, want)
	}
	if got := impl.SealHolds(s); got != holdsWanted(s) {
		t.Errorf("SealHolds(%v) = %d; want %d", s, got, holdsWanted(s))
	}
	if got := impl.SealText(s); !want && got != "" {
		t.Errorf("SealText(%v) = %q; want none", s, got)
	}
}

func TestLimits(t *testing.T) {
	got := [...]int{impl.UserMax, impl.ServMin, impl.ServMax, impl.TgsId, impl.KeyFirst, impl.KeyMax, impl.TimeMax, impl.NumMax,
		impl.SealTicket, impl.SealPart, impl.SealAuth, impl.SealBack}
	if want := [...]int{3, 4, 5, 6, 10, 60, 100, 60, 1, 2, 3, 4}; got != want {
		t.Errorf("limits and kinds are %v; want %v", got, want)
	}
}

func TestSealTexts(t *testing.T) {
	for text, s := range map[string]impl.Seal{
		"ticket 4 1 4 10 2 14":    {Key: 4, Kind: 1, A: 1, B: 4, C: 10, D: 2, E: 14},
		"ticket 6 3 6 60 100 100": {Key: 6, Kind: 1, A: 3, B: 6, C: 60, D: 100, E: 100},
		"ticket 5 2 5 59 9 0":     {Key: 5, Kind: 1, A: 2, B: 5, C: 59, D: 9, E: 0},
		"part 1 6 10 1 0 0":       {Key: 1, Kind: 2, A: 6, B: 10, C: 1},
		"part 3 4 11 3 9 0":       {Key: 3, Kind: 2, A: 4, B: 11, C: 3, D: 9},
		"part 60 5 60 60 100 0":   {Key: 60, Kind: 2, A: 5, B: 60, C: 60, D: 100},
		"auth 12 3 0 60 0 0":      {Key: 12, Kind: 3, A: 3, C: 60},
		"auth 10 1 100 1 0 0":     {Key: 10, Kind: 3, A: 1, B: 100, C: 1},
		"back 10 0 1 0 0 0":       {Key: 10, Kind: 4, B: 1},
		"back 60 100 60 0 0 0":    {Key: 60, Kind: 4, A: 100, B: 60},
	} {
		if got := impl.SealText(s); got != text {
			t.Errorf("SealText(%v) = %q; want %q", s, got, text)
		}
		if got, ok := impl.SealRead(text); got != s || !ok {
			t.Errorf("SealRead(%q) = %v, %v; want %v", text, got, ok, s)
		}
	}
}

// P1: A seal that is ok is read back from its text.
func TestP1SealIsReadBack(t *testing.T) {
	for _, s := range edgeSeals() {
		if !impl.SealOk(s) {
			t.Errorf("SealOk(%v) = false", s)
		}
		text := impl.SealText(s)
		if got, ok := impl.SealRead(text); got != s || !ok {
			t.Errorf("%v has the text %q, which is read as %v, %v", s, text, got, ok)
		}
	}
}

// P1, P3: the texts of all seals that tell of oneself, or answer, one by one.
func TestP1P3AllToldAndAnswered(t *testing.T) {
	seen := map[string]bool{}
	check := func(s impl.Seal) {
		text := impl.SealText(s)
		if got, ok := impl.SealRead(text); got != s || !ok || seen[text] {
			t.Fatalf("%v has the text %q, which is read as %v, %v, and is another one's: %v", s, text, got, ok, seen[text])
		}
		seen[text] = true
	}
	for key := 10; key <= 60; key++ {
		for time := 0; time <= 100; time++ {
			for num := 1; num <= 60; num++ {
				check(impl.Seal{Key: key, Kind: impl.SealBack, A: time, B: num})
				check(impl.Seal{Key: key, Kind: impl.SealAuth, A: 1 + (key+time+num)%3, B: time, C: num})
			}
		}
	}
}

// P2: What SealRead reads is ok, and the text is its own.
func TestP2BentTexts(t *testing.T) {
	for _, s := range fewSeals() {
		for _, text := range bentTexts(impl.SealText(s)) {
			checkRead(t, text)
		}
	}
}

// P2: What SealRead reads is ok, and the text is its own: of every way to be no text one.
func TestP2WrongTexts(t *testing.T) {
	long := strings.Repeat("1", 100000)
	for _, text := range []string{
		"", " ", "      ", "\n", "\x00", "\xff\xfe", "ticket", "ticket ", "part", "auth", "back", "4 1 4 10 2 14",
		"ticket 04 1 4 10 2 14", "ticket 4 01 4 10 2 14", "ticket 4 1 04 10 2 14", "ticket 4 1 4 010 2 14", "ticket 4 1 4 10 02 14", "ticket 4 1 4 10 2 014", "ticket 4 1 4 10 00 14",
		"auth 12 3 0 60 0 00", "auth 12 3 00 60 0 0", "back 10 0 1 0 0 000",
		"ticket +4 1 4 10 2 14", "ticket 4 1 4 10 +2 14", "auth 12 3 -0 60 0 0", "auth 12 3 +0 60 0 0", "auth 12 3 0 60 0 -0", "auth 12 3 -1 60 0 0", "auth -12 3 1 60 0 0",
		"ticket  4 1 4 10 2 14", "ticket 4 1 4 10  2 14", "ticket 4 1 4 10 2 14 ", "ticket 4 1 4 10 2 14  ", " ticket 4 1 4 10 2 14", "ticket 4 1 4 10 2 ",
		"ticket\t4 1 4 10 2 14", "ticket 4\t1 4 10 2 14", "ticket 4 1 4 10 2 14\n", "ticket 4 1 4 10 2 14\r\n", "ticket 4 1 4 10 2 14\x00", "ticket\u00a04 1 4 10 2 14", "\ufeffticket 4 1 4 10 2 14",
		"ticket 4 1 4 10 2", "ticket 4 1 4 10 2 14 0", "ticket 4 1 4 10 2 14 0 0", "part 2 6 11 3 9", "part 2 6 11 3 9 0 0", "auth 12 3 0 60", "auth 12 3 0 60 0", "auth 12 3 0 60 0 0 0", "back 10 0 1", "back 10 0 1 0 0", "back 10 0 1 0 0 0 0",
		"Ticket 4 1 4 10 2 14", "TICKET 4 1 4 10 2 14", "tickets 4 1 4 10 2 14", "icket 4 1 4 10 2 14", "none 4 1 4 10 2 14", "1 4 1 4 10 2 14", "seal 10 0 1 0 0 0", "4 10 0 1 0 0 0",
		"ticket 4 1 4 0xa 2 14", "ticket 4 1 4 1_0 2 14", "ticket 4 1 4 10.0 2 14", "ticket 4 1 4 1e1 2 14", "ticket 4 1 4 ten 2 14", "ticket 4 1 4 \uff11\uff10 2 14", "ticket 4 1 4 \u0661\u0660 2 14",
		"ticket 4 1 5 10 2 14", "ticket 1 1 1 10 2 14", "ticket 10 1 10 10 2 14", "auth 3 3 0 1 0 0", "back 6 1 1 0 0 0", "part 4 6 11 3 9 0", "part 6 6 11 3 9 0", "part 2 6 11 3 9 1",
		"auth 10 3 101 1 0 0", "auth 10 4 1 1 0 0", "auth 10 3 1 61 0 0", "back 10 1 0 0 0 0", "back 61 1 1 0 0 0", "ticket 7 1 7 10 2 14", "ticket 3 1 3 10 2 14",
		"auth 18446744073709551626 3 0 1 0 0", "auth 4294967306 3 0 1 0 0", "auth 266 3 0 1 0 0", "back 10 18446744073709551616 1 0 0 0", "back 10 0 1 0 0 18446744073709551616", "back 10 0 1 0 0 -18446744073709551616",
		"back 10 9223372036854775807 1 0 0 0", "back 10 9223372036854775808 1 0 0 0", "back 10 -9223372036854775808 1 0 0 0", "back 10 -9223372036854775809 1 0 0 0",
		"back 10 " + long + " 1 0 0 0", "back 10 0 1 0 0 " + strings.Repeat("0", 100000), strings.Repeat("back 10 0 1 0 0 0 ", 10000), strings.Repeat(" ", 100000), long,
	} {
		if got, ok := impl.SealRead(text); ok || got != (impl.Seal{}) {
			t.Errorf("SealRead(%.60q) = %v, %v; want nothing", text, got, ok)
		}
	}
}

// P2: What SealRead reads is ok, and the text is its own: words of all kinds one behind the other.
func TestP2RandomTexts(t *testing.T) {
	r := rand.New(rand.NewSource(1))
	first := []string{"ticket", "part", "auth", "back", "", "ticket ", "tick"}
	odd := []string{"", "-1", "+1", "00", "01", "101", "61", "x", "\n", "18446744073709551617"}
	read := 0
	for range 300000 {
		words := []string{first[r.Intn(len(first))]}
		for range 5 + r.Intn(20)/10 + r.Intn(20)/19 {
			words = append(words, strconv.Itoa([]int{0, 1, 3, 4, 5, 6, 10, 60, r.Intn(103)}[r.Intn(9)]))
			if r.Intn(60) == 0 {
				words[len(words)-1] = odd[r.Intn(len(odd))]
			}
		}
		text := strings.Join(words, " ")
		checkRead(t, text)
		if _, ok := impl.SealRead(text); ok {
			read++
		}
	}
	if read < 100 {
		t.Errorf("just %d of the texts were those of seals", read)
	}
}

// P3: Of seals that are ok the texts are the same just if they are.
func TestP3TextsDiffer(t *testing.T) {
	seen := map[string]impl.Seal{}
	for _, s := range edgeSeals() {
		text := impl.SealText(s)
		if other, ok := seen[text]; ok && other != s {
			t.Errorf("%v and %v have one text, %q", s, other, text)
		}
		seen[text] = s
		if again := s; impl.SealText(again) != text {
			t.Errorf("%v has two texts", s)
		}
	}
	if len(seen) != len(edgeSeals()) {
		t.Errorf("%d texts of %d seals", len(seen), len(edgeSeals()))
	}
}

// P4: A ticket is sealed with the key of who it is for; what one tells of oneself, and what is answered, with a key
// made for some time; just tickets and parts have such a key in them.
func TestP4WhoseKeys(t *testing.T) {
	for _, s := range edgeSeals() {
		for _, bent := range append(bentSeals(s), s) {
			if !impl.SealOk(bent) {
				continue
			}
			switch bent.Kind {
			case impl.SealTicket:
				if bent.Key != bent.B || !peerWanted(bent.Key) || impl.SealHolds(bent) != bent.C {
					t.Errorf("ticket %v, with %d in it", bent, impl.SealHolds(bent))
				}
			case impl.SealPart:
				if !userWanted(bent.Key) && !keyWanted(bent.Key) || impl.SealHolds(bent) != bent.B {
					t.Errorf("part %v, with %d in it", bent, impl.SealHolds(bent))
				}
			default:
				if !keyWanted(bent.Key) || impl.SealHolds(bent) != 0 {
					t.Errorf("%v, with %d in it", bent, impl.SealHolds(bent))
				}
			}
		}
	}
}

// P5: SealHolds is a key made for some time, or 0; 0 of what is not ok.
func TestP5Holds(t *testing.T) {
	check := func(s impl.Seal) {
		key := impl.SealHolds(s)
		if key != 0 && !keyWanted(key) || key != 0 && !impl.SealOk(s) {
			t.Errorf("SealHolds(%v) = %d", s, key)
		}
		if (key != 0) != (sealWanted(s) && (s.Kind == 1 || s.Kind == 2)) {
			t.Errorf("SealHolds(%v) = %d", s, key)
		}
	}
	for _, s := range edgeSeals() {
		check(s)
		for _, bent := range bentSeals(s) {
			check(bent)
		}
	}
	check(impl.Seal{})
}

// P6: A seal's text without its last byte is that of another seal, or of none; without its first one of none; with a
// blank more of none.
func TestP6ByteLessOrBlankMore(t *testing.T) {
	others := 0
	for _, s := range edgeSeals() {
		text := impl.SealText(s)
		if text == "" {
			t.Fatalf("%v has no text", s)
		}
		if got, ok := impl.SealRead(text[:len(text)-1]); ok && got == s {
			t.Errorf("%q is read without its last byte", text)
		} else if ok {
			others++
		}
		if got, ok := impl.SealRead(text[1:]); ok {
			t.Errorf("%q without its first byte is read as %v", text, got)
		}
		for i := range len(text) + 1 {
			if got, ok := impl.SealRead(text[:i] + " " + text[i:]); ok {
				t.Errorf("%q with a blank more at %d is read as %v", text, i, got)
			}
		}
	}
	if others == 0 {
		t.Error("no text without its last byte is that of another seal; a ticket until 99 is one")
	}
}

// P7: What is told of oneself, and what is answered, is ok with each key made for some time, and with no other; a
// ticket with none but that of who it is for.
func TestP7WithWhichKey(t *testing.T) {
	for _, s := range edgeSeals() {
		var keys []int
		for key := -70; key <= 400; key++ {
			keys = append(keys, key)
		}
		for _, key := range append(keys, oddNumbers()...) {
			want := keyWanted(key)
			switch s.Kind {
			case impl.SealTicket:
				want = key == s.B
			case impl.SealPart:
				want = keyWanted(key) || userWanted(key)
			}
			s.Key = key
			if got := impl.SealOk(s); got != want {
				t.Errorf("SealOk(%v) = %v; want %v", s, got, want)
			}
		}
	}
}

// P8: A seal is not ok with a time above TimeMax, a user above UserMax, or a number above NumMax in it.
func TestP8AboveLimits(t *testing.T) {
	users := map[int][]int{1: {1}, 3: {1}}
	times := map[int][]int{1: {4, 5}, 2: {4}, 3: {2}, 4: {1}}
	nums := map[int][]int{2: {3}, 3: {3}, 4: {2}}
	check := func(s impl.Seal, places []int, most int) {
		for _, i := range places {
			for _, over := range []int{1, 2, 40, 256, 1 << 32, math.MaxInt - most} {
				bent := s
				*numPlaces(&bent)[i] = most + over
				if impl.SealOk(bent) || impl.SealText(bent) != "" || impl.SealHolds(bent) != 0 {
					t.Errorf("%v is ok", bent)
				}
			}
			met := s
			*numPlaces(&met)[i] = most
			if !impl.SealOk(met) {
				t.Errorf("%v is not ok", met)
			}
		}
	}
	for _, s := range edgeSeals() {
		check(s, users[s.Kind], impl.UserMax)
		check(s, times[s.Kind], impl.TimeMax)
		check(s, nums[s.Kind], impl.NumMax)
	}
}

// P4, P5, P7, P8: the whole table, with one number of an ok seal, and then with two, being odd.
func TestTableOfSeals(t *testing.T) {
	checkSeal(t, impl.Seal{})
	for _, s := range edgeSeals() {
		checkSeal(t, s)
		for _, bent := range bentSeals(s) {
			checkSeal(t, bent)
		}
	}
	for _, s := range fewSeals() {
		for _, bent := range bentSeals(s) {
			for _, twice := range bentSeals(bent) {
				checkSeal(t, twice)
			}
		}
	}
}
