package tests

import (
	"math/rand"
	"slices"
	"strconv"
	"strings"
	"testing"

	"loop.example/cerberus/impl"
)

// checkMsg holds all that is told of a word against the document's table.
func checkMsg(t *testing.T, m impl.Msg) {
	t.Helper()
	want := msgWanted(m)
	if got := impl.MsgOk(m); got != want {
		t.Errorf("MsgOk(%v) = %v; want %v", m, got, want)
	}
	if got := impl.MsgText(m); (got != "") != want {
		t.Errorf("MsgText(%v) = %q; in form is %v", m, got, want)
	}
}

// checkMsgRead holds what MsgRead answers against the document's tables.
func checkMsgRead(t *testing.T, text string) bool {
	t.Helper()
	want, wantOk := msgReadWanted(text)
	got, gotOk := impl.MsgRead(text)
	if !sameMsg(got, want) || gotOk != wantOk {
		t.Errorf("MsgRead(%.250q) = %v, %v; want %v, %v", text, got, gotOk, want, wantOk)
	}
	if gotOk && (!impl.MsgOk(got) || impl.MsgText(got) != text) {
		t.Errorf("MsgRead(%q) = %v, which is not in form, or has the text %q", text, got, impl.MsgText(got))
	}
	return gotOk
}

func TestKindsOfWords(t *testing.T) {
	got := [...]int{impl.MsgAsAsk, impl.MsgAsGive, impl.MsgTgsAsk, impl.MsgTgsGive, impl.MsgApAsk, impl.MsgApBack}
	if want := [...]int{1, 2, 3, 4, 5, 6}; got != want {
		t.Errorf("kinds are %v; want %v", got, want)
	}
}

func TestMsgTexts(t *testing.T) {
	ticket, first := impl.Seal{Key: 4, Kind: 1, A: 1, B: 4, C: 11, D: 2, E: 14}, impl.Seal{Key: 6, Kind: 1, A: 3, B: 6, C: 60, D: 100, E: 100}
	part, auth, back := impl.Seal{Key: 10, Kind: 2, A: 4, B: 11, C: 3, D: 14}, impl.Seal{Key: 60, Kind: 3, A: 3, B: 100, C: 59}, impl.Seal{Key: 11, Kind: 4, A: 0, B: 1}
	for text, m := range map[string]impl.Msg{
		"1 2 0 7\n":  {Kind: 1, Client: 2, Nonce: 7},
		"1 1 0 1\n":  {Kind: 1, Client: 1, Nonce: 1},
		"1 3 0 60\n": {Kind: 1, Client: 3, Nonce: 60},
		"2 3 0 0\nticket 6 3 6 60 100 100\npart 10 4 11 3 14 0\n":   {Kind: 2, Client: 3, Seals: []impl.Seal{first, part}},
		"3 0 5 60\nticket 6 3 6 60 100 100\nauth 60 3 100 59 0 0\n": {Kind: 3, Serv: 5, Nonce: 60, Seals: []impl.Seal{first, auth}},
		"4 1 0 0\nticket 4 1 4 11 2 14\npart 10 4 11 3 14 0\n":      {Kind: 4, Client: 1, Seals: []impl.Seal{ticket, part}},
		"5 0 4 0\nticket 4 1 4 11 2 14\nauth 60 3 100 59 0 0\n":     {Kind: 5, Serv: 4, Seals: []impl.Seal{ticket, auth}},
		"5 0 4 0\nback 11 0 1 0 0 0\nback 11 0 1 0 0 0\n":           {Kind: 5, Serv: 4, Seals: []impl.Seal{back, back}},
		"6 2 0 0\nback 11 0 1 0 0 0\n":                              {Kind: 6, Client: 2, Seals: []impl.Seal{back}},
	} {
		if got := impl.MsgText(m); got != text {
			t.Errorf("MsgText(%v) = %q; want %q", m, got, text)
		}
		if got, ok := impl.MsgRead(text); !sameMsg(got, m) || !ok {
			t.Errorf("MsgRead(%q) = %v, %v; want %v", text, got, ok, m)
		}
	}
}

// P9: A word in form is read back from its text.
func TestP9WordIsReadBack(t *testing.T) {
	for _, m := range edgeMsgs() {
		if !impl.MsgOk(m) {
			t.Errorf("MsgOk(%v) = false", m)
		}
		text := impl.MsgText(m)
		if got, ok := impl.MsgRead(text); !sameMsg(got, m) || !ok {
			t.Errorf("%v has the text %q, which is read as %v, %v", m, text, got, ok)
		}
	}
}

// P9: with each seal at the limits, in each place.
func TestP9WithEdgeSeals(t *testing.T) {
	for _, m := range fewMsgs() {
		for i := range m.Seals {
			for _, s := range edgeSeals() {
				m := ownMsg(m)
				m.Seals[i] = s
				text := impl.MsgText(m)
				if got, ok := impl.MsgRead(text); !sameMsg(got, m) || !ok {
					t.Errorf("%v has the text %q, which is read as %v, %v", m, text, got, ok)
				}
			}
		}
	}
}

// P9: the longest text that a word in form can have.
func TestP9LongestText(t *testing.T) {
	ticket := impl.Seal{Key: 6, Kind: 1, A: 3, B: 6, C: 60, D: 100, E: 100}
	text := impl.MsgText(impl.Msg{Kind: 3, Serv: 5, Nonce: 60, Seals: []impl.Seal{ticket, ticket}})
	if want := "3 0 5 60\nticket 6 3 6 60 100 100\nticket 6 3 6 60 100 100\n"; text != want {
		t.Errorf("the longest text is %q; want %q", text, want)
	}
	checkMsgRead(t, text)
	for _, m := range edgeMsgs() {
		if n := len(impl.MsgText(m)); n > len(text) {
			t.Errorf("%v has a text of %d bytes", m, n)
		}
	}
}

// P10: What MsgRead reads is in form, and the text is its own.
func TestP10BentTexts(t *testing.T) {
	for _, m := range fewMsgs() {
		for _, text := range bentTexts(impl.MsgText(m)) {
			checkMsgRead(t, text)
		}
	}
}

// P10: What MsgRead reads is in form, and the text is its own: of every way to be no text one.
func TestP10WrongTexts(t *testing.T) {
	seals := "ticket 4 1 4 10 2 14\nauth 10 1 3 2 0 0\n"
	back := "back 31 100 42 0 0 0\n"
	long := strings.Repeat("1", 100000)
	for _, text := range []string{
		"", " ", "\n", "\n\n", "   \n", "\x00", "\xff\xfe\n", "1", "1 2 0", "1 2 0 7", "1 2 0 7\r\n", "1 2 0 7\r", "1 2 0 7\n\n", "\n1 2 0 7\n", "1 2 0 7\n ", "1 2 0 7\n1", "1 2 0 7\n\x00",
		"01 2 0 7\n", "1 02 0 7\n", "1 2 00 7\n", "1 2 0 07\n", "1 2 0 007\n", "+1 2 0 7\n", "1 +2 0 7\n", "1 2 +0 7\n", "1 2 -0 7\n", "1 2 0 +7\n", "1 2 0 -7\n", "-1 2 0 7\n",
		"1  2 0 7\n", "1 2  0 7\n", "1 2 0  7\n", " 1 2 0 7\n", "1 2 0 7 \n", "1 2 0 7  \n", "1\t2 0 7\n", "1 2 0 7\t\n", "1\u00a02 0 7\n", "\ufeff1 2 0 7\n", "1 2 0 \uff17\n",
		"1 2 0\n", "1 2 7\n", "1 2 0 7 0\n", "1 2 0 7 0 0\n", "1 2 0 \n", "1 2\n0 7\n", "1 2 0 0x7\n", "1 2 0 1_0\n", "1 2 0 7.0\n", "1 2 0 1e1\n", "as 2 0 7\n", "1 2 0 seven\n",
		"0 2 0 7\n", "7 2 0 7\n", "1 0 0 7\n", "1 4 0 7\n", "1 2 4 7\n", "1 2 0 0\n", "1 2 0 61\n", "1 2 6 7\n", "0 0 0 0\n", "7 2 0 0\n" + back,
		"1 18446744073709551618 0 7\n", "18446744073709551617 2 0 7\n", "1 2 18446744073709551616 7\n", "1 2 0 18446744073709551623\n", "1 2 0 4294967303\n", "1 2 0 263\n", "1 2 0 9223372036854775808\n", "1 2 0 -9223372036854775809\n", "1 2 0 " + long + "\n",
		"1 2 0 7\n" + back, "6 1 0 0\n", "6 1 0 0\n" + back + back, "6 1 0 0\n" + back + "\n", "6 1 0 0\n\n" + back, "6 1 0 7\n" + back, "6 0 4 0\n" + back, "6 1 4 0\n" + back, "6 0 0 0\n" + back,
		"6 1 0 0\n" + back[:len(back)-1], "6 1 0 0\nback 31 100 42 0 0 0 \n", "6 1 0 0\n back 31 100 42 0 0 0\n", "6 1 0 0\nback 31 100  42 0 0 0\n", "6 1 0 0\nback 31 100 042 0 0 0\n", "6 1 0 0\nback 31 101 42 0 0 0\n", "6 1 0 0\nback +31 100 42 0 0 0\n", "6 1 0 0\r\n" + back,
		"6 1 0 0 " + back, "6 1 0 0", "back 31 100 42 0 0 0\n6 1 0 0\n", back, seals,
		"5 1 4 0\n" + seals, "5 0 0 0\n" + seals, "5 0 3 0\n" + seals, "5 0 6 0\n" + seals, "5 0 4 1\n" + seals, "5 0 4 0\n", "5 0 4 0\n" + back, "5 0 4 0\n" + seals + back, "5 0 4 0\n" + seals + "\n", "5 0 4 0\n" + seals[:len(seals)-1],
		"3 0 4 0\n" + seals, "3 0 4 61\n" + seals, "3 1 4 1\n" + seals, "3 0 6 1\n" + seals, "3 1 0 1\n" + seals, "3 0 4 1\n" + back,
		"2 0 0 0\n" + seals, "2 4 0 0\n" + seals, "2 1 4 0\n" + seals, "2 1 0 1\n" + seals, "2 1 0 0\n" + back, "4 1 0 1\n" + seals, "4 1 4 0\n" + seals, "4 0 4 0\n" + seals, "4 1 0 0\n", "4 1 0 0\n" + seals + seals,
		strings.Repeat("1 2 0 7\n", 10000), strings.Repeat("\n", 100000), strings.Repeat(" ", 100000), long,
	} {
		if got, ok := impl.MsgRead(text); ok || !sameMsg(got, impl.Msg{}) {
			t.Errorf("MsgRead(%.80q) = %v, %v; want nothing", text, got, ok)
		}
		if _, ok := msgReadWanted(text); ok {
			t.Errorf("%.80q is a word's text, and no wrong one", text)
		}
	}
}

// P10: a text of just 200 bytes, and one of one byte more; a word in form has none so long, in whatever way it is made longer.
func TestP10LongTexts(t *testing.T) {
	for _, m := range fewMsgs() {
		text := impl.MsgText(m)
		for size := 190; size <= 210; size++ {
			fill := size - len(text)
			line := strings.Repeat("auth 10 1 3 2 0 0\n", 20)
			for _, longer := range []string{
				strings.Repeat("0", fill) + text,
				strings.Repeat(" ", fill) + text,
				strings.Repeat("\n", fill) + text,
				text + strings.Repeat("\n", fill),
				text + strings.Repeat(" ", fill),
				text + strings.Repeat("\x00", fill),
				text + line[:fill],
				text + line[len(line)-fill:],
				strings.Repeat(text, 30)[:size],
				text[:len(text)-2] + strings.Repeat("0", fill) + text[len(text)-2:],
			} {
				if len(longer) != size {
					t.Fatalf("%q has %d bytes; want %d", longer, len(longer), size)
				}
				if checkMsgRead(t, longer) {
					t.Errorf("MsgRead(%q) = true", longer)
				}
			}
		}
	}
}

// P10: What MsgRead reads is in form, and the text is its own: lines of all kinds one behind the other.
func TestP10RandomTexts(t *testing.T) {
	r := rand.New(rand.NewSource(2))
	odd := []string{"", "-1", "+1", "00", "01", "x", "\n", "18446744073709551617"}
	seals := []string{"", " ", "back 10 0 1 0 0 00", "auth 9 1 1 1 0 0"}
	for range 8 {
		for _, s := range fewSeals() {
			seals = append(seals, impl.SealText(s))
		}
	}
	read := map[int]int{}
	for range 300000 {
		nums := []string{strconv.Itoa(r.Intn(8))}
		for range 3 {
			nums = append(nums, strconv.Itoa([]int{0, 0, 0, 1, 3, 4, 5, 6, 60, r.Intn(63)}[r.Intn(10)]))
		}
		if r.Intn(20) == 0 {
			nums[r.Intn(4)] = odd[r.Intn(len(odd))]
		}
		text := strings.Join(nums, " ") + "\n"
		for range r.Intn(4) {
			text += seals[r.Intn(len(seals))] + "\n"
		}
		if checkMsgRead(t, text) {
			read[int(text[0]-'0')]++
		}
	}
	for kind := 1; kind <= 6; kind++ {
		if read[kind] < 20 {
			t.Errorf("just %d of the texts were those of words of kind %d", read[kind], kind)
		}
	}
}

// P11: Of words in form the texts are the same just if they are.
func TestP11TextsDiffer(t *testing.T) {
	seen := map[string]impl.Msg{}
	for _, m := range edgeMsgs() {
		text := impl.MsgText(m)
		if other, ok := seen[text]; ok {
			t.Errorf("%v and %v have one text, %q", m, other, text)
		}
		seen[text] = m
		if impl.MsgText(ownMsg(m)) != text {
			t.Errorf("%v has two texts", m)
		}
	}
	if len(seen) != len(edgeMsgs()) {
		t.Errorf("%d texts of %d words", len(seen), len(edgeMsgs()))
	}
}

// P11: the empty list and the nil list of seals are the same.
func TestP11EmptyAndNil(t *testing.T) {
	for _, m := range bareMsgs() {
		empty := m
		empty.Seals = []impl.Seal{}
		room := m
		room.Seals = fewSeals()[:0]
		for _, other := range []impl.Msg{empty, room} {
			if impl.MsgOk(m) != impl.MsgOk(other) || impl.MsgText(m) != impl.MsgText(other) || impl.MsgOk(m) != (m.Kind == 1) {
				t.Errorf("%v is told otherwise with an empty list", m)
			}
		}
	}
}

// P12: A word in form tells either a user, or a service; a number just if something is asked for; no seal, one, or
// two, all ok.
func TestP12WhatAWordTells(t *testing.T) {
	some := []int{-1 << 63, -1, 0, 1, 2, 3, 4, 5, 6, 7, 59, 60, 61, 1<<63 - 1}
	for kind := -1; kind <= 8; kind++ {
		for _, client := range some {
			for _, serv := range some {
				for _, nonce := range some {
					for count := range 4 {
						m := impl.Msg{Kind: kind, Client: client, Serv: serv, Nonce: nonce, Seals: fewSeals()[:count]}
						checkMsg(t, m)
						if impl.MsgOk(m) {
							checkTells(t, m)
						}
					}
				}
			}
		}
	}
}

func checkTells(t *testing.T, m impl.Msg) {
	t.Helper()
	user, serv := userWanted(m.Client) && m.Serv == 0, servWanted(m.Serv) && m.Client == 0
	asks := m.Kind == impl.MsgAsAsk || m.Kind == impl.MsgTgsAsk
	if user == serv || asks != (m.Nonce != 0) || asks && !numWanted(m.Nonce) || len(m.Seals) != sealCount(m.Kind) {
		t.Errorf("%v is in form", m)
	}
}

// P12: the whole table, with one thing of a word in form being odd, and then with two.
func TestP12BentWords(t *testing.T) {
	checkMsg(t, impl.Msg{})
	for _, m := range edgeMsgs() {
		checkMsg(t, m)
	}
	for _, m := range bareMsgs() {
		m = withSeals(m, fewSeals()[:sealCount(m.Kind)]...)
		for _, bent := range bentMsgs(m) {
			checkMsg(t, bent)
		}
	}
	for _, m := range fewMsgs() {
		for _, bent := range bentMsgs(m) {
			for _, twice := range bentMsgs(bent) {
				checkMsg(t, twice)
			}
		}
	}
}

// P12: a user, a service, and a number at the limits, and one beside them.
func TestP12Limits(t *testing.T) {
	for _, m := range fewMsgs() {
		for n := -3; n <= 130; n++ {
			for i := range msgPlaces(&m) {
				bent := ownMsg(m)
				*msgPlaces(&bent)[i] = n
				checkMsg(t, bent)
			}
		}
	}
}

// P12: seals that are not ok, in each place.
func TestP12WrongSeals(t *testing.T) {
	for _, m := range fewMsgs() {
		for i := range m.Seals {
			for _, s := range fewSeals() {
				for _, wrong := range append(bentSeals(s), wrongSeals()...) {
					bent := ownMsg(m)
					bent.Seals[i] = wrong
					checkMsg(t, bent)
				}
			}
		}
	}
}

// P13: A word in form is so with any other seals that are ok, as many, in any order; with one less, or one more, it
// is not.
func TestP13OtherSeals(t *testing.T) {
	for _, m := range bareMsgs() {
		right := sealCount(m.Kind)
		for count := range 4 {
			for _, list := range sealLists(count, fewSeals()) {
				other := withSeals(m, list...)
				if impl.MsgOk(other) != (count == right) {
					t.Errorf("MsgOk(%v) = %v", other, impl.MsgOk(other))
				}
				slices.Reverse(other.Seals)
				if impl.MsgOk(other) != (count == right) {
					t.Errorf("MsgOk(%v) = %v", other, impl.MsgOk(other))
				}
			}
		}
	}
}

// P13: many seals more.
func TestP13ManySeals(t *testing.T) {
	for _, m := range bareMsgs() {
		for _, count := range []int{3, 4, 10, 256, 257, 258, 65536, 65538} {
			many := withSeals(m, slices.Repeat(fewSeals()[:1], count)...)
			if impl.MsgOk(many) || impl.MsgText(many) != "" {
				t.Errorf("kind %d is in form with %d seals", m.Kind, count)
			}
		}
	}
}

// P14: A word's text without its last byte is read as none; two one behind the other, too.
func TestP14ByteLessOrTwo(t *testing.T) {
	var texts []string
	for _, m := range bareMsgs() {
		texts = append(texts, impl.MsgText(withSeals(m, fewSeals()[:sealCount(m.Kind)]...)))
	}
	for _, m := range edgeMsgs() {
		text := impl.MsgText(m)
		if text == "" {
			t.Fatalf("%v has no text", m)
		}
		if got, ok := impl.MsgRead(text[:len(text)-1]); ok || !sameMsg(got, impl.Msg{}) {
			t.Errorf("%q without its last byte is read as %v", text, got)
		}
		for _, other := range append([]string{text}, texts...) {
			if got, ok := impl.MsgRead(text + other); ok || !sameMsg(got, impl.Msg{}) {
				t.Errorf("%q is read as %v", text+other, got)
			}
		}
	}
}

// P15: A word in form that gives a ticket, first or not, is so of the other kind; no other one is in form as another
// kind.
func TestP15OtherKinds(t *testing.T) {
	gives := []int{impl.MsgAsGive, impl.MsgTgsGive}
	for _, m := range edgeMsgs() {
		for kind := -10; kind <= 20; kind++ {
			other := m
			other.Kind = kind
			want := kind == m.Kind || slices.Contains(gives, kind) && slices.Contains(gives, m.Kind)
			if got := impl.MsgOk(other); got != want {
				t.Errorf("%v is in form as kind %d: %v; want %v", m, kind, got, want)
			}
		}
	}
}

// What MsgRead answers shares nothing with another answer, and no argument is written into, or behind its end.
func TestMsgMemory(t *testing.T) {
	for _, m := range edgeMsgs() {
		text := impl.MsgText(m)
		one, _ := impl.MsgRead(text)
		two, _ := impl.MsgRead(text)
		room := one.Seals[:cap(one.Seals)]
		for i := range room {
			room[i] = impl.Seal{Key: -1}
		}
		if !sameMsg(two, m) {
			t.Errorf("%v became %v with another answer", m, two)
		}
		if three, ok := impl.MsgRead(text); !ok || !sameMsg(three, m) {
			t.Errorf("%v is now read as %v", m, three)
		}
	}
	for _, m := range fewMsgs() {
		for _, bent := range append(bentMsgs(m), m) {
			held := append(slices.Clone(bent.Seals), wrongSeals()...)
			before := slices.Clone(held)
			bent.Seals = held[:len(bent.Seals)]
			impl.MsgOk(bent)
			impl.MsgText(bent)
			if !slices.Equal(held, before) {
				t.Errorf("%v was written into", bent)
			}
		}
	}
}
