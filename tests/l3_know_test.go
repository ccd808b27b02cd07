package tests

import (
	"math/rand"
	"slices"
	"testing"

	"loop.example/cerberus/impl"
)

// subset says whether each of these is one of those.
func subset(these, those []int) bool {
	return !slices.ContainsFunc(these, func(n int) bool { return !slices.Contains(those, n) })
}

// keysIn is those of the keys that are keys.
func keysIn(keys []int) []int {
	return slices.DeleteFunc(slices.Clone(keys), func(n int) bool { return !within(n, 1, 60) })
}

// checkKnow holds what is told of keys and seals against the document.
func checkKnow(t *testing.T, c knowCase) {
	t.Helper()
	if got, want := impl.KnowKeys(c.keys, c.seals), keysWanted(c.keys, c.seals); !slices.Equal(got, want) {
		t.Errorf("KnowKeys(%v, %v) = %v; want %v", c.keys, c.seals, got, want)
	}
	if got, want := impl.KnowRead(c.keys, c.seals), sealsReadWanted(c.keys, c.seals); !slices.Equal(got, want) {
		t.Errorf("KnowRead(%v, %v) = %v; want %v", c.keys, c.seals, got, want)
	}
}

func TestKnowExamples(t *testing.T) {
	first, later := partOf(2, 6, 11), partOf(11, 4, 12)
	ticket, auth, wrong := ticketOf(2, 4, 12), authOf(12), impl.Seal{Key: 2, Kind: 2, A: 6, B: 11, C: 3, D: 9, E: 1}
	for _, c := range []struct {
		keys  []int
		seals []impl.Seal
		known []int
		read  []impl.Seal
	}{
		{[]int{2}, []impl.Seal{first, later, ticket, auth}, []int{2, 11, 12}, []impl.Seal{first, later, auth}},
		{[]int{2}, []impl.Seal{auth, ticket, later, first}, []int{2, 11, 12}, []impl.Seal{auth, later, first}},
		{[]int{1}, []impl.Seal{first, later, ticket, auth}, []int{1}, nil},
		{[]int{4}, []impl.Seal{first, later, ticket, auth}, []int{4, 12}, []impl.Seal{ticket, auth}},
		{[]int{11, 2, 11}, []impl.Seal{first, first}, []int{2, 11}, []impl.Seal{first, first}},
		{[]int{2}, []impl.Seal{wrong, later}, []int{2}, nil},
		{[]int{60, 61, 1, 0, -1}, nil, []int{1, 60}, nil},
		{[]int{7, 9, 8}, []impl.Seal{first}, []int{7, 8, 9}, nil},
		{nil, []impl.Seal{first, later, ticket, auth}, nil, nil},
	} {
		if got := impl.KnowKeys(c.keys, c.seals); !slices.Equal(got, c.known) {
			t.Errorf("KnowKeys(%v, %v) = %v; want %v", c.keys, c.seals, got, c.known)
		}
		if got := impl.KnowRead(c.keys, c.seals); !slices.Equal(got, c.read) {
			t.Errorf("KnowRead(%v, %v) = %v; want %v", c.keys, c.seals, got, c.read)
		}
	}
}

// P16: With one more key, or seal, KnowKeys has all that it had; it has all keys that one had; it is ascending.
func TestP16OneMore(t *testing.T) {
	r := rand.New(rand.NewSource(16))
	odd := oddNumbers()
	for _, c := range knowCases() {
		checkKnow(t, c)
		known := impl.KnowKeys(c.keys, c.seals)
		if !subset(keysIn(c.keys), known) {
			t.Errorf("KnowKeys(%v, %v) = %v, without a key that one had", c.keys, c.seals, known)
		}
		for i := 1; i < len(known); i++ {
			if known[i-1] >= known[i] {
				t.Errorf("KnowKeys(%v, %v) = %v, which is not ascending", c.keys, c.seals, known)
			}
		}
		for _, key := range []int{r.Intn(60) + 1, odd[r.Intn(len(odd))]} {
			if more := impl.KnowKeys(slices.Insert(slices.Clone(c.keys), r.Intn(len(c.keys)+1), key), c.seals); !subset(known, more) || within(key, 1, 60) != slices.Contains(more, key) {
				t.Errorf("KnowKeys(%v, %v) = %v; with %d it is %v", c.keys, c.seals, known, key, more)
			}
		}
		for range 3 {
			s := randomSeal(r)
			if more := impl.KnowKeys(c.keys, slices.Insert(slices.Clone(c.seals), r.Intn(len(c.seals)+1), s)); !subset(known, more) {
				t.Errorf("KnowKeys(%v, %v) = %v; with %v it is %v", c.keys, c.seals, known, s, more)
			}
		}
	}
}

// P16: each number alone, at the limits and beside them.
func TestP16Limits(t *testing.T) {
	for _, n := range joined(upTo(-70, 130), oddNumbers()) {
		want := 0
		if within(n, 1, 60) {
			want = 1
		}
		for _, keys := range [][]int{{n}, {n, n}, {n, 0, n, -1, 61}} {
			if got := impl.KnowKeys(keys, nil); len(got) != want || want == 1 && got[0] != n {
				t.Errorf("KnowKeys(%v, nil) = %v", keys, got)
			}
		}
	}
}

// P17: KnowKeys of KnowKeys, and the same seals, is the same; in whatever order seals stand.
func TestP17AgainAndInAnyOrder(t *testing.T) {
	r := rand.New(rand.NewSource(17))
	for _, c := range knowCases() {
		known := impl.KnowKeys(c.keys, c.seals)
		if again := impl.KnowKeys(known, c.seals); !slices.Equal(known, again) {
			t.Errorf("KnowKeys(%v, %v) = %v; of that it is %v", c.keys, c.seals, known, again)
		}
		for range 4 {
			keys, seals := slices.Clone(c.keys), slices.Clone(c.seals)
			r.Shuffle(len(keys), func(i, j int) { keys[i], keys[j] = keys[j], keys[i] })
			r.Shuffle(len(seals), func(i, j int) { seals[i], seals[j] = seals[j], seals[i] })
			if other := impl.KnowKeys(keys, seals); !slices.Equal(known, other) {
				t.Errorf("KnowKeys(%v, %v) = %v; in another order it is %v", c.keys, c.seals, known, other)
			}
		}
	}
}

// P17: a chain of all keys, in the order in which it opens, in the other one, and in any.
func TestP17Chains(t *testing.T) {
	r := rand.New(rand.NewSource(170))
	for range 200 {
		order := upTo(10, 60)
		r.Shuffle(len(order), func(i, j int) { order[i], order[j] = order[j], order[i] })
		order = order[:2+r.Intn(50)]
		chain := chainOf(order...)
		mixed := slices.Clone(chain)
		r.Shuffle(len(mixed), func(i, j int) { mixed[i], mixed[j] = mixed[j], mixed[i] })
		for at := range order {
			want := slices.Clone(order[at:])
			slices.Sort(want)
			for _, seals := range [][]impl.Seal{chain, reversed(chain), mixed, joined(chain, mixed)} {
				if got := impl.KnowKeys([]int{order[at]}, seals); !slices.Equal(got, want) {
					t.Errorf("KnowKeys([%d], %v) = %v; want %v", order[at], seals, got, want)
				}
			}
		}
	}
}

// P18: Each of KnowKeys one had, or it is in a seal whose key is of KnowKeys, too; all that is in such is of them.
func TestP18WhereKeysComeFrom(t *testing.T) {
	for _, c := range knowCases() {
		known := impl.KnowKeys(c.keys, c.seals)
		var in []int
		for _, s := range c.seals {
			if slices.Contains(known, s.Key) && impl.SealHolds(s) != 0 {
				in = append(in, impl.SealHolds(s))
			}
		}
		if !subset(in, known) {
			t.Errorf("KnowKeys(%v, %v) = %v; in its seals are %v", c.keys, c.seals, known, in)
		}
		if !subset(known, joined(keysIn(c.keys), in)) {
			t.Errorf("KnowKeys(%v, %v) = %v, of which one had none, nor is it in a seal", c.keys, c.seals, known)
		}
	}
}

// P18: keys come one from the other, and not from each other alone: two seals, each with the key of the other one.
func TestP18Rings(t *testing.T) {
	for size := 1; size <= 51; size++ {
		keys := upTo(10, 9+size)
		ring := append(chainOf(keys...), partOf(9+size, 4, 10))
		for _, seals := range [][]impl.Seal{ring, reversed(ring), joined(ring, ring)} {
			for _, start := range [][]int{nil, {}, {1}, {4}, {10 + size}, {-10}} {
				if got := impl.KnowKeys(start, seals); !slices.Equal(got, keysIn(start)) {
					t.Errorf("KnowKeys(%v, a ring of %d) = %v", start, size, got)
				}
				if got := impl.KnowRead(start, seals); len(got) != 0 {
					t.Errorf("KnowRead(%v, a ring of %d) = %v", start, size, got)
				}
			}
			for _, key := range keys {
				if got := impl.KnowKeys([]int{key}, seals); !slices.Equal(got, keys) {
					t.Errorf("KnowKeys([%d], a ring of %d) = %v", key, size, got)
				}
			}
		}
	}
}

// P18: a seal that is not ok opens nothing, whichever of its numbers is odd.
func TestP18WrongSealsOpenNothing(t *testing.T) {
	for _, s := range []impl.Seal{ticketOf(1, 4, 10), partOf(1, 6, 10), partOf(11, 5, 10)} {
		for _, bent := range bentSeals(s) {
			if sealWanted(bent) {
				continue
			}
			for _, keys := range [][]int{{s.Key}, {bent.Key}, {s.Key, bent.Key, bent.Kind}} {
				if got := impl.KnowKeys(keys, []impl.Seal{bent, partOf(10, 4, 50)}); slices.Contains(got, 50) && !slices.Contains(keys, 10) {
					t.Errorf("KnowKeys(%v, [%v ..]) = %v", keys, bent, got)
				}
				checkKnow(t, knowCase{keys, []impl.Seal{bent}})
				checkKnow(t, knowCase{keys, []impl.Seal{partOf(10, 4, 50), bent}})
			}
		}
	}
}

// P19: KnowRead is, in order, just the seals that are ok whose key is of KnowKeys.
func TestP19JustWhatOpens(t *testing.T) {
	for _, c := range knowCases() {
		known, read := impl.KnowKeys(c.keys, c.seals), impl.KnowRead(c.keys, c.seals)
		at := 0
		for _, s := range c.seals {
			if impl.SealOk(s) && slices.Contains(known, s.Key) {
				if at >= len(read) || read[at] != s {
					t.Fatalf("KnowRead(%v, %v) = %v; at %d it is not %v", c.keys, c.seals, read, at, s)
				}
				at++
			}
		}
		if at != len(read) {
			t.Errorf("KnowRead(%v, %v) = %v; at %d there is no more", c.keys, c.seals, read, at)
		}
	}
}

// P19: each seal at the limits, with its key, and with all but its key.
func TestP19EdgeSeals(t *testing.T) {
	for _, s := range edgeSeals() {
		others := slices.DeleteFunc(upTo(-1, 62), func(n int) bool { return n == s.Key })
		if got := impl.KnowRead([]int{s.Key}, []impl.Seal{s}); len(got) != 1 || got[0] != s {
			t.Errorf("KnowRead([%d], [%v]) = %v", s.Key, s, got)
		}
		if got := impl.KnowRead(others, []impl.Seal{s, s}); len(got) != 0 {
			t.Errorf("KnowRead(all but %d, [%v]) = %v", s.Key, s, got)
		}
	}
}

// P20: KnowBuild is true just of a word in form each seal of which one has, or whose key, and the key in it, one can
// come to.
func TestP20JustWhatCanBeMade(t *testing.T) {
	told := map[bool]map[int]int{false: {}, true: {}}
	for _, c := range knowCases() {
		for _, m := range buildMsgs(c) {
			got, want := impl.KnowBuild(c.keys, c.seals, m), buildWanted(c.keys, c.seals, m)
			if got != want {
				t.Errorf("KnowBuild(%v, %v, %v) = %v; want %v", c.keys, c.seals, m, got, want)
			}
			told[got][m.Kind]++
		}
	}
	for kind := 1; kind <= 6; kind++ {
		if told[true][kind] < 100 || told[false][kind] < 100 {
			t.Errorf("of kind %d %d words can be made, and %d cannot", kind, told[true][kind], told[false][kind])
		}
	}
}

// P20: of a seal with a key in it both keys are asked for, unless one has the seal itself.
func TestP20BothKeys(t *testing.T) {
	for _, s := range edgeSeals() {
		held := holdsWanted(s)
		m := impl.Msg{Kind: impl.MsgApBack, Client: 1, Seals: []impl.Seal{s}}
		near := s
		near.Key, near.B = 1, 0
		for _, c := range []struct {
			keys  []int
			seals []impl.Seal
			want  bool
		}{
			{[]int{s.Key, held}, nil, true},
			{[]int{held, s.Key}, []impl.Seal{near}, true},
			{[]int{s.Key}, nil, held == 0 || held == s.Key},
			{[]int{held}, nil, held == s.Key},
			{nil, nil, false},
			{nil, []impl.Seal{s}, true},
			{nil, []impl.Seal{near, s, near}, true},
			{nil, []impl.Seal{near}, false},
			{[]int{held}, []impl.Seal{near}, held == s.Key},
		} {
			if got := impl.KnowBuild(c.keys, c.seals, m); got != c.want {
				t.Errorf("KnowBuild(%v, %v, %v) = %v; want %v", c.keys, c.seals, m, got, c.want)
			}
		}
	}
}

// P20: keys that one comes to by seals are as good as ones that one had.
func TestP20KeysOfSeals(t *testing.T) {
	long := reversed(joined([]impl.Seal{partOf(1, 6, 10)}, chainOf(upTo(10, 59)...)))
	for key := 10; key <= 60; key++ {
		for _, s := range []impl.Seal{authOf(key), backOf(key), partOf(key, 5, 59), partOf(1, 5, key), partOf(59, 4, key)} {
			m := impl.Msg{Kind: impl.MsgApAsk, Serv: 5, Seals: []impl.Seal{s, s}}
			if got, want := impl.KnowBuild([]int{1}, long, m), key <= 59; got != want {
				t.Errorf("KnowBuild([1], a chain to 59, %v) = %v; want %v", m, got, want)
			}
			if impl.KnowBuild([]int{2}, long, m) && !slices.Contains(long, s) {
				t.Errorf("KnowBuild([2], a chain to 59, %v) = true", m)
			}
		}
	}
}

// P20: a word that is not in form nobody can make, though he has all its seals, and all keys.
func TestP20NotInForm(t *testing.T) {
	seals := joined(fewSeals(), wrongSeals())
	for _, m := range fewMsgs() {
		for _, bent := range joined(bentMsgs(m), bentForms()) {
			if got := impl.KnowBuild(upTo(1, 60), seals, bent); got != msgWanted(bent) {
				t.Errorf("KnowBuild(all keys, %v) = %v", bent, got)
			}
			if got := impl.KnowBuild(nil, joined(seals, bent.Seals), bent); got != msgWanted(bent) {
				t.Errorf("KnowBuild(all seals, %v) = %v", bent, got)
			}
		}
	}
}

// P20: one seal that can be made does not make good for another one, in whichever place.
func TestP20EachSeal(t *testing.T) {
	had, made, not := ticketOf(2, 5, 33), authOf(10), authOf(11)
	for _, list := range sealLists(2, []impl.Seal{had, made, not}) {
		for _, m := range []impl.Msg{{Kind: 2, Client: 1}, {Kind: 3, Serv: 4, Nonce: 1}, {Kind: 4, Client: 3}, {Kind: 5, Serv: 5}} {
			want := !slices.Contains(list, not)
			if got := impl.KnowBuild([]int{10}, []impl.Seal{had}, withSeals(m, list...)); got != want {
				t.Errorf("KnowBuild([10], [%v], %v) = %v; want %v", had, withSeals(m, list...), got, want)
			}
		}
	}
}

// P21: With the seals of a word of which KnowBuild is true KnowKeys is as it was.
func TestP21NothingNew(t *testing.T) {
	count := 0
	for _, c := range knowCases() {
		known := impl.KnowKeys(c.keys, c.seals)
		for _, m := range buildMsgs(c) {
			if !impl.KnowBuild(c.keys, c.seals, m) {
				continue
			}
			count++
			for _, seals := range [][]impl.Seal{joined(c.seals, m.Seals), joined(m.Seals, c.seals)} {
				if more := impl.KnowKeys(c.keys, seals); !slices.Equal(known, more) {
					t.Errorf("KnowKeys(%v, %v) = %v; with those of %v, which he can make, %v", c.keys, c.seals, known, m, more)
				}
			}
		}
	}
	if count < 1000 {
		t.Errorf("just %d words could be made", count)
	}
}

// P22: With all keys KnowRead is all seals that are ok; with none none.
func TestP22AllKeysOrNone(t *testing.T) {
	for _, c := range knowCases() {
		ok := slices.DeleteFunc(slices.Clone(c.seals), func(s impl.Seal) bool { return !sealWanted(s) })
		for _, keys := range [][]int{upTo(1, 60), reversed(upTo(-10, 100)), joined(c.keys, upTo(1, 60))} {
			if got := impl.KnowRead(keys, c.seals); !slices.Equal(got, ok) {
				t.Errorf("KnowRead(all keys, %v) = %v", c.seals, got)
			}
		}
		for _, keys := range [][]int{nil, {}, {0}, {-1, 61, -10}} {
			if got := impl.KnowRead(keys, c.seals); len(got) != 0 {
				t.Errorf("KnowRead(%v, %v) = %v", keys, c.seals, got)
			}
			if got := impl.KnowKeys(keys, c.seals); len(got) != 0 {
				t.Errorf("KnowKeys(%v, %v) = %v", keys, c.seals, got)
			}
		}
	}
}

// P23: What is in seals of KnowRead is of KnowKeys; with KnowKeys as keys KnowRead is the same.
func TestP23WhatIsRead(t *testing.T) {
	for _, c := range knowCases() {
		known, read := impl.KnowKeys(c.keys, c.seals), impl.KnowRead(c.keys, c.seals)
		for _, s := range read {
			if held := holdsWanted(s); held != 0 && !slices.Contains(known, held) {
				t.Errorf("KnowKeys(%v, %v) = %v, without what is in %v", c.keys, c.seals, known, s)
			}
		}
		if again := impl.KnowRead(known, c.seals); !slices.Equal(read, again) {
			t.Errorf("KnowRead(%v, %v) = %v; with KnowKeys it is %v", c.keys, c.seals, read, again)
		}
	}
}

// P24: With one more key, or seal, KnowBuild stays true; with all keys it is true of each word in form.
func TestP24StaysTrue(t *testing.T) {
	r := rand.New(rand.NewSource(24))
	odd := oddNumbers()
	for _, c := range knowCases() {
		for _, m := range buildMsgs(c) {
			if msgWanted(m) && !impl.KnowBuild(upTo(1, 60), nil, m) {
				t.Errorf("KnowBuild(all keys, nil, %v) = false", m)
			}
			if !impl.KnowBuild(c.keys, c.seals, m) {
				continue
			}
			for _, key := range []int{r.Intn(60) + 1, odd[r.Intn(len(odd))]} {
				if !impl.KnowBuild(slices.Insert(slices.Clone(c.keys), r.Intn(len(c.keys)+1), key), c.seals, m) {
					t.Errorf("KnowBuild(%v, %v, %v) is true no more with the key %d", c.keys, c.seals, m, key)
				}
			}
			s := randomSeal(r)
			if !impl.KnowBuild(c.keys, slices.Insert(slices.Clone(c.seals), r.Intn(len(c.seals)+1), s), m) {
				t.Errorf("KnowBuild(%v, %v, %v) is true no more with %v", c.keys, c.seals, m, s)
			}
		}
	}
}

// P24: with all keys each word in form, and with all but one not each.
func TestP24AllKeys(t *testing.T) {
	for _, m := range edgeMsgs() {
		if !impl.KnowBuild(upTo(1, 60), nil, m) || !impl.KnowBuild(reversed(upTo(-3, 70)), []impl.Seal{}, m) {
			t.Errorf("KnowBuild(all keys, nil, %v) = false", m)
		}
		for _, s := range m.Seals {
			for _, key := range []int{s.Key, holdsWanted(s)} {
				keys := slices.DeleteFunc(upTo(1, 60), func(n int) bool { return n == key })
				if key != 0 && impl.KnowBuild(keys, nil, m) {
					t.Errorf("KnowBuild(all keys but %d, nil, %v) = true", key, m)
				}
			}
		}
	}
}

// P25: With a key of KnowKeys more, or a seal of KnowRead twice, KnowKeys is the same.
func TestP25Twice(t *testing.T) {
	for _, c := range knowCases() {
		known := impl.KnowKeys(c.keys, c.seals)
		for _, key := range known {
			if more := impl.KnowKeys(append(slices.Clone(c.keys), key), c.seals); !slices.Equal(known, more) {
				t.Errorf("KnowKeys(%v, %v) = %v; with %d it is %v", c.keys, c.seals, known, key, more)
			}
		}
		for _, s := range impl.KnowRead(c.keys, c.seals) {
			for _, seals := range [][]impl.Seal{joined(c.seals, []impl.Seal{s}), joined([]impl.Seal{s}, c.seals)} {
				if more := impl.KnowKeys(c.keys, seals); !slices.Equal(known, more) {
					t.Errorf("KnowKeys(%v, %v) = %v; with %v twice it is %v", c.keys, c.seals, known, s, more)
				}
			}
		}
	}
}

// P26: A word with a seal that one does not have, and whose key one cannot come to, KnowBuild is false of.
func TestP26CannotBeMade(t *testing.T) {
	count := 0
	for _, c := range knowCases() {
		known := keysWanted(c.keys, c.seals)
		for _, s := range joined(makeSeals(), fewSeals()) {
			if slices.Contains(c.seals, s) || slices.Contains(known, s.Key) {
				continue
			}
			count++
			rest := append(impl.KnowRead(c.keys, c.seals), s)[0]
			for _, m := range []impl.Msg{
				{Kind: 6, Client: 2, Seals: []impl.Seal{s}},
				{Kind: 5, Serv: 4, Seals: []impl.Seal{s, rest}},
				{Kind: 2, Client: 1, Seals: []impl.Seal{rest, s}},
			} {
				if impl.KnowBuild(c.keys, c.seals, m) {
					t.Errorf("KnowBuild(%v, %v, %v) = true", c.keys, c.seals, m)
				}
			}
		}
	}
	if count < 1000 {
		t.Errorf("just %d seals could not be made", count)
	}
}

// P26: one who has a seal that is but in one number another one does not have that.
func TestP26NearSeals(t *testing.T) {
	for _, s := range fewSeals() {
		m := impl.Msg{Kind: 6, Client: 2, Seals: []impl.Seal{s}}
		var near []impl.Seal
		for _, bent := range bentSeals(s) {
			if bent != s {
				near = append(near, bent)
			}
		}
		if impl.KnowBuild(nil, near, m) {
			t.Errorf("KnowBuild(nil, seals near to it, %v) = true", m)
		}
		if !impl.KnowBuild(nil, append(near, s), m) {
			t.Errorf("KnowBuild(nil, seals near to it, and it, %v) = false", m)
		}
	}
}

// Many keys and seals are no more than few.
func TestKnowMany(t *testing.T) {
	keys, seals := slices.Repeat([]int{1, 0, -7, 61}, 50000), slices.Repeat(reversed(sealKnowLists()[6]), 2000)
	if got, want := impl.KnowKeys(keys, seals), append([]int{1}, upTo(10, 60)...); !slices.Equal(got, want) {
		t.Errorf("KnowKeys of many is %v; want %v", got, want)
	}
	if got := impl.KnowRead(keys, seals); !slices.Equal(got, seals) {
		t.Errorf("KnowRead of %d seals is %d", len(seals), len(got))
	}
}

// What is answered shares nothing with an argument, or with another answer, and no argument is written into, or
// behind its end.
func TestKnowMemory(t *testing.T) {
	for _, c := range knowCases() {
		keys := append(slices.Clone(c.keys), 9, 10, 11, 12)
		seals := append(slices.Clone(c.seals), fewSeals()...)
		keysBefore, sealsBefore := slices.Clone(keys), slices.Clone(seals)
		in := knowCase{keys[:len(c.keys)], seals[:len(c.seals)]}
		known, read := impl.KnowKeys(in.keys, in.seals), impl.KnowRead(in.keys, in.seals)
		knownBefore, readBefore := slices.Clone(known), slices.Clone(read)
		for _, other := range [][]int{impl.KnowKeys(in.keys, in.seals), impl.KnowKeys(known, in.seals)} {
			room := other[:cap(other)]
			for i := range room {
				room[i] = -1
			}
		}
		for _, other := range [][]impl.Seal{impl.KnowRead(in.keys, in.seals), impl.KnowRead(in.keys, read)} {
			room := other[:cap(other)]
			for i := range room {
				room[i] = impl.Seal{Key: -1}
			}
		}
		if !slices.Equal(keys, keysBefore) || !slices.Equal(seals, sealsBefore) {
			t.Errorf("%v was written into", c)
		}
		if !slices.Equal(known, knownBefore) || !slices.Equal(read, readBefore) {
			t.Errorf("an answer of %v was written into", c)
		}
		checkKnow(t, in)
	}
}

// KnowBuild writes into nothing that it is given.
func TestKnowBuildMemory(t *testing.T) {
	for _, keys := range keyLists() {
		keys = append(slices.Clone(keys), 1, 2, 3)
		seals := joined(fewSeals(), wrongSeals())
		keysBefore, sealsBefore := slices.Clone(keys), slices.Clone(seals)
		for _, m := range fewMsgs() {
			held := append(slices.Clone(m.Seals), fewSeals()...)
			heldBefore := slices.Clone(held)
			m.Seals = held[:len(m.Seals)]
			impl.KnowBuild(keys[:len(keys)-3], seals[:5], m)
			if !slices.Equal(held, heldBefore) || !slices.Equal(keys, keysBefore) || !slices.Equal(seals, sealsBefore) {
				t.Errorf("%v, %v, or %v was written into", keys, seals, m)
			}
		}
	}
}
