package tests

import (
	"testing"

	"loop.example/cerberus/impl"
)

// roomyServ is a service whose lists have more behind their ends, and one whose lists have that, too, in the same memory.
func roomyServ(s impl.Serv) (impl.Serv, impl.Serv) {
	all := s
	s.Cache, all.Cache = withRoom(s.Cache, told(59, 1, 9, 59), told(58, 2, 8, 60))
	s.Took, all.Took = withRoom(s.Took, impl.Call{Peer: 3, Key: 59, Time: 9, Num: 59}, impl.Call{Peer: 2, Key: 58, Time: 8, Num: 60})
	return s, all
}

// fillServ writes into all lists of an answer, into each something else.
func fillServ(s impl.Serv, m impl.Msg, mark int) {
	fill(s.Cache, impl.Seal{Kind: mark, Key: 1})
	fill(s.Took, impl.Call{Peer: mark, Num: 1})
	fill(m.Seals, impl.Seal{Kind: mark, Key: 2})
}

// isServFull says whether all lists of an answer have just what fillServ wrote into them.
func isServFull(s impl.Serv, m impl.Msg, mark int) bool {
	return isFull(s.Cache, impl.Seal{Kind: mark, Key: 1}) && isFull(s.Took, impl.Call{Peer: mark, Num: 1}) && isFull(m.Seals, impl.Seal{Kind: mark, Key: 2})
}

// checkServMemory asks that what is answered shares nothing with an argument, with another answer, or with another list of
// its own, and that no argument is written into, or behind its end.
func checkServMemory(t *testing.T, what string, s impl.Serv, m impl.Msg, answer func(impl.Serv, impl.Msg) (impl.Serv, impl.Msg)) {
	t.Helper()
	arg, argAll := roomyServ(s)
	heard := m
	var sealsAll []impl.Seal
	heard.Seals, sealsAll = withRoom(m.Seals, fewSeals()...)
	before, sealsBefore := ownServ(argAll), ownMsg(impl.Msg{Seals: sealsAll})
	one, oneWord := answer(arg, heard)
	kept, keptWord := ownServ(one), ownMsg(oneWord)
	other, otherWord := answer(arg, heard)
	if !sameServ(one, other) || !sameMsg(oneWord, otherWord) {
		t.Errorf("%s of %v, %v is %v, then %v", what, s, m, one, other)
	}
	again, againWord := answer(one, heard)
	fillServ(again, againWord, -3)
	fillServ(other, otherWord, -2)
	if !sameServ(one, kept) || !sameMsg(oneWord, keptWord) {
		t.Errorf("an answer of %s of %v, %v was written into", what, s, m)
	}
	fillServ(one, oneWord, -1)
	if !isServFull(one, oneWord, -1) || !isServFull(other, otherWord, -2) || !isServFull(again, againWord, -3) {
		t.Errorf("two lists that %s of %v, %v answers share memory", what, s, m)
	}
	if !sameServ(argAll, before) || !sameMsg(impl.Msg{Seals: sealsAll}, sealsBefore) {
		t.Errorf("%s writes into %v, or %v", what, s, m)
	}
}

// fullServs is services whose lists are of all sizes, so that there is spare room of all sorts behind them.
func fullServs(now int) []impl.Serv {
	var all []impl.Serv
	for size := range 70 {
		all = append(all, impl.Serv{Id: 4 + size%2, Since: -1, Cache: toldAt(size%21, now, max(0, now-1)), Took: tookOf(size)})
	}
	return all
}

func TestServHearMemory(t *testing.T) {
	for _, now := range []int{-1, 0, 3, 40, 100, 101} {
		servs := joined(goodServs(now), fullServs(max(0, min(100, now))))
		for _, bad := range wrongServs()[:20] {
			servs = append(servs, bad.serv)
		}
		hear := func(s impl.Serv, m impl.Msg) (impl.Serv, impl.Msg) {
			after, answer, _ := impl.ServHear(s, m, now)
			return after, answer
		}
		for _, s := range servs {
			for i, m := range callsFor(s, now) {
				// Of what is not heard a few words are as good as all.
				if _, _, ok := impl.ServHear(s, m, now); ok || i%6 == 0 {
					checkServMemory(t, "ServHear", s, m, hear)
				}
			}
		}
	}
}

func TestServFallMemory(t *testing.T) {
	for _, now := range []int{-1, 0, 3, 40, 100, 101} {
		servs := joined(goodServs(now), fullServs(max(0, min(100, now))))
		for _, bad := range wrongServs() {
			servs = append(servs, bad.serv)
		}
		fall := func(s impl.Serv, _ impl.Msg) (impl.Serv, impl.Msg) { return impl.ServFall(s, now), impl.Msg{} }
		for _, s := range servs {
			checkServMemory(t, "ServFall", s, impl.Msg{}, fall)
		}
	}
}

func TestServNewMemory(t *testing.T) {
	for id := 4; id <= 5; id++ {
		one, _ := impl.ServNew(id)
		fillServ(one, impl.Msg{}, -1)
		one.Since, one.Took, one.Cache = 9, append(one.Took, impl.Call{}), append(one.Cache, impl.Seal{})
		if other, ok := impl.ServNew(id); !ok || !sameServ(other, newServ(id)) {
			t.Errorf("ServNew(%d), once more, is %v, %v", id, other, ok)
		}
	}
}
