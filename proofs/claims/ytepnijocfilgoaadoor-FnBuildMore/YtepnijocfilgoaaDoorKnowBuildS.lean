/-
  KnowBuild, the specification's and the program's: whether one can make a word; nothing that was in memory is turned.
-/
import Derived.Test.YtepnijocfilgoaaDoorKnowComes
import Derived.Test.YtepnijocfilgoaaDoorMsgOk
import Derived.Test.YtepnijocfilgoaaDoorAmong
import Derived.Test.YtepnijocfilgoaaDoorSlIndex
import Derived.Test.YtepnijocfilgoaaDoorSealSame
namespace Go.Proofs.YtepnijocfilgoaaDoor
open Go.RowKit
attribute [local go_sem ↓] Go.wp_at_zero Go.wp_at_succ

/-- One has the seal, or can make it. -/
def canB (H : List Bool) (xs : List Sl) (s : Sl) : Bool := inS s xs || (H.getD s.k.toNat false && (decide (s.inn = 0) || H.getD s.inn.toNat false))
/-- One can make the word. -/
def buildB (H : List Bool) (xs : List Sl) (m n k f : Int) (ys : List Sl) : Bool := msgB m n k f ys && ys.all (canB H xs)
theorem slB_ok {ys : List Sl} {c : Int} (h : slB ys c = true) : (∀ s ∈ ys, s.ok = true) ∧ (ys.length : Int) = c := by
  unfold slB at h
  rw [Bool.and_eq_true] at h
  exact ⟨List.all_eq_true.1 h.1, by simpa using h.2⟩
theorem msgB_ok {m n k f : Int} {ys : List Sl} (h : msgB m n k f ys = true) : (∀ s ∈ ys, s.ok = true) ∧ ys.length ≤ 2 := by
  have key : ∀ {b : Bool} {c : Int}, c ≤ 2 → (b && slB ys c) = true → (∀ s ∈ ys, s.ok = true) ∧ ys.length ≤ 2 := by
    intro b c hc hb
    rw [Bool.and_eq_true] at hb
    obtain ⟨h1, h2⟩ := slB_ok hb.2
    exact ⟨h1, by omega⟩
  unfold msgB at h
  split at h
  · exact key (by omega) h
  · split at h
    · exact key (by omega) h
    · split at h
      · exact key (by omega) h
      · split at h
        · exact key (by omega) h
        · split at h
          · exact key (by omega) h
          · split at h
            · exact key (by omega) h
            · cases h
theorem right_any (ks : List Int) (xs : List Sl) : ∃ H, Right ks xs H := by
  classical
  refine ⟨List.map (fun n : Nat => decide (Come ks xs n)) (List.range 61), by simp, fun n hn => ?_⟩
  rw [List.getD_eq_getElem?_getD, List.getElem?_map, List.getElem?_range hn]
  simp
theorem Sl.inn_of_ok {s : Sl} (h : s.ok = true) : holdsI s.t s.b s.c = s.inn := by unfold Sl.inn; rw [if_pos h]
theorem all_take {p : Sl → Bool} {ys : List Sl} {j : Nat} {s : Sl} (h : ys[j]? = some s) : (ys.take (j + 1)).all p = ((ys.take j).all p && p s) := by
  rw [List.take_add_one, h, Option.toList_some, List.all_append]; simp
theorem all_not {p : Sl → Bool} {ys : List Sl} {j : Nat} {s : Sl} (h : ys[j]? = some s) (hp : p s = false) : ys.all p = false := by
  rw [List.all_eq_false]
  exact ⟨s, List.mem_of_getElem? h, by rw [hp]; decide⟩

/-- On the way: the word as it was handed over, in a variable of the call's own. -/
structure Bw (W : World) (a3 : Option Addr) (c3 : Nat) (ys : List Sl) (w : World) : Prop where
  below : Below W.heap.size W w
  cell : w.cell? ⟨W.heap.size, 4, none⟩ = some (.slice a3 ys.length c3)
  lt : W.heap.size < w.heap.size
theorem Bw.later {W w w' : World} {a3 : Option Addr} {c3 : Nat} {ys : List Sl} (h : Bw W a3 c3 ys w) (hb : Below w.heap.size w w') : Bw W a3 c3 ys w' :=
  ⟨h.below.trans (hb.mono h.below.size), ((bcell hb).1 _ _ h.lt).trans h.cell, Nat.lt_of_lt_of_le h.lt hb.size⟩

set_option maxRecDepth 100000 in
set_option maxHeartbeats 4000000 in
theorem specBuild_any (a1 a2 a3 : Option Addr) (c1 c2 c3 : Nat) (ks : List Int) (xs : List Sl) (m n k f : Int) (ys : List Sl) (w : World) (H : List Bool) (hR : Right ks xs H) (h1 : IRow w a1 ks) (h2 : SRow w a2 xs) (h3 : SRow w a3 ys) (hk : ks.length ≤ 2000000) (hx : xs.length ≤ 1999999) (hy : ys.length ≤ 2000000) :
    Calls Tryd.prog 10 #[.slice a1 ks.length c1, .slice a2 xs.length c2, .agg #[.int .i64 m, .int .i64 n, .int .i64 k, .int .i64 f, .slice a3 ys.length c3]] w fun r w' => r = .returned (.bool (buildB H xs m n k f ys)) ∧ Below w.heap.size w w' := by
  have hl2 : msgB m n k f ys = true → ys.length ≤ 2 := fun h => (msgB_ok h).2
  have T0 : Hid (Bw w a3 c3 ys (w.alloc (.cells #[.int .i64 m, .int .i64 n, .int .i64 k, .int .i64 f, .slice a3 ys.length c3] 33))) :=
    ⟨(Below.refl _ _).alloc (Nat.le_refl _) _, by go_simp, by simp⟩
  go_enter Tryd.func10, Tryd.ntmps10
  go_wp2_with fail
  refine (specMsg_any m n k f a3 c3 ys _ (h3.later T0.out.below) hy).mono ?_
  rintro r w2 ⟨rfl, b2⟩
  have T2 : Hid (Bw w a3 c3 ys w2) := T0.out.later b2
  clear T0 b2
  cases hmb : msgB m n k f ys
  · have hbf : buildB H xs m n k f ys = false := by unfold buildB; rw [hmb]; rfl
    go_wp2_with fail
    go_ret
    exact ⟨ret_bool hbf.symm, T2.out.below⟩
  · have hyl := hl2 hmb
    have hok := (msgB_ok hmb).1
    have HOK : Hid (∀ s ∈ ys, s.ok = true) := hok
    have hbe : Hid (buildB H xs m n k f ys = ys.all (canB H xs)) := by
      show buildB H xs m n k f ys = _
      unfold buildB; rw [hmb]; rfl
    clear hl2 hok
    go_wp2_with fail
    refine (l3All_any a1 a2 c1 c2 ks xs w2 (h1.later T2.out.below) (h2.later T2.out.below) hk (by omega)).mono ?_
    rintro r w3 ⟨rfl, ⟨H', hR', hB⟩, b3⟩
    obtain rfl : H' = H := hR'.one hR (fun _ => Iff.rfl)
    obtain ⟨B, hBe⟩ : ∃ B, B = w2.heap.size := ⟨_, rfl⟩
    rw [← hBe] at hB ⊢
    have T3 : Hid (Bw w a3 c3 ys w3 ∧ Bits w3 B H') := ⟨T2.out.later b3, hB⟩
    clear T2 b3 hB hBe hR' h1
    go_wp2_with fail
    go_loopw [8] (fun i wr => ∃ (j : Nat), j ≤ ys.length ∧ i = .int .i64 j ∧ Hid (Bw w a3 c3 ys wr ∧ Bits wr B H' ∧ (ys.take j).all (canB H' xs) = true)) (fun i _ => ys.length - (intOf i).toNat)
    case atStart => exact ⟨0, Nat.zero_le _, rfl, T3.out.1, T3.out.2, rfl⟩
    case round =>
      obtain ⟨j, hj, rfl, C⟩ := hrel
      clear T3
      have cm := C.out.1.cell
      by_cases hlt : j < ys.length
      · obtain ⟨s, hs⟩ : ∃ s, ys[j]? = some s := ⟨ys[j], List.getElem?_eq_getElem hlt⟩
        have hso := HOK.out s (List.mem_of_getElem? hs)
        obtain ⟨k1, k2⟩ := Sl.key_of_ok hso
        rcases h3.later C.out.1.below with hz | ⟨b, off, rfl, hlb, hr⟩
        · simp [hz] at hlt
        obtain ⟨c0, c1', c2', c3', c4, c5, c6⟩ := hr j s hs
        clear hr
        go_wp2_with fail
        refine (l1Holds_any _ _ _ _ _ _ _ _).mono ?_
        rintro r w4 ⟨rfl, b4⟩
        rw [Sl.inn_of_ok hso]
        have C3 := C.out.1.later (Below.alloc_ wr (.cells #[.int .i64 s.k, .int .i64 s.t, .int .i64 s.a, .int .i64 s.b, .int .i64 s.c, .int .i64 s.d, .int .i64 s.e] 45))
        have S4 : SealAt w4 wr.heap.size 0 s ∧ wr.heap.size < w4.heap.size := by
          obtain ⟨hc, _⟩ := bcell b4
          refine ⟨⟨?_, ?_, ?_, ?_, ?_, ?_, ?_⟩, Nat.lt_of_lt_of_le (by simp) b4.size⟩ <;> (rw [hc _ _ (by simp)]; go_simp)
        have C4 : Hid (Bw w (some ⟨b, off, none⟩) c3 ys w4 ∧ Bits w4 B H' ∧ (ys.take j).all (canB H' xs) = true) := ⟨C3.later b4, (C.out.2.1.later (Below.alloc_ wr _)).later b4, C.out.2.2⟩
        obtain ⟨p, hp⟩ : ∃ p, p = wr.heap.size := ⟨_, rfl⟩
        rw [← hp] at S4 ⊢
        have HS : Hid (SealAt w4 p 0 s ∧ p < w4.heap.size) := S4
        obtain ⟨d0, d1, d2, d3, d4, d5, d6⟩ := S4.1
        simp only [Nat.zero_add] at d1 d2 d3 d4 d5 d6
        clear C C3 b4 c0 c1' c2' c3' c4 c5 c6 cm hp S4
        go_wp2_with fail
        refine (l3Among_any a2 c2 xs s w4 (h2.later C4.out.1.below) (by omega)).mono ?_
        rintro r w5 ⟨rfl, b5⟩
        have C5 : Hid (Bw w (some ⟨b, off, none⟩) c3 ys w5 ∧ Bits w5 B H' ∧ (ys.take j).all (canB H' xs) = true) := ⟨C4.out.1.later b5, C4.out.2.1.later b5, C4.out.2.2⟩
        have e0 := (HS.out.1.later b5 HS.out.2).c0
        clear C4 HS b5 d0 d1 d2 d3 d4 d5 d6
        have hsu := all_take (p := canB H' xs) hs
        rw [C5.out.2.2, Bool.true_and] at hsu
        obtain ⟨kn, hkn⟩ : ∃ kn : Nat, s.k = kn := ⟨s.k.toNat, by omega⟩
        have hk61 : kn < 61 := by omega
        have htn : s.k.toNat = kn := by omega
        have g0 := C5.out.2.1.cell kn hk61
        rw [hkn] at e0
        cases hin : inS s xs
        · cases hhk : H'.getD kn false
          · have hcan : canB H' xs s = false := by unfold canB; rw [hin, htn, hhk]; rfl
            rw [hhk] at g0
            go_wp2_with fail
            go_ret
            exact ⟨ret_bool (by rw [hbe.out, all_not hs hcan]), C5.out.1.below⟩
          · rw [hhk] at g0
            rcases s.inn_cases with hi0 | hi0
            · have hcan : canB H' xs s = true := by unfold canB; rw [hin, htn, hhk, hi0]; rfl
              rw [hi0]
              go_wp2_with fail
              go_roundw
              case rel => exact ⟨j + 1, by omega, by go_num, C5.out.1, C5.out.2.1, by rw [hsu, hcan]⟩
              case measure => simp [intOf]; omega
            · obtain ⟨hn, hhn⟩ : ∃ hn : Nat, s.inn = hn := ⟨s.inn.toNat, by omega⟩
              have hn61 : hn < 61 := by omega
              have hnt : s.inn.toNat = hn := by omega
              have hnz : decide (s.inn = 0) = false := decide_eq_false (by omega)
              have g1 := C5.out.2.1.cell hn hn61
              have hpos : (0 : Int) < hn := by omega
              rw [hhn]
              cases hhi : H'.getD hn false
              · have hcan : canB H' xs s = false := by unfold canB; rw [hin, htn, hhk, hnz, hnt, hhi]; rfl
                rw [hhi] at g1
                go_wp2_with fail
                go_ret
                exact ⟨ret_bool (by rw [hbe.out, all_not hs hcan]), C5.out.1.below⟩
              · have hcan : canB H' xs s = true := by unfold canB; rw [hin, htn, hhk, hnz, hnt, hhi]; rfl
                rw [hhi] at g1
                go_wp2_with fail
                go_roundw
                case rel => exact ⟨j + 1, by omega, by go_num, C5.out.1, C5.out.2.1, by rw [hsu, hcan]⟩
                case measure => simp [intOf]; omega
        · have hcan : canB H' xs s = true := by unfold canB; rw [hin]; rfl
          go_wp2_with fail
          go_roundw
          case rel => exact ⟨j + 1, by omega, by go_num, C5.out.1, C5.out.2.1, by rw [hsu, hcan]⟩
          case measure => simp [intOf]; omega
      · obtain rfl : j = ys.length := by omega
        have hall := C.out.2.2
        rw [List.take_length] at hall
        have HA : Hid (Bw w a3 c3 ys wr ∧ ys.all (canB H' xs) = true) := ⟨C.out.1, hall⟩
        clear hall C
        go_wp2_with fail
        go_ret
        exact ⟨ret_bool (by rw [hbe.out, HA.out.2]), HA.out.1.below⟩

end Go.Proofs.YtepnijocfilgoaaDoor
