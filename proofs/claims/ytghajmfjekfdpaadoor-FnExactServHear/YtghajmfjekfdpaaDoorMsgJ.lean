/-
  What the program's SealOk answers, for every seal: as the plain mathematics says; nothing that was in memory is turned.
-/
import Derived.Test.YtghajmfjekfdpaaDoorBaseJ
import Derived.Test.YtghajmfjekfdpaaDoorMarksJ
namespace Go.Proofs.YtghajmfjekfdpaaDoor
open Go.RowKit

set_option maxHeartbeats 400000 in
theorem implOk1_any (k a b c d e : Int) (w : World) :
    Calls Tryd.prog 92 #[.agg #[.int .i64 k, .int .i64 1, .int .i64 a, .int .i64 b, .int .i64 c, .int .i64 d, .int .i64 e]] w fun r w' => r = .returned (.bool (ok1 k a b c d e)) ∧ Below w.heap.size w w' := by
  cases h : ok1 k a b c d e
  all_goals
    go_enter Tryd.func92, Tryd.ntmps92
    go_wp2_with (go_at_call 103; refine (okSealed1_any _ _ _ _ _ _ _).mono ?_; rintro e w1 ⟨rfl, hb1⟩)
    go_ret
    exact ⟨rfl, ((Below.refl _ _).alloc (Nat.le_refl _) _).trans (hb1.mono (by simp))⟩

set_option maxHeartbeats 400000 in
theorem implOk2_any (k a b c d : Int) (w : World) :
    Calls Tryd.prog 92 #[.agg #[.int .i64 k, .int .i64 2, .int .i64 a, .int .i64 b, .int .i64 c, .int .i64 d, .int .i64 0]] w fun r w' => r = .returned (.bool (ok2 k a b c d 0)) ∧ Below w.heap.size w w' := by
  cases h : ok2 k a b c d 0
  all_goals
    go_enter Tryd.func92, Tryd.ntmps92
    go_wp2_with (go_at_call 103; refine (okSealed2_any _ _ _ _ _ _).mono ?_; rintro e w1 ⟨rfl, hb1⟩)
    go_ret
    exact ⟨rfl, ((Below.refl _ _).alloc (Nat.le_refl _) _).trans (hb1.mono (by simp))⟩

set_option maxHeartbeats 400000 in
theorem implOk3_any (k a b c : Int) (w : World) :
    Calls Tryd.prog 92 #[.agg #[.int .i64 k, .int .i64 3, .int .i64 a, .int .i64 b, .int .i64 c, .int .i64 0, .int .i64 0]] w fun r w' => r = .returned (.bool (ok3 k a b c 0 0)) ∧ Below w.heap.size w w' := by
  cases h : ok3 k a b c 0 0
  all_goals
    go_enter Tryd.func92, Tryd.ntmps92
    go_wp2_with (go_at_call 103; refine (okSealed3_any _ _ _ _ _).mono ?_; rintro e w1 ⟨rfl, hb1⟩)
    go_ret
    exact ⟨rfl, ((Below.refl _ _).alloc (Nat.le_refl _) _).trans (hb1.mono (by simp))⟩

set_option maxHeartbeats 400000 in
theorem implOk4_any (k a b : Int) (w : World) :
    Calls Tryd.prog 92 #[.agg #[.int .i64 k, .int .i64 4, .int .i64 a, .int .i64 b, .int .i64 0, .int .i64 0, .int .i64 0]] w fun r w' => r = .returned (.bool (ok4 k a b 0 0 0)) ∧ Below w.heap.size w w' := by
  cases h : ok4 k a b 0 0 0
  all_goals
    go_enter Tryd.func92, Tryd.ntmps92
    go_wp2_with (go_at_call 103; refine (okSealed4_any _ _ _ _).mono ?_; rintro e w1 ⟨rfl, hb1⟩)
    go_ret
    exact ⟨rfl, ((Below.refl _ _).alloc (Nat.le_refl _) _).trans (hb1.mono (by simp))⟩

set_option maxHeartbeats 400000 in
theorem implOk0_any (k t a b c d e : Int) (w : World) (h : odd t c d e = true) :
    Calls Tryd.prog 92 #[.agg #[.int .i64 k, .int .i64 t, .int .i64 a, .int .i64 b, .int .i64 c, .int .i64 d, .int .i64 e]] w fun r w' => r = .returned (.bool false) ∧ Below w.heap.size w w' := by
  go_enter Tryd.func92, Tryd.ntmps92
  go_wp2_with (go_at_call 103; refine (okSealed0_any _ _ _ _ _ _ _ _ h).mono ?_; rintro e w1 ⟨rfl, hb1⟩)
  go_ret
  exact ⟨rfl, ((Below.refl _ _).alloc (Nat.le_refl _) _).trans (hb1.mono (by simp))⟩

/-- The program's SealOk: what the mathematics says, whatever the seal. -/
theorem implOk_any (k t a b c d e : Int) (w : World) :
    Calls Tryd.prog 92 #[.agg #[.int .i64 k, .int .i64 t, .int .i64 a, .int .i64 b, .int .i64 c, .int .i64 d, .int .i64 e]] w fun r w' => r = .returned (.bool (okB k t a b c d e)) ∧ Below w.heap.size w w' := by
  cases h : odd t c d e
  · rcases not_odd h with rfl | ⟨rfl, rfl⟩ | ⟨rfl, rfl, rfl⟩ | ⟨rfl, rfl, rfl, rfl⟩
    · simpa [okB] using implOk1_any k a b c d e w
    · simpa [okB] using implOk2_any k a b c d w
    · simpa [okB] using implOk3_any k a b c w
    · simpa [okB] using implOk4_any k a b w
  · rw [odd_not_ok k a b h]
    exact implOk0_any k t a b c d e w h

end Go.Proofs.YtghajmfjekfdpaaDoor

namespace Go.Proofs.YtghajmfjekfdpaaDoor
open Go.RowKit

/-- A word's five cells lie at a block's begin. -/
structure MsgAt (w : World) (b : Nat) (m n k f : Int) (v : Value) : Prop where
  c0 : w.cell? ⟨b, 0, none⟩ = some (.int .i64 m)
  c1 : w.cell? ⟨b, 1, none⟩ = some (.int .i64 n)
  c2 : w.cell? ⟨b, 2, none⟩ = some (.int .i64 k)
  c3 : w.cell? ⟨b, 3, none⟩ = some (.int .i64 f)
  c4 : w.cell? ⟨b, 4, none⟩ = some v
theorem MsgAt.later {w w' : World} {b : Nat} {m n k f : Int} {v : Value} (h : MsgAt w b m n k f v) {B : Nat} (hb : Below B w w') (hl : b < B) : MsgAt w' b m n k f v :=
  ⟨(hb.cell (p := ⟨b, 0, none⟩) hl).trans h.c0, (hb.cell (p := ⟨b, 1, none⟩) hl).trans h.c1, (hb.cell (p := ⟨b, 2, none⟩) hl).trans h.c2, (hb.cell (p := ⟨b, 3, none⟩) hl).trans h.c3, (hb.cell (p := ⟨b, 4, none⟩) hl).trans h.c4⟩

set_option maxHeartbeats 1000000 in
/-- The specification's look at a word's seals. -/
theorem l2Seals_any (m n k f many : Int) (a : Option Addr) (cap : Nat) (xs : List Sl) (w : World) (h : SRow w a xs) (hx : xs.length ≤ 2000000) :
    Calls Tryd.prog 85 #[.agg #[.int .i64 m, .int .i64 n, .int .i64 k, .int .i64 f, .slice a xs.length cap], .int .i64 many] w fun r w' => r = .returned (.bool (xs.all Sl.ok && decide ((xs.length : Int) = many))) ∧ Below w.heap.size w w' := by
  obtain ⟨W, hW⟩ : ∃ W, W = w.alloc (.cells #[.int .i64 m, .int .i64 n, .int .i64 k, .int .i64 f, .slice a xs.length cap] 33) := ⟨_, rfl⟩
  have h0 : Below w.heap.size w W := hW ▸ (Below.refl _ _).alloc (Nat.le_refl _) _
  have h4 : W.cell? ⟨w.heap.size, 4, none⟩ = some (.slice a xs.length cap) := by subst hW; go_simp
  have hz : w.heap.size < W.heap.size := by subst hW; simp
  go_enter Tryd.func85, Tryd.ntmps85
  go_wp2_with fail
  rw [← hW]
  clear hW
  go_loopw [5] (fun i wr => ∃ (j : Nat), j ≤ xs.length ∧ i = .int .i64 j ∧ Hid ((xs.take j).all Sl.ok = true ∧ Below W.heap.size W wr)) (fun i _ => xs.length - (intOf i).toNat)
  case atStart => exact ⟨0, Nat.zero_le _, rfl, ⟨rfl, Below.refl _ _⟩⟩
  case round =>
    obtain ⟨j, hj, rfl, C⟩ := hrel
    have hbw := C.out.2
    have hb4 : wr.cell? ⟨w.heap.size, 4, none⟩ = some (.slice a xs.length cap) := ((bcell hbw).1 _ _ hz).trans h4
    by_cases hlt : j < xs.length
    · obtain ⟨s, hs⟩ : ∃ s, xs[j]? = some s := ⟨xs[j], List.getElem?_eq_getElem hlt⟩
      rcases h with h | ⟨b, off, rfl, hl, h⟩
      · simp [h] at hlt
      have hS := ((h j s hs).later h0 hl).later hbw (Nat.lt_trans hl hz)
      obtain ⟨c0, c1, c2, c3, c4, c5, c6⟩ := hS
      clear h
      have hbn := hbw.size
      have hk : (xs.take (j + 1)).all Sl.ok = s.ok := by
        rw [List.take_add_one, List.all_append, C.out.1, hs]; simp
      go_wp2_with fail
      refine (specOk_any _ _ _ _ _ _ _ _).mono ?_
      rintro r w2 ⟨rfl, hb2⟩
      have C2 : Hid ((xs.take (j + 1)).all Sl.ok = s.ok ∧ Below W.heap.size W w2) := ⟨hk, hbw.trans (hb2.mono (by omega))⟩
      clear hk c0 c1 c2 c3 c4 c5 c6 C hbw hb2 hb4
      cases hok : okB s.k s.t s.a s.b s.c s.d s.e
      · go_wp2_with fail
        go_ret
        refine ⟨ret_bool ?_, h0.trans (C2.out.2.mono (by omega))⟩
        have hno : s.ok = false := hok
        have hf : xs.all Sl.ok = false := by
          rw [List.all_eq_false]; exact ⟨s, List.mem_of_getElem? hs, by simp [hno]⟩
        simp [hf]
      · go_wp2_with fail
        go_roundw
        case rel => exact ⟨j + 1, by omega, by go_num, ⟨C2.out.1.trans hok, C2.out.2⟩⟩
        case measure => simp [intOf]; omega
    · obtain rfl : j = xs.length := by omega
      have hall := C.out.1
      rw [List.take_length] at hall
      have HA : Hid (xs.all Sl.ok = true ∧ Below W.heap.size W wr) := ⟨hall, hbw⟩
      clear hall C hbw h
      go_wp2_with fail
      go_ret
      exact ⟨ret_bool (by simp [HA.out.1]; try rfl), h0.trans (HA.out.2.mono (by omega))⟩

/-- A seal that is not ok. -/
theorem notOk_any (s : Sl) (w : World) :
    Calls Tryd.prog 102 #[s.v] w fun r w' => r = .returned (.bool (!s.ok)) ∧ Below w.heap.size w w' := by
  unfold Sl.v
  go_enter Tryd.func102, Tryd.ntmps102
  go_wp2_with fail
  refine (implOk_any _ _ _ _ _ _ _ _).mono ?_
  rintro r w2 ⟨rfl, hb2⟩
  go_wp2_with fail
  go_ret
  exact ⟨rfl, ((Below.refl _ _).alloc (Nat.le_refl _) _).trans (hb2.mono (by simp))⟩

set_option maxHeartbeats 1000000 in
theorem indexFunc_any (a : Option Addr) (cap : Nat) (xs : List Sl) (w : World) (h : SRow w a xs) (hx : xs.length ≤ 2000000) :
    Calls Tryd.prog 106 #[.slice a xs.length cap, .func (.func 102) #[] #[]] w fun r w' => (∃ n : Int, r = .returned (.int .i64 n) ∧ (decide (0 ≤ n) = !xs.all Sl.ok)) ∧ Below w.heap.size w w' := by
  go_enter Tryd.func106, Tryd.ntmps106
  go_wp2_with fail
  go_loopw [8] (fun i wr => ∃ (j : Nat), j ≤ xs.length ∧ i = .int .i64 j ∧ Hid ((xs.take j).all Sl.ok = true ∧ Below w.heap.size w wr)) (fun i _ => xs.length - (intOf i).toNat)
  case atStart => exact ⟨0, Nat.zero_le _, rfl, ⟨rfl, Below.refl _ _⟩⟩
  case round =>
    obtain ⟨j, hj, rfl, C⟩ := hrel
    have hbw := C.out.2
    by_cases hlt : j < xs.length
    · obtain ⟨s, hs⟩ : ∃ s, xs[j]? = some s := ⟨xs[j], List.getElem?_eq_getElem hlt⟩
      rcases h with h | ⟨b, off, rfl, hl, h⟩
      · simp [h] at hlt
      have hS := (h j s hs).later hbw hl
      obtain ⟨c0, c1, c2, c3, c4, c5, c6⟩ := hS
      clear h
      have hbn := hbw.size
      have hk : (xs.take (j + 1)).all Sl.ok = s.ok := by
        rw [List.take_add_one, List.all_append, C.out.1, hs]; simp
      go_wp2_with fail
      refine (notOk_any s _).mono ?_
      rintro r w2 ⟨rfl, hb2⟩
      have C2 : Hid ((xs.take (j + 1)).all Sl.ok = s.ok ∧ Below w.heap.size w w2) := ⟨hk, hbw.trans (hb2.mono (by omega))⟩
      clear hk c0 c1 c2 c3 c4 c5 c6 C hbw hb2
      cases hok : s.ok
      · go_wp2_with fail
        go_ret
        refine ⟨⟨_, rfl, ?_⟩, C2.out.2⟩
        have hf : xs.all Sl.ok = false := by
          rw [List.all_eq_false]; exact ⟨s, List.mem_of_getElem? hs, by simp [hok]⟩
        simp [hf]
      · go_wp2_with fail
        go_roundw
        case rel => exact ⟨j + 1, by omega, by go_num, ⟨C2.out.1.trans hok, C2.out.2⟩⟩
        case measure => simp [intOf]; omega
    · obtain rfl : j = xs.length := by omega
      have hall := C.out.1
      rw [List.take_length] at hall
      have HA : Hid (xs.all Sl.ok = true ∧ Below w.heap.size w wr) := ⟨hall, hbw⟩
      clear hall C hbw h
      go_wp2_with fail
      go_ret
      exact ⟨⟨_, rfl, by simp [HA.out.1]⟩, HA.out.2⟩

theorem contains_any (a : Option Addr) (cap : Nat) (xs : List Sl) (w : World) (h : SRow w a xs) (hx : xs.length ≤ 2000000) :
    Calls Tryd.prog 101 #[.slice a xs.length cap, .func (.func 102) #[] #[]] w fun r w' => r = .returned (.bool (!xs.all Sl.ok)) ∧ Below w.heap.size w w' := by
  go_enter Tryd.func101, Tryd.ntmps101
  go_wp2_with fail
  refine (indexFunc_any a cap xs w h hx).mono ?_
  rintro r w2 ⟨⟨n, rfl, hn⟩, hb2⟩
  go_wp2_with fail
  go_ret
  exact ⟨ret_bool (by rw [← hn]), hb2⟩

theorem allOk_any (a : Option Addr) (cap : Nat) (xs : List Sl) (w : World) (h : SRow w a xs) (hx : xs.length ≤ 2000000) :
    Calls Tryd.prog 91 #[.slice a xs.length cap] w fun r w' => r = .returned (.bool (xs.all Sl.ok)) ∧ Below w.heap.size w w' := by
  go_enter Tryd.func91, Tryd.ntmps91
  go_wp2_with fail
  refine (contains_any a cap xs w h hx).mono ?_
  rintro r w2 ⟨rfl, hb2⟩
  go_wp2_with fail
  go_ret
  exact ⟨ret_bool (by simp), hb2⟩

end Go.Proofs.YtghajmfjekfdpaaDoor

namespace Go.Proofs.YtghajmfjekfdpaaDoor
open Go.RowKit
attribute [local go_sem ↓] Go.wp_at_zero Go.wp_at_succ

set_option maxRecDepth 100000 in
set_option maxHeartbeats 1000000 in
/-- The laws' own copy of a word. -/
theorem toMsg_any (m n k f : Int) (a : Option Addr) (cap : Nat) (xs : List Sl) (w : World) (h : SRow w a xs) (hx : xs.length ≤ 2000000) :
    Calls Tryd.prog 9 #[.agg #[.int .i64 m, .int .i64 n, .int .i64 k, .int .i64 f, .slice a xs.length cap]] w fun r w' => (∃ a', r = .returned (.agg #[.int .i64 m, .int .i64 n, .int .i64 k, .int .i64 f, .slice a' xs.length xs.length]) ∧ SRow w' a' xs) ∧ Below w.heap.size w w' := by
  obtain ⟨W, hW⟩ : ∃ W, W = (((w.alloc (.cells #[.int .i64 m, .int .i64 n, .int .i64 k, .int .i64 f, .slice a xs.length cap] 26)).alloc (.cells #[.int .i64 0, .int .i64 0, .int .i64 0, .int .i64 0, .slice none 0 0] 33)).alloc (.cells #[.int .i64 m, .int .i64 n, .int .i64 k, .int .i64 f, .slice none 0 0] 33)) := ⟨_, rfl⟩
  have hz : W.heap.size = w.heap.size + 3 := by subst hW; simp
  have B0 : Below w.heap.size w W := hW ▸ (((Below.refl _ _).alloc (Nat.le_refl _) _).alloc (by simp) _).alloc (by simp; omega) _
  have k0 : W.cell? ⟨w.heap.size + 1 + 1, 0, none⟩ = some (.int .i64 m) := by subst hW; go_simp
  have k1 : W.cell? ⟨w.heap.size + 1 + 1, 1, none⟩ = some (.int .i64 n) := by subst hW; go_simp
  have k2 : W.cell? ⟨w.heap.size + 1 + 1, 2, none⟩ = some (.int .i64 k) := by subst hW; go_simp
  have k3 : W.cell? ⟨w.heap.size + 1 + 1, 3, none⟩ = some (.int .i64 f) := by subst hW; go_simp
  have k4 : W.cell? ⟨w.heap.size + 1 + 1, 4, none⟩ = some (.slice none 0 0) := by subst hW; go_simp
  have r0 : W.cell? ⟨w.heap.size + 1, 0, none⟩ = some (.int .i64 0) := by subst hW; go_simp
  have r1 : W.cell? ⟨w.heap.size + 1, 1, none⟩ = some (.int .i64 0) := by subst hW; go_simp
  have r2 : W.cell? ⟨w.heap.size + 1, 2, none⟩ = some (.int .i64 0) := by subst hW; go_simp
  have r3 : W.cell? ⟨w.heap.size + 1, 3, none⟩ = some (.int .i64 0) := by subst hW; go_simp
  have r4 : W.cell? ⟨w.heap.size + 1, 4, none⟩ = some (.slice none 0 0) := by subst hW; go_simp
  have fk : W.frozen? ⟨w.heap.size + 1 + 1, 4, none⟩ = false := by subst hW; go_simp
  have fr0 : W.frozen? ⟨w.heap.size + 1, 0, none⟩ = false := by subst hW; go_simp
  have fr1 : W.frozen? ⟨w.heap.size + 1, 1, none⟩ = false := by subst hW; go_simp
  have fr2 : W.frozen? ⟨w.heap.size + 1, 2, none⟩ = false := by subst hW; go_simp
  have fr3 : W.frozen? ⟨w.heap.size + 1, 3, none⟩ = false := by subst hW; go_simp
  have fr4 : W.frozen? ⟨w.heap.size + 1, 4, none⟩ = false := by subst hW; go_simp
  obtain ⟨W, hW⟩ : ∃ W, W = (((w.alloc (.cells #[.int .i64 m, .int .i64 n, .int .i64 k, .int .i64 f, .slice a xs.length cap] 26)).alloc (.cells #[.int .i64 0, .int .i64 0, .int .i64 0, .int .i64 0, .slice none 0 0] 33)).alloc (.cells #[.int .i64 m, .int .i64 n, .int .i64 k, .int .i64 f, .slice none 0 0] 33)) := ⟨_, rfl⟩
  have hz : W.heap.size = w.heap.size + 3 := by subst hW; simp
  have B0 : Below w.heap.size w W := hW ▸ (((Below.refl _ _).alloc (Nat.le_refl _) _).alloc (by simp) _).alloc (by simp; omega) _
  have k0 : W.cell? ⟨w.heap.size + 1 + 1, 0, none⟩ = some (.int .i64 m) := by subst hW; go_simp
  have k1 : W.cell? ⟨w.heap.size + 1 + 1, 1, none⟩ = some (.int .i64 n) := by subst hW; go_simp
  have k2 : W.cell? ⟨w.heap.size + 1 + 1, 2, none⟩ = some (.int .i64 k) := by subst hW; go_simp
  have k3 : W.cell? ⟨w.heap.size + 1 + 1, 3, none⟩ = some (.int .i64 f) := by subst hW; go_simp
  have k4 : W.cell? ⟨w.heap.size + 1 + 1, 4, none⟩ = some (.slice none 0 0) := by subst hW; go_simp
  have r0 : W.cell? ⟨w.heap.size + 1, 0, none⟩ = some (.int .i64 0) := by subst hW; go_simp
  have r1 : W.cell? ⟨w.heap.size + 1, 1, none⟩ = some (.int .i64 0) := by subst hW; go_simp
  have r2 : W.cell? ⟨w.heap.size + 1, 2, none⟩ = some (.int .i64 0) := by subst hW; go_simp
  have r3 : W.cell? ⟨w.heap.size + 1, 3, none⟩ = some (.int .i64 0) := by subst hW; go_simp
  have r4 : W.cell? ⟨w.heap.size + 1, 4, none⟩ = some (.slice none 0 0) := by subst hW; go_simp
  have fk : W.frozen? ⟨w.heap.size + 1 + 1, 4, none⟩ = false := by subst hW; go_simp
  have fr0 : W.frozen? ⟨w.heap.size + 1, 0, none⟩ = false := by subst hW; go_simp
  have fr1 : W.frozen? ⟨w.heap.size + 1, 1, none⟩ = false := by subst hW; go_simp
  have fr2 : W.frozen? ⟨w.heap.size + 1, 2, none⟩ = false := by subst hW; go_simp
  have fr3 : W.frozen? ⟨w.heap.size + 1, 3, none⟩ = false := by subst hW; go_simp
  have fr4 : W.frozen? ⟨w.heap.size + 1, 4, none⟩ = false := by subst hW; go_simp
  go_enter Tryd.func9, Tryd.ntmps9
  go_wp2_with fail
  rw [← hW]
  clear hW
  refine (toSealS_any a cap xs _ (h.later B0) hx).mono ?_
  rintro r w2 ⟨rfl, hr2, hb2⟩
  have hz2 := hb2.size
  obtain ⟨hc, hf⟩ := bcell hb2
  rw [← hc _ _ (by omega)] at k0 r0
  rw [← hc _ _ (by omega)] at k1 r1
  rw [← hc _ _ (by omega)] at k2 r2
  rw [← hc _ _ (by omega)] at k3 r3
  rw [← hc _ _ (by omega)] at k4 r4
  rw [← hf _ _ (by omega)] at fr0
  rw [← hf _ _ (by omega)] at fr1
  rw [← hf _ _ (by omega)] at fr2
  rw [← hf _ _ (by omega)] at fr3
  rw [← hf _ _ (by omega)] at fr4
  rw [← hf _ _ (by omega)] at fk
  have hl1 : w.heap.size + 1 < w2.heap.size := by omega
  have hl2 : w.heap.size + 1 + 1 < w2.heap.size := by omega
  have HR : Hid (SRow w2 (some ⟨W.heap.size, 0, none⟩) xs ∧ Below W.heap.size W w2 ∧ Below w.heap.size w W) := ⟨hr2, hb2, B0⟩
  clear hr2 hb2 B0 hc hf h
  go_wp2_with fail
  refine bodyPost_ret (v := .agg #[.int .i64 m, .int .i64 n, .int .i64 k, .int .i64 f, .slice (some ⟨w.heap.size + 3, 0, none⟩) xs.length xs.length]) (by simp [results, Tryd.results9, go_sem, *]) rfl ⟨⟨_, rfl, ?_⟩, ?_⟩
  · have h1 := HR.out.1
    rw [hz] at h1
    exact ((((((h1.set (by omega)).set (by omega)).set (by omega)).set (by omega)).set (by omega)).set (by omega))
  · have h1 := HR.out.2.2.trans (HR.out.2.1.mono (by omega))
    exact ((((((h1.setCell (p := ⟨_, _, none⟩) (by simp; omega) _).setCell (p := ⟨_, _, none⟩) (by simp) _).setCell (p := ⟨_, _, none⟩) (by simp) _).setCell (p := ⟨_, _, none⟩) (by simp) _).setCell (p := ⟨_, _, none⟩) (by simp) _).setCell (p := ⟨_, _, none⟩) (by simp) _)

end Go.Proofs.YtghajmfjekfdpaaDoor

namespace Go.Proofs.YtghajmfjekfdpaaDoor
open Go.RowKit
attribute [local go_sem ↓] Go.wp_at_zero Go.wp_at_succ

set_option maxRecDepth 100000 in
set_option maxHeartbeats 1000000 in
theorem toMsg_wb (m n k f : Int) (a : Option Addr) (cap : Nat) (xs : List Sl) (w : World) (h : SRow w a xs) (hx : xs.length ≤ 2000000) :
    Calls Tryd.prog 9 #[.agg #[.int .i64 m, .int .i64 n, .int .i64 k, .int .i64 f, .slice a xs.length cap]] w fun r w' => ∃ g, r = .returned (.agg #[.int .i64 m, .int .i64 n, .int .i64 k, .int .i64 f, .slice (some ⟨g, 0, none⟩) xs.length xs.length]) ∧ w.heap.size ≤ g ∧ SRow w' (some ⟨g, 0, none⟩) xs ∧ WB w' g (xs.length * 7) ∧ Below w.heap.size w w' := by
  obtain ⟨W, hW⟩ : ∃ W, W = (((w.alloc (.cells #[.int .i64 m, .int .i64 n, .int .i64 k, .int .i64 f, .slice a xs.length cap] 26)).alloc (.cells #[.int .i64 0, .int .i64 0, .int .i64 0, .int .i64 0, .slice none 0 0] 33)).alloc (.cells #[.int .i64 m, .int .i64 n, .int .i64 k, .int .i64 f, .slice none 0 0] 33)) := ⟨_, rfl⟩
  have hz : W.heap.size = w.heap.size + 3 := by subst hW; simp
  have B0 : Below w.heap.size w W := hW ▸ (((Below.refl _ _).alloc (Nat.le_refl _) _).alloc (by simp) _).alloc (by simp; omega) _
  have k0 : W.cell? ⟨w.heap.size + 1 + 1, 0, none⟩ = some (.int .i64 m) := by subst hW; go_simp
  have k1 : W.cell? ⟨w.heap.size + 1 + 1, 1, none⟩ = some (.int .i64 n) := by subst hW; go_simp
  have k2 : W.cell? ⟨w.heap.size + 1 + 1, 2, none⟩ = some (.int .i64 k) := by subst hW; go_simp
  have k3 : W.cell? ⟨w.heap.size + 1 + 1, 3, none⟩ = some (.int .i64 f) := by subst hW; go_simp
  have k4 : W.cell? ⟨w.heap.size + 1 + 1, 4, none⟩ = some (.slice none 0 0) := by subst hW; go_simp
  have r0 : W.cell? ⟨w.heap.size + 1, 0, none⟩ = some (.int .i64 0) := by subst hW; go_simp
  have r1 : W.cell? ⟨w.heap.size + 1, 1, none⟩ = some (.int .i64 0) := by subst hW; go_simp
  have r2 : W.cell? ⟨w.heap.size + 1, 2, none⟩ = some (.int .i64 0) := by subst hW; go_simp
  have r3 : W.cell? ⟨w.heap.size + 1, 3, none⟩ = some (.int .i64 0) := by subst hW; go_simp
  have r4 : W.cell? ⟨w.heap.size + 1, 4, none⟩ = some (.slice none 0 0) := by subst hW; go_simp
  have fk : W.frozen? ⟨w.heap.size + 1 + 1, 4, none⟩ = false := by subst hW; go_simp
  have fr0 : W.frozen? ⟨w.heap.size + 1, 0, none⟩ = false := by subst hW; go_simp
  have fr1 : W.frozen? ⟨w.heap.size + 1, 1, none⟩ = false := by subst hW; go_simp
  have fr2 : W.frozen? ⟨w.heap.size + 1, 2, none⟩ = false := by subst hW; go_simp
  have fr3 : W.frozen? ⟨w.heap.size + 1, 3, none⟩ = false := by subst hW; go_simp
  have fr4 : W.frozen? ⟨w.heap.size + 1, 4, none⟩ = false := by subst hW; go_simp
  go_enter Tryd.func9, Tryd.ntmps9
  go_wp2_with fail
  rw [← hW]
  clear hW
  refine (toSealS_wb a cap xs _ (h.later B0) hx).mono ?_
  rintro r w2 ⟨rfl, hr2, ⟨cu2, hc2, hs2⟩, hb2⟩
  have hz2 := hb2.size
  obtain ⟨hc, hf⟩ := bcell hb2
  rw [← hc _ _ (by omega)] at k0 r0
  rw [← hc _ _ (by omega)] at k1 r1
  rw [← hc _ _ (by omega)] at k2 r2
  rw [← hc _ _ (by omega)] at k3 r3
  rw [← hc _ _ (by omega)] at k4 r4
  rw [← hf _ _ (by omega)] at fr0
  rw [← hf _ _ (by omega)] at fr1
  rw [← hf _ _ (by omega)] at fr2
  rw [← hf _ _ (by omega)] at fr3
  rw [← hf _ _ (by omega)] at fr4
  rw [← hf _ _ (by omega)] at fk
  have hl1 : w.heap.size + 1 < w2.heap.size := by omega
  have hl2 : w.heap.size + 1 + 1 < w2.heap.size := by omega
  have HR : Hid (SRow w2 (some ⟨W.heap.size, 0, none⟩) xs ∧ Below W.heap.size W w2 ∧ Below w.heap.size w W) := ⟨hr2, hb2, B0⟩
  have HWB : Hid (WB w2 (w.heap.size + 3) (xs.length * 7)) := by rw [hz] at hc2; exact ⟨cu2, _, hc2, by omega⟩
  clear hc2 hs2
  clear hr2 hb2 B0 hc hf h
  go_wp2_with fail
  refine bodyPost_ret (v := .agg #[.int .i64 m, .int .i64 n, .int .i64 k, .int .i64 f, .slice (some ⟨w.heap.size + 3, 0, none⟩) xs.length xs.length]) (by simp [results, Tryd.results9, go_sem, *]) rfl ⟨w.heap.size + 3, rfl, by omega, ?_, ?_, ?_⟩
  · have h1 := HR.out.1
    rw [hz] at h1
    exact ((((((h1.set (by omega)).set (by omega)).set (by omega)).set (by omega)).set (by omega)).set (by omega))
  · refine HWB.out.same ?_
    simp [World.setCell, Array.getElem?_modify]
  · have h1 := HR.out.2.2.trans (HR.out.2.1.mono (by omega))
    exact ((((((h1.setCell (p := ⟨_, _, none⟩) (by simp; omega) _).setCell (p := ⟨_, _, none⟩) (by simp) _).setCell (p := ⟨_, _, none⟩) (by simp) _).setCell (p := ⟨_, _, none⟩) (by simp) _).setCell (p := ⟨_, _, none⟩) (by simp) _).setCell (p := ⟨_, _, none⟩) (by simp) _)

set_option maxHeartbeats 1000000 in
/-- Marks in a row of the call's own. -/
theorem markMsg_own (m n k f : Int) {w : World} {base : Nat} {v : Value} {zs : List Sl} (k0 : Int) (h : OwnS w base v zs) (hB : base ≤ w.heap.size) (hn : zs.length ≤ 2000000) (h0 : 0 ≤ k0) (h1 : k0 ≤ 100000000) :
    Calls Tryd.prog 14 #[.agg #[.int .i64 m, .int .i64 n, .int .i64 k, .int .i64 f, v], .int .i64 k0] w fun r w' => r = .returned (.int .i64 (k0 + 7 * zs.length)) ∧ Below base w w' ∧ Mk7 w' v zs.length k0 := by
  obtain ⟨a, cap, rfl, _⟩ := h.row
  have HO : Hid (OwnS w base (.slice a zs.length cap) zs) := h
  clear h
  go_enter Tryd.func14, Tryd.ntmps14
  go_wp2_with fail
  refine (markSeal_own k0 (OwnS.later HO.out (Below.alloc_ _ _)) hn h0 h1).mono ?_
  rintro r w2 ⟨rfl, b2, m2⟩
  go_wp2_with fail
  go_ret
  exact ⟨rfl, ((Below.alloc_ _ _).mono hB).trans b2, m2⟩
set_option maxHeartbeats 1000000 in
/-- Marks in a row that may be written. -/
theorem markMsg_row (m n k f : Int) (g len cap : Nat) (k0 : Int) (w : World) (h : WB w g (len * 7)) (hn : len ≤ 2000000) (h0 : 0 ≤ k0) (h1 : k0 ≤ 100000000) :
    Calls Tryd.prog 14 #[.agg #[.int .i64 m, .int .i64 n, .int .i64 k, .int .i64 f, .slice (some ⟨g, 0, none⟩) len cap], .int .i64 k0] w fun r w' => r = .returned (.int .i64 (k0 + 7 * len)) ∧ w.grownBy w' (some g) := by
  have hg := h.lt
  have HW : Hid (WB (w.alloc (.cells #[.int .i64 m, .int .i64 n, .int .i64 k, .int .i64 f, .slice (some ⟨g, 0, none⟩) len cap] 33)) g (len * 7)) := h.same (Below.heap_alloc _ _ _ hg)
  clear h
  go_enter Tryd.func14, Tryd.ntmps14
  go_wp2_with fail
  refine (markSealS_any g len cap k0 _ HW.out hn h0 h1).mono ?_
  rintro r w2 ⟨rfl, t2, _, _⟩
  go_wp2_with fail
  go_ret
  exact ⟨rfl, (World.grownBy_alloc _ _ _).trans ⟨t2.os, t2.tape, t2.output, Nat.le_of_eq t2.size.symm, fun k _ hk => t2.block k (fun e => hk (by rw [e]))⟩⟩
set_option maxHeartbeats 1000000 in
/-- They are held. -/
theorem heldMsg_own (m n k f : Int) {w : World} {v : Value} {len : Nat} (k0 : Int) (h : Mk7 w v len k0) (hn : len ≤ 2000000) (h0 : 0 ≤ k0) (h1 : k0 ≤ 100000000) :
    Calls Tryd.prog 16 #[.agg #[.int .i64 m, .int .i64 n, .int .i64 k, .int .i64 f, v], .int .i64 k0] w fun r w' => r = .returned (.int .i64 (k0 + 7 * len)) ∧ Below w.heap.size w w' := by
  have HM : Hid (Mk7 w v len k0) := h
  have hk : ¬ (k0 + 7 * (len : Int)) < 0 := by omega
  obtain ⟨a, cap, rfl, _⟩ := h
  go_enter Tryd.func16, Tryd.ntmps16
  go_wp2_with fail
  refine (heldSeal_own k0 (HM.out.later (Below.alloc_ _ _)) hn h0 h1).mono ?_
  rintro r w2 ⟨rfl, hw⟩
  rw [hw]
  clear hw w2
  go_wp2_with fail
  go_ret
  exact ⟨rfl, Below.alloc_ _ _⟩

end Go.Proofs.YtghajmfjekfdpaaDoor

namespace Go.Proofs.YtghajmfjekfdpaaDoor
open Go.RowKit
attribute [local go_sem ↓] Go.wp_at_zero Go.wp_at_succ

set_option maxHeartbeats 1000000 in
theorem eqMsg_same (m n k f : Int) (a1 a2 : Option Addr) (p1 p2 : Nat) (xs : List Sl) (w : World) (h1 : SRow w a1 xs) (h2 : SRow w a2 xs) (hx : xs.length ≤ 2000000) :
    Calls Tryd.prog 12 #[.agg #[.int .i64 m, .int .i64 n, .int .i64 k, .int .i64 f, .slice a1 xs.length p1], .agg #[.int .i64 m, .int .i64 n, .int .i64 k, .int .i64 f, .slice a2 xs.length p2]] w fun r w' => r = .returned (.bool true) ∧ Below w.heap.size w w' := by
  go_enter Tryd.func12, Tryd.ntmps12
  go_wp2_with fail
  have hb1 := fun o1 o2 : Obj => ((Below.refl w.heap.size w).alloc (Nat.le_refl _) o1).alloc (by simp) o2
  refine (eqSealS_same a1 a2 p1 p2 xs _ (h1.later (hb1 _ _)) (h2.later (hb1 _ _)) hx).mono ?_
  rintro r w2 ⟨rfl, hb2⟩
  go_wp2_with fail
  go_ret
  exact ⟨rfl, (hb1 _ _).trans (hb2.mono (by simp; omega))⟩

set_option maxHeartbeats 400000 in
theorem szMsg_short (m n k f : Int) (a : Option Addr) (len cap : Nat) (w : World) (hl : len ≤ 1048576) :
    Calls Tryd.prog 6 #[.agg #[.int .i64 m, .int .i64 n, .int .i64 k, .int .i64 f, .slice a len cap], .int .i64 1048576] w fun r w' => r = .returned (.int .i64 (1048576 - (len : Int))) ∧ Below w.heap.size w w' := by
  have hn : ¬ (1048576 - (len : Int)) < 0 := by omega
  go_enter Tryd.func6, Tryd.ntmps6
  go_wp2_with fail
  refine (szSealS_short a len cap _ hl).mono ?_
  rintro r w2 ⟨rfl, rfl⟩
  go_wp2_with fail
  go_ret
  exact ⟨rfl, (Below.refl _ _).alloc (Nat.le_refl _) _⟩
set_option maxHeartbeats 400000 in
theorem szMsg_long (m n k f : Int) (a : Option Addr) (len cap : Nat) (w : World) (hl : 1048576 < len) (hm : len ≤ 9223372036854775807) :
    Calls Tryd.prog 6 #[.agg #[.int .i64 m, .int .i64 n, .int .i64 k, .int .i64 f, .slice a len cap], .int .i64 1048576] w fun r w' => r = .returned (.int .i64 (-1)) ∧ Below w.heap.size w w' := by
  go_enter Tryd.func6, Tryd.ntmps6
  go_wp2_with fail
  refine (szSealS_long a len cap _ hl hm).mono ?_
  rintro r w2 ⟨rfl, rfl⟩
  go_wp2_with fail
  go_ret
  exact ⟨rfl, (Below.refl _ _).alloc (Nat.le_refl _) _⟩

end Go.Proofs.YtghajmfjekfdpaaDoor

namespace Go.Proofs.YtghajmfjekfdpaaDoor
open Go.RowKit

set_option maxHeartbeats 400000 in
theorem szMsg_any (m n k f : Int) (a : Option Addr) (len cap : Nat) (q : Int) (w : World) (hq : 0 ≤ q) (hq2 : q ≤ 1048576) (hm : len ≤ 9223372036854775807) :
    Calls Tryd.prog 6 #[.agg #[.int .i64 m, .int .i64 n, .int .i64 k, .int .i64 f, .slice a len cap], .int .i64 q] w fun r w' => r = .returned (.int .i64 (leftI q len)) ∧ Below w.heap.size w w' := by
  have hb : Below w.heap.size w (w.alloc (.cells #[.int .i64 m, .int .i64 n, .int .i64 k, .int .i64 f, .slice a len cap] 26)) := (Below.refl _ _).alloc (Nat.le_refl _) _
  go_enter Tryd.func6, Tryd.ntmps6
  go_wp2_with fail
  refine (szSealS_any a len cap q _ hq hq2 hm).mono ?_
  rintro r w2 ⟨rfl, hw⟩
  rw [hw]
  clear hw
  obtain ⟨L, hL⟩ : ∃ L, leftI q len = L := ⟨_, rfl⟩
  rw [hL]
  by_cases hn : L < 0
  · have hl1 : L = -1 := by
      unfold leftI at hL
      split at hL <;> omega
    subst hl1
    go_wp2_with fail
    go_ret
    exact ⟨by rw [hL]; rfl, hb⟩
  · go_wp2_with fail
    go_ret
    exact ⟨by rw [hL]; rfl, hb⟩

end Go.Proofs.YtghajmfjekfdpaaDoor

namespace Go.Proofs.YtghajmfjekfdpaaDoor
open Go.RowKit

/-- So many seals, all ok. -/
def slB (xs : List Sl) (many : Int) : Bool := xs.all Sl.ok && decide ((xs.length : Int) = many)
theorem slB_not {xs : List Sl} {q : Int} (h : ((xs.length : Int) == q) = false) : slB xs q = false := by
  have h' : ¬ (xs.length : Int) = q := by simpa using h
  simp only [slB, decide_eq_false h', Bool.and_false]
theorem slB_len {xs : List Sl} {q : Int} (h : ((xs.length : Int) == q) = true) : slB xs q = xs.all Sl.ok := by
  have h' : (xs.length : Int) = q := by simpa using h
  simp only [slB, decide_eq_true h', Bool.and_true]
/-- A word is in form: its kind, user, service, number, seals. -/
def msgB (m n k f : Int) (xs : List Sl) : Bool :=
  if m = 1 then inB n 1 3 && (k == 0) && inB f 1 60 && slB xs 0
  else if m = 2 then inB n 1 3 && (k == 0) && (f == 0) && slB xs 2
  else if m = 3 then (n == 0) && inB k 4 5 && inB f 1 60 && slB xs 2
  else if m = 4 then inB n 1 3 && (k == 0) && (f == 0) && slB xs 2
  else if m = 5 then (n == 0) && inB k 4 5 && (f == 0) && slB xs 2
  else if m = 6 then inB n 1 3 && (k == 0) && (f == 0) && slB xs 1
  else false

set_option maxHeartbeats 400000 in
theorem l1Serv_any (n : Int) (w : World) :
    Calls Tryd.prog 72 #[.int .i64 n] w fun e w' => e = .returned (.bool (inB n 4 5)) ∧ w' = w := by
  go_enter Tryd.func72, Tryd.ntmps72
  go_wp2_with (go_at_call 55; refine (l6In_any _ _ _ _).mono ?_; rintro e w' ⟨rfl, rfl⟩)
  go_ret
  exact ⟨rfl, rfl⟩

/-- The table of forms, cell by cell. -/
def formCells : List Value := [.bool false, .bool false, .bool false, .int .i64 0, .bool true, .bool false, .bool true, .int .i64 0, .bool true, .bool false, .bool false, .int .i64 2, .bool false, .bool true, .bool true, .int .i64 2,
  .bool true, .bool false, .bool false, .int .i64 2, .bool false, .bool true, .bool false, .int .i64 2, .bool true, .bool false, .bool false, .int .i64 1]
/-- It lies so in memory. -/
structure Forms (w : World) : Prop where
  lt : 0 < w.heap.size
  cell : ∀ (i : Nat) v, formCells[i]? = some v → w.cell? ⟨0, i, none⟩ = some v
theorem Forms.later {w w' : World} (h : Forms w) (hb : Below w.heap.size w w') : Forms w' :=
  ⟨Nat.lt_of_lt_of_le h.lt hb.size, fun i v hv => ((bcell hb).1 _ _ h.lt).trans (h.cell i v hv)⟩

/-- A number is such a one, if there is to be one, and else it is 0; which ones, by the function that is handed over. -/
def just (b : Bool) (g : Nat) (n : Int) : Bool := if b then (if g = 89 then inB n 1 3 else if g = 75 then inB n 4 5 else inB n 1 60) else n == 0
set_option maxHeartbeats 400000 in
theorem isJust_any (b : Bool) (g : Nat) (n : Int) (w : World) (h : g = 89 ∨ g = 75 ∨ g = 90) :
    Calls Tryd.prog 88 #[.bool b, .func (.func g) #[] #[], .int .i64 n] w fun r w' => r = .returned (.bool (just b g n)) ∧ w' = w := by
  rcases h with rfl | rfl | rfl
  all_goals cases b
  all_goals
    go_enter Tryd.func88, Tryd.ntmps88
    go_wp2_with (first | (go_at_call 89; refine (isUser_any _ _).mono ?_; rintro e w' ⟨rfl, rfl⟩) | (go_at_call 75; refine (isServ_any _ _).mono ?_; rintro e w' ⟨rfl, rfl⟩) | (go_at_call 90; refine (isNum_any _ _).mono ?_; rintro e w' ⟨rfl, rfl⟩))
    go_ret
    exact ⟨ret_bool (by simp [just]), rfl⟩

set_option maxHeartbeats 1000000 in
theorem specMsg1_any (n k f : Int) (a : Option Addr) (cap : Nat) (xs : List Sl) (w : World) (h : SRow w a xs) (hx : xs.length ≤ 2000000) :
    Calls Tryd.prog 57 #[.agg #[.int .i64 1, .int .i64 n, .int .i64 k, .int .i64 f, .slice a xs.length cap]] w fun r w' => r = .returned (.bool (inB n 1 3 && (k == 0) && inB f 1 60 && slB xs 0)) ∧ Below w.heap.size w w' := by
  go_enter Tryd.func57, Tryd.ntmps57
  go_wp2_with (first | (go_at_call 83; refine (l1User_any _ _).mono ?_; rintro e w' ⟨rfl, rfl⟩) | (go_at_call 72; refine (l1Serv_any _ _).mono ?_; rintro e w' ⟨rfl, rfl⟩) | (go_at_call 84; refine (l1Num_any _ _).mono ?_; rintro e w' ⟨rfl, rfl⟩) | (go_at_call 85; refine (l2Seals_any _ _ _ _ _ _ _ xs _ (h.later ((Below.refl _ _).alloc (Nat.le_refl _) _)) hx).mono ?_; rintro e w2 ⟨rfl, hb2⟩))
  all_goals go_ret
  all_goals first | exact ⟨ret_bool (by simp_all [slB]), ((Below.refl _ _).alloc (Nat.le_refl _) _).trans (hb2.mono (by simp))⟩ | exact ⟨ret_bool (by simp_all [slB]), (Below.refl _ _).alloc (Nat.le_refl _) _⟩

set_option maxHeartbeats 1000000 in
theorem specMsg2_any (n k f : Int) (a : Option Addr) (cap : Nat) (xs : List Sl) (w : World) (h : SRow w a xs) (hx : xs.length ≤ 2000000) :
    Calls Tryd.prog 57 #[.agg #[.int .i64 2, .int .i64 n, .int .i64 k, .int .i64 f, .slice a xs.length cap]] w fun r w' => r = .returned (.bool (inB n 1 3 && (k == 0) && (f == 0) && slB xs 2)) ∧ Below w.heap.size w w' := by
  go_enter Tryd.func57, Tryd.ntmps57
  go_wp2_with (first | (go_at_call 83; refine (l1User_any _ _).mono ?_; rintro e w' ⟨rfl, rfl⟩) | (go_at_call 72; refine (l1Serv_any _ _).mono ?_; rintro e w' ⟨rfl, rfl⟩) | (go_at_call 84; refine (l1Num_any _ _).mono ?_; rintro e w' ⟨rfl, rfl⟩) | (go_at_call 85; refine (l2Seals_any _ _ _ _ _ _ _ xs _ (h.later ((Below.refl _ _).alloc (Nat.le_refl _) _)) hx).mono ?_; rintro e w2 ⟨rfl, hb2⟩))
  all_goals go_ret
  all_goals first | exact ⟨ret_bool (by simp_all [slB]), ((Below.refl _ _).alloc (Nat.le_refl _) _).trans (hb2.mono (by simp))⟩ | exact ⟨ret_bool (by simp_all [slB]), (Below.refl _ _).alloc (Nat.le_refl _) _⟩

set_option maxHeartbeats 1000000 in
theorem specMsg3_any (n k f : Int) (a : Option Addr) (cap : Nat) (xs : List Sl) (w : World) (h : SRow w a xs) (hx : xs.length ≤ 2000000) :
    Calls Tryd.prog 57 #[.agg #[.int .i64 3, .int .i64 n, .int .i64 k, .int .i64 f, .slice a xs.length cap]] w fun r w' => r = .returned (.bool ((n == 0) && inB k 4 5 && inB f 1 60 && slB xs 2)) ∧ Below w.heap.size w w' := by
  go_enter Tryd.func57, Tryd.ntmps57
  go_wp2_with (first | (go_at_call 83; refine (l1User_any _ _).mono ?_; rintro e w' ⟨rfl, rfl⟩) | (go_at_call 72; refine (l1Serv_any _ _).mono ?_; rintro e w' ⟨rfl, rfl⟩) | (go_at_call 84; refine (l1Num_any _ _).mono ?_; rintro e w' ⟨rfl, rfl⟩) | (go_at_call 85; refine (l2Seals_any _ _ _ _ _ _ _ xs _ (h.later ((Below.refl _ _).alloc (Nat.le_refl _) _)) hx).mono ?_; rintro e w2 ⟨rfl, hb2⟩))
  all_goals go_ret
  all_goals first | exact ⟨ret_bool (by simp_all [slB]), ((Below.refl _ _).alloc (Nat.le_refl _) _).trans (hb2.mono (by simp))⟩ | exact ⟨ret_bool (by simp_all [slB]), (Below.refl _ _).alloc (Nat.le_refl _) _⟩

set_option maxHeartbeats 1000000 in
theorem specMsg4_any (n k f : Int) (a : Option Addr) (cap : Nat) (xs : List Sl) (w : World) (h : SRow w a xs) (hx : xs.length ≤ 2000000) :
    Calls Tryd.prog 57 #[.agg #[.int .i64 4, .int .i64 n, .int .i64 k, .int .i64 f, .slice a xs.length cap]] w fun r w' => r = .returned (.bool (inB n 1 3 && (k == 0) && (f == 0) && slB xs 2)) ∧ Below w.heap.size w w' := by
  go_enter Tryd.func57, Tryd.ntmps57
  go_wp2_with (first | (go_at_call 83; refine (l1User_any _ _).mono ?_; rintro e w' ⟨rfl, rfl⟩) | (go_at_call 72; refine (l1Serv_any _ _).mono ?_; rintro e w' ⟨rfl, rfl⟩) | (go_at_call 84; refine (l1Num_any _ _).mono ?_; rintro e w' ⟨rfl, rfl⟩) | (go_at_call 85; refine (l2Seals_any _ _ _ _ _ _ _ xs _ (h.later ((Below.refl _ _).alloc (Nat.le_refl _) _)) hx).mono ?_; rintro e w2 ⟨rfl, hb2⟩))
  all_goals go_ret
  all_goals first | exact ⟨ret_bool (by simp_all [slB]), ((Below.refl _ _).alloc (Nat.le_refl _) _).trans (hb2.mono (by simp))⟩ | exact ⟨ret_bool (by simp_all [slB]), (Below.refl _ _).alloc (Nat.le_refl _) _⟩

set_option maxHeartbeats 1000000 in
theorem specMsg5_any (n k f : Int) (a : Option Addr) (cap : Nat) (xs : List Sl) (w : World) (h : SRow w a xs) (hx : xs.length ≤ 2000000) :
    Calls Tryd.prog 57 #[.agg #[.int .i64 5, .int .i64 n, .int .i64 k, .int .i64 f, .slice a xs.length cap]] w fun r w' => r = .returned (.bool ((n == 0) && inB k 4 5 && (f == 0) && slB xs 2)) ∧ Below w.heap.size w w' := by
  go_enter Tryd.func57, Tryd.ntmps57
  go_wp2_with (first | (go_at_call 83; refine (l1User_any _ _).mono ?_; rintro e w' ⟨rfl, rfl⟩) | (go_at_call 72; refine (l1Serv_any _ _).mono ?_; rintro e w' ⟨rfl, rfl⟩) | (go_at_call 84; refine (l1Num_any _ _).mono ?_; rintro e w' ⟨rfl, rfl⟩) | (go_at_call 85; refine (l2Seals_any _ _ _ _ _ _ _ xs _ (h.later ((Below.refl _ _).alloc (Nat.le_refl _) _)) hx).mono ?_; rintro e w2 ⟨rfl, hb2⟩))
  all_goals go_ret
  all_goals first | exact ⟨ret_bool (by simp_all [slB]), ((Below.refl _ _).alloc (Nat.le_refl _) _).trans (hb2.mono (by simp))⟩ | exact ⟨ret_bool (by simp_all [slB]), (Below.refl _ _).alloc (Nat.le_refl _) _⟩

set_option maxHeartbeats 1000000 in
theorem specMsg6_any (n k f : Int) (a : Option Addr) (cap : Nat) (xs : List Sl) (w : World) (h : SRow w a xs) (hx : xs.length ≤ 2000000) :
    Calls Tryd.prog 57 #[.agg #[.int .i64 6, .int .i64 n, .int .i64 k, .int .i64 f, .slice a xs.length cap]] w fun r w' => r = .returned (.bool (inB n 1 3 && (k == 0) && (f == 0) && slB xs 1)) ∧ Below w.heap.size w w' := by
  go_enter Tryd.func57, Tryd.ntmps57
  go_wp2_with (first | (go_at_call 83; refine (l1User_any _ _).mono ?_; rintro e w' ⟨rfl, rfl⟩) | (go_at_call 72; refine (l1Serv_any _ _).mono ?_; rintro e w' ⟨rfl, rfl⟩) | (go_at_call 84; refine (l1Num_any _ _).mono ?_; rintro e w' ⟨rfl, rfl⟩) | (go_at_call 85; refine (l2Seals_any _ _ _ _ _ _ _ xs _ (h.later ((Below.refl _ _).alloc (Nat.le_refl _) _)) hx).mono ?_; rintro e w2 ⟨rfl, hb2⟩))
  all_goals go_ret
  all_goals first | exact ⟨ret_bool (by simp_all [slB]), ((Below.refl _ _).alloc (Nat.le_refl _) _).trans (hb2.mono (by simp))⟩ | exact ⟨ret_bool (by simp_all [slB]), (Below.refl _ _).alloc (Nat.le_refl _) _⟩

set_option maxHeartbeats 1000000 in
theorem specMsg0_any (m n k f : Int) (a : Option Addr) (cap : Nat) (xs : List Sl) (w : World) (h1 : (m == 1) = false) (h2 : (m == 2) = false) (h3 : (m == 3) = false) (h4 : (m == 4) = false) (h5 : (m == 5) = false) (h6 : (m == 6) = false) :
    Calls Tryd.prog 57 #[.agg #[.int .i64 m, .int .i64 n, .int .i64 k, .int .i64 f, .slice a xs.length cap]] w fun r w' => r = .returned (.bool false) ∧ Below w.heap.size w w' := by
  go_enter Tryd.func57, Tryd.ntmps57
  go_wp2_with fail
  go_ret
  exact ⟨rfl, (Below.refl _ _).alloc (Nat.le_refl _) _⟩

/-- The specification's MsgOk: what the mathematics says, whatever the word. -/
theorem specMsg_any (m n k f : Int) (a : Option Addr) (cap : Nat) (xs : List Sl) (w : World) (h : SRow w a xs) (hx : xs.length ≤ 2000000) :
    Calls Tryd.prog 57 #[.agg #[.int .i64 m, .int .i64 n, .int .i64 k, .int .i64 f, .slice a xs.length cap]] w fun r w' => r = .returned (.bool (msgB m n k f xs)) ∧ Below w.heap.size w w' := by
  unfold msgB
  by_cases h1 : m = 1
  · subst h1; simpa using specMsg1_any n k f a cap xs w h hx
  by_cases h2 : m = 2
  · subst h2; simpa using specMsg2_any n k f a cap xs w h hx
  by_cases h3 : m = 3
  · subst h3; simpa using specMsg3_any n k f a cap xs w h hx
  by_cases h4 : m = 4
  · subst h4; simpa using specMsg4_any n k f a cap xs w h hx
  by_cases h5 : m = 5
  · subst h5; simpa using specMsg5_any n k f a cap xs w h hx
  by_cases h6 : m = 6
  · subst h6; simpa using specMsg6_any n k f a cap xs w h hx
  simpa [h1, h2, h3, h4, h5, h6] using specMsg0_any m n k f a cap xs w (by simpa using h1) (by simpa using h2) (by simpa using h3) (by simpa using h4) (by simpa using h5) (by simpa using h6)

set_option maxHeartbeats 1000000 in
theorem implMsg1_any (n k f : Int) (a : Option Addr) (cap : Nat) (xs : List Sl) (w : World) (h : SRow w a xs) (hx : xs.length ≤ 2000000) (hf : Forms w) :
    Calls Tryd.prog 62 #[.agg #[.int .i64 1, .int .i64 n, .int .i64 k, .int .i64 f, .slice a xs.length cap]] w fun r w' => r = .returned (.bool (inB n 1 3 && (k == 0) && inB f 1 60 && slB xs 0)) ∧ Below w.heap.size w w' := by
  have hg0 := hf.cell 4 _ rfl
  have hg1 := hf.cell 5 _ rfl
  have hg2 := hf.cell 6 _ rfl
  have hg3 := hf.cell 7 _ rfl
  have hgl := hf.lt
  clear hf
  go_enter Tryd.func62, Tryd.ntmps62
  have hb1 : Below w.heap.size w ((w.alloc (.cells #[.int .i64 1, .int .i64 n, .int .i64 k, .int .i64 f, .slice a xs.length cap] 33)).alloc (.cells #[.bool true, .bool false, .bool true, .int .i64 0] 120)) := ((Below.refl _ _).alloc (Nat.le_refl _) _).alloc (by simp) _
  go_wp2_with fail
  refine (isJust_any _ _ _ _ (Or.inl rfl)).mono ?_
  rintro e w' ⟨rfl, rfl⟩
  cases hj1 : just true 89 n
  · go_wp2_with fail
    go_ret
    exact ⟨ret_bool (by simp_all [just]), hb1⟩
  go_wp2_with fail
  refine (isJust_any _ _ _ _ (Or.inr (Or.inl rfl))).mono ?_
  rintro e w' ⟨rfl, rfl⟩
  cases hj2 : just false 75 k
  · go_wp2_with fail
    go_ret
    exact ⟨ret_bool (by simp_all [just]), hb1⟩
  go_wp2_with fail
  refine (isJust_any _ _ _ _ (Or.inr (Or.inr rfl))).mono ?_
  rintro e w' ⟨rfl, rfl⟩
  cases hj3 : just true 90 f
  · go_wp2_with fail
    go_ret
    exact ⟨ret_bool (by simp_all [just]), hb1⟩
  cases hn : ((xs.length : Int) == 0)
  · go_wp2_with fail
    go_ret
    exact ⟨ret_bool (by rw [slB_not hn, Bool.and_false]), hb1⟩
  go_wp2_with fail
  refine (allOk_any _ _ xs _ (h.later hb1) hx).mono ?_
  rintro e w2 ⟨rfl, hb2⟩
  go_wp2_with fail
  go_ret
  refine ⟨ret_bool ?_, hb1.trans (hb2.mono (by simp; omega))⟩
  rw [slB_len hn]
  simp_all [just]

set_option maxHeartbeats 1000000 in
theorem implMsg2_any (n k f : Int) (a : Option Addr) (cap : Nat) (xs : List Sl) (w : World) (h : SRow w a xs) (hx : xs.length ≤ 2000000) (hf : Forms w) :
    Calls Tryd.prog 62 #[.agg #[.int .i64 2, .int .i64 n, .int .i64 k, .int .i64 f, .slice a xs.length cap]] w fun r w' => r = .returned (.bool (inB n 1 3 && (k == 0) && (f == 0) && slB xs 2)) ∧ Below w.heap.size w w' := by
  have hg0 := hf.cell 8 _ rfl
  have hg1 := hf.cell 9 _ rfl
  have hg2 := hf.cell 10 _ rfl
  have hg3 := hf.cell 11 _ rfl
  have hgl := hf.lt
  clear hf
  go_enter Tryd.func62, Tryd.ntmps62
  have hb1 : Below w.heap.size w ((w.alloc (.cells #[.int .i64 2, .int .i64 n, .int .i64 k, .int .i64 f, .slice a xs.length cap] 33)).alloc (.cells #[.bool true, .bool false, .bool false, .int .i64 2] 120)) := ((Below.refl _ _).alloc (Nat.le_refl _) _).alloc (by simp) _
  go_wp2_with fail
  refine (isJust_any _ _ _ _ (Or.inl rfl)).mono ?_
  rintro e w' ⟨rfl, rfl⟩
  cases hj1 : just true 89 n
  · go_wp2_with fail
    go_ret
    exact ⟨ret_bool (by simp_all [just]), hb1⟩
  go_wp2_with fail
  refine (isJust_any _ _ _ _ (Or.inr (Or.inl rfl))).mono ?_
  rintro e w' ⟨rfl, rfl⟩
  cases hj2 : just false 75 k
  · go_wp2_with fail
    go_ret
    exact ⟨ret_bool (by simp_all [just]), hb1⟩
  go_wp2_with fail
  refine (isJust_any _ _ _ _ (Or.inr (Or.inr rfl))).mono ?_
  rintro e w' ⟨rfl, rfl⟩
  cases hj3 : just false 90 f
  · go_wp2_with fail
    go_ret
    exact ⟨ret_bool (by simp_all [just]), hb1⟩
  cases hn : ((xs.length : Int) == 2)
  · go_wp2_with fail
    go_ret
    exact ⟨ret_bool (by rw [slB_not hn, Bool.and_false]), hb1⟩
  go_wp2_with fail
  refine (allOk_any _ _ xs _ (h.later hb1) hx).mono ?_
  rintro e w2 ⟨rfl, hb2⟩
  go_wp2_with fail
  go_ret
  refine ⟨ret_bool ?_, hb1.trans (hb2.mono (by simp; omega))⟩
  rw [slB_len hn]
  simp_all [just]

set_option maxHeartbeats 1000000 in
theorem implMsg3_any (n k f : Int) (a : Option Addr) (cap : Nat) (xs : List Sl) (w : World) (h : SRow w a xs) (hx : xs.length ≤ 2000000) (hf : Forms w) :
    Calls Tryd.prog 62 #[.agg #[.int .i64 3, .int .i64 n, .int .i64 k, .int .i64 f, .slice a xs.length cap]] w fun r w' => r = .returned (.bool ((n == 0) && inB k 4 5 && inB f 1 60 && slB xs 2)) ∧ Below w.heap.size w w' := by
  have hg0 := hf.cell 12 _ rfl
  have hg1 := hf.cell 13 _ rfl
  have hg2 := hf.cell 14 _ rfl
  have hg3 := hf.cell 15 _ rfl
  have hgl := hf.lt
  clear hf
  go_enter Tryd.func62, Tryd.ntmps62
  have hb1 : Below w.heap.size w ((w.alloc (.cells #[.int .i64 3, .int .i64 n, .int .i64 k, .int .i64 f, .slice a xs.length cap] 33)).alloc (.cells #[.bool false, .bool true, .bool true, .int .i64 2] 120)) := ((Below.refl _ _).alloc (Nat.le_refl _) _).alloc (by simp) _
  go_wp2_with fail
  refine (isJust_any _ _ _ _ (Or.inl rfl)).mono ?_
  rintro e w' ⟨rfl, rfl⟩
  cases hj1 : just false 89 n
  · go_wp2_with fail
    go_ret
    exact ⟨ret_bool (by simp_all [just]), hb1⟩
  go_wp2_with fail
  refine (isJust_any _ _ _ _ (Or.inr (Or.inl rfl))).mono ?_
  rintro e w' ⟨rfl, rfl⟩
  cases hj2 : just true 75 k
  · go_wp2_with fail
    go_ret
    exact ⟨ret_bool (by simp_all [just]), hb1⟩
  go_wp2_with fail
  refine (isJust_any _ _ _ _ (Or.inr (Or.inr rfl))).mono ?_
  rintro e w' ⟨rfl, rfl⟩
  cases hj3 : just true 90 f
  · go_wp2_with fail
    go_ret
    exact ⟨ret_bool (by simp_all [just]), hb1⟩
  cases hn : ((xs.length : Int) == 2)
  · go_wp2_with fail
    go_ret
    exact ⟨ret_bool (by rw [slB_not hn, Bool.and_false]), hb1⟩
  go_wp2_with fail
  refine (allOk_any _ _ xs _ (h.later hb1) hx).mono ?_
  rintro e w2 ⟨rfl, hb2⟩
  go_wp2_with fail
  go_ret
  refine ⟨ret_bool ?_, hb1.trans (hb2.mono (by simp; omega))⟩
  rw [slB_len hn]
  simp_all [just]

set_option maxHeartbeats 1000000 in
theorem implMsg4_any (n k f : Int) (a : Option Addr) (cap : Nat) (xs : List Sl) (w : World) (h : SRow w a xs) (hx : xs.length ≤ 2000000) (hf : Forms w) :
    Calls Tryd.prog 62 #[.agg #[.int .i64 4, .int .i64 n, .int .i64 k, .int .i64 f, .slice a xs.length cap]] w fun r w' => r = .returned (.bool (inB n 1 3 && (k == 0) && (f == 0) && slB xs 2)) ∧ Below w.heap.size w w' := by
  have hg0 := hf.cell 16 _ rfl
  have hg1 := hf.cell 17 _ rfl
  have hg2 := hf.cell 18 _ rfl
  have hg3 := hf.cell 19 _ rfl
  have hgl := hf.lt
  clear hf
  go_enter Tryd.func62, Tryd.ntmps62
  have hb1 : Below w.heap.size w ((w.alloc (.cells #[.int .i64 4, .int .i64 n, .int .i64 k, .int .i64 f, .slice a xs.length cap] 33)).alloc (.cells #[.bool true, .bool false, .bool false, .int .i64 2] 120)) := ((Below.refl _ _).alloc (Nat.le_refl _) _).alloc (by simp) _
  go_wp2_with fail
  refine (isJust_any _ _ _ _ (Or.inl rfl)).mono ?_
  rintro e w' ⟨rfl, rfl⟩
  cases hj1 : just true 89 n
  · go_wp2_with fail
    go_ret
    exact ⟨ret_bool (by simp_all [just]), hb1⟩
  go_wp2_with fail
  refine (isJust_any _ _ _ _ (Or.inr (Or.inl rfl))).mono ?_
  rintro e w' ⟨rfl, rfl⟩
  cases hj2 : just false 75 k
  · go_wp2_with fail
    go_ret
    exact ⟨ret_bool (by simp_all [just]), hb1⟩
  go_wp2_with fail
  refine (isJust_any _ _ _ _ (Or.inr (Or.inr rfl))).mono ?_
  rintro e w' ⟨rfl, rfl⟩
  cases hj3 : just false 90 f
  · go_wp2_with fail
    go_ret
    exact ⟨ret_bool (by simp_all [just]), hb1⟩
  cases hn : ((xs.length : Int) == 2)
  · go_wp2_with fail
    go_ret
    exact ⟨ret_bool (by rw [slB_not hn, Bool.and_false]), hb1⟩
  go_wp2_with fail
  refine (allOk_any _ _ xs _ (h.later hb1) hx).mono ?_
  rintro e w2 ⟨rfl, hb2⟩
  go_wp2_with fail
  go_ret
  refine ⟨ret_bool ?_, hb1.trans (hb2.mono (by simp; omega))⟩
  rw [slB_len hn]
  simp_all [just]

set_option maxHeartbeats 1000000 in
theorem implMsg5_any (n k f : Int) (a : Option Addr) (cap : Nat) (xs : List Sl) (w : World) (h : SRow w a xs) (hx : xs.length ≤ 2000000) (hf : Forms w) :
    Calls Tryd.prog 62 #[.agg #[.int .i64 5, .int .i64 n, .int .i64 k, .int .i64 f, .slice a xs.length cap]] w fun r w' => r = .returned (.bool ((n == 0) && inB k 4 5 && (f == 0) && slB xs 2)) ∧ Below w.heap.size w w' := by
  have hg0 := hf.cell 20 _ rfl
  have hg1 := hf.cell 21 _ rfl
  have hg2 := hf.cell 22 _ rfl
  have hg3 := hf.cell 23 _ rfl
  have hgl := hf.lt
  clear hf
  go_enter Tryd.func62, Tryd.ntmps62
  have hb1 : Below w.heap.size w ((w.alloc (.cells #[.int .i64 5, .int .i64 n, .int .i64 k, .int .i64 f, .slice a xs.length cap] 33)).alloc (.cells #[.bool false, .bool true, .bool false, .int .i64 2] 120)) := ((Below.refl _ _).alloc (Nat.le_refl _) _).alloc (by simp) _
  go_wp2_with fail
  refine (isJust_any _ _ _ _ (Or.inl rfl)).mono ?_
  rintro e w' ⟨rfl, rfl⟩
  cases hj1 : just false 89 n
  · go_wp2_with fail
    go_ret
    exact ⟨ret_bool (by simp_all [just]), hb1⟩
  go_wp2_with fail
  refine (isJust_any _ _ _ _ (Or.inr (Or.inl rfl))).mono ?_
  rintro e w' ⟨rfl, rfl⟩
  cases hj2 : just true 75 k
  · go_wp2_with fail
    go_ret
    exact ⟨ret_bool (by simp_all [just]), hb1⟩
  go_wp2_with fail
  refine (isJust_any _ _ _ _ (Or.inr (Or.inr rfl))).mono ?_
  rintro e w' ⟨rfl, rfl⟩
  cases hj3 : just false 90 f
  · go_wp2_with fail
    go_ret
    exact ⟨ret_bool (by simp_all [just]), hb1⟩
  cases hn : ((xs.length : Int) == 2)
  · go_wp2_with fail
    go_ret
    exact ⟨ret_bool (by rw [slB_not hn, Bool.and_false]), hb1⟩
  go_wp2_with fail
  refine (allOk_any _ _ xs _ (h.later hb1) hx).mono ?_
  rintro e w2 ⟨rfl, hb2⟩
  go_wp2_with fail
  go_ret
  refine ⟨ret_bool ?_, hb1.trans (hb2.mono (by simp; omega))⟩
  rw [slB_len hn]
  simp_all [just]

set_option maxHeartbeats 1000000 in
theorem implMsg6_any (n k f : Int) (a : Option Addr) (cap : Nat) (xs : List Sl) (w : World) (h : SRow w a xs) (hx : xs.length ≤ 2000000) (hf : Forms w) :
    Calls Tryd.prog 62 #[.agg #[.int .i64 6, .int .i64 n, .int .i64 k, .int .i64 f, .slice a xs.length cap]] w fun r w' => r = .returned (.bool (inB n 1 3 && (k == 0) && (f == 0) && slB xs 1)) ∧ Below w.heap.size w w' := by
  have hg0 := hf.cell 24 _ rfl
  have hg1 := hf.cell 25 _ rfl
  have hg2 := hf.cell 26 _ rfl
  have hg3 := hf.cell 27 _ rfl
  have hgl := hf.lt
  clear hf
  go_enter Tryd.func62, Tryd.ntmps62
  have hb1 : Below w.heap.size w ((w.alloc (.cells #[.int .i64 6, .int .i64 n, .int .i64 k, .int .i64 f, .slice a xs.length cap] 33)).alloc (.cells #[.bool true, .bool false, .bool false, .int .i64 1] 120)) := ((Below.refl _ _).alloc (Nat.le_refl _) _).alloc (by simp) _
  go_wp2_with fail
  refine (isJust_any _ _ _ _ (Or.inl rfl)).mono ?_
  rintro e w' ⟨rfl, rfl⟩
  cases hj1 : just true 89 n
  · go_wp2_with fail
    go_ret
    exact ⟨ret_bool (by simp_all [just]), hb1⟩
  go_wp2_with fail
  refine (isJust_any _ _ _ _ (Or.inr (Or.inl rfl))).mono ?_
  rintro e w' ⟨rfl, rfl⟩
  cases hj2 : just false 75 k
  · go_wp2_with fail
    go_ret
    exact ⟨ret_bool (by simp_all [just]), hb1⟩
  go_wp2_with fail
  refine (isJust_any _ _ _ _ (Or.inr (Or.inr rfl))).mono ?_
  rintro e w' ⟨rfl, rfl⟩
  cases hj3 : just false 90 f
  · go_wp2_with fail
    go_ret
    exact ⟨ret_bool (by simp_all [just]), hb1⟩
  cases hn : ((xs.length : Int) == 1)
  · go_wp2_with fail
    go_ret
    exact ⟨ret_bool (by rw [slB_not hn, Bool.and_false]), hb1⟩
  go_wp2_with fail
  refine (allOk_any _ _ xs _ (h.later hb1) hx).mono ?_
  rintro e w2 ⟨rfl, hb2⟩
  go_wp2_with fail
  go_ret
  refine ⟨ret_bool ?_, hb1.trans (hb2.mono (by simp; omega))⟩
  rw [slB_len hn]
  simp_all [just]

set_option maxHeartbeats 1000000 in
theorem implMsg0_any (m n k f : Int) (a : Option Addr) (cap : Nat) (xs : List Sl) (w : World) (h : m < 1 ∨ 6 < m) :
    Calls Tryd.prog 62 #[.agg #[.int .i64 m, .int .i64 n, .int .i64 k, .int .i64 f, .slice a xs.length cap]] w fun r w' => r = .returned (.bool false) ∧ Below w.heap.size w w' := by
  go_enter Tryd.func62, Tryd.ntmps62
  rcases h with h | h
  all_goals
    go_wp2_with fail
    go_ret
    exact ⟨rfl, (Below.refl _ _).alloc (Nat.le_refl _) _⟩

/-- The program's MsgOk: what the mathematics says, whatever the word. -/
theorem implMsg_any (m n k f : Int) (a : Option Addr) (cap : Nat) (xs : List Sl) (w : World) (h : SRow w a xs) (hx : xs.length ≤ 2000000) (hf : Forms w) :
    Calls Tryd.prog 62 #[.agg #[.int .i64 m, .int .i64 n, .int .i64 k, .int .i64 f, .slice a xs.length cap]] w fun r w' => r = .returned (.bool (msgB m n k f xs)) ∧ Below w.heap.size w w' := by
  unfold msgB
  by_cases h1 : m = 1
  · subst h1; simpa using implMsg1_any n k f a cap xs w h hx hf
  by_cases h2 : m = 2
  · subst h2; simpa using implMsg2_any n k f a cap xs w h hx hf
  by_cases h3 : m = 3
  · subst h3; simpa using implMsg3_any n k f a cap xs w h hx hf
  by_cases h4 : m = 4
  · subst h4; simpa using implMsg4_any n k f a cap xs w h hx hf
  by_cases h5 : m = 5
  · subst h5; simpa using implMsg5_any n k f a cap xs w h hx hf
  by_cases h6 : m = 6
  · subst h6; simpa using implMsg6_any n k f a cap xs w h hx hf
  simpa [h1, h2, h3, h4, h5, h6] using implMsg0_any m n k f a cap xs w (by omega)

end Go.Proofs.YtghajmfjekfdpaaDoor

namespace Go.Proofs.YtghajmfjekfdpaaDoor
open Go.RowKit
attribute [local go_sem ↓] Go.wp_at_zero Go.wp_at_succ

/-- A word of the program's lies in a block of its own. -/
def KMb (w : World) (b : Nat) (m c s f : Int) (v : Value) : Prop := w.heap[b]? = some (.cells #[.int .i64 m, .int .i64 c, .int .i64 s, .int .i64 f, v] 33 (0, 0))
theorem KMb.lt {w : World} {b : Nat} {m c s f : Int} {v : Value} (h : KMb w b m c s f v) : b < w.heap.size := (Array.getElem?_eq_some_iff.1 h).1
theorem KMb.later {w w' : World} {b : Nat} {m c s f : Int} {v : Value} (h : KMb w b m c s f v) (hb : Below w.heap.size w w') : KMb w' b m c s f v := (hb.block _ h.lt).trans h
theorem KMb.base {w w' : World} {b B : Nat} {m c s f : Int} {v : Value} (h : KMb w b m c s f v) (hb : Below B w w') (hB : b < B) : KMb w' b m c s f v := (hb.block _ hB).trans h
theorem KMb.new (w : World) (m c s f : Int) (v : Value) : KMb (w.alloc (.cells #[.int .i64 m, .int .i64 c, .int .i64 s, .int .i64 f, v] 33)) w.heap.size m c s f v := heap_alloc_new _ _
theorem KMb.cells {w : World} {b : Nat} {m c s f : Int} {v : Value} (h : KMb w b m c s f v) : w.cell? ⟨b, 0, none⟩ = some (.int .i64 m) ∧ w.cell? ⟨b, 1, none⟩ = some (.int .i64 c) ∧ w.cell? ⟨b, 2, none⟩ = some (.int .i64 s) ∧ w.cell? ⟨b, 3, none⟩ = some (.int .i64 f) ∧ w.cell? ⟨b, 4, none⟩ = some v := by
  unfold KMb at h
  refine ⟨?_, ?_, ?_, ?_, ?_⟩ <;> simp [World.cell?, h]
theorem KMb.fro {w : World} {b : Nat} {m c s f : Int} {v : Value} (h : KMb w b m c s f v) : ∀ i, w.frozen? ⟨b, i, none⟩ = false := by
  intro i
  unfold KMb at h
  simp [World.frozen?, h]
theorem KMb.grown {w w' : World} {b : Nat} {m c s f : Int} {v : Value} {r : Option Nat} (h : KMb w b m c s f v) (hb : w.grownBy w' r) (hB : some b ≠ r) : KMb w' b m c s f v := (hb.block _ h.lt hB).trans h
theorem KMb.put {w : World} {b : Nat} {m c s f : Int} {v : Value} (h : KMb w b m c s f v) (m' c' s' f' : Int) (v' : Value) : KMb (((((w.setCell ⟨b, 0, none⟩ (.int .i64 m')).setCell ⟨b, 1, none⟩ (.int .i64 c')).setCell ⟨b, 2, none⟩ (.int .i64 s')).setCell ⟨b, 3, none⟩ (.int .i64 f')).setCell ⟨b, 4, none⟩ v') b m' c' s' f' v' := by
  unfold KMb at h ⊢
  simp [World.setCell, Array.getElem?_modify, h]
theorem KBlk.fro {w : World} {b : Nat} {n : Int} {v : Value} (h : KBlk w b n v) : ∀ i, w.frozen? ⟨b, i, none⟩ = false := by
  intro i
  unfold KBlk at h
  simp [World.frozen?, h]
theorem KBlk.put {w : World} {b : Nat} {n : Int} {v : Value} (h : KBlk w b n v) (n' : Int) (v' : Value) : KBlk ((w.setCell ⟨b, 0, none⟩ (.int .i64 n')).setCell ⟨b, 1, none⟩ v') b n' v' := by
  unfold KBlk at h ⊢
  simp [World.setCell, Array.getElem?_modify, h]
theorem setCell_grown {w w' : World} {r : Option Nat} (b o : Nat) (u : Value) (h : w.grownBy w' r) (hr : r = some b) : w.grownBy (w'.setCell ⟨b, o, none⟩ u) r :=
  ⟨h.os, h.tape, h.output, by simpa using h.size, fun k hk hn => (Below.heap_setCell _ _ _ _ (fun e => hn (by rw [hr, e]))).trans (h.block k hk hn)⟩
theorem put2_grown (w : World) (b : Nat) (u0 u1 : Value) : w.grownBy ((w.setCell ⟨b, 0, none⟩ u0).setCell ⟨b, 1, none⟩ u1) (some b) :=
  setCell_grown b 1 u1 (setCell_grown b 0 u0 (World.grownBy.refl _ _) rfl) rfl
theorem put5_grown (w : World) (b : Nat) (u0 u1 u2 u3 u4 : Value) : w.grownBy (((((w.setCell ⟨b, 0, none⟩ u0).setCell ⟨b, 1, none⟩ u1).setCell ⟨b, 2, none⟩ u2).setCell ⟨b, 3, none⟩ u3).setCell ⟨b, 4, none⟩ u4) (some b) :=
  setCell_grown b 4 u4 (setCell_grown b 3 u3 (setCell_grown b 2 u2 (setCell_grown b 1 u1 (setCell_grown b 0 u0 (World.grownBy.refl _ _) rfl) rfl) rfl) rfl) rfl
theorem SRow.blk {w : World} {a : Option Addr} {xs : List Sl} (h : SRow w a xs) : xs = [] ∨ ∃ b off, a = some ⟨b, off, none⟩ ∧ b < w.heap.size := by
  rcases h with h | ⟨b, off, ha, hl, _⟩
  · exact Or.inl h
  · exact Or.inr ⟨b, off, ha, hl⟩
/-- A row stays where its block is not the one turned. -/
theorem SRow.gr {w w' : World} {a : Option Addr} {xs : List Sl} {r : Option Nat} (h : SRow w a xs) (hg : w.grownBy w' r) (hne : ∀ b off, a = some ⟨b, off, none⟩ → some b ≠ r) : SRow w' a xs := by
  rcases h with h | ⟨b, off, rfl, hl, h⟩
  · exact Or.inl h
  · have e : ∀ o, w'.cell? ⟨b, o, none⟩ = w.cell? ⟨b, o, none⟩ := fun o => World.cell?_of_block (hg.block b hl (hne b off rfl))
    refine Or.inr ⟨b, off, rfl, Nat.lt_of_lt_of_le hl hg.size, fun i s hs => ?_⟩
    obtain ⟨c0, c1, c2, c3, c4, c5, c6⟩ := h i s hs
    exact ⟨(e _).trans c0, (e _).trans c1, (e _).trans c2, (e _).trans c3, (e _).trans c4, (e _).trans c5, (e _).trans c6⟩

/-- What was handed over lies in two blocks of the law's own. -/
structure In (w : World) (n : Int) (v : Value) (m c s f : Int) (u : Value) (w' : World) : Prop where
  k : w'.heap[w.heap.size]? = some (.cells #[.int .i64 n, v] 24 (0, 0))
  m : w'.heap[w.heap.size + 1]? = some (.cells #[.int .i64 m, .int .i64 c, .int .i64 s, .int .i64 f, u] 26 (0, 0))
  below : Below w.heap.size w w'
theorem In.size {w w' : World} {n m c s f : Int} {v u : Value} (h : In w n v m c s f u w') : w.heap.size + 2 ≤ w'.heap.size := (Array.getElem?_eq_some_iff.1 h.m).1
theorem In.base {w w1 w2 : World} {n m c s f : Int} {v u : Value} {B : Nat} (h : In w n v m c s f u w1) (hb : Below B w1 w2) (hB : w.heap.size + 2 ≤ B) : In w n v m c s f u w2 :=
  ⟨(hb.block _ (by omega)).trans h.k, (hb.block _ (by omega)).trans h.m, h.below.trans (hb.mono (by omega))⟩
theorem In.later {w w1 w2 : World} {n m c s f : Int} {v u : Value} (h : In w n v m c s f u w1) (hb : Below w1.heap.size w1 w2) : In w n v m c s f u w2 := h.base hb h.size
theorem In.new (w : World) (n : Int) (v : Value) (m c s f : Int) (u : Value) : In w n v m c s f u ((w.alloc (.cells #[.int .i64 n, v] 24)).alloc (.cells #[.int .i64 m, .int .i64 c, .int .i64 s, .int .i64 f, u] 26)) := by
  refine ⟨?_, ?_, (Below.alloc_ _ _).trans ((Below.alloc_ _ _).mono (by simp))⟩
  · rw [Below.heap_alloc _ _ _ (by simp)]
    exact heap_alloc_new _ _
  · have e := heap_alloc_new (w.alloc (.cells #[.int .i64 n, v] 24)) (.cells #[.int .i64 m, .int .i64 c, .int .i64 s, .int .i64 f, u] 26)
    simpa using e
theorem In.cells {w w' : World} {n m c s f : Int} {v u : Value} (h : In w n v m c s f u w') : w'.cell? ⟨w.heap.size, 0, none⟩ = some (.int .i64 n) ∧ w'.cell? ⟨w.heap.size, 1, none⟩ = some v := by
  have e := h.k
  constructor <;> simp [World.cell?, e]
theorem In.cellm {w w' : World} {n m c s f : Int} {v u : Value} (h : In w n v m c s f u w') : w'.cell? ⟨w.heap.size + 1, 0, none⟩ = some (.int .i64 m) ∧ w'.cell? ⟨w.heap.size + 1, 1, none⟩ = some (.int .i64 c) ∧ w'.cell? ⟨w.heap.size + 1, 2, none⟩ = some (.int .i64 s) ∧ w'.cell? ⟨w.heap.size + 1, 3, none⟩ = some (.int .i64 f) ∧ w'.cell? ⟨w.heap.size + 1, 4, none⟩ = some u := by
  have e := h.m
  refine ⟨?_, ?_, ?_, ?_, ?_⟩ <;> simp [World.cell?, e]

/-- Marks in a row of the call's own: just its block is turned. -/
theorem markSeal_own2 {w : World} {base : Nat} {v : Value} {zs : List Sl} (k0 : Int) (h : OwnS w base v zs) (hn : zs.length ≤ 2000000) (h0 : 0 ≤ k0) (h1 : k0 ≤ 100000000) :
    Calls Tryd.prog 38 #[v, .int .i64 k0] w fun r w' => r = .returned (.int .i64 (k0 + 7 * zs.length)) ∧ w.grownBy w' v.ownBlock ∧ Mk7 w' v zs.length k0 := by
  rcases h.2 with ⟨rfl, h2⟩ | ⟨g, cap, cur, rfl, h2, h3, h4, _, h5, _⟩
  · refine (markSeal_nil none 0 k0 w).mono ?_
    rintro r w' ⟨rfl, rfl⟩
    exact ⟨by rw [h2]; simp, World.grownBy.refl _ _, none, 0, by rw [h2], Or.inl h2⟩
  · refine (markSealS_any g zs.length cap k0 w ⟨cur, _, h3, by omega⟩ hn h0 h1).mono ?_
    rintro r w' ⟨rfl, ht, hw, hc⟩
    exact ⟨rfl, ⟨ht.os, ht.tape, ht.output, Nat.le_of_eq ht.size.symm, fun k _ hk => ht.block k (fun e => hk (by rw [e]; rfl))⟩, _, cap, rfl, Or.inr ⟨g, rfl, hw.lt, hc⟩⟩
set_option maxHeartbeats 1000000 in
theorem markKdc_own2 (n : Int) {w : World} {base : Nat} {v : Value} {zs : List Sl} (k0 : Int) (h : OwnS w base v zs) (hn : zs.length ≤ 2000000) (h0 : 0 ≤ k0) (h1 : k0 ≤ 100000000) :
    Calls Tryd.prog 13 #[.agg #[.int .i64 n, v], .int .i64 k0] w fun r w' => r = .returned (.int .i64 (k0 + 7 * zs.length)) ∧ w.grownBy w' v.ownBlock ∧ Mk7 w' v zs.length k0 := by
  obtain ⟨a, cap, rfl, _⟩ := h.row
  have HO : Hid (OwnS w base (.slice a zs.length cap) zs) := h
  clear h
  go_enter Tryd.func13, Tryd.ntmps13
  go_wp2_with fail
  refine (markSeal_own2 k0 (OwnS.later HO.out (Below.alloc_ _ _)) hn h0 h1).mono ?_
  rintro r w2 ⟨rfl, b2, m2⟩
  go_wp2_with fail
  go_ret
  exact ⟨rfl, (World.grownBy_alloc _ _ _).trans b2, m2⟩
set_option maxHeartbeats 1000000 in
theorem markMsg_own2 (m n k f : Int) {w : World} {base : Nat} {v : Value} {zs : List Sl} (k0 : Int) (h : OwnS w base v zs) (hn : zs.length ≤ 2000000) (h0 : 0 ≤ k0) (h1 : k0 ≤ 100000000) :
    Calls Tryd.prog 14 #[.agg #[.int .i64 m, .int .i64 n, .int .i64 k, .int .i64 f, v], .int .i64 k0] w fun r w' => r = .returned (.int .i64 (k0 + 7 * zs.length)) ∧ w.grownBy w' v.ownBlock ∧ Mk7 w' v zs.length k0 := by
  obtain ⟨a, cap, rfl, _⟩ := h.row
  have HO : Hid (OwnS w base (.slice a zs.length cap) zs) := h
  clear h
  go_enter Tryd.func14, Tryd.ntmps14
  go_wp2_with fail
  refine (markSeal_own2 k0 (OwnS.later HO.out (Below.alloc_ _ _)) hn h0 h1).mono ?_
  rintro r w2 ⟨rfl, b2, m2⟩
  go_wp2_with fail
  go_ret
  exact ⟨rfl, (World.grownBy_alloc _ _ _).trans b2, m2⟩
/-- Marks stay where another block is turned. -/
theorem Mk7.grown {w w' : World} {v : Value} {n : Nat} {k0 : Int} {r : Option Nat} (h : Mk7 w v n k0) (hg : w.grownBy w' r) (hne : ∀ k, v.ownBlock = some k → some k ≠ r) : Mk7 w' v n k0 := by
  obtain ⟨a, cap, rfl, h | ⟨g, rfl, hl, h⟩⟩ := h
  · exact ⟨a, cap, rfl, Or.inl h⟩
  · exact ⟨_, cap, rfl, Or.inr ⟨g, rfl, Nat.lt_of_lt_of_le hl hg.size, fun i hi => (World.cell?_of_block (hg.block g hl (hne g rfl))).trans (h i hi)⟩⟩

theorem OwnS.offK {w : World} {base p : Nat} {v u : Value} {n : Int} {zs : List Sl} (h : OwnS w base v zs) (hk : KBlk w p n u) : ∀ k, v.ownBlock = some k → k ≠ p := by
  intro k e
  obtain ⟨cur, hc⟩ := own_type h e
  exact type_ne hc hk (by decide)
theorem OwnS.offM {w : World} {base p : Nat} {v u : Value} {m c s f : Int} {zs : List Sl} (h : OwnS w base v zs) (hk : KMb w p m c s f u) : ∀ k, v.ownBlock = some k → k ≠ p := by
  intro k e
  obtain ⟨cur, hc⟩ := own_type h e
  exact type_ne hc hk (by decide)
theorem OwnS.gr {w w' : World} {base : Nat} {v : Value} {zs : List Sl} {p : Nat} (h : OwnS w base v zs) (hg : w.grownBy w' (some p)) (hne : ∀ k, v.ownBlock = some k → k ≠ p) : OwnS w' base v zs :=
  own_keep h fun g e => hg.block g (World.ownsRow.lt h g e).2 (fun e2 => hne g e (by injection e2))
theorem KBlk.offM {w : World} {p q : Nat} {n m c s f : Int} {v u : Value} (h : KBlk w p n v) (hk : KMb w q m c s f u) : p ≠ q := type_ne h hk (by decide)

end Go.Proofs.YtghajmfjekfdpaaDoor
