/-
  The laws' own copies of a Serv, whether two are the same, how long its lists are, and marks in them.
-/
import Derived.Test.YtghajmfjekfdpaaDoorClJ
import Derived.Test.YtghajmfjekfdpaaDoorMsgJ
namespace Go.Proofs.YtghajmfjekfdpaaDoor
open Go.RowKit
attribute [local go_sem ↓] Go.wp_at_zero Go.wp_at_succ

set_option maxHeartbeats 1000000 in
set_option maxRecDepth 100000 in
theorem eqServ_same (i s : Int) (a1 a2 : Option Addr) (b1 b2 : Option Addr) (c1 c2 : Nat) (e1 e2 : Nat) (xs : List Sl) (ts : List Ca) (w : World) (h1 : SRow w a1 xs) (h2 : NRow celC w a2 ts) (k1 : SRow w b1 xs) (k2 : NRow celC w b2 ts) (hx1 : xs.length ≤ 2000000) (hx2 : ts.length ≤ 2000000) :
    Calls Tryd.prog 21 #[.agg #[.int .i64 i, .int .i64 s, Value.slice a1 xs.length c1, Value.slice a2 ts.length c2], .agg #[.int .i64 i, .int .i64 s, Value.slice b1 xs.length e1, Value.slice b2 ts.length e2]] w fun r w' => r = .returned (.bool true) ∧ Below w.heap.size w w' := by
  obtain ⟨W, hW⟩ : ∃ W, W = ((w.alloc (.cells #[.int .i64 i, .int .i64 s, Value.slice a1 xs.length c1, Value.slice a2 ts.length c2] 49)).alloc (.cells #[.int .i64 i, .int .i64 s, Value.slice b1 xs.length e1, Value.slice b2 ts.length e2] 49)) := ⟨_, rfl⟩
  have HB : Hid (Below w.heap.size w W ∧ ABlk 49 W w.heap.size #[.int .i64 i, .int .i64 s, Value.slice a1 xs.length c1, Value.slice a2 ts.length c2] ∧ ABlk 49 W (w.heap.size + 1) #[.int .i64 i, .int .i64 s, Value.slice b1 xs.length e1, Value.slice b2 ts.length e2]) := by
    subst hW
    refine ⟨(Below.alloc_ _ _).trans ((Below.alloc_ _ _).mono (by simp)), (ABlk.new _ _ _).later (Below.alloc_ _ _), ?_⟩
    have e := ABlk.new (w.alloc (.cells #[.int .i64 i, .int .i64 s, Value.slice a1 xs.length c1, Value.slice a2 ts.length c2] 49)) 49 #[.int .i64 i, .int .i64 s, Value.slice b1 xs.length e1, Value.slice b2 ts.length e2]
    rw [World.size_alloc] at e
    exact e
  have H1 : Hid (SRow w a1 xs ∧ NRow celC w a2 ts ∧ SRow w b1 xs ∧ NRow celC w b2 ts) := ⟨h1, h2, k1, k2⟩
  clear h1 h2 k1 k2
  go_enter Tryd.func21, Tryd.ntmps21
  go_wp2_with fail
  rw [← hW]
  clear hW
  refine (eqSealS_same a1 b1 c1 e1 xs _ (H1.out.1.later HB.out.1) (H1.out.2.2.1.later HB.out.1) hx1).mono ?_
  rintro r w1 ⟨rfl, b9⟩
  have HB1 : Hid (Below w.heap.size w w1 ∧ ABlk 49 w1 w.heap.size #[.int .i64 i, .int .i64 s, Value.slice a1 xs.length c1, Value.slice a2 ts.length c2] ∧ ABlk 49 w1 (w.heap.size + 1) #[.int .i64 i, .int .i64 s, Value.slice b1 xs.length e1, Value.slice b2 ts.length e2]) := ⟨HB.out.1.trans (b9.mono HB.out.1.size), HB.out.2.1.later b9, HB.out.2.2.later b9⟩
  clear b9 HB
  have p0 := HB1.out.2.1.at 0 _ rfl
  have p1 := HB1.out.2.1.at 1 _ rfl
  have p2 := HB1.out.2.1.at 2 _ rfl
  have p3 := HB1.out.2.1.at 3 _ rfl
  have q0 := HB1.out.2.2.at 0 _ rfl
  have q1 := HB1.out.2.2.at 1 _ rfl
  have q2 := HB1.out.2.2.at 2 _ rfl
  have q3 := HB1.out.2.2.at 3 _ rfl
  go_wp2_with fail
  clear p0 q0 p1 q1 p2 q2 p3 q3
  refine (eqCallS_same a2 b2 c2 e2 ts _ (H1.out.2.1.later HB1.out.1) (H1.out.2.2.2.later HB1.out.1) hx2).mono ?_
  rintro r w2 ⟨rfl, b9⟩
  have HB2 : Hid (Below w.heap.size w w2 ∧ ABlk 49 w2 w.heap.size #[.int .i64 i, .int .i64 s, Value.slice a1 xs.length c1, Value.slice a2 ts.length c2] ∧ ABlk 49 w2 (w.heap.size + 1) #[.int .i64 i, .int .i64 s, Value.slice b1 xs.length e1, Value.slice b2 ts.length e2]) := ⟨HB1.out.1.trans (b9.mono HB1.out.1.size), HB1.out.2.1.later b9, HB1.out.2.2.later b9⟩
  clear b9 HB1
  go_wp2_with fail
  go_ret
  exact ⟨rfl, HB2.out.1⟩

/-- What is left behind the lists. -/
def restServ (q : Int) (l1 l2 : Nat) : Int := if q - (l1 : Int) < 0 then -1 else if q - (l1 : Int) - (l2 : Int) < 0 then -1 else q - (l1 : Int) - (l2 : Int)
theorem restServ_neg {q : Int} {l1 l2 : Nat} (h : ¬ restServ q l1 l2 < 0) : restServ q l1 l2 = q - (l1 : Int) - (l2 : Int) ∧ ¬ q - (l1 : Int) < 0 ∧ ¬ q - (l1 : Int) - (l2 : Int) < 0 := by
  unfold restServ at h ⊢
  (repeat' split at h) <;> first | omega | (refine ⟨?_, ?_, ?_⟩ <;> first | omega | ((repeat' split) <;> omega))
set_option maxHeartbeats 1000000 in
theorem szServ_any (i s : Int) (a1 a2 : Option Addr) (l1 l2 c1 c2 : Nat) (q : Int) (w : World) (hq : 0 ≤ q) (hq2 : q ≤ 1048576) (hm1 : l1 ≤ 9223372036854775807) (hm2 : l2 ≤ 9223372036854775807) :
    Calls Tryd.prog 17 #[.agg #[.int .i64 i, .int .i64 s, Value.slice a1 l1 c1, Value.slice a2 l2 c2], .int .i64 q] w fun r w' => r = .returned (.int .i64 (restServ q l1 l2)) ∧ Below w.heap.size w w' := by
  go_enter Tryd.func17, Tryd.ntmps17
  go_wp2_with fail
  refine (szSealS_any a1 l1 c1 _ _ (by omega) (by omega) hm1).mono ?_
  rintro r w2 ⟨rfl, rfl⟩
  by_cases h1 : q - (l1 : Int) < 0
  · rw [show leftI (q) l1 = -1 from if_pos h1]
    have e : Hid (restServ q l1 l2 = -1) := Hid.mk' (by unfold restServ; (repeat' split) <;> omega)
    go_wp2_with fail
    go_ret
    exact ⟨ret_int e.out.symm, Below.alloc_ _ _⟩
  · rw [show leftI (q) l1 = q - (l1 : Int) from if_neg h1]
    go_wp2_with fail
    refine (szCallS_any a2 l2 c2 _ _ (by omega) (by omega) hm2).mono ?_
    rintro r w3 ⟨rfl, rfl⟩
    by_cases h2 : q - (l1 : Int) - (l2 : Int) < 0
    · rw [show restI (q - (l1 : Int)) l2 = -1 from if_pos h2]
      have e : Hid (restServ q l1 l2 = -1) := Hid.mk' (by unfold restServ; (repeat' split) <;> omega)
      go_wp2_with fail
      go_ret
      exact ⟨ret_int e.out.symm, Below.alloc_ _ _⟩
    · rw [show restI (q - (l1 : Int)) l2 = q - (l1 : Int) - (l2 : Int) from if_neg h2]
      have e : Hid (restServ q l1 l2 = q - (l1 : Int) - (l2 : Int)) := Hid.mk' (by unfold restServ; (repeat' split) <;> omega)
      go_wp2_with fail
      go_ret
      exact ⟨ret_int e.out.symm, Below.alloc_ _ _⟩

set_option maxHeartbeats 4000000 in
set_option maxRecDepth 100000 in
theorem toServ_any (i s : Int) (a1 a2 : Option Addr) (c1 c2 : Nat) (xs : List Sl) (ts : List Ca) (w : World) (h1 : SRow w a1 xs) (h2 : NRow celC w a2 ts) (hx1 : xs.length ≤ 1048576) (hx2 : ts.length ≤ 1048576) :
    Calls Tryd.prog 19 #[.agg #[.int .i64 i, .int .i64 s, Value.slice a1 xs.length c1, Value.slice a2 ts.length c2]] w fun r w' => ∃ g1 g2, r = .returned (.agg #[.int .i64 i, .int .i64 s, Value.slice (some ⟨g1, 0, none⟩) xs.length xs.length, Value.slice (some ⟨g2, 0, none⟩) ts.length ts.length]) ∧ (w.heap.size ≤ g1 ∧ g1 < g2) ∧ (SRow w' (some ⟨g1, 0, none⟩) xs ∧ NRow celC w' (some ⟨g2, 0, none⟩) ts) ∧ (WB w' g1 (xs.length * 7) ∧ WB w' g2 (ts.length * 4)) ∧ Below w.heap.size w w' := by
  obtain ⟨W, hW⟩ : ∃ W, W = (((w.alloc (.cells #[.int .i64 i, .int .i64 s, Value.slice a1 xs.length c1, Value.slice a2 ts.length c2] 45)).alloc (.cells #[.int .i64 0, .int .i64 0, Value.slice none 0 0, Value.slice none 0 0] 49)).alloc (.cells #[.int .i64 i, .int .i64 s, Value.slice none 0 0, Value.slice none 0 0] 49)) := ⟨_, rfl⟩
  have A0 : Hid (ABlk 45 W w.heap.size #[.int .i64 i, .int .i64 s, Value.slice a1 xs.length c1, Value.slice a2 ts.length c2] ∧ ABlk 49 W (w.heap.size + 1) #[.int .i64 0, .int .i64 0, Value.slice none 0 0, Value.slice none 0 0] ∧ ABlk 49 W (w.heap.size + 1 + 1) #[.int .i64 i, .int .i64 s, Value.slice none 0 0, Value.slice none 0 0] ∧ Below w.heap.size w W ∧ w.heap.size + 3 ≤ W.heap.size) := by
    subst hW
    refine ⟨((ABlk.new _ _ _).later (Below.alloc_ _ _)).later (Below.alloc_ _ _), ?_, ?_, (((Below.refl _ _).alloc (Nat.le_refl _) _).alloc (by simp) _).alloc (by simp <;> omega) _, by simp⟩
    · have e := ABlk.new (w.alloc (.cells #[.int .i64 i, .int .i64 s, Value.slice a1 xs.length c1, Value.slice a2 ts.length c2] 45)) 49 #[.int .i64 0, .int .i64 0, Value.slice none 0 0, Value.slice none 0 0]
      rw [World.size_alloc] at e
      exact e.later (Below.alloc_ _ _)
    · have e := ABlk.new ((w.alloc (.cells #[.int .i64 i, .int .i64 s, Value.slice a1 xs.length c1, Value.slice a2 ts.length c2] 45)).alloc (.cells #[.int .i64 0, .int .i64 0, Value.slice none 0 0, Value.slice none 0 0] 49)) 49 #[.int .i64 i, .int .i64 s, Value.slice none 0 0, Value.slice none 0 0]
      rw [World.size_alloc, World.size_alloc] at e
      exact e
  have H1 : Hid (SRow w a1 xs ∧ NRow celC w a2 ts) := ⟨h1, h2⟩
  clear h1 h2
  go_enter Tryd.func19, Tryd.ntmps19
  go_wp2_with fail
  rw [← hW]
  clear hW
  refine (toSealS_wb a1 c1 xs _ (H1.out.1.later A0.out.2.2.2.1) (by omega)).mono ?_
  rintro r u1 ⟨rfl, hr, ⟨cu, hc, hsz⟩, b9⟩
  obtain ⟨g1, hg1⟩ : ∃ g, g = W.heap.size := ⟨_, rfl⟩
  rw [← hg1] at hr hc ⊢
  have hl1 : w.heap.size + 3 ≤ g1 := by have h7 := A0.out.2.2.2.2; omega
  have A1 : Hid (ABlk 45 u1 w.heap.size #[.int .i64 i, .int .i64 s, Value.slice a1 xs.length c1, Value.slice a2 ts.length c2] ∧ ABlk 49 u1 (w.heap.size + 1) #[.int .i64 0, .int .i64 0, Value.slice none 0 0, Value.slice none 0 0] ∧ ABlk 49 u1 (w.heap.size + 1 + 1) #[.int .i64 i, .int .i64 s, Value.slice none 0 0, Value.slice none 0 0] ∧ Below w.heap.size w u1 ∧ w.heap.size + 3 ≤ u1.heap.size ∧ (SRow u1 (some ⟨g1, 0, none⟩) xs ∧ WB u1 g1 (xs.length * 7))) := ⟨A0.out.1.later b9, A0.out.2.1.later b9, A0.out.2.2.1.later b9, A0.out.2.2.2.1.trans (b9.mono A0.out.2.2.2.1.size), Nat.le_trans A0.out.2.2.2.2 b9.size, ⟨hr, cu, _, hc, by omega⟩⟩
  clear hr hc hsz b9 A0 hg1
  have p0 := A1.out.1.at 0 _ rfl
  have p1 := A1.out.1.at 1 _ rfl
  have p2 := A1.out.1.at 2 _ rfl
  have p3 := A1.out.1.at 3 _ rfl
  have q0 := A1.out.2.2.1.at 0 _ rfl
  have q1 := A1.out.2.2.1.at 1 _ rfl
  have q2 := A1.out.2.2.1.at 2 _ rfl
  have q3 := A1.out.2.2.1.at 3 _ rfl
  have qf := A1.out.2.2.1.fro 2
  go_wp2_with fail
  clear p0 q0 p1 q1 p2 q2 p3 q3 qf
  have B1 : Hid (ABlk 45 (u1.setCell ⟨w.heap.size + 1 + 1, 2, none⟩ (.slice (some ⟨g1, 0, none⟩) xs.length xs.length)) w.heap.size #[.int .i64 i, .int .i64 s, Value.slice a1 xs.length c1, Value.slice a2 ts.length c2] ∧ ABlk 49 (u1.setCell ⟨w.heap.size + 1 + 1, 2, none⟩ (.slice (some ⟨g1, 0, none⟩) xs.length xs.length)) (w.heap.size + 1) #[.int .i64 0, .int .i64 0, Value.slice none 0 0, Value.slice none 0 0] ∧ ABlk 49 (u1.setCell ⟨w.heap.size + 1 + 1, 2, none⟩ (.slice (some ⟨g1, 0, none⟩) xs.length xs.length)) (w.heap.size + 1 + 1) #[.int .i64 i, .int .i64 s, Value.slice (some ⟨g1, 0, none⟩) xs.length xs.length, Value.slice none 0 0] ∧ Below w.heap.size w (u1.setCell ⟨w.heap.size + 1 + 1, 2, none⟩ (.slice (some ⟨g1, 0, none⟩) xs.length xs.length)) ∧ w.heap.size + 3 ≤ (u1.setCell ⟨w.heap.size + 1 + 1, 2, none⟩ (.slice (some ⟨g1, 0, none⟩) xs.length xs.length)).heap.size ∧ (SRow (u1.setCell ⟨w.heap.size + 1 + 1, 2, none⟩ (.slice (some ⟨g1, 0, none⟩) xs.length xs.length)) (some ⟨g1, 0, none⟩) xs ∧ WB (u1.setCell ⟨w.heap.size + 1 + 1, 2, none⟩ (.slice (some ⟨g1, 0, none⟩) xs.length xs.length)) g1 (xs.length * 7))) := by
    have h9 := A1.out
    have g9 := setCell_grl u1 (w.heap.size + 1 + 1) 2 (.slice (some ⟨g1, 0, none⟩) xs.length xs.length)
    refine ⟨h9.1.grl g9 (by simp <;> omega), h9.2.1.grl g9 (by simp <;> omega), ?_, h9.2.2.2.1.setCell (p := ⟨w.heap.size + 1 + 1, 2, none⟩) (by show w.heap.size ≤ w.heap.size + 1 + 1; omega) _, by simpa using h9.2.2.2.2.1, ⟨(h9.2.2.2.2.2).1.set (by omega), (h9.2.2.2.2.2).2.else (by omega)⟩⟩
    have e9 := h9.2.2.1
    unfold ABlk at e9 ⊢
    simp [World.setCell, Array.getElem?_modify, e9]
  clear A1
  generalize (u1.setCell ⟨w.heap.size + 1 + 1, 2, none⟩ (.slice (some ⟨g1, 0, none⟩) xs.length xs.length)) = W1 at B1 ⊢
  refine (toCallS_wb a2 c2 ts _ (H1.out.2.later B1.out.2.2.2.1) (by omega)).mono ?_
  rintro r u2 ⟨rfl, hr, ⟨cu, hc, hsz⟩, b9⟩
  obtain ⟨g2, hg2⟩ : ∃ g, g = W1.heap.size := ⟨_, rfl⟩
  rw [← hg2] at hr hc ⊢
  have hl2 : w.heap.size + 3 ≤ g2 ∧ g1 < g2 := by have h7 := B1.out.2.2.2.2.1; have h8 := (B1.out.2.2.2.2.2).2.lt; omega
  have A2 : Hid (ABlk 45 u2 w.heap.size #[.int .i64 i, .int .i64 s, Value.slice a1 xs.length c1, Value.slice a2 ts.length c2] ∧ ABlk 49 u2 (w.heap.size + 1) #[.int .i64 0, .int .i64 0, Value.slice none 0 0, Value.slice none 0 0] ∧ ABlk 49 u2 (w.heap.size + 1 + 1) #[.int .i64 i, .int .i64 s, Value.slice (some ⟨g1, 0, none⟩) xs.length xs.length, Value.slice none 0 0] ∧ Below w.heap.size w u2 ∧ w.heap.size + 3 ≤ u2.heap.size ∧ (SRow u2 (some ⟨g1, 0, none⟩) xs ∧ WB u2 g1 (xs.length * 7)) ∧ (NRow celC u2 (some ⟨g2, 0, none⟩) ts ∧ WB u2 g2 (ts.length * 4))) := ⟨B1.out.1.later b9, B1.out.2.1.later b9, B1.out.2.2.1.later b9, B1.out.2.2.2.1.trans (b9.mono B1.out.2.2.2.1.size), Nat.le_trans B1.out.2.2.2.2.1 b9.size, ⟨(B1.out.2.2.2.2.2).1.later b9, (B1.out.2.2.2.2.2).2.later b9⟩, ⟨hr, cu, _, hc, by omega⟩⟩
  clear hr hc hsz b9 B1 hg2
  have q0 := A2.out.2.2.1.at 0 _ rfl
  have q1 := A2.out.2.2.1.at 1 _ rfl
  have q2 := A2.out.2.2.1.at 2 _ rfl
  have q3 := A2.out.2.2.1.at 3 _ rfl
  have p0 := A2.out.2.1.at 0 _ rfl
  have p1 := A2.out.2.1.at 1 _ rfl
  have p2 := A2.out.2.1.at 2 _ rfl
  have p3 := A2.out.2.1.at 3 _ rfl
  have pf0 := A2.out.2.1.fro 0
  have pf1 := A2.out.2.1.fro 1
  have pf2 := A2.out.2.1.fro 2
  have pf3 := A2.out.2.1.fro 3
  have qf := A2.out.2.2.1.fro 3
  have hlt1 := A2.out.2.1.lt
  have hlt2 := A2.out.2.2.1.lt
  go_wp2_with fail
  refine bodyPost_ret (v := .agg #[.int .i64 i, .int .i64 s, Value.slice (some ⟨g1, 0, none⟩) xs.length xs.length, Value.slice (some ⟨g2, 0, none⟩) ts.length ts.length]) (by simp [results, Tryd.results19, go_sem, *]) rfl ⟨g1, g2, rfl, ⟨by omega, by omega⟩, ?_, ?_, ?_⟩
  all_goals clear q0 p0 pf0 q1 p1 pf1 q2 p2 pf2 q3 p3 pf3 qf hlt1 hlt2
  · exact ⟨((((((A2.out.2.2.2.2.2.1).1.set (by omega)).set (by omega)).set (by omega)).set (by omega)).set (by omega)), ((((((A2.out.2.2.2.2.2.2).1.set (by omega)).set (by omega)).set (by omega)).set (by omega)).set (by omega))⟩
  · exact ⟨((((((A2.out.2.2.2.2.2.1).2.else (by omega)).else (by omega)).else (by omega)).else (by omega)).else (by omega)), ((((((A2.out.2.2.2.2.2.2).2.else (by omega)).else (by omega)).else (by omega)).else (by omega)).else (by omega))⟩
  · exact (((((A2.out.2.2.2.1.setCell (p := ⟨w.heap.size + 1 + 1, 3, none⟩) (by show w.heap.size ≤ w.heap.size + 1 + 1; omega) _).setCell (p := ⟨w.heap.size + 1, 0, none⟩) (by show w.heap.size ≤ w.heap.size + 1; omega) _).setCell (p := ⟨w.heap.size + 1, 1, none⟩) (by show w.heap.size ≤ w.heap.size + 1; omega) _).setCell (p := ⟨w.heap.size + 1, 2, none⟩) (by show w.heap.size ≤ w.heap.size + 1; omega) _).setCell (p := ⟨w.heap.size + 1, 3, none⟩) (by show w.heap.size ≤ w.heap.size + 1; omega) _)

set_option maxHeartbeats 2000000 in
theorem markServ_row (i s : Int) (g1 l1 g2 l2 : Nat) (k0 : Int) (w : World) (h : WB w g1 (l1 * 7) ∧ WB w g2 (l2 * 4)) (hd : g1 < g2) (hn1 : l1 ≤ 2000000) (hn2 : l2 ≤ 2000000) (h0 : 0 ≤ k0) (h1 : k0 ≤ 10000000) :
    Calls Tryd.prog 22 #[.agg #[.int .i64 i, .int .i64 s, Value.slice (some ⟨g1, 0, none⟩) l1 l1, Value.slice (some ⟨g2, 0, none⟩) l2 l2], .int .i64 k0] w fun r w' => r = .returned (.int .i64 (k0 + 7 * (l1 : Int) + 4 * (l2 : Int))) ∧ GrL w w' [some g1, some g2] := by
  have hl : Hid (g1 < w.heap.size ∧ g2 < w.heap.size) := ⟨h.1.lt, h.2.lt⟩
  have H0 : Hid ((WB (w.alloc (.cells #[.int .i64 i, .int .i64 s, Value.slice (some ⟨g1, 0, none⟩) l1 l1, Value.slice (some ⟨g2, 0, none⟩) l2 l2] 49)) g1 (l1 * 7) ∧ WB (w.alloc (.cells #[.int .i64 i, .int .i64 s, Value.slice (some ⟨g1, 0, none⟩) l1 l1, Value.slice (some ⟨g2, 0, none⟩) l2 l2] 49)) g2 (l2 * 4)) ∧ ABlk 49 (w.alloc (.cells #[.int .i64 i, .int .i64 s, Value.slice (some ⟨g1, 0, none⟩) l1 l1, Value.slice (some ⟨g2, 0, none⟩) l2 l2] 49)) w.heap.size #[.int .i64 i, .int .i64 s, Value.slice (some ⟨g1, 0, none⟩) l1 l1, Value.slice (some ⟨g2, 0, none⟩) l2 l2] ∧ GrL w (w.alloc (.cells #[.int .i64 i, .int .i64 s, Value.slice (some ⟨g1, 0, none⟩) l1 l1, Value.slice (some ⟨g2, 0, none⟩) l2 l2] 49)) []) := ⟨⟨(h.1).later (Below.alloc_ _ _), (h.2).later (Below.alloc_ _ _)⟩, ABlk.new _ _ _, GrL.ofB (Below.alloc_ _ _)⟩
  clear h
  go_enter Tryd.func22, Tryd.ntmps22
  go_wp2_with fail
  generalize (w.alloc (.cells #[.int .i64 i, .int .i64 s, Value.slice (some ⟨g1, 0, none⟩) l1 l1, Value.slice (some ⟨g2, 0, none⟩) l2 l2] 49)) = W at H0 ⊢
  refine (markSealS_any g1 l1 l1 (k0) _ (H0.out.1.1) hn1 (by omega) (by omega)).mono ?_
  rintro r w1 ⟨rfl, t9, _, _⟩
  have G9 := t9.grl
  have H1 : Hid ((WB w1 g2 (l2 * 4)) ∧ ABlk 49 w1 w.heap.size #[.int .i64 i, .int .i64 s, Value.slice (some ⟨g1, 0, none⟩) l1 l1, Value.slice (some ⟨g2, 0, none⟩) l2 l2] ∧ GrL w w1 [some g1]) := ⟨(H0.out.1.2).same (G9.block _ (H0.out.1.2).lt (by simp <;> omega)), H0.out.2.1.grl G9 (by simp; have := hl.out; omega), H0.out.2.2.trans G9⟩
  clear H0 t9 G9
  have p0 := H1.out.2.1.at 0 _ rfl
  have p1 := H1.out.2.1.at 1 _ rfl
  have p2 := H1.out.2.1.at 2 _ rfl
  have p3 := H1.out.2.1.at 3 _ rfl
  go_wp2_with fail
  clear p0 p1 p2 p3
  refine (markCallS_any g2 l2 l2 (k0 + 7 * (l1 : Int)) _ (H1.out.1) hn2 (by omega) (by omega)).mono ?_
  rintro r w2 ⟨rfl, t9, _, _⟩
  have G9 := t9.grl
  have H2 : Hid (ABlk 49 w2 w.heap.size #[.int .i64 i, .int .i64 s, Value.slice (some ⟨g1, 0, none⟩) l1 l1, Value.slice (some ⟨g2, 0, none⟩) l2 l2] ∧ GrL w w2 [some g1, some g2]) := ⟨H1.out.2.1.grl G9 (by simp; have := hl.out; omega), H1.out.2.2.trans G9⟩
  clear H1 t9 G9
  go_wp2_with fail
  go_ret
  exact ⟨rfl, H2.out.2⟩

set_option maxHeartbeats 2000000 in
theorem markServ_own (i s : Int) {w : World} {B : Nat} {v1 v2 : Value} {xs : List Sl} {ts : List Ca} (k0 : Int) (o1 : OwnS w B v1 xs) (o2 : OwnN celC 90 w B v2 ts) (hd : (∀ k, v1.ownBlock = some k → v2.ownBlock ≠ some k)) (hn1 : xs.length ≤ 2000000) (hn2 : ts.length ≤ 2000000) (h0 : 0 ≤ k0) (h1 : k0 ≤ 10000000) :
    Calls Tryd.prog 22 #[.agg #[.int .i64 i, .int .i64 s, v1, v2], .int .i64 k0] w fun r w' => r = .returned (.int .i64 (k0 + 7 * (xs.length : Int) + 4 * (ts.length : Int))) ∧ GrL w w' [v1.ownBlock, v2.ownBlock] ∧ (Mk7 w' v1 xs.length (k0) ∧ MkN 4 w' v2 ts.length (k0 + 7 * (xs.length : Int))) := by
  have HL : Hid ((∀ k, v1.ownBlock = some k → k < w.heap.size) ∧ (∀ k, v2.ownBlock = some k → k < w.heap.size)) := ⟨fun k e => (World.ownsRow.lt o1 k e).2, fun k e => (World.ownsRow.lt o2 k e).2⟩
  have ND : Hid ((∀ k, v1.ownBlock = some k → v2.ownBlock ≠ some k)) := hd
  clear hd
  have H0 : Hid ((OwnS (w.alloc (.cells #[.int .i64 i, .int .i64 s, v1, v2] 49)) B v1 xs ∧ OwnN celC 90 (w.alloc (.cells #[.int .i64 i, .int .i64 s, v1, v2] 49)) B v2 ts) ∧ ABlk 49 (w.alloc (.cells #[.int .i64 i, .int .i64 s, v1, v2] 49)) w.heap.size #[.int .i64 i, .int .i64 s, v1, v2] ∧ GrL w (w.alloc (.cells #[.int .i64 i, .int .i64 s, v1, v2] 49)) []) := ⟨⟨o1.later (Below.alloc_ _ _), o2.later (Below.alloc_ _ _)⟩, ABlk.new _ _ _, GrL.ofB (Below.alloc_ _ _)⟩
  clear o1 o2
  go_enter Tryd.func22, Tryd.ntmps22
  go_wp2_with fail
  generalize (w.alloc (.cells #[.int .i64 i, .int .i64 s, v1, v2] 49)) = W at H0 ⊢
  refine (markSeal_own2 (k0) (H0.out.1.1) hn1 (by omega) (by omega)).mono ?_
  rintro r w1 ⟨rfl, g9, m9⟩
  have H1 : Hid ((Mk7 w1 v1 xs.length (k0) ∧ OwnN celC 90 w1 B v2 ts) ∧ ABlk 49 w1 w.heap.size #[.int .i64 i, .int .i64 s, v1, v2] ∧ GrL w w1 [v1.ownBlock]) := ⟨⟨m9, (H0.out.1.2).gr g9 (fun k e => fun e2 => ND.out k e2.symm e)⟩, H0.out.2.1.grl (GrL.of g9) (by simp; intro e; have := HL.out.1 w.heap.size e.symm; omega), H0.out.2.2.trans (GrL.of g9)⟩
  clear H0 g9 m9
  have p0 := H1.out.2.1.at 0 _ rfl
  have p1 := H1.out.2.1.at 1 _ rfl
  have p2 := H1.out.2.1.at 2 _ rfl
  have p3 := H1.out.2.1.at 3 _ rfl
  go_wp2_with fail
  clear p0 p1 p2 p3
  refine (markCall_own (k0 + 7 * (xs.length : Int)) (H1.out.1.2) hn2 (by omega) (by omega)).mono ?_
  rintro r w2 ⟨rfl, g9, m9⟩
  have H2 : Hid ((Mk7 w2 v1 xs.length (k0) ∧ MkN 4 w2 v2 ts.length (k0 + 7 * (xs.length : Int))) ∧ ABlk 49 w2 w.heap.size #[.int .i64 i, .int .i64 s, v1, v2] ∧ GrL w w2 [v1.ownBlock, v2.ownBlock]) := ⟨⟨(H1.out.1.1).grown g9 (fun k e e2 => ND.out k e e2.symm), m9⟩, H1.out.2.1.grl (GrL.of g9) (by simp; intro e; have := HL.out.2 w.heap.size e.symm; omega), H1.out.2.2.trans (GrL.of g9)⟩
  clear H1 g9 m9
  go_wp2_with fail
  go_ret
  exact ⟨rfl, H2.out.2.2, H2.out.1⟩

set_option maxHeartbeats 2000000 in
theorem heldServ_own (i s : Int) {w : World} {v1 v2 : Value} {l1 l2 : Nat} (k0 : Int) (h : Mk7 w v1 l1 (k0) ∧ MkN 4 w v2 l2 (k0 + 7 * (l1 : Int))) (hn1 : l1 ≤ 2000000) (hn2 : l2 ≤ 2000000) (h0 : 0 ≤ k0) (h1 : k0 ≤ 10000000) :
    Calls Tryd.prog 23 #[.agg #[.int .i64 i, .int .i64 s, v1, v2], .int .i64 k0] w fun r w' => r = .returned (.int .i64 (k0 + 7 * (l1 : Int) + 4 * (l2 : Int))) ∧ Below w.heap.size w w' := by
  have HM : Hid (Mk7 (w.alloc (.cells #[.int .i64 i, .int .i64 s, v1, v2] 49)) v1 l1 (k0) ∧ MkN 4 (w.alloc (.cells #[.int .i64 i, .int .i64 s, v1, v2] 49)) v2 l2 (k0 + 7 * (l1 : Int))) := ⟨(h.1).later (Below.alloc_ _ _), (h.2).later (Below.alloc_ _ _)⟩
  have hk1 : ¬ (k0 + 7 * (l1 : Int)) < 0 := by omega
  have hk2 : ¬ (k0 + 7 * (l1 : Int) + 4 * (l2 : Int)) < 0 := by omega
  clear h
  go_enter Tryd.func23, Tryd.ntmps23
  go_wp2_with fail
  refine (heldSeal_own (k0) (HM.out.1) hn1 (by omega) (by omega)).mono ?_
  rintro r w1 ⟨rfl, rfl⟩
  go_wp2_with fail
  refine (heldCall_own (k0 + 7 * (l1 : Int)) (HM.out.2) hn2 (by omega) (by omega)).mono ?_
  rintro r w1 ⟨rfl, rfl⟩
  go_wp2_with fail
  go_ret
  exact ⟨rfl, Below.alloc_ _ _⟩

end Go.Proofs.YtghajmfjekfdpaaDoor
