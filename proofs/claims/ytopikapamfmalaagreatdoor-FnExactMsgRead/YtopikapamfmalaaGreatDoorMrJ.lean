/-
  The specification's MsgRead, walked: it answers true just with a word in form whose text it is.
-/
import Derived.Test.YtopikapamfmalaaGreatDoorSpecRead
import Derived.Test.YtopikapamfmalaaGreatDoorMsgSpecMath
import Derived.Test.YtopikapamfmalaaGreatDoorMsgTextS
import Derived.Test.YtopikapamfmalaaGreatDoorReadMsg
import Derived.Test.YtopikapamfmalaaGreatDoorSOwn
import Derived.Test.YtopikapamfmalaaGreatDoorRegInv
import Derived.Test.YtopikapamfmalaaGreatDoorToJ
import Derived.Test.YtopikapamfmalaaGreatDoorSealMarks
import Derived.Test.YtopikapamfmalaaGreatDoorKEq
namespace Go.Proofs.YtopikapamfmalaaGreatDoor
open Go.RowKit

/-- The text is no word's. -/
def NoMsg (s : ByteArray) : Prop := ∀ m n k f xs, msgB m n k f xs = true → msgT m n k f xs ≠ s
/-- Seals that were read of lines: where a line is a seal's text, it is that seal. -/
def RdS (ls : List ByteArray) (xs : List Sl) : Prop := ∀ (i : Nat) (v x : Sl), v.ok = true → ls[i + 1]? = some v.text → xs[i]? = some x → x = v
theorem cut_of {s : ByteArray} {m n k f : Int} {xs : List Sl} (h : msgB m n k f xs = true) (e : msgT m n k f xs = s) : cutL 10 s.data.toList = tB (headN m n k f) :: (xs.map Sl.text ++ [⟨#[]⟩]) := by
  rw [← e]; exact cut_msg h
theorem no_words {s l0 : ByteArray} (h0 : (cutL 10 s.data.toList)[0]? = some l0) (hn : ¬ (cutL 32 l0.data.toList).length = 4) : NoMsg s := fun m n k f xs h e => hn (by
  rw [cut_of h e] at h0
  simp at h0
  rw [← h0, cut_head h]; rfl)
theorem no_word {s l0 q0 q1 q2 q3 : ByteArray} {xs : List Sl} {q : Nat} (h0 : (cutL 10 s.data.toList)[0]? = some l0) (hq : cutL 32 l0.data.toList = [q0, q1, q2, q3]) (hl : q = 1 ∨ q + 1 ≤ (cutL 10 s.data.toList).length) (hl2 : (cutL 10 s.data.toList).length ≤ q + 1) (hx : xs.length + 1 = q) (hr : RdS (cutL 10 s.data.toList) xs)
    (hn : ¬ (msgB (decI q0) (decI q1) (decI q2) (decI q3) xs = true ∧ msgT (decI q0) (decI q1) (decI q2) (decI q3) xs = s)) : NoMsg s := fun m n k f ys h e => hn (by
  have hc := cut_of h e
  rw [hc] at h0 hl hl2 hr
  simp at h0 hl hl2
  rw [← h0, cut_head h] at hq
  simp at hq
  obtain ⟨⟨m0, m1⟩, ⟨n0, n1⟩, ⟨k0, k1⟩, ⟨f0, f1⟩⟩ := msg_bounds h
  obtain ⟨e0, e1, e2, e3⟩ := hq
  rw [← e0, ← e1, ← e2, ← e3, dec_back (by omega) (by omega), dec_back n0 (by omega), dec_back k0 (by omega), dec_back f0 (by omega)]
  have hxy : xs = ys := by
    apply List.ext_getElem?
    intro i
    by_cases hi : i < ys.length
    · have hi' : i < xs.length := by omega
      have hok := (msg_seals h).2 ys[i] (List.getElem_mem hi)
      have := hr i ys[i] xs[i] hok (by simp [List.getElem?_append, hi]) (by simp [hi'])
      simp [hi, hi', this]
    · rw [List.getElem?_eq_none (by omega), List.getElem?_eq_none (by omega)]
  rw [hxy]
  exact ⟨h, e⟩)
theorem rdS_snoc {ls : List ByteArray} {xs : List Sl} {x : ByteArray} {u : Sl} {q : Nat} (h : RdS ls xs) (hl : xs.length + 1 = q) (hx : ls[q]? = some x) (hu : ∀ v : Sl, v.ok = true → v.text = x → u = v) : RdS ls (xs ++ [u]) := by
  intro i v y hv hi hy
  rw [List.getElem?_append] at hy
  split at hy
  · exact h i v y hv hi hy
  · have hi2 : i = xs.length := by
      have := (List.getElem?_eq_some_iff.1 hy).1
      simp at this; omega
    subst hi2
    simp at hy
    subst hy
    rw [hl, hx] at hi
    exact hu v hv (Option.some.inj hi).symm

/-- A word in a block of the call's own, and its row. -/
structure Mw (W : World) (b : Nat) (m n k f : Int) (u v : Value) (xs : List Sl) (w : World) : Prop where
  below : Below W.heap.size W w
  msg : w.heap[b]? = some (.cells #[.int .i64 m, .int .i64 n, .int .i64 k, .int .i64 f, u] 24 (0, 0))
  ge : W.heap.size ≤ b
  own : OwnS w W.heap.size v xs
theorem Mw.next {W : World} {b : Nat} {m n k f : Int} {u v : Value} {xs : List Sl} {w w' : World} (h : Mw W b m n k f u v xs w) (hb : Below w.heap.size w w') : Mw W b m n k f u v xs w' :=
  ⟨h.below.trans (hb.mono h.below.size), (hb.block _ (Array.getElem?_eq_some_iff.1 h.msg).1).trans h.msg, h.ge, h.own.later hb⟩
theorem Mw.alloc {W : World} {b : Nat} {m n k f : Int} {u v : Value} {xs : List Sl} {w : World} (o : Obj) (h : Mw W b m n k f u v xs w) : Mw W b m n k f u v xs (w.alloc o) := h.next (Below.alloc_ w o)
theorem Mw.app {W : World} {b : Nat} {m n k f : Int} {u v v' : Value} {xs ys : List Sl} {w w' : World} (h : Mw W b m n k f u v xs w) (ho : OwnS w' W.heap.size v' ys) (hg : w.grownBy w' v.ownBlock) : Mw W b m n k f u v' ys w' := by
  refine ⟨h.below.grown hg h.below.size h.own.lo, ?_, h.ge, ho⟩
  exact (hg.block b (Array.getElem?_eq_some_iff.1 h.msg).1 (fun e => by
    obtain ⟨cur, hc⟩ := own_type h.own e.symm
    exact type_ne h.msg hc (by decide) rfl)).trans h.msg
theorem Mw.put {W : World} {b : Nat} {m n k f : Int} {u v : Value} {xs : List Sl} {w : World} (h : Mw W b m n k f u v xs w) (z : Value) : Mw W b m n k f z v xs (w.setCell ⟨b, 4, none⟩ z) := by
  refine ⟨h.below.setCell h.ge _, ?_, h.ge, ?_⟩
  · show (w.heap.modify b _)[b]? = _
    rw [Array.getElem?_modify, if_pos rfl, h.msg]; rfl
  · refine own_keep h.own (fun g hg => ?_)
    obtain ⟨cur, hc⟩ := own_type h.own hg
    show (w.heap.modify b _)[g]? = _
    rw [Array.getElem?_modify, if_neg (fun e => type_ne hc h.msg (by decide) e.symm)]

theorem row_one (w : World) (u : Sl) : SRow (w.alloc (.cells #[.int .i64 u.k, .int .i64 u.t, .int .i64 u.a, .int .i64 u.b, .int .i64 u.c, .int .i64 u.d, .int .i64 u.e] 39)) (some ⟨w.heap.size, 0, none⟩) [u] := by
  refine Or.inr ⟨_, _, rfl, by simp, fun i s hi => ?_⟩
  have hi0 : i = 0 := by have := (List.getElem?_eq_some_iff.1 hi).1; simp at this; omega
  subst hi0
  simp at hi
  subst hi
  exact ⟨by go_simp, by go_simp, by go_simp, by go_simp, by go_simp, by go_simp, by go_simp⟩
/-- What the slots hold, of those that were carried out. -/
def Look1 (L : List (Nat × Nat × Value)) (d : Nat → Bool) (s : Nat → Value) : Prop := ∀ p ∈ L, d p.1 = true → s p.2.1 = p.2.2
theorem Look1.none (L : List (Nat × Nat × Value)) (s : Nat → Value) : Look1 L (fun _ => false) s := fun _ _ h => by cases h
theorem Look1.put {L : List (Nat × Nat × Value)} {d : Nat → Bool} {s : Nat → Value} (h : Look1 L d s) (k j : Nat) (v : Value) (hL : L.all (fun p => bif Nat.beq p.1 k then Nat.beq p.2.1 j else !Nat.beq p.2.1 j) = true) (hv : ∀ p ∈ L, Nat.beq p.1 k = true → p.2.2 = v) : Look1 L (upd d k) (updS s j v) := by
  intro p hp hd
  have h1 := List.all_eq_true.1 hL p hp
  unfold updS
  cases hb : Nat.beq p.1 k
  · rw [hb] at h1
    simp only [cond_false] at h1
    unfold upd at hd
    rw [hb] at hd
    simp only [cond_false] at hd
    have h2 : Nat.beq p.2.1 j = false := by simpa using h1
    rw [h2]
    exact h p hp hd
  · rw [hb] at h1
    simp only [cond_true] at h1
    rw [h1]
    exact (hv p hp hb).symm
theorem Look1.skip {L : List (Nat × Nat × Value)} {d : Nat → Bool} {s : Nat → Value} (h : Look1 L d s) (k : Nat) (hL : L.all (fun p => !Nat.beq p.1 k) = true) : Look1 L (upd d k) s := by
  intro p hp hd
  have h1 := List.all_eq_true.1 hL p hp
  have h2 : Nat.beq p.1 k = false := by simpa using h1
  unfold upd at hd
  rw [h2] at hd
  exact h p hp hd
theorem Look1.skipS {L : List (Nat × Nat × Value)} {d : Nat → Bool} {s : Nat → Value} (h : Look1 L d s) (k j : Nat) (v : Value) (hL : L.all (fun p => !Nat.beq p.1 k && !Nat.beq p.2.1 j) = true) : Look1 L (upd d k) (updS s j v) := by
  intro p hp hd
  have h1 := List.all_eq_true.1 hL p hp
  simp only [Bool.and_eq_true, Bool.not_eq_true'] at h1
  unfold upd at hd
  rw [h1.1] at hd
  unfold updS
  rw [h1.2]
  exact h p hp hd

/-- On the way through the region that makes the word. -/
structure Mg (W : World) (m n k f : Int) (d : Nat → Bool) (s : Nat → Value) (w : World) : Prop where
  below : Below W.heap.size W w
  c16 : d 16 = true → ∃ g, s 40 = .slice (some ⟨g, 0, none⟩) 0 0 ∧ OwnS w W.heap.size (s 40) []
  c17 : d 17 = true → s 41 = .agg #[.int .i64 m, .int .i64 n, .int .i64 k, .int .i64 f, s 40]
  c18 : d 18 = true → ∃ b, s 6 = .pointer (some ⟨b, 0, none⟩) ∧ W.heap.size ≤ b ∧ w.heap[b]? = some (.cells (bif d 19 then #[.int .i64 m, .int .i64 n, .int .i64 k, .int .i64 f, s 40] else zM) 24 (0, 0))

set_option maxHeartbeats 4000000 in
set_option maxRecDepth 100000 in
theorem specMR_any (s : ByteArray) (w : World) :
    Calls Tryz.prog 5 #[.string s] w fun r w' => ((∃ (m n k f : Int) (a : Option Addr) (cap : Nat) (xs : List Sl), s.size ≤ 200 ∧ msgB m n k f xs = true ∧ msgT m n k f xs = s ∧ r = .returned (.tuple #[.agg #[.int .i64 m, .int .i64 n, .int .i64 k, .int .i64 f, .slice a xs.length cap], .bool true]) ∧ SRow w' a xs)
      ∨ ((s.size ≤ 200 → NoMsg s) ∧ r = .returned (.tuple #[.agg zM, .bool false]))) ∧ Below w.heap.size w w' := by
  go_enter Tryz.func5, Tryz.ntmps5
  by_cases hs : s.size ≤ 200
  · skip
    have hs' : ¬ ((s.size : Int) > 200) := by omega
    go_wp2_with fail
    refine (l1Cut_any 10 s hs _).mono ?_
    rintro r1 w1 ⟨⟨gl, cl, rfl, hgl, hcl⟩, b1⟩
    obtain ⟨hL1, hL2, hL3⟩ := cutL_bounds (p := 10) s.size s (Nat.le_refl _)
    rw [List.take_of_length_le (by simp)] at hL1 hL2 hL3
    obtain ⟨LS, hLS⟩ : ∃ LS, LS = cutL 10 s.data.toList := ⟨_, rfl⟩
    rw [← hLS] at hcl hL1 hL2 hL3 ⊢
    obtain ⟨l0, hl0⟩ : ∃ l0, LS[0]? = some l0 := ⟨LS[0], List.getElem?_eq_getElem (by omega)⟩
    have hz : (w.alloc (.cells zM 24)).heap.size = w.heap.size + 1 := by simp
    have hgw : gl < w1.heap.size := block_lt_of_cell (hcl 0 l0 hl0)
    have hb1 : w.heap.size + 1 ≤ w1.heap.size := by have := b1.size; rw [hz] at this; exact this
    have D1 : Hid (Below w.heap.size w w1 ∧ w1.heap[w.heap.size]? = some (.cells zM 24 (0, 0)) ∧ ∀ (j : Nat) x, LS[j]? = some x → w1.cell? ⟨gl, j, none⟩ = some (.string x)) := ⟨((Below.refl _ _).alloc (Nat.le_refl _) _).trans (b1.mono (by rw [hz]; omega)), (b1.block _ (by rw [hz]; omega)).trans (heap_alloc_new w _), hcl⟩
    have HS : Hid (LS = cutL 10 s.data.toList ∧ LS[0]? = some l0) := ⟨hLS, hl0⟩
    have HL : Hid (∀ x ∈ LS, x.size ≤ s.size) := hL3
    have hl0s : l0.size ≤ 200 := by have := hL3 l0 (List.mem_of_getElem? hl0); omega
    have c0 := D1.out.2.2 0 l0 hl0
    clear b1 hcl hLS hL3 hz hl0 hgl
    go_wp2_with fail
    refine (l1Cut_any 32 l0 hl0s _).mono ?_
    rintro r2 w2 ⟨⟨gw, cw, rfl, hgw2, hcw⟩, b2⟩
    have hb2 := b2.size
    have D2 : Hid (Below w.heap.size w w2 ∧ w2.heap[w.heap.size]? = some (.cells zM 24 (0, 0)) ∧ ∀ (j : Nat) x, LS[j]? = some x → w2.cell? ⟨gl, j, none⟩ = some (.string x)) := ⟨D1.out.1.trans (b2.mono (by omega)), (b2.block _ (by omega)).trans D1.out.2.1, fun j x h => (b2.cell (p := ⟨gl, j, none⟩) hgw).trans (D1.out.2.2 j x h)⟩
    clear b2 D1 c0
    by_cases hn : (cutL 32 l0.data.toList).length = 4
    · skip
      obtain ⟨q0, q1, q2, q3, hq⟩ : ∃ q0 q1 q2 q3, cutL 32 l0.data.toList = [q0, q1, q2, q3] := by
        match h : cutL 32 l0.data.toList, hn with
        | [q0, q1, q2, q3], _ => exact ⟨q0, q1, q2, q3, rfl⟩
      have hbd := (cutL_bounds (p := 32) l0.size l0 (Nat.le_refl _)).2.2
      rw [List.take_of_length_le (by simp)] at hbd
      rw [hq] at hcw hbd ⊢
      have HQ : Hid (cutL 32 l0.data.toList = [q0, q1, q2, q3]) := hq
      clear hq hn
      have z0 : q0.size ≤ 2000000 := by have := hbd q0 (by simp); omega
      have z1 : q1.size ≤ 2000000 := by have := hbd q1 (by simp); omega
      have z2 : q2.size ≤ 2000000 := by have := hbd q2 (by simp); omega
      have z3 : q3.size ≤ 2000000 := by have := hbd q3 (by simp); omega
      have hgw3 : gw < w2.heap.size := block_lt_of_cell (hcw 0 q0 rfl)
      have HW : Hid (∀ W, Below w2.heap.size w2 W → W.cell? ⟨gw, 0, none⟩ = some (.string q0) ∧ W.cell? ⟨gw, 1, none⟩ = some (.string q1) ∧ W.cell? ⟨gw, 2, none⟩ = some (.string q2) ∧ W.cell? ⟨gw, 3, none⟩ = some (.string q3)) := fun W hb => ⟨(hb.cell (p := ⟨gw, 0, none⟩) hgw3).trans (hcw 0 q0 rfl), (hb.cell (p := ⟨gw, 1, none⟩) hgw3).trans (hcw 1 q1 rfl), (hb.cell (p := ⟨gw, 2, none⟩) hgw3).trans (hcw 2 q2 rfl), (hb.cell (p := ⟨gw, 3, none⟩) hgw3).trans (hcw 3 q3 rfl)⟩
      clear hcw hbd hgw2
      obtain ⟨m, hm⟩ : ∃ x, x = decI q0 := ⟨_, rfl⟩
      obtain ⟨n, hn⟩ : ∃ x, x = decI q1 := ⟨_, rfl⟩
      obtain ⟨k, hk⟩ : ∃ x, x = decI q2 := ⟨_, rfl⟩
      obtain ⟨f, hf⟩ : ∃ x, x = decI q3 := ⟨_, rfl⟩
      have HD : Hid (m = decI q0 ∧ n = decI q1 ∧ k = decI q2 ∧ f = decI q3) := ⟨hm, hn, hk, hf⟩
      clear hm hn hk hf
      simp only [List.length_cons, List.length_nil, Nat.zero_add, Nat.reduceAdd]
      go_wp2_with fail
      refine wp_region_walk [6, 24, 25, 26, 27, 28, 29, 30, 31, 32, 33, 34, 35, 36, 37, 38, 39, 40, 41] (fun d s W => Look1 [(0, 24, Value.slice (some ⟨gw, 0, none⟩) 4 cw), (1, 25, Value.pointer (some ⟨gw, 0, none⟩)), (2, 26, Value.string q0), (3, 27, Value.int .i64 m), (4, 28, Value.slice (some ⟨gw, 0, none⟩) 4 cw), (5, 29, Value.pointer (some ⟨gw, 1, none⟩)), (6, 30, Value.string q1), (7, 31, Value.int .i64 n), (8, 32, Value.slice (some ⟨gw, 0, none⟩) 4 cw), (9, 33, Value.pointer (some ⟨gw, 2, none⟩)), (10, 34, Value.string q2), (11, 35, Value.int .i64 k), (12, 36, Value.slice (some ⟨gw, 0, none⟩) 4 cw), (13, 37, Value.pointer (some ⟨gw, 3, none⟩)), (14, 38, Value.string q3), (15, 39, Value.int .i64 f)] d s ∧ Mg w2 m n k f d s W) [0, 1, 2, 3, 4, 5, 6, 7, 8, 9, 10, 11, 12, 13, 14, 15, 16, 17, 18, 19] (by kernel_rfl) (by kernel_rfl) (by kernel_rfl) ?_ ?_ ?_
      · intro s
        exact ⟨Look1.none _ _, (Below.refl _ _).drew, (fun e => by cases e), (fun e => by cases e), (fun e => by cases e)⟩
      · refine StepsR.cons (k := 0) [] (by kernel_rfl) ?_ (StepsR.cons (k := 1) [0] (by kernel_rfl) ?_ (StepsR.cons (k := 2) [1] (by kernel_rfl) ?_ (StepsR.cons (k := 3) [2] (by kernel_rfl) ?_ (StepsR.cons (k := 4) [] (by kernel_rfl) ?_ (StepsR.cons (k := 5) [4] (by kernel_rfl) ?_ (StepsR.cons (k := 6) [5] (by kernel_rfl) ?_ (StepsR.cons (k := 7) [3, 6] (by kernel_rfl) ?_ (StepsR.cons (k := 8) [] (by kernel_rfl) ?_ (StepsR.cons (k := 9) [8] (by kernel_rfl) ?_ (StepsR.cons (k := 10) [9] (by kernel_rfl) ?_ (StepsR.cons (k := 11) [7, 10] (by kernel_rfl) ?_ (StepsR.cons (k := 12) [] (by kernel_rfl) ?_ (StepsR.cons (k := 13) [12] (by kernel_rfl) ?_ (StepsR.cons (k := 14) [13] (by kernel_rfl) ?_ (StepsR.cons (k := 15) [11, 14] (by kernel_rfl) ?_ (StepsR.cons (k := 16) [] (by kernel_rfl) ?_ (StepsR.cons (k := 17) [3, 7, 11, 15, 16] (by kernel_rfl) ?_ (StepsR.cons (k := 18) [] (by kernel_rfl) ?_ (StepsR.cons (k := 19) [0, 1, 2, 3, 4, 5, 6, 7, 8, 9, 10, 11, 12, 13, 14, 15, 16, 17, 18] (by kernel_rfl) ?_ (StepsR.nil))))))))))))))))))))
        · intro d s w9 hd hA hC hF K hK
          simp only [putL, putT, List.setIfInBounds_toArray, List.set_cons_zero, List.set_cons_succ]
          as_aux_lemma =>
            go_simp
            refine hK.out (updS s 24 (Value.slice (some ⟨gw, 0, none⟩) 4 cw)) _ _ ?_ ⟨hF.1.put 0 24 (Value.slice (some ⟨gw, 0, none⟩) 4 cw) rfl (by simp), hF.2.below, hF.2.c16, hF.2.c17, hF.2.c18⟩
            simp only [putL, putT, List.setIfInBounds_toArray, List.set_cons_zero, List.set_cons_succ]; rfl
        · intro d s w9 hd hA hC hF K hK
          simp only [putL, putT, List.setIfInBounds_toArray, List.set_cons_zero, List.set_cons_succ]
          as_aux_lemma =>
            have eq0 : s 24 = Value.slice (some ⟨gw, 0, none⟩) 4 cw := hF.1 (0, 24, Value.slice (some ⟨gw, 0, none⟩) 4 cw) (by simp) (hA.1)
            rw [eq0]
            go_simp
            refine hK.out (updS s 25 (Value.pointer (some ⟨gw, 0, none⟩))) _ _ ?_ ⟨hF.1.put 1 25 (Value.pointer (some ⟨gw, 0, none⟩)) rfl (by simp), hF.2.below, hF.2.c16, hF.2.c17, hF.2.c18⟩
            simp only [putL, putT, List.setIfInBounds_toArray, List.set_cons_zero, List.set_cons_succ]; rw [show updS s 25 (Value.pointer (some ⟨gw, 0, none⟩)) 24 = Value.slice (some ⟨gw, 0, none⟩) 4 cw from eq0] <;> rfl
        · intro d s w9 hd hA hC hF K hK
          simp only [putL, putT, List.setIfInBounds_toArray, List.set_cons_zero, List.set_cons_succ]
          as_aux_lemma =>
            have eq1 : s 25 = Value.pointer (some ⟨gw, 0, none⟩) := hF.1 (1, 25, Value.pointer (some ⟨gw, 0, none⟩)) (by simp) (hA.1)
            rw [eq1]
            have p9 := (HW.out w9 hF.2.below).1
            go_simp
            clear p9
            refine hK.out (updS s 26 (Value.string q0)) _ _ ?_ ⟨hF.1.put 2 26 (Value.string q0) rfl (by simp), hF.2.below, hF.2.c16, hF.2.c17, hF.2.c18⟩
            simp only [putL, putT, List.setIfInBounds_toArray, List.set_cons_zero, List.set_cons_succ]; rw [show updS s 26 (Value.string q0) 25 = Value.pointer (some ⟨gw, 0, none⟩) from eq1] <;> rfl
        · intro d s w9 hd hA hC hF K hK
          simp only [putL, putT, List.setIfInBounds_toArray, List.set_cons_zero, List.set_cons_succ]
          as_aux_lemma =>
            have eq2 : s 26 = Value.string q0 := hF.1 (2, 26, Value.string q0) (by simp) (hA.1)
            rw [eq2]
            go_simp
            refine (l1Dec_any q0 _ z0).mono ?_
            rintro r w8 ⟨rfl, he8⟩
            obtain rfl : w9 = w8 := he8.symm
            rw [← HD.out.1]
            go_simp
            refine hK.out (updS s 27 (Value.int .i64 m)) _ _ ?_ ⟨hF.1.put 3 27 (Value.int .i64 m) rfl (by simp), hF.2.below, hF.2.c16, hF.2.c17, hF.2.c18⟩
            simp only [putL, putT, List.setIfInBounds_toArray, List.set_cons_zero, List.set_cons_succ]; rw [show updS s 27 (Value.int .i64 m) 26 = Value.string q0 from eq2] <;> rfl
        · intro d s w9 hd hA hC hF K hK
          simp only [putL, putT, List.setIfInBounds_toArray, List.set_cons_zero, List.set_cons_succ]
          as_aux_lemma =>
            go_simp
            refine hK.out (updS s 28 (Value.slice (some ⟨gw, 0, none⟩) 4 cw)) _ _ ?_ ⟨hF.1.put 4 28 (Value.slice (some ⟨gw, 0, none⟩) 4 cw) rfl (by simp), hF.2.below, hF.2.c16, hF.2.c17, hF.2.c18⟩
            simp only [putL, putT, List.setIfInBounds_toArray, List.set_cons_zero, List.set_cons_succ]; rfl
        · intro d s w9 hd hA hC hF K hK
          simp only [putL, putT, List.setIfInBounds_toArray, List.set_cons_zero, List.set_cons_succ]
          as_aux_lemma =>
            have eq4 : s 28 = Value.slice (some ⟨gw, 0, none⟩) 4 cw := hF.1 (4, 28, Value.slice (some ⟨gw, 0, none⟩) 4 cw) (by simp) (hA.1)
            rw [eq4]
            go_simp
            refine hK.out (updS s 29 (Value.pointer (some ⟨gw, 1, none⟩))) _ _ ?_ ⟨hF.1.put 5 29 (Value.pointer (some ⟨gw, 1, none⟩)) rfl (by simp), hF.2.below, hF.2.c16, hF.2.c17, hF.2.c18⟩
            simp only [putL, putT, List.setIfInBounds_toArray, List.set_cons_zero, List.set_cons_succ]; rw [show updS s 29 (Value.pointer (some ⟨gw, 1, none⟩)) 28 = Value.slice (some ⟨gw, 0, none⟩) 4 cw from eq4] <;> rfl
        · intro d s w9 hd hA hC hF K hK
          simp only [putL, putT, List.setIfInBounds_toArray, List.set_cons_zero, List.set_cons_succ]
          as_aux_lemma =>
            have eq5 : s 29 = Value.pointer (some ⟨gw, 1, none⟩) := hF.1 (5, 29, Value.pointer (some ⟨gw, 1, none⟩)) (by simp) (hA.1)
            rw [eq5]
            have p9 := (HW.out w9 hF.2.below).2.1
            go_simp
            clear p9
            refine hK.out (updS s 30 (Value.string q1)) _ _ ?_ ⟨hF.1.put 6 30 (Value.string q1) rfl (by simp), hF.2.below, hF.2.c16, hF.2.c17, hF.2.c18⟩
            simp only [putL, putT, List.setIfInBounds_toArray, List.set_cons_zero, List.set_cons_succ]; rw [show updS s 30 (Value.string q1) 29 = Value.pointer (some ⟨gw, 1, none⟩) from eq5] <;> rfl
        · intro d s w9 hd hA hC hF K hK
          simp only [putL, putT, List.setIfInBounds_toArray, List.set_cons_zero, List.set_cons_succ]
          as_aux_lemma =>
            have eq6 : s 30 = Value.string q1 := hF.1 (6, 30, Value.string q1) (by simp) (hA.2.1)
            rw [eq6]
            go_simp
            refine (l1Dec_any q1 _ z1).mono ?_
            rintro r w8 ⟨rfl, he8⟩
            obtain rfl : w9 = w8 := he8.symm
            rw [← HD.out.2.1]
            go_simp
            refine hK.out (updS s 31 (Value.int .i64 n)) _ _ ?_ ⟨hF.1.put 7 31 (Value.int .i64 n) rfl (by simp), hF.2.below, hF.2.c16, hF.2.c17, hF.2.c18⟩
            simp only [putL, putT, List.setIfInBounds_toArray, List.set_cons_zero, List.set_cons_succ]; rw [show updS s 31 (Value.int .i64 n) 30 = Value.string q1 from eq6] <;> rfl
        · intro d s w9 hd hA hC hF K hK
          simp only [putL, putT, List.setIfInBounds_toArray, List.set_cons_zero, List.set_cons_succ]
          as_aux_lemma =>
            go_simp
            refine hK.out (updS s 32 (Value.slice (some ⟨gw, 0, none⟩) 4 cw)) _ _ ?_ ⟨hF.1.put 8 32 (Value.slice (some ⟨gw, 0, none⟩) 4 cw) rfl (by simp), hF.2.below, hF.2.c16, hF.2.c17, hF.2.c18⟩
            simp only [putL, putT, List.setIfInBounds_toArray, List.set_cons_zero, List.set_cons_succ]; rfl
        · intro d s w9 hd hA hC hF K hK
          simp only [putL, putT, List.setIfInBounds_toArray, List.set_cons_zero, List.set_cons_succ]
          as_aux_lemma =>
            have eq8 : s 32 = Value.slice (some ⟨gw, 0, none⟩) 4 cw := hF.1 (8, 32, Value.slice (some ⟨gw, 0, none⟩) 4 cw) (by simp) (hA.1)
            rw [eq8]
            go_simp
            refine hK.out (updS s 33 (Value.pointer (some ⟨gw, 2, none⟩))) _ _ ?_ ⟨hF.1.put 9 33 (Value.pointer (some ⟨gw, 2, none⟩)) rfl (by simp), hF.2.below, hF.2.c16, hF.2.c17, hF.2.c18⟩
            simp only [putL, putT, List.setIfInBounds_toArray, List.set_cons_zero, List.set_cons_succ]; rw [show updS s 33 (Value.pointer (some ⟨gw, 2, none⟩)) 32 = Value.slice (some ⟨gw, 0, none⟩) 4 cw from eq8] <;> rfl
        · intro d s w9 hd hA hC hF K hK
          simp only [putL, putT, List.setIfInBounds_toArray, List.set_cons_zero, List.set_cons_succ]
          as_aux_lemma =>
            have eq9 : s 33 = Value.pointer (some ⟨gw, 2, none⟩) := hF.1 (9, 33, Value.pointer (some ⟨gw, 2, none⟩)) (by simp) (hA.1)
            rw [eq9]
            have p9 := (HW.out w9 hF.2.below).2.2.1
            go_simp
            clear p9
            refine hK.out (updS s 34 (Value.string q2)) _ _ ?_ ⟨hF.1.put 10 34 (Value.string q2) rfl (by simp), hF.2.below, hF.2.c16, hF.2.c17, hF.2.c18⟩
            simp only [putL, putT, List.setIfInBounds_toArray, List.set_cons_zero, List.set_cons_succ]; rw [show updS s 34 (Value.string q2) 33 = Value.pointer (some ⟨gw, 2, none⟩) from eq9] <;> rfl
        · intro d s w9 hd hA hC hF K hK
          simp only [putL, putT, List.setIfInBounds_toArray, List.set_cons_zero, List.set_cons_succ]
          as_aux_lemma =>
            have eq10 : s 34 = Value.string q2 := hF.1 (10, 34, Value.string q2) (by simp) (hA.2.1)
            rw [eq10]
            go_simp
            refine (l1Dec_any q2 _ z2).mono ?_
            rintro r w8 ⟨rfl, he8⟩
            obtain rfl : w9 = w8 := he8.symm
            rw [← HD.out.2.2.1]
            go_simp
            refine hK.out (updS s 35 (Value.int .i64 k)) _ _ ?_ ⟨hF.1.put 11 35 (Value.int .i64 k) rfl (by simp), hF.2.below, hF.2.c16, hF.2.c17, hF.2.c18⟩
            simp only [putL, putT, List.setIfInBounds_toArray, List.set_cons_zero, List.set_cons_succ]; rw [show updS s 35 (Value.int .i64 k) 34 = Value.string q2 from eq10] <;> rfl
        · intro d s w9 hd hA hC hF K hK
          simp only [putL, putT, List.setIfInBounds_toArray, List.set_cons_zero, List.set_cons_succ]
          as_aux_lemma =>
            go_simp
            refine hK.out (updS s 36 (Value.slice (some ⟨gw, 0, none⟩) 4 cw)) _ _ ?_ ⟨hF.1.put 12 36 (Value.slice (some ⟨gw, 0, none⟩) 4 cw) rfl (by simp), hF.2.below, hF.2.c16, hF.2.c17, hF.2.c18⟩
            simp only [putL, putT, List.setIfInBounds_toArray, List.set_cons_zero, List.set_cons_succ]; rfl
        · intro d s w9 hd hA hC hF K hK
          simp only [putL, putT, List.setIfInBounds_toArray, List.set_cons_zero, List.set_cons_succ]
          as_aux_lemma =>
            have eq12 : s 36 = Value.slice (some ⟨gw, 0, none⟩) 4 cw := hF.1 (12, 36, Value.slice (some ⟨gw, 0, none⟩) 4 cw) (by simp) (hA.1)
            rw [eq12]
            go_simp
            refine hK.out (updS s 37 (Value.pointer (some ⟨gw, 3, none⟩))) _ _ ?_ ⟨hF.1.put 13 37 (Value.pointer (some ⟨gw, 3, none⟩)) rfl (by simp), hF.2.below, hF.2.c16, hF.2.c17, hF.2.c18⟩
            simp only [putL, putT, List.setIfInBounds_toArray, List.set_cons_zero, List.set_cons_succ]; rw [show updS s 37 (Value.pointer (some ⟨gw, 3, none⟩)) 36 = Value.slice (some ⟨gw, 0, none⟩) 4 cw from eq12] <;> rfl
        · intro d s w9 hd hA hC hF K hK
          simp only [putL, putT, List.setIfInBounds_toArray, List.set_cons_zero, List.set_cons_succ]
          as_aux_lemma =>
            have eq13 : s 37 = Value.pointer (some ⟨gw, 3, none⟩) := hF.1 (13, 37, Value.pointer (some ⟨gw, 3, none⟩)) (by simp) (hA.1)
            rw [eq13]
            have p9 := (HW.out w9 hF.2.below).2.2.2
            go_simp
            clear p9
            refine hK.out (updS s 38 (Value.string q3)) _ _ ?_ ⟨hF.1.put 14 38 (Value.string q3) rfl (by simp), hF.2.below, hF.2.c16, hF.2.c17, hF.2.c18⟩
            simp only [putL, putT, List.setIfInBounds_toArray, List.set_cons_zero, List.set_cons_succ]; rw [show updS s 38 (Value.string q3) 37 = Value.pointer (some ⟨gw, 3, none⟩) from eq13] <;> rfl
        · intro d s w9 hd hA hC hF K hK
          simp only [putL, putT, List.setIfInBounds_toArray, List.set_cons_zero, List.set_cons_succ]
          as_aux_lemma =>
            have eq14 : s 38 = Value.string q3 := hF.1 (14, 38, Value.string q3) (by simp) (hA.2.1)
            rw [eq14]
            go_simp
            refine (l1Dec_any q3 _ z3).mono ?_
            rintro r w8 ⟨rfl, he8⟩
            obtain rfl : w9 = w8 := he8.symm
            rw [← HD.out.2.2.2]
            go_simp
            refine hK.out (updS s 39 (Value.int .i64 f)) _ _ ?_ ⟨hF.1.put 15 39 (Value.int .i64 f) rfl (by simp), hF.2.below, hF.2.c16, hF.2.c17, hF.2.c18⟩
            simp only [putL, putT, List.setIfInBounds_toArray, List.set_cons_zero, List.set_cons_succ]; rw [show updS s 39 (Value.int .i64 f) 38 = Value.string q3 from eq14] <;> rfl
        · intro d s w9 hd hA hC hF K hK
          simp only [putL, putT, List.setIfInBounds_toArray, List.set_cons_zero, List.set_cons_succ]
          as_aux_lemma =>
            have d17 : d 17 = false := hC.off 17 16 (by kernel_rfl) hd
            have d19 : d 19 = false := hC.off 19 16 (by kernel_rfl) hd
            go_simp
            refine hK.out (updS s 40 (Value.slice (some ⟨w9.heap.size, 0, none⟩) 0 0)) _ _ ?_ ⟨hF.1.skipS 16 40 _ rfl, hF.2.below.alloc hF.2.below.size _, fun _ => ⟨_, rfl, OwnS.zero _ hF.2.below.size⟩, fun e => absurd (d17.symm.trans e) (by simp), fun e => ?_⟩
            · simp only [putL, putT, List.setIfInBounds_toArray, List.set_cons_zero, List.set_cons_succ]; rfl
            · obtain ⟨b, h1, h2, h3⟩ := hF.2.c18 e
              rw [d19] at h3
              refine ⟨b, h1, h2, ?_⟩
              rw [show upd d 16 19 = false from d19]
              exact keep_alloc _ h3
        · intro d s w9 hd hA hC hF K hK
          simp only [putL, putT, List.setIfInBounds_toArray, List.set_cons_zero, List.set_cons_succ]
          as_aux_lemma =>
            have eq3 : s 27 = Value.int .i64 m := hF.1 (3, 27, Value.int .i64 m) (by simp) (hA.1)
            have eq7 : s 31 = Value.int .i64 n := hF.1 (7, 31, Value.int .i64 n) (by simp) (hA.2.1)
            have eq11 : s 35 = Value.int .i64 k := hF.1 (11, 35, Value.int .i64 k) (by simp) (hA.2.2.1)
            have eq15 : s 39 = Value.int .i64 f := hF.1 (15, 39, Value.int .i64 f) (by simp) (hA.2.2.2.1)
            rw [eq3, eq7, eq11, eq15]
            obtain ⟨g, e40, o40⟩ := hF.2.c16 (hA.2.2.2.2.1)
            clear o40
            go_simp
            refine hK.out (updS s 41 (Value.agg #[.int .i64 m, .int .i64 n, .int .i64 k, .int .i64 f, .slice (some ⟨g, 0, none⟩) 0 0])) _ _ ?_ ⟨hF.1.skipS 17 41 _ rfl, hF.2.below, hF.2.c16, (fun _ => by show Value.agg #[.int .i64 m, .int .i64 n, .int .i64 k, .int .i64 f, .slice (some ⟨g, 0, none⟩) 0 0] = Value.agg #[.int .i64 m, .int .i64 n, .int .i64 k, .int .i64 f, s 40]; rw [e40]), hF.2.c18⟩
            simp only [putL, putT, List.setIfInBounds_toArray, List.set_cons_zero, List.set_cons_succ]; rw [show updS s 41 (Value.agg #[.int .i64 m, .int .i64 n, .int .i64 k, .int .i64 f, .slice (some ⟨g, 0, none⟩) 0 0]) 27 = Value.int .i64 m from eq3, show updS s 41 (Value.agg #[.int .i64 m, .int .i64 n, .int .i64 k, .int .i64 f, .slice (some ⟨g, 0, none⟩) 0 0]) 31 = Value.int .i64 n from eq7, show updS s 41 (Value.agg #[.int .i64 m, .int .i64 n, .int .i64 k, .int .i64 f, .slice (some ⟨g, 0, none⟩) 0 0]) 35 = Value.int .i64 k from eq11, show updS s 41 (Value.agg #[.int .i64 m, .int .i64 n, .int .i64 k, .int .i64 f, .slice (some ⟨g, 0, none⟩) 0 0]) 39 = Value.int .i64 f from eq15, show updS s 41 (Value.agg #[.int .i64 m, .int .i64 n, .int .i64 k, .int .i64 f, .slice (some ⟨g, 0, none⟩) 0 0]) 40 = _ from e40] <;> rfl
        · intro d s w9 hd hA hC hF K hK
          simp only [putL, putT, List.setIfInBounds_toArray, List.set_cons_zero, List.set_cons_succ]
          as_aux_lemma =>
            have d19 : d 19 = false := hC.off 19 18 (by kernel_rfl) hd
            go_simp
            refine hK.out (updS s 6 (Value.pointer (some ⟨w9.heap.size, 0, none⟩))) _ _ ?_ ⟨hF.1.skipS 18 6 _ rfl, hF.2.below.alloc hF.2.below.size _, (fun e => (hF.2.c16 e).imp fun g h => ⟨h.1, h.2.later (Below.alloc_ _ _)⟩), hF.2.c17, fun _ => ⟨w9.heap.size, rfl, hF.2.below.size, ?_⟩⟩
            · simp only [putL, putT, List.setIfInBounds_toArray, List.set_cons_zero, List.set_cons_succ]; rfl
            · rw [show upd d 18 19 = false from d19]
              exact heap_alloc_new _ _
        · intro d s w9 hd hA hC hF K hK
          simp only [putL, putT, List.setIfInBounds_toArray, List.set_cons_zero, List.set_cons_succ]
          as_aux_lemma =>
            obtain ⟨b, e6, hge, h3⟩ := hF.2.c18 (hA.2.2.2.2.2.2.2.2.2.2.2.2.2.2.2.2.2.2.1)
            obtain ⟨g, e40, o40⟩ := hF.2.c16 (hA.2.2.2.2.2.2.2.2.2.2.2.2.2.2.2.2.1)
            have e41 := hF.2.c17 (hA.2.2.2.2.2.2.2.2.2.2.2.2.2.2.2.2.2.1)
            rw [e40] at e41 o40
            rw [hd] at h3
            simp only [cond_false] at h3
            rw [e6, e41]
            obtain ⟨y0, y1, y2, y3, y4, yf, yl⟩ := cells5 h3
            go_simp
            clear y0 y1 y2 y3 y4 yf
            refine hK.out s _ _ ?_ ⟨hF.1.skip 19 rfl, put5_below hF.2.below hge _ _ _ _ _, (fun _ => ⟨g, e40, by rw [e40]; exact put5_own o40 h3 (by decide)⟩), (fun _ => by rw [e40]; exact e41), fun _ => ⟨b, e6, hge, ?_⟩⟩
            · simp only [putL, putT, List.setIfInBounds_toArray, List.set_cons_zero, List.set_cons_succ]; rw [e6, e40, e41] <;> rfl
            · rw [e40]
              exact put5 h3
      · intro d s9 w4 hA hF
        obtain ⟨b, e6, hge, h3⟩ := hF.2.c18 (hA.2.2.2.2.2.2.2.2.2.2.2.2.2.2.2.2.2.2.1)
        obtain ⟨g, e40, o40⟩ := hF.2.c16 (hA.2.2.2.2.2.2.2.2.2.2.2.2.2.2.2.2.1)
        rw [show d 19 = true from hA.2.2.2.2.2.2.2.2.2.2.2.2.2.2.2.2.2.2.2.1] at h3
        simp only [cond_true] at h3
        rw [e40] at h3 o40
        have M4 : Hid (Mw w2 b m n k f (.slice (some ⟨g, 0, none⟩) 0 0) (.slice (some ⟨g, 0, none⟩) 0 0) [] w4) := ⟨hF.2.below, h3, hge, o40⟩
        simp only [putL, putT, List.setIfInBounds_toArray, List.set_cons_zero, List.set_cons_succ]
        rw [e6]
        clear hF h3 o40 hA e40 hge e6
        go_wp2_with fail
        go_loopw [7] (fun i wr => ∃ (q : Nat), 1 ≤ q ∧ (q = 1 ∨ q + 1 ≤ LS.length) ∧ i = .int .i64 q ∧ Hid (∃ v xs, Mw w2 b m n k f v v xs wr ∧ xs.length + 1 = q ∧ RdS LS xs)) (fun i _ => LS.length - (intOf i).toNat)
        case atStart => exact ⟨1, Nat.le_refl _, .inl rfl, rfl, ⟨_, _, M4.out, rfl, fun i v x _ _ h => by simp at h⟩⟩
        case round =>
          obtain ⟨q, hq1, hq2, rfl, C⟩ := hrel
          clear M4
          obtain ⟨v, xs, M, hxl, hR⟩ := C.out
          clear C
          have HR : Hid (RdS LS xs) := hR
          clear hR
          obtain ⟨a1, c1, rfl, hr1⟩ := M.own.row
          clear hr1
          have HM : Hid (Mw w2 b m n k f (.slice a1 xs.length c1) (.slice a1 xs.length c1) xs wr) := M
          clear M
          by_cases hlt : q + 1 < LS.length
          · skip
            obtain ⟨x, hx⟩ : ∃ x, LS[q]? = some x := ⟨LS[q], List.getElem?_eq_getElem (by omega)⟩
            have hxs : x.size ≤ 2000000 := by have := HL.out x (List.mem_of_getElem? hx); omega
            have hglt : gl < w2.heap.size := by omega
            have c0 : wr.cell? ⟨gl, q, none⟩ = some (.string x) := (HM.out.below.cell (p := ⟨gl, q, none⟩) hglt).trans (D2.out.2.2 q x hx)
            have HX : Hid (LS[q]? = some x) := hx
            clear hx
            go_wp2_with fail
            refine (specRead_any x hxs _).mono ?_
            rintro r5 w5 ⟨⟨k5, t5, a5, b5, c5, d5, e5, ok5, rfl, hy5, hn5⟩, bb5⟩
            have HU : Hid (∀ v : Sl, v.ok = true → v.text = x → (⟨k5, t5, a5, b5, c5, d5, e5⟩ : Sl) = v) := fun v hv ht => by
              cases ok5
              · exact absurd ht ((hn5 rfl).2.2.2.2.2.2.2 _ _ _ _ _ _ _ hv)
              · exact seal_text_inj (hy5 rfl).1 hv (congrArg (fun z : ByteArray => z.data.toList) ((hy5 rfl).2.trans ht.symm))
            have M5 : Hid (Mw w2 b m n k f (.slice a1 xs.length c1) (.slice a1 xs.length c1) xs w5) := HM.out.next bb5
            clear bb5 hy5 hn5 HM c0
            obtain ⟨u, hu⟩ : ∃ u : Sl, u = ⟨k5, t5, a5, b5, c5, d5, e5⟩ := ⟨_, rfl⟩
            rw [← hu] at HU
            obtain ⟨rfl, rfl, rfl, rfl, rfl, rfl, rfl⟩ : k5 = u.k ∧ t5 = u.t ∧ a5 = u.a ∧ b5 = u.b ∧ c5 = u.c ∧ d5 = u.d ∧ e5 = u.e := by rw [hu]; exact ⟨rfl, rfl, rfl, rfl, rfl, rfl, rfl⟩
            clear hu
            obtain ⟨y0, y1, y2, y3, y4, yf, yl⟩ := cells5 M5.out.msg
            clear y0 y1 y2 y3
            have hbge := M5.out.ge
            have hxl2 : xs.length ≤ 1000 := by omega
            have M7 : Hid (Mw w2 b m n k f (.slice a1 xs.length c1) (.slice a1 xs.length c1) xs ((w5.alloc (.cells #[.int .i64 u.k, .int .i64 u.t, .int .i64 u.a, .int .i64 u.b, .int .i64 u.c, .int .i64 u.d, .int .i64 u.e] 39)).alloc (.cells #[.int .i64 u.k, .int .i64 u.t, .int .i64 u.a, .int .i64 u.b, .int .i64 u.c, .int .i64 u.d, .int .i64 u.e] 39)) ∧ SRow ((w5.alloc (.cells #[.int .i64 u.k, .int .i64 u.t, .int .i64 u.a, .int .i64 u.b, .int .i64 u.c, .int .i64 u.d, .int .i64 u.e] 39)).alloc (.cells #[.int .i64 u.k, .int .i64 u.t, .int .i64 u.a, .int .i64 u.b, .int .i64 u.c, .int .i64 u.d, .int .i64 u.e] 39)) (some ⟨w5.heap.size + 1, 0, none⟩) [u]) := ⟨(M5.out.alloc _).alloc _, by have h := row_one (w5.alloc (.cells #[.int .i64 u.k, .int .i64 u.t, .int .i64 u.a, .int .i64 u.b, .int .i64 u.c, .int .i64 u.d, .int .i64 u.e] 39)) u; rwa [World.size_alloc] at h⟩
            go_wp2_with (first
              | (at_builtin; refine wpList_app_seals _ rfl _ _ rfl w2.heap.size (.slice a1 xs.length c1) xs rfl M7.out.1.own (some ⟨w5.heap.size + 1, 0, none⟩) [u] 1 rfl M7.out.2 (by simp; omega) M7.out.1.below.size ?_; intro b6 c6 w6 o6 g6; have M6 : Hid (Mw w2 b m n k f (.slice a1 xs.length c1) (.slice b6 (xs ++ [u]).length c6) (xs ++ [u]) w6) := M7.out.1.app o6 g6; clear o6 g6 M7 y4 yf yl; obtain ⟨ys, hys⟩ : ∃ ys, ys = xs ++ [u] := ⟨_, rfl⟩; rw [← hys] at M6; rw [← hys]; obtain ⟨y0, y1, y2, y3, y4, yf, yl⟩ := cells5 M6.out.msg; clear y0 y1 y2 y3; have HY : Hid (ys = xs ++ [u]) := hys; clear hys)
              | go_in)
            have hyl : ys.length = xs.length + 1 := by rw [HY.out]; simp
            exact ⟨⟨q + 1, by omega, .inr (by omega), by go_num, ⟨_, _, M6.out.put _, by omega, by rw [HY.out]; exact rdS_snoc HR.out hxl HX.out HU.out⟩⟩, by simp [intOf]; omega⟩
          · skip
            have hxl2 : xs.length ≤ 1000 := by omega
            have hbge := HM.out.ge
            have HG : Hid (¬ (msgB m n k f xs = true ∧ msgT m n k f xs = s) → NoMsg s) := fun h => no_word (by rw [← HS.out.1]; exact HS.out.2) HQ.out (by rw [← HS.out.1]; exact hq2) (by rw [← HS.out.1]; omega) hxl (by rw [← HS.out.1]; exact HR.out) (by rw [← HD.out.1, ← HD.out.2.1, ← HD.out.2.2.1, ← HD.out.2.2.2]; exact h)
            obtain ⟨y0, y1, y2, y3, y4, yf, yl⟩ := cells5 HM.out.msg
            clear HR HL
            go_wp2_with fail
            refine (specMsg_any m n k f a1 c1 xs _ HM.out.own.rowAt (by omega)).mono ?_
            rintro r6 w6 ⟨rfl, b6⟩
            have M6 : Hid (Mw w2 b m n k f (.slice a1 xs.length c1) (.slice a1 xs.length c1) xs w6) := HM.out.next b6
            clear b6 HM y0 y1 y2 y3 y4 yf yl
            obtain ⟨y0, y1, y2, y3, y4, yf, yl⟩ := cells5 M6.out.msg
            obtain ⟨z0, z1', z2, z3, z4, zf, zl⟩ := cells5 ((M6.out.below.block _ (by omega)).trans D2.out.2.1)
            cases hB : msgB m n k f xs
            · skip
              have HN : Hid (NoMsg s) := HG.out (by rw [hB]; simp)
              clear y0 y1 y2 y3 y4 yf yl
              go_wp2_with fail
              refine bodyPost_ret (v := .tuple #[.agg zM, .bool false]) (by simp [results, Tryz.results5, go_sem, *]) rfl ⟨.inr ⟨fun _ => HN.out, rfl⟩, (put5_below (D2.out.1.trans (M6.out.below.mono D2.out.1.size)) (Nat.le_refl _) _ _ _ _ _)⟩
            have HB : Hid (msgB m n k f xs = true) := hB
            clear hB z0 z1' z2 z3 z4 zf zl
            go_wp2_with fail
            refine (specMT_any m n k f a1 c1 xs _ M6.out.own.rowAt (by omega)).mono ?_
            rintro r7 w7 ⟨rfl, b7⟩
            have M7 : Hid (Mw w2 b m n k f (.slice a1 xs.length c1) (.slice a1 xs.length c1) xs w7) := M6.out.next b7
            clear b7 M6 y0 y1 y2 y3 y4 yf yl
            obtain ⟨y0, y1, y2, y3, y4, yf, yl⟩ := cells5 M7.out.msg
            obtain ⟨z0, z1', z2, z3, z4, zf, zl⟩ := cells5 ((M7.out.below.block _ (by omega)).trans D2.out.2.1)
            by_cases hTs : msgT m n k f xs = s
            · skip
              have hq : ((msgT m n k f xs).toList == s.toList) = true := by rw [hTs]; simp
              have HT : Hid (msgT m n k f xs = s) := hTs
              clear hTs
              go_wp2_with fail
              refine bodyPost_ret (v := .tuple #[.agg #[.int .i64 m, .int .i64 n, .int .i64 k, .int .i64 f, .slice a1 xs.length c1], .bool true]) (by simp [results, Tryz.results5, go_sem, *]) rfl ⟨.inl ⟨m, n, k, f, a1, c1, xs, hs, HB.out, HT.out, rfl, OwnS.rowAt (put5_own M7.out.own ((M7.out.below.block _ (by omega)).trans D2.out.2.1) (by decide))⟩, (put5_below (D2.out.1.trans (M7.out.below.mono D2.out.1.size)) (Nat.le_refl _) _ _ _ _ _)⟩
            have hq : ((msgT m n k f xs).toList == s.toList) = false := by
              cases hb : ((msgT m n k f xs).toList == s.toList)
              · rfl
              · have h1 := eq_of_beq hb
                rw [ByteArray.toList_eq, ByteArray.toList_eq] at h1
                exact absurd (ByteArray.ext (Array.toList_inj.1 h1)) hTs
            have HN : Hid (NoMsg s) := HG.out (fun h => hTs h.2)
            clear hTs y0 y1 y2 y3 y4 yf yl
            go_wp2_with fail
            refine bodyPost_ret (v := .tuple #[.agg zM, .bool false]) (by simp [results, Tryz.results5, go_sem, *]) rfl ⟨.inr ⟨fun _ => HN.out, rfl⟩, (put5_below (D2.out.1.trans (M7.out.below.mono D2.out.1.size)) (Nat.le_refl _) _ _ _ _ _)⟩
    have HN : Hid (NoMsg s) := no_words (by rw [← HS.out.1]; exact HS.out.2) hn
    have hn' : (((cutL 32 l0.data.toList).length : Int) != 4) = true := by simp; omega
    obtain ⟨z0, z1', z2, z3, z4, zf, zl⟩ := cells5 D2.out.2.1
    go_wp2_with fail
    refine bodyPost_ret (v := .tuple #[.agg zM, .bool false]) (by simp [results, Tryz.results5, go_sem, *]) rfl ⟨.inr ⟨fun _ => HN.out, rfl⟩, put5_below D2.out.1 (Nat.le_refl _) _ _ _ _ _⟩
  have hs' : (s.size : Int) > 200 := by omega
  go_wp2_with fail
  refine bodyPost_ret (v := .tuple #[.agg zM, .bool false]) (by simp [results, Tryz.results5, go_sem, *]) rfl ⟨.inr ⟨fun h => absurd h hs, rfl⟩, ?_⟩
  exact (Below.refl _ _).alloc (Nat.le_refl _) _

end Go.Proofs.YtopikapamfmalaaGreatDoor

namespace Go.Proofs.YtopikapamfmalaaGreatDoor
open Go.RowKit

theorem lines_most : ∀ (xs : List Sl) (l : List UInt8), (∀ s ∈ xs, s.ok = true) → (linesL l xs).length ≤ l.length + 61 * xs.length
  | [], l, _ => by simp [linesL]
  | s :: xs, l, hok => by
    have h := lines_most xs (l ++ (s.text.data.toList ++ [10])) (fun u hu => hok u (List.mem_cons_of_mem _ hu))
    have e : s.text.data.toList.length = s.text.size := by rw [Array.length_toList]; rfl
    have : s.text.size ≤ 60 := (text_60 (hok s List.mem_cons_self)).1
    simp only [linesL, List.foldl_cons, List.length_append, List.length_cons, List.length_nil] at h ⊢
    omega
theorem msgT_most (m n k f : Int) (xs : List Sl) : (msgT m n k f xs).size ≤ 200 := by
  unfold msgT
  split
  · rename_i h
    obtain ⟨h2, hok⟩ := msg_seals h
    have h1 := lines_most xs (headL m n k f) hok
    have h3 := head_len h
    rw [tB_size]
    omega
  · exact Nat.zero_le _

/-- What MsgRead of the specification answers, and that of the program. -/
def SpecR (s : ByteArray) (m n k f : Int) (xs : List Sl) (b : Bool) : Prop := ∀ w, Calls Tryz.prog 5 #[.string s] w fun r w' => (∃ a cap, r = .returned (.tuple #[.agg #[.int .i64 m, .int .i64 n, .int .i64 k, .int .i64 f, .slice a xs.length cap], .bool b]) ∧ SRow w' a xs) ∧ Below w.heap.size w w'
def Mem6 (p1 p2 p3 : Option Addr) (w : World) : Prop := Lb w ∧ Er p1 p2 p3 w ∧ Forms w ∧ w.cell? ⟨1, 0, none⟩ = some (.iface 113 (.agg #[.pointer (some ⟨13, 43, none⟩)]))
theorem Mem6.later {p1 p2 p3 : Option Addr} {w w' : World} (h : Mem6 p1 p2 p3 w) (hb : Below w.heap.size w w') : Mem6 p1 p2 p3 w' :=
  ⟨h.1.below hb, h.2.1.below hb, h.2.2.1.later hb, (hb.cell (p := ⟨_, 0, none⟩) (block_lt_of_cell h.2.2.2)).trans h.2.2.2⟩
def ImplR (s : ByteArray) (m n k f : Int) (xs : List Sl) (b : Bool) : Prop := ∀ (w : World) (p1 p2 p3 : Option Addr), Mem6 p1 p2 p3 w → Calls Tryz.prog 6 #[.string s] w fun r w' => (∃ a cap, r = .returned (.tuple #[.agg #[.int .i64 m, .int .i64 n, .int .i64 k, .int .i64 f, .slice a xs.length cap], .bool b]) ∧ OwnS w' w.heap.size (.slice a xs.length cap) xs) ∧ Below w.heap.size w w'

theorem read_two (s : ByteArray) : ∃ (m n k f : Int) (xs : List Sl) (b : Bool), xs.length ≤ 2 ∧ (b = true → msgB m n k f xs = true ∧ msgT m n k f xs = s) ∧ SpecR s m n k f xs b ∧ ImplR s m n k f xs b := by
  by_cases hw : ∃ m n k f xs, msgB m n k f xs = true ∧ msgT m n k f xs = s
  · obtain ⟨m, n, k, f, xs, hm, rfl⟩ := hw
    refine ⟨m, n, k, f, xs, true, (msg_seals hm).1, fun _ => ⟨hm, rfl⟩, fun w => ?_, fun w p1 p2 p3 ⟨hl, he, hF, hg⟩ => ?_⟩
    · refine (specMR_any _ w).mono ?_
      rintro r w' ⟨⟨m', n', k', f', a, cap, ys, _, h1, h2, h3, h4⟩ | ⟨hno, _⟩, hb⟩
      · obtain ⟨rfl, rfl, rfl, rfl, rfl⟩ := msgT_inj h1 hm h2
        exact ⟨⟨a, cap, h3, h4⟩, hb⟩
      · exact absurd rfl (hno (msgT_most _ _ _ _ _) _ _ _ _ _ hm)
    · refine (implMR_any _ p1 p2 p3 w hl he hF hg).mono ?_
      rintro r w' ⟨⟨_, m', n', k', f', a, cap, ys, _, h1, h2, h3, h4⟩ | ⟨hno, _⟩, hb⟩
      · obtain ⟨rfl, rfl, rfl, rfl, rfl⟩ := msgT_inj h1 hm h2
        exact ⟨⟨a, cap, h3, h4⟩, hb⟩
      · have hwd := wrd_of hm (msgT_most _ _ _ _ _)
        rcases hno (msgT_most _ _ _ _ _) with h | ⟨m', n', k', f', ys, h, hn⟩
        · exact absurd hwd (h _ _ _ _ _)
        · obtain ⟨rfl, rfl, rfl, rfl, rfl⟩ := wrd_one h hwd
          exact absurd ⟨hm, rfl⟩ hn
  · refine ⟨0, 0, 0, 0, [], false, by simp, (fun e => by cases e), fun w => ?_, fun w p1 p2 p3 ⟨hl, he, hF, hg⟩ => ?_⟩
    · refine (specMR_any _ w).mono ?_
      rintro r w' ⟨⟨m', n', k', f', a, cap, ys, _, h1, h2, h3, h4⟩ | ⟨_, h⟩, hb⟩
      · exact absurd ⟨_, _, _, _, _, h1, h2⟩ hw
      · exact ⟨⟨none, 0, h, Or.inl rfl⟩, hb⟩
    · refine (implMR_any _ p1 p2 p3 w hl he hF hg).mono ?_
      rintro r w' ⟨⟨_, m', n', k', f', a, cap, ys, _, h1, h2, h3, h4⟩ | ⟨_, h⟩, hb⟩
      · exact absurd ⟨_, _, _, _, _, h1, h2⟩ hw
      · exact ⟨⟨none, 0, h, rfl, Or.inl ⟨rfl, rfl⟩⟩, hb⟩

end Go.Proofs.YtopikapamfmalaaGreatDoor

namespace Go.Proofs.YtopikapamfmalaaGreatDoor
open Go.RowKit
attribute [local go_sem ↓] Go.wp_at_zero Go.wp_at_succ

set_option maxHeartbeats 1000000 in
/-- Marks in a row of the call's own. -/
theorem markMsg_own (m n k f : Int) {w : World} {base : Nat} {v : Value} {zs : List Sl} (k0 : Int) (h : OwnS w base v zs) (hB : base ≤ w.heap.size) (hn : zs.length ≤ 2000000) (h0 : 0 ≤ k0) (h1 : k0 ≤ 100000000) :
    Calls Tryz.prog 8 #[.agg #[.int .i64 m, .int .i64 n, .int .i64 k, .int .i64 f, v], .int .i64 k0] w fun r w' => r = .returned (.int .i64 (k0 + 7 * zs.length)) ∧ Below base w w' ∧ Mk7 w' v zs.length k0 := by
  obtain ⟨a, cap, rfl, _⟩ := h.row
  have HO : Hid (OwnS w base (.slice a zs.length cap) zs) := h
  clear h
  go_enter Tryz.func8, Tryz.ntmps8
  go_wp2_with fail
  refine (markSeal_own k0 (OwnS.later HO.out (Below.alloc_ _ _)) hn h0 h1).mono ?_
  rintro r w2 ⟨rfl, b2, m2⟩
  go_wp2_with fail
  go_ret
  exact ⟨rfl, ((Below.alloc_ _ _).mono hB).trans b2, m2⟩
set_option maxHeartbeats 1000000 in
/-- Marks in a row that may be written. -/
theorem markMsg_row (m n k f : Int) (g len cap : Nat) (k0 : Int) (w : World) (h : WB w g (len * 7)) (hn : len ≤ 2000000) (h0 : 0 ≤ k0) (h1 : k0 ≤ 100000000) :
    Calls Tryz.prog 8 #[.agg #[.int .i64 m, .int .i64 n, .int .i64 k, .int .i64 f, .slice (some ⟨g, 0, none⟩) len cap], .int .i64 k0] w fun r w' => r = .returned (.int .i64 (k0 + 7 * len)) ∧ w.grownBy w' (some g) := by
  have hg := h.lt
  have HW : Hid (WB (w.alloc (.cells #[.int .i64 m, .int .i64 n, .int .i64 k, .int .i64 f, .slice (some ⟨g, 0, none⟩) len cap] 24)) g (len * 7)) := h.same (Below.heap_alloc _ _ _ hg)
  clear h
  go_enter Tryz.func8, Tryz.ntmps8
  go_wp2_with fail
  refine (markSealS_any g len cap k0 _ HW.out hn h0 h1).mono ?_
  rintro r w2 ⟨rfl, t2, _, _⟩
  go_wp2_with fail
  go_ret
  exact ⟨rfl, (World.grownBy_alloc _ _ _).trans ⟨t2.os, t2.tape, t2.output, Nat.le_of_eq t2.size.symm, fun k _ hk => t2.block k (fun e => hk (by rw [e]))⟩⟩
set_option maxHeartbeats 1000000 in
/-- They are held. -/
theorem heldMsg_own (m n k f : Int) {w : World} {v : Value} {len : Nat} (k0 : Int) (h : Mk7 w v len k0) (hn : len ≤ 2000000) (h0 : 0 ≤ k0) (h1 : k0 ≤ 100000000) :
    Calls Tryz.prog 9 #[.agg #[.int .i64 m, .int .i64 n, .int .i64 k, .int .i64 f, v], .int .i64 k0] w fun r w' => r = .returned (.int .i64 (k0 + 7 * len)) ∧ Below w.heap.size w w' := by
  have HM : Hid (Mk7 w v len k0) := h
  have hk : ¬ (k0 + 7 * (len : Int)) < 0 := by omega
  obtain ⟨a, cap, rfl, _⟩ := h
  go_enter Tryz.func9, Tryz.ntmps9
  go_wp2_with fail
  refine (heldSeal_own k0 (HM.out.later (Below.alloc_ _ _)) hn h0 h1).mono ?_
  rintro r w2 ⟨rfl, hw⟩
  rw [hw]
  clear hw w2
  go_wp2_with fail
  go_ret
  exact ⟨rfl, Below.alloc_ _ _⟩

end Go.Proofs.YtopikapamfmalaaGreatDoor

namespace Go.Proofs.YtopikapamfmalaaGreatDoor
open Go.RowKit
attribute [local go_sem ↓] Go.wp_at_zero Go.wp_at_succ

set_option maxHeartbeats 1000000 in
theorem eqMsg_same (m n k f : Int) (a1 a2 : Option Addr) (p1 p2 : Nat) (xs : List Sl) (w : World) (h1 : SRow w a1 xs) (h2 : SRow w a2 xs) (hx : xs.length ≤ 2000000) :
    Calls Tryz.prog 7 #[.agg #[.int .i64 m, .int .i64 n, .int .i64 k, .int .i64 f, .slice a1 xs.length p1], .agg #[.int .i64 m, .int .i64 n, .int .i64 k, .int .i64 f, .slice a2 xs.length p2]] w fun r w' => r = .returned (.bool true) ∧ Below w.heap.size w w' := by
  go_enter Tryz.func7, Tryz.ntmps7
  go_wp2_with fail
  have hb1 := fun o1 o2 : Obj => ((Below.refl w.heap.size w).alloc (Nat.le_refl _) o1).alloc (by simp) o2
  refine (eqSealS_same a1 a2 p1 p2 xs _ (h1.later (hb1 _ _)) (h2.later (hb1 _ _)) hx).mono ?_
  rintro r w2 ⟨rfl, hb2⟩
  go_wp2_with fail
  go_ret
  exact ⟨rfl, (hb1 _ _).trans (hb2.mono (by simp; omega))⟩

end Go.Proofs.YtopikapamfmalaaGreatDoor

namespace Go.Proofs.YtopikapamfmalaaGreatDoor
open Go.RowKit

theorem markSeal_own3 {w : World} {base : Nat} {v : Value} {zs : List Sl} (k0 : Int) (h : OwnS w base v zs) (hn : zs.length ≤ 2000000) (h0 : 0 ≤ k0) (h1 : k0 ≤ 100000000) :
    Calls Tryz.prog 22 #[v, .int .i64 k0] w fun r w' => r = .returned (.int .i64 (k0 + 7 * zs.length)) ∧ w.grownBy w' v.ownBlock ∧ Mk7 w' v zs.length k0 := by
  rcases h.2 with ⟨rfl, h2⟩ | ⟨g, cap, cur, rfl, h2, h3, h4, _, h5, _⟩
  · refine (markSeal_nil none 0 k0 w).mono ?_
    rintro r w' ⟨rfl, rfl⟩
    exact ⟨by rw [h2]; simp, ⟨rfl, rfl, rfl, Nat.le_refl _, fun _ _ _ => rfl⟩, none, 0, by rw [h2], Or.inl h2⟩
  · refine (markSealS_any g zs.length cap k0 w ⟨cur, _, h3, by omega⟩ hn h0 h1).mono ?_
    rintro r w' ⟨rfl, ht, hw, hc⟩
    exact ⟨rfl, ⟨ht.os, ht.tape, ht.output, Nat.le_of_eq ht.size.symm, fun k _ hk => ht.block k (fun e => hk (by rw [e]; rfl))⟩, _, cap, rfl, Or.inr ⟨g, rfl, hw.lt, hc⟩⟩
set_option maxHeartbeats 1000000 in
theorem markMsg_own3 (m n k f : Int) {w : World} {base : Nat} {v : Value} {zs : List Sl} (k0 : Int) (h : OwnS w base v zs) (hn : zs.length ≤ 2000000) (h0 : 0 ≤ k0) (h1 : k0 ≤ 100000000) :
    Calls Tryz.prog 8 #[.agg #[.int .i64 m, .int .i64 n, .int .i64 k, .int .i64 f, v], .int .i64 k0] w fun r w' => r = .returned (.int .i64 (k0 + 7 * zs.length)) ∧ w.grownBy w' v.ownBlock ∧ Mk7 w' v zs.length k0 := by
  obtain ⟨a, cap, rfl, _⟩ := h.row
  have HO : Hid (OwnS w base (.slice a zs.length cap) zs) := h
  clear h
  go_enter Tryz.func8, Tryz.ntmps8
  go_wp2_with fail
  refine (markSeal_own3 k0 (OwnS.later HO.out (Below.alloc_ _ _)) hn h0 h1).mono ?_
  rintro r w2 ⟨rfl, b2, m2⟩
  go_wp2_with fail
  go_ret
  exact ⟨rfl, (World.grownBy_alloc _ _ _).trans b2, m2⟩

/-- On the way: what the specification answered lies below, what the program answered above. -/
structure Em (V : World) (b5 : Nat) (cs : Array Value) (W : World) : Prop where
  bel : Below V.heap.size V W
  i5 : W.heap[b5]? = some (.cells cs 24 (0, 0))
theorem Em.next {V : World} {b5 : Nat} {cs : Array Value} {W W' : World} (h : Em V b5 cs W) (hb : Below W.heap.size W W') : Em V b5 cs W' :=
  ⟨h.bel.trans (hb.mono h.bel.size), (hb.block _ (Array.getElem?_eq_some_iff.1 h.i5).1).trans h.i5⟩
theorem Em.grown {V : World} {b5 : Nat} {cs : Array Value} {W W' : World} {v : Value} {xs : List Sl} (h : Em V b5 cs W) (o : OwnS W V.heap.size v xs) (hg : W.grownBy W' v.ownBlock) : Em V b5 cs W' := by
  refine ⟨h.bel.grown hg h.bel.size o.lo, ?_⟩
  exact (hg.block b5 (Array.getElem?_eq_some_iff.1 h.i5).1 (fun e => by
    obtain ⟨cur, hc⟩ := own_type o e.symm
    exact type_ne h.i5 hc (by decide) rfl)).trans h.i5

set_option maxHeartbeats 400000 in
theorem exread_long (s : ByteArray) (w : World) (h : 1048576 < (s.size : Int)) :
    Calls Tryz.prog 3 #[.string s] w fun r w' => r = .returned (.bool true) ∧ Below w.heap.size w w' := by
  go_enter Tryz.func3, Tryz.ntmps3
  go_wp2
  go_ret
  exact ⟨rfl, Below.refl _ _⟩

set_option maxHeartbeats 4000000 in
set_option maxRecDepth 100000 in
theorem exread_short (s : ByteArray) (w : World) (g1 : (s.size : Int) ≤ 1048576) (p1 p2 p3 : Option Addr) (hm : Mem6 p1 p2 p3 w) :
    Calls Tryz.prog 3 #[.string s] w fun r w' => r = .returned (.bool true) ∧ Below w.heap.size w w' := by
  have HM : Hid (Mem6 p1 p2 p3 w) := hm
  clear hm
  obtain ⟨m, n, k, f, xs, b, hx2, _, hs, hi⟩ := read_two s
  have HR : Hid (SpecR s m n k f xs b ∧ ImplR s m n k f xs b) := ⟨hs, hi⟩
  clear hs hi
  go_enter Tryz.func3, Tryz.ntmps3
  go_wp2_with fail
  refine (HR.out.1 _).mono ?_
  rintro r1 w1 ⟨⟨a1, c1, rfl, hr1⟩, b1⟩
  go_wp2_with fail
  obtain ⟨V1, hV1, S1⟩ : ∃ V, V = w1.alloc (.cells #[.int .i64 m, .int .i64 n, .int .i64 k, .int .i64 f, .slice a1 xs.length c1] 24) ∧ Hid (V.heap[w1.heap.size]? = some (.cells #[.int .i64 m, .int .i64 n, .int .i64 k, .int .i64 f, .slice a1 xs.length c1] 24 (0, 0)) ∧ SRow V a1 xs ∧ Below w.heap.size w V ∧ w1.heap.size < V.heap.size) := ⟨_, rfl, heap_alloc_new _ _, hr1.later (Below.alloc_ _ _), b1.alloc b1.size _, by simp⟩
  rw [← hV1]
  clear hV1 hr1 b1
  refine (HR.out.2 V1 p1 p2 p3 (HM.out.later S1.out.2.2.1)).mono ?_
  rintro r2 w2 ⟨⟨a2, c2, rfl, o2⟩, b2⟩
  obtain ⟨z0, z1, z2, z3, z4, zf, zl⟩ := cells5 ((b2.block _ S1.out.2.2.2).trans S1.out.1)
  go_wp2_with fail
  obtain ⟨V2, hV2, S2⟩ : ∃ V, V = w2.alloc (.cells #[.int .i64 m, .int .i64 n, .int .i64 k, .int .i64 f, .slice a2 xs.length c2] 24) ∧ Hid (Em V1 w2.heap.size #[.int .i64 m, .int .i64 n, .int .i64 k, .int .i64 f, .slice a2 xs.length c2] V ∧ OwnS V V1.heap.size (.slice a2 xs.length c2) xs) := ⟨_, rfl, ⟨b2.alloc b2.size _, heap_alloc_new _ _⟩, o2.later (Below.alloc_ _ _)⟩
  rw [← hV2]
  clear hV2 o2 b2 z0 z1 z2 z3 z4 zf zl
  refine (eqMsg_same m n k f a2 a1 c2 c1 xs _ S2.out.2.rowAt (S1.out.2.1.later S2.out.1.bel) (by omega)).mono ?_
  rintro r3 w3 ⟨rfl, b3⟩
  have S3 : Hid (Em V1 w2.heap.size #[.int .i64 m, .int .i64 n, .int .i64 k, .int .i64 f, .slice a2 xs.length c2] w3 ∧ OwnS w3 V1.heap.size (.slice a2 xs.length c2) xs) := ⟨S2.out.1.next b3, S2.out.2.later b3⟩
  clear b3 S2
  obtain ⟨y0, y1, y2, y3, y4, yf, yl⟩ := cells5 S3.out.1.i5
  go_wp2_with fail
  refine (markMsg_own3 m n k f 1 S3.out.2 (by omega) (by omega) (by omega)).mono ?_
  rintro r4 w4 ⟨rfl, b4, m4⟩
  have S4 : Hid (Em V1 w2.heap.size #[.int .i64 m, .int .i64 n, .int .i64 k, .int .i64 f, .slice a2 xs.length c2] w4 ∧ Mk7 w4 (.slice a2 xs.length c2) xs.length 1) := ⟨S3.out.1.grown S3.out.2 b4, m4⟩
  clear b4 m4 S3 y0 y1 y2 y3 y4 yf yl
  obtain ⟨K, hK⟩ : ∃ K, K = (1 + 7 * (xs.length : Int)) := ⟨_, rfl⟩
  have hK0 : ¬ K < 0 := by omega
  have HK : Hid (K = (1 + 7 * (xs.length : Int))) := hK
  rw [← hK]
  clear hK
  obtain ⟨y0, y1, y2, y3, y4, yf, yl⟩ := cells5 S4.out.1.i5
  go_wp2_with fail
  refine (heldMsg_own m n k f 1 S4.out.2 (by omega) (by omega) (by omega)).mono ?_
  rintro r5 w5 ⟨rfl, b5⟩
  rw [← HK.out]
  have S5 : Hid (Em V1 w2.heap.size #[.int .i64 m, .int .i64 n, .int .i64 k, .int .i64 f, .slice a2 xs.length c2] w5 ∧ Mk7 w5 (.slice a2 xs.length c2) xs.length 1) := ⟨S4.out.1.next b5, S4.out.2.later b5⟩
  clear b5 S4 y0 y1 y2 y3 y4 yf yl
  go_wp2_with fail
  refine (HR.out.2 w5 p1 p2 p3 ((HM.out.later S1.out.2.2.1).later S5.out.1.bel)).mono ?_
  rintro r6 w6 ⟨⟨a3, c3, rfl, o3⟩, b6⟩
  obtain ⟨z0, z1, z2, z3, z4, zf, zl⟩ := cells5 (((S5.out.1.next b6).bel.block _ S1.out.2.2.2).trans S1.out.1)
  go_wp2_with fail
  obtain ⟨V6, hV6, S6⟩ : ∃ V, V = w6.alloc (.cells #[.int .i64 m, .int .i64 n, .int .i64 k, .int .i64 f, .slice a3 xs.length c3] 24) ∧ Hid (Em V1 w2.heap.size #[.int .i64 m, .int .i64 n, .int .i64 k, .int .i64 f, .slice a2 xs.length c2] V ∧ Mk7 V (.slice a2 xs.length c2) xs.length 1 ∧ OwnS V w5.heap.size (.slice a3 xs.length c3) xs ∧ V.heap[w6.heap.size]? = some (.cells #[.int .i64 m, .int .i64 n, .int .i64 k, .int .i64 f, .slice a3 xs.length c3] 24 (0, 0))) := ⟨_, rfl, (S5.out.1.next b6).next (Below.alloc_ _ _), (S5.out.2.later b6).later (Below.alloc_ _ _), o3.later (Below.alloc_ _ _), heap_alloc_new _ _⟩
  rw [← hV6]
  clear hV6 o3 b6 S5 z0 z1 z2 z3 z4 zf zl
  refine (eqMsg_same m n k f a3 a1 c3 c1 xs _ S6.out.2.2.1.rowAt (S1.out.2.1.later S6.out.1.bel) (by omega)).mono ?_
  rintro r7 w7 ⟨rfl, b7⟩
  have S7 : Hid (Em V1 w2.heap.size #[.int .i64 m, .int .i64 n, .int .i64 k, .int .i64 f, .slice a2 xs.length c2] w7 ∧ Mk7 w7 (.slice a2 xs.length c2) xs.length 1) := ⟨S6.out.1.next b7, S6.out.2.1.later b7⟩
  clear b7 S6
  obtain ⟨y0, y1, y2, y3, y4, yf, yl⟩ := cells5 S7.out.1.i5
  go_wp2_with fail
  refine (heldMsg_own m n k f 1 S7.out.2 (by omega) (by omega) (by omega)).mono ?_
  rintro r8 w8 ⟨rfl, b8⟩
  rw [← HK.out]
  have S8 : Hid (Below w.heap.size w w8) := S1.out.2.2.1.trans ((S7.out.1.next b8).bel.mono S1.out.2.2.1.size)
  clear b8 S7 y0 y1 y2 y3 y4 yf yl
  go_wp2_with fail
  go_ret
  exact ⟨rfl, S8.out⟩

end Go.Proofs.YtopikapamfmalaaGreatDoor
