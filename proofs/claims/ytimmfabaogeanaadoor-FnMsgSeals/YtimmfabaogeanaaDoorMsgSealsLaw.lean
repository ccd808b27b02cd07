/-
  The law on a word's seals, walked: it returns true at every two lists of bytes, and nothing that was in memory is turned.
-/
import Derived.Test.YtimmfabaogeanaaDoorDrawMsgOk
import Derived.Test.YtimmfabaogeanaaDoorDrawText
import Derived.Test.YtimmfabaogeanaaDoorKdcLawJ
import Derived.Test.YtimmfabaogeanaaDoorStJ
namespace Go.Proofs.YtimmfabaogeanaaDoor
open Go.RowKit
attribute [local go_sem ↓] Go.wp_at_zero Go.wp_at_succ

/-- A word in form is so by its seals alone. -/
theorem msgB_same {m n k f : Int} {xs : List Sl} (h : msgB m n k f xs = true) : ∃ c : Int, slB xs c = true ∧ c ≤ 2 ∧ ∀ zs, msgB m n k f zs = slB zs c := by
  unfold msgB at h ⊢
  split at h
  · simp only [Bool.and_eq_true] at h; exact ⟨0, h.2, by omega, fun zs => by simp_all⟩
  split at h
  · simp only [Bool.and_eq_true] at h; exact ⟨2, h.2, by omega, fun zs => by simp_all⟩
  split at h
  · simp only [Bool.and_eq_true] at h; exact ⟨2, h.2, by omega, fun zs => by simp_all⟩
  split at h
  · simp only [Bool.and_eq_true] at h; exact ⟨2, h.2, by omega, fun zs => by simp_all⟩
  split at h
  · simp only [Bool.and_eq_true] at h; exact ⟨2, h.2, by omega, fun zs => by simp_all⟩
  split at h
  · simp only [Bool.and_eq_true] at h; exact ⟨1, h.2, by omega, fun zs => by simp_all⟩
  · cases h
theorem slB_iff {xs : List Sl} {c : Int} : slB xs c = true ↔ (∀ x ∈ xs, x.ok = true) ∧ (xs.length : Int) = c := by
  unfold slB
  simp only [Bool.and_eq_true, List.all_eq_true, decide_eq_true_eq]
theorem seals_math {m n k f : Int} {xs : List Sl} (s : Sl) (h : msgB m n k f xs = true) : xs.length ≤ 2 ∧ msgB m n k f xs.reverse = true ∧ msgB m n k f (xs ++ [s]) = false ∧ (xs ≠ [] → msgB m n k f (xs.drop 1) = false ∧ msgB m n k f (xs.reverse.set 0 s) = s.ok) := by
  obtain ⟨c, h1, hc, h2⟩ := msgB_same h
  obtain ⟨ha, hl⟩ := slB_iff.1 h1
  refine ⟨by omega, ?_, ?_, fun hne => ⟨?_, ?_⟩⟩
  · rw [h2, slB_iff]; exact ⟨fun x hx => ha x (by simpa using hx), by simpa using hl⟩
  · rw [h2, Bool.eq_false_iff]; intro hq; have := (slB_iff.1 hq).2; simp at this; omega
  · rw [h2, Bool.eq_false_iff]; intro hq; have := (slB_iff.1 hq).2; have hp := List.length_pos_iff.2 hne; simp at this; omega
  · rw [h2]
    cases hs : s.ok
    · rw [Bool.eq_false_iff]; intro hq
      have h3 := (slB_iff.1 hq).1 s (by
        have hp : 0 < xs.reverse.length := by simpa using List.length_pos_iff.2 hne
        exact List.mem_of_getElem? (by rw [List.getElem?_set_self hp]))
      rw [hs] at h3; cases h3
    · rw [slB_iff]; exact ⟨fun x hx => by
        rcases List.mem_or_eq_of_mem_set hx with hx | rfl
        · exact ha x (by simpa using hx)
        · exact hs, by simpa using hl⟩
theorem drop_rev {xs : List Sl} {j : Nat} {y : Sl} (h : xs[j]? = some y) : (xs.drop j).reverse = (xs.drop (j + 1)).reverse ++ [y] := by
  obtain ⟨hj, rfl⟩ := List.getElem?_eq_some_iff.1 h
  rw [List.drop_eq_getElem_cons hj, List.reverse_cons]
theorem srow_one (W : World) (y : Sl) : SRow (W.alloc (.cells #[.int .i64 y.k, .int .i64 y.t, .int .i64 y.a, .int .i64 y.b, .int .i64 y.c, .int .i64 y.d, .int .i64 y.e] 28)) (some ⟨W.heap.size, 0, none⟩) [y] := by
  refine Or.inr ⟨_, 0, rfl, by simp, fun i s hi => ?_⟩
  cases i with
  | zero => simp at hi; subst hi; simp only [Nat.zero_mul, Nat.add_zero]; have e := heap_alloc_new W (.cells #[.int .i64 y.k, .int .i64 y.t, .int .i64 y.a, .int .i64 y.b, .int .i64 y.c, .int .i64 y.d, .int .i64 y.e] 28); exact ⟨by simp only [World.cell?, e]; rfl, by simp only [World.cell?, e]; rfl, by simp only [World.cell?, e]; rfl, by simp only [World.cell?, e]; rfl, by simp only [World.cell?, e]; rfl, by simp only [World.cell?, e]; rfl, by simp only [World.cell?, e]; rfl⟩
  | succ i => simp at hi
theorem srow_drop {w : World} {g off : Nat} {xs : List Sl} (h : SRow w (some ⟨g, off, none⟩) xs) : SRow w (some ⟨g, off + 7, none⟩) (xs.drop 1) := by
  rcases h with h | ⟨b, o, e, hb, h⟩
  · exact Or.inl (by rw [h]; rfl)
  · injection e with e
    injection e with e1 e2
    subst e1 e2
    exact Or.inr ⟨g, off + 7, rfl, hb, fun i s hi => by
      have h1 := h (i + 1) s (by simpa [Nat.add_comm] using hi)
      have e : off + 7 + i * 7 = off + (i + 1) * 7 := by omega
      rw [e]; exact h1⟩
theorem srow_elem {w : World} {a : Option Addr} {xs : List Sl} {j : Nat} {y : Sl} (h : SRow w a xs) (hy : xs[j]? = some y) : ∃ g off, a = some ⟨g, off, none⟩ ∧ g < w.heap.size ∧ SealAt w g (off + j * 7) y := by
  rcases h with h | ⟨b, o, rfl, hb, h⟩
  · subst h; simp at hy
  · exact ⟨b, o, rfl, hb, h j y hy⟩
theorem srow_at {w : World} {g off : Nat} {xs : List Sl} {j : Nat} {y : Sl} (h : SRow w (some ⟨g, off, none⟩) xs) (hy : xs[j]? = some y) : SealAt w g (off + j * 7) y := by
  obtain ⟨g', off', e, _, h'⟩ := srow_elem h hy
  injection e with e
  injection e with e1 e2
  subst e1 e2
  exact h'
theorem sealAt_same {w w' : World} {b o : Nat} {s : Sl} (h : SealAt w b o s) (e : w'.heap[b]? = w.heap[b]?) : SealAt w' b o s := by
  have hc : ∀ i, w'.cell? ⟨b, i, none⟩ = w.cell? ⟨b, i, none⟩ := fun i => World.cell?_of_block (a := ⟨b, i, none⟩) e
  exact ⟨(hc _).trans h.c0, (hc _).trans h.c1, (hc _).trans h.c2, (hc _).trans h.c3, (hc _).trans h.c4, (hc _).trans h.c5, (hc _).trans h.c6⟩
theorem srow_grown {w w' : World} {g off : Nat} {xs : List Sl} {ob : Option Nat} (h : SRow w (some ⟨g, off, none⟩) xs) (hg : w.grownBy w' ob) (hne : some g ≠ ob) : SRow w' (some ⟨g, off, none⟩) xs := by
  rcases h with h | ⟨b, o, e, hb, h⟩
  · exact Or.inl h
  · injection e with e
    injection e with e1 e2
    subst e1 e2
    exact Or.inr ⟨g, off, rfl, Nat.lt_of_lt_of_le hb hg.size, fun i s hi => sealAt_same (h i s hi) (hg.block g hb hne)⟩
theorem srow_lt1 {w : World} {g off : Nat} {s : Sl} (h : SRow w (some ⟨g, off, none⟩) [s]) : g < w.heap.size := by
  rcases h with h | ⟨b, o, e, hb, _⟩
  · cases h
  · injection e with e
    injection e with e1 e2
    subst e1
    exact hb
/-- The first element of a row is another one. -/
theorem srow_put {w : World} {g : Nat} {zs : List Sl} (s : Sl) (h : SRow w (some ⟨g, 0, none⟩) zs) (hne : zs ≠ []) : SRow (put7 w g 0 s) (some ⟨g, 0, none⟩) (zs.set 0 s) := by
  rcases h with h | ⟨b, o, e, hb, h⟩
  · exact absurd h hne
  · injection e with e
    injection e with e1 e2
    subst e1 e2
    obtain ⟨z, tl, rfl⟩ := List.exists_cons_of_ne_nil hne
    refine Or.inr ⟨g, 0, rfl, by rw [put7_size]; exact hb, fun i u hu => ?_⟩
    have h0 := h 0 z rfl
    simp only [Nat.zero_mul, Nat.add_zero] at h0
    cases i with
    | zero =>
      simp at hu
      subst hu
      refine put7_at fun q hq => ?_
      obtain rfl | rfl | rfl | rfl | rfl | rfl | rfl : q = 0 ∨ q = 1 ∨ q = 2 ∨ q = 3 ∨ q = 4 ∨ q = 5 ∨ q = 6 := by omega
      · exact ⟨_, h0.c0⟩
      · exact ⟨_, h0.c1⟩
      · exact ⟨_, h0.c2⟩
      · exact ⟨_, h0.c3⟩
      · exact ⟨_, h0.c4⟩
      · exact ⟨_, h0.c5⟩
      · exact ⟨_, h0.c6⟩
    | succ i =>
      have hd := h (i + 1) u (by simpa using hu)
      exact ⟨(put7_else (by omega)).trans hd.c0, (put7_else (by omega)).trans hd.c1, (put7_else (by omega)).trans hd.c2, (put7_else (by omega)).trans hd.c3, (put7_else (by omega)).trans hd.c4, (put7_else (by omega)).trans hd.c5, (put7_else (by omega)).trans hd.c6⟩
theorem stPutS {B : Nat} {w0 : World} {F : List BF} {R : List RF} {w : World} (h : St B w0 F R w) (g o : Nat) (s : Sl) (hg : B ≤ g) {cur : Array Value} (hc : w.heap[g]? = some (.cells cur 28 (0, 0))) (hF : F.all (fun x => !Nat.beq x.T 28) = true) : St B w0 F [] (put7 w g o s) :=
  ⟨h.bs, put7_below h.bel hg, fun x hx => (put7_heap (by
    have h1 := h.blk x hx
    have h3 := List.all_eq_true.1 hF x hx
    refine type_ne hc h1 (fun e => ?_)
    rw [← e, Nat.beq_refl] at h3
    cases h3)).trans (h.blk x hx), h.ge, h.nd, (fun _ h => by cases h), (fun _ h => by cases h)⟩

set_option maxHeartbeats 400000 in
theorem seals_long (a1 a2 : Option Addr) (n1 c1 n2 c2 : Nat) (w : World) (h : 1048576 < (n1 : Int) ∨ 1048576 < (n2 : Int)) :
    Calls Tryd.prog 3 #[.slice a1 n1 c1, .slice a2 n2 c2] w fun r w' => r = .returned (.bool true) ∧ Below w.heap.size w w' := by
  by_cases g : 1048576 < (n1 : Int)
  · go_enter Tryd.func3, Tryd.ntmps3
    go_wp2
    go_ret
    exact ⟨rfl, Below.refl _ _⟩
  · have g' : decide (1048576 < (n1 : Int)) = false := by simpa using g
    have h2 : 1048576 < (n2 : Int) := by omega
    go_enter Tryd.func3, Tryd.ntmps3
    go_wp2
    go_ret
    exact ⟨rfl, Below.refl _ _⟩

set_option maxHeartbeats 8000000 in
set_option maxRecDepth 100000 in
theorem seals_short (a1 a2 : Option Addr) (n1 c1 n2 c2 : Nat) (w : World) (g1 : (n1 : Int) ≤ 1048576) (g2 : (n2 : Int) ≤ 1048576) (h1 : Code w a1 n1 c1) (h2 : Code w a2 n2 c2) (hf : Forms w) :
    Calls Tryd.prog 3 #[.slice a1 n1 c1, .slice a2 n2 c2] w fun r w' => r = .returned (.bool true) ∧ Below w.heap.size w w' := by
  have HC : Hid (Code w a1 n1 c1 ∧ Code w a2 n2 c2 ∧ Forms w) := ⟨h1, h2, hf⟩
  clear h1 h2 hf
  go_enter Tryd.func3, Tryd.ntmps3
  go_wp2_with fail
  refine (drawMsgOk_any a1 n1 c1 w HC.out.1).mono ?_
  rintro r w1 ⟨⟨m, n, kk, f, a, xs, cap, rfl, R1, x3, xc, _⟩, b1⟩
  have H1 : Hid (SRow w1 a xs ∧ Below w.heap.size w w1) := ⟨R1, b1⟩
  clear R1 b1
  go_wp2_with fail
  have H2 : Hid (ABlk 25 (w1.alloc (.cells #[.int .i64 m, .int .i64 n, .int .i64 kk, .int .i64 f, .slice a xs.length cap] 25)) w1.heap.size #[.int .i64 m, .int .i64 n, .int .i64 kk, .int .i64 f, .slice a xs.length cap] ∧ SRow (w1.alloc (.cells #[.int .i64 m, .int .i64 n, .int .i64 kk, .int .i64 f, .slice a xs.length cap] 25)) a xs ∧ Below w.heap.size w (w1.alloc (.cells #[.int .i64 m, .int .i64 n, .int .i64 kk, .int .i64 f, .slice a xs.length cap] 25))) := ⟨ABlk.new _ _ _, H1.out.1.later (Below.alloc_ _ _), H1.out.2.trans ((Below.alloc_ _ _).mono H1.out.2.size)⟩
  clear H1
  obtain ⟨w2, hw2⟩ : ∃ X, X = (w1.alloc (.cells #[.int .i64 m, .int .i64 n, .int .i64 kk, .int .i64 f, .slice a xs.length cap] 25)) := ⟨_, rfl⟩
  rw [← hw2] at H2 ⊢
  clear hw2
  refine (drawSealText_any a2 n2 c2 w2 (HC.out.2.1.below H2.out.2.2)).mono ?_
  rintro r w3 ⟨⟨k9, t9, a9, b9, c9, d9, e9, rfl⟩, b5⟩
  obtain ⟨s, rfl, rfl, rfl, rfl, rfl, rfl, rfl⟩ : ∃ s : Sl, k9 = s.k ∧ t9 = s.t ∧ a9 = s.a ∧ b9 = s.b ∧ c9 = s.c ∧ d9 = s.d ∧ e9 = s.e := ⟨⟨k9, t9, a9, b9, c9, d9, e9⟩, rfl, rfl, rfl, rfl, rfl, rfl, rfl⟩
  have H3 : Hid (ABlk 25 w3 w1.heap.size #[.int .i64 m, .int .i64 n, .int .i64 kk, .int .i64 f, .slice a xs.length cap] ∧ SRow w3 a xs ∧ Below w.heap.size w w3) := ⟨H2.out.1.later b5, H2.out.2.1.later b5, H2.out.2.2.trans (b5.mono H2.out.2.2.size)⟩
  have q0 := H3.out.1.at 0 _ rfl
  have q1 := H3.out.1.at 1 _ rfl
  have q2 := H3.out.1.at 2 _ rfl
  have q3 := H3.out.1.at 3 _ rfl
  have q4 := H3.out.1.at 4 _ rfl
  have lt1 := H3.out.1.lt
  clear b5 H2
  go_wp2_with fail
  clear q0 q1 q2 q3 q4 lt1
  have HM : Hid (ABlk 25 (w3.alloc (.cells #[.int .i64 s.k, .int .i64 s.t, .int .i64 s.a, .int .i64 s.b, .int .i64 s.c, .int .i64 s.d, .int .i64 s.e] 28)) w1.heap.size #[.int .i64 m, .int .i64 n, .int .i64 kk, .int .i64 f, .slice a xs.length cap] ∧ ABlk 28 (w3.alloc (.cells #[.int .i64 s.k, .int .i64 s.t, .int .i64 s.a, .int .i64 s.b, .int .i64 s.c, .int .i64 s.d, .int .i64 s.e] 28)) w3.heap.size #[.int .i64 s.k, .int .i64 s.t, .int .i64 s.a, .int .i64 s.b, .int .i64 s.c, .int .i64 s.d, .int .i64 s.e] ∧ SRow (w3.alloc (.cells #[.int .i64 s.k, .int .i64 s.t, .int .i64 s.a, .int .i64 s.b, .int .i64 s.c, .int .i64 s.d, .int .i64 s.e] 28)) a xs ∧ Forms (w3.alloc (.cells #[.int .i64 s.k, .int .i64 s.t, .int .i64 s.a, .int .i64 s.b, .int .i64 s.c, .int .i64 s.d, .int .i64 s.e] 28)) ∧ Below w.heap.size w (w3.alloc (.cells #[.int .i64 s.k, .int .i64 s.t, .int .i64 s.a, .int .i64 s.b, .int .i64 s.c, .int .i64 s.d, .int .i64 s.e] 28))) := ⟨H3.out.1.later (Below.alloc_ _ _), ABlk.new _ _ _, H3.out.2.1.later (Below.alloc_ _ _), HC.out.2.2.later (H3.out.2.2.trans ((Below.alloc_ _ _).mono H3.out.2.2.size)), H3.out.2.2.trans ((Below.alloc_ _ _).mono H3.out.2.2.size)⟩
  clear H3 HC
  obtain ⟨w4, hw4⟩ : ∃ X, X = (w3.alloc (.cells #[.int .i64 s.k, .int .i64 s.t, .int .i64 s.a, .int .i64 s.b, .int .i64 s.c, .int .i64 s.d, .int .i64 s.e] 28)) := ⟨_, rfl⟩
  rw [← hw4] at HM ⊢
  clear hw4
  have hx : xs.length ≤ 2000000 := by omega
  refine (implMsg_any m n kk f a cap xs _ (HM.out.2.2.1.later (St.new w4).bel) hx (HM.out.2.2.2.1.later (St.new w4).bel)).mono ?_
  rintro r w5 ⟨rfl, b9⟩
  have HS1 : Hid (St w4.heap.size w4 [] [] w5) := Hid.mk' (by
    have h := St.grow b9 (St.new w4)
    try simp only [World.size_alloc] at h
    try simp only [World.size_setCell] at h
    exact h)
  clear b9
  have m0 := (HM.out.1.later HS1.out.bel).at 0 _ rfl
  have m1 := (HM.out.1.later HS1.out.bel).at 1 _ rfl
  have m2 := (HM.out.1.later HS1.out.bel).at 2 _ rfl
  have m3 := (HM.out.1.later HS1.out.bel).at 3 _ rfl
  have m4 := (HM.out.1.later HS1.out.bel).at 4 _ rfl
  have ml : w1.heap.size < w5.heap.size := (HM.out.1.later HS1.out.bel).lt
  go_wp2_with fail
  clear m0 m1 m2 m3 m4 ml
  refine (specMsg_any m n kk f a cap xs _ (HM.out.2.2.1.later HS1.out.bel) hx).mono ?_
  rintro r w6 ⟨rfl, b9⟩
  have HS2 : Hid (St w4.heap.size w4 [] [] w6) := Hid.mk' (by
    have h := St.grow b9 HS1.out
    try simp only [World.size_alloc] at h
    try simp only [World.size_setCell] at h
    exact h)
  clear HS1
  clear b9
  cases u1 : msgB m n kk f xs
  · skip
    have m0 := (HM.out.1.later HS2.out.bel).at 0 _ rfl
    have m1 := (HM.out.1.later HS2.out.bel).at 1 _ rfl
    have m2 := (HM.out.1.later HS2.out.bel).at 2 _ rfl
    have m3 := (HM.out.1.later HS2.out.bel).at 3 _ rfl
    have m4 := (HM.out.1.later HS2.out.bel).at 4 _ rfl
    have ml : w1.heap.size < w6.heap.size := (HM.out.1.later HS2.out.bel).lt
    go_wp2_with fail
    clear m0 m1 m2 m3 m4 ml
    refine (specMsg_any m n kk f a cap xs _ (HM.out.2.2.1.later HS2.out.bel) hx).mono ?_
    rintro r w7 ⟨rfl, b9⟩
    rw [u1]
    have HS3 : Hid (St w4.heap.size w4 [] [] w7) := Hid.mk' (by
      have h := St.grow b9 HS2.out
      try simp only [World.size_alloc] at h
      try simp only [World.size_setCell] at h
      exact h)
    clear HS2
    clear b9
    go_wp2_with fail
    go_ret
    exact ⟨rfl, HM.out.2.2.2.2.trans (HS3.out.bel.mono HM.out.2.2.2.2.size)⟩
  have HQ := (show Hid _ from seals_math s u1)
  clear u1
  have hx2 := HQ.out.1
  have m0 := (HM.out.1.later HS2.out.bel).at 0 _ rfl
  have m1 := (HM.out.1.later HS2.out.bel).at 1 _ rfl
  have m2 := (HM.out.1.later HS2.out.bel).at 2 _ rfl
  have m3 := (HM.out.1.later HS2.out.bel).at 3 _ rfl
  have m4 := (HM.out.1.later HS2.out.bel).at 4 _ rfl
  have ml : w1.heap.size < w6.heap.size := (HM.out.1.later HS2.out.bel).lt
  go_wp2_with fail
  clear m0 m1 m2 m3 m4 ml
  obtain ⟨w7, hX9, HS3⟩ : ∃ X, X = ((w6.alloc (.cells #[.int .i64 m, .int .i64 n, .int .i64 kk, .int .i64 f, .slice (some ⟨w6.heap.size + 1, 0, none⟩) 0 0] 25)).alloc (.cells #[] 28)) ∧ Hid (St w4.heap.size w4 [⟨w6.heap.size, 25, #[.int .i64 m, .int .i64 n, .int .i64 kk, .int .i64 f, .slice (some ⟨w6.heap.size + 1, 0, none⟩) 0 0]⟩] [⟨(selT 28), fun W => OwnS W w4.heap.size (.slice (some ⟨w6.heap.size + 1, 0, none⟩) 0 0) []⟩] X) := ⟨_, rfl, Hid.mk' (by
    have h := (St.add (selT 28) (fun W => OwnS W w4.heap.size (.slice (some ⟨w6.heap.size + 1, 0, none⟩) 0 0) []) (keep_owns _ _ _) (by
    have h := OwnS.zero (w6.alloc (.cells #[.int .i64 m, .int .i64 n, .int .i64 kk, .int .i64 f, .slice (some ⟨w6.heap.size + 1, 0, none⟩) 0 0] 25)) (base := w4.heap.size) (by have := HS2.out.bel.size; simp; omega)
    simp only [World.size_alloc] at h
    exact h) (St.lay (.cells #[] 28) (St.alloc #[.int .i64 m, .int .i64 n, .int .i64 kk, .int .i64 f, .slice (some ⟨w6.heap.size + 1, 0, none⟩) 0 0] 25 HS2.out)))
    try simp only [World.size_alloc] at h
    try simp only [World.size_setCell] at h
    exact h)⟩
  rw [← hX9]
  clear hX9
  clear HS2
  have hw0 : wrap64 ((xs.length : Int) - 1) = (xs.length : Int) - 1 := by unfold wrap64; omega
  have m0 := (HM.out.1.later HS3.out.bel).at 0 _ rfl
  have m1 := (HM.out.1.later HS3.out.bel).at 1 _ rfl
  have m2 := (HM.out.1.later HS3.out.bel).at 2 _ rfl
  have m3 := (HM.out.1.later HS3.out.bel).at 3 _ rfl
  have m4 := (HM.out.1.later HS3.out.bel).at 4 _ rfl
  have ml : w1.heap.size < w7.heap.size := (HM.out.1.later HS3.out.bel).lt
  go_wp2_with fail
  clear m0 m1 m2 m3 m4 ml
  clear hw0
  go_loopw [9] (fun vi wr => ∃ (j : Nat) (zs : List Sl) (bx : Option Addr) (cx : Nat), j ≤ xs.length ∧ vi = .int .i64 ((j : Int) - 1) ∧ Hid (zs = (xs.drop j).reverse ∧ St w4.heap.size w4 [⟨w6.heap.size, 25, #[.int .i64 m, .int .i64 n, .int .i64 kk, .int .i64 f, .slice bx zs.length cx]⟩] [⟨(selT 28), fun W => OwnS W w4.heap.size (.slice bx zs.length cx) zs⟩] wr)) (fun vi _ => (intOf vi + 1).toNat)
  case atStart => exact ⟨xs.length, [], _, _, Nat.le_refl _, rfl, by simp, HS3.out⟩
  case round =>
    clear HS3
    obtain ⟨j, zs, bx, cx, hj, rfl, C⟩ := hrel
    rcases j with _ | j
    rotate_left
    · have e1 : (((j + 1 : Nat) : Int) - 1) = (j : Int) := by omega
      rw [e1]
      clear e1
      obtain ⟨y, hy⟩ : ∃ y, xs[j]? = some y := ⟨xs[j], List.getElem?_eq_getElem (by omega)⟩
      obtain ⟨g, off, ha, _, _⟩ := srow_elem HM.out.2.2.1 hy
      subst ha
      have hjl : j < xs.length := by omega
      have HJ : Hid (xs[j]? = some y ∧ zs = (xs.drop (j + 1)).reverse) := ⟨hy, C.out.1⟩
      clear hy
      go_wp2_with fail
      have hD9 := C.out.2.drew
      refine wp_region_held_drew (S := fun w' => Below w4.heap.size w4 w') (by kernel_rfl) hD9.bel (fun hS => ?_)
      have HD : Hid (St w4.heap.size w4 [⟨w6.heap.size, 25, #[.int .i64 m, .int .i64 n, .int .i64 kk, .int .i64 f, .slice bx zs.length cx]⟩] [⟨(selT 28), fun W => OwnS W w4.heap.size (.slice bx zs.length cx) zs⟩] wr.drew) := hD9
      clear hD9 C
      generalize wr.drew = W4 at HD hS ⊢
      refine take1 0 49 (Value.pointer (some ⟨w6.heap.size, 4, none⟩)) rfl rfl (by kernel_rfl) (by kernel_rfl) (by kernel_rfl) (by rfl) (fun _ _ _ h => h) hS (fun w' hS' => ?_) ?_
      · (go_simp) <;> (intro hx9; omega)
      simp only [Act.put, List.setIfInBounds_toArray, List.set_cons_zero, List.set_cons_succ]
      refine take1 2 51 (Value.pointer (some ⟨w1.heap.size, 4, none⟩)) rfl rfl (by kernel_rfl) (by kernel_rfl) (by kernel_rfl) (by rfl) (fun _ _ _ h => h) hS (fun w' hS' => ?_) ?_
      · (go_simp) <;> (intro hx9; omega)
      simp only [Act.put, List.setIfInBounds_toArray, List.set_cons_zero, List.set_cons_succ]
      refine take1 3 52 (.slice (some ⟨g, off, none⟩) xs.length cap) rfl rfl (by kernel_rfl) (by kernel_rfl) (by kernel_rfl) (by rfl) (fun _ _ _ h => h) hS (fun w' hS' => ?_) ?_
      · have m4 := (HM.out.1.later hS').at 4 _ rfl
        (go_simp) <;> (intro hx9; omega)
      simp only [Act.put, List.setIfInBounds_toArray, List.set_cons_zero, List.set_cons_succ]
      refine take1 4 53 (.int .i64 j) rfl rfl (by kernel_rfl) (by kernel_rfl) (by kernel_rfl) (by rfl) (fun _ _ _ h => h) hS (fun w' hS' => ?_) ?_
      · (go_simp) <;> (intro hx9; omega)
      simp only [Act.put, List.setIfInBounds_toArray, List.set_cons_zero, List.set_cons_succ]
      refine take1 5 54 (Value.pointer (some ⟨g, off + j * 7, none⟩)) rfl rfl (by kernel_rfl) (by kernel_rfl) (by kernel_rfl) (by rfl) (fun _ _ _ h => h) hS (fun w' hS' => ?_) ?_
      · (go_simp) <;> (intro hx9; omega)
      simp only [Act.put, List.setIfInBounds_toArray, List.set_cons_zero, List.set_cons_succ]
      refine take1 6 55 (.agg #[.int .i64 y.k, .int .i64 y.t, .int .i64 y.a, .int .i64 y.b, .int .i64 y.c, .int .i64 y.d, .int .i64 y.e]) rfl rfl (by kernel_rfl) (by kernel_rfl) (by kernel_rfl) (by rfl) (fun _ _ _ h => h) hS (fun w' hS' => ?_) ?_
      · obtain ⟨q0, q1, q2, q3, q4, q5, q6⟩ := srow_at (HM.out.2.2.1.later hS') HJ.out.1
        (go_simp) <;> (intro hx9; omega)
      simp only [Act.put, List.setIfInBounds_toArray, List.set_cons_zero, List.set_cons_succ]
      refine wpAnyH_ready (rs := [1, 7]) (by kernel_rfl) (by simp) ?_
      refine AllReadyH.cons rfl (fun K hK => ?_) (AllReadyH.cons rfl (fun K hK => ?_) AllReadyH.nil)
      · skip
        have p0 := HD.out.cell 0 rfl 0 (.int .i64 m) rfl
        have p1 := HD.out.cell 0 rfl 1 (.int .i64 n) rfl
        have p2 := HD.out.cell 0 rfl 2 (.int .i64 kk) rfl
        have p3 := HD.out.cell 0 rfl 3 (.int .i64 f) rfl
        have p4 := HD.out.cell 0 rfl 4 (.slice bx zs.length cx) rfl
        go_simp
        clear p0 p1 p2 p3 p4
        refine hK.out _ _ hS (fun hS => ?_)
        clear hK K
        refine wpAnyH_ready (rs := [7]) (by kernel_rfl) (by simp) ?_
        refine AllReadyH.cons rfl (fun K hK => ?_) AllReadyH.nil
        go_simp
        obtain ⟨W5, hX9, HS5⟩ : ∃ X, X = W4.alloc (.cells #[.int .i64 y.k, .int .i64 y.t, .int .i64 y.a, .int .i64 y.b, .int .i64 y.c, .int .i64 y.d, .int .i64 y.e] 28) ∧ Hid (St w4.heap.size w4 [⟨w6.heap.size, 25, #[.int .i64 m, .int .i64 n, .int .i64 kk, .int .i64 f, .slice bx zs.length cx]⟩] [⟨(selT 28), fun W => OwnS W w4.heap.size (.slice bx zs.length cx) zs⟩] X ∧ SRow X (some ⟨W4.heap.size, 0, none⟩) [y]) := ⟨_, rfl, Hid.mk' ⟨St.lay _ HD.out, srow_one W4 y⟩⟩
        rw [← hX9]
        clear hX9 HD
        refine hK.out _ _ HS5.out.1.bel (fun hS => ?_)
        clear hK K
        refine wpAnyH_ready (rs := [8]) (by kernel_rfl) (by simp) ?_
        refine AllReadyH.cons rfl (fun K hK => ?_) AllReadyH.nil
        rw [if_pos (by rfl)]
        have hO := HS5.out.1.of 0 rfl
        have hzl : zs.length ≤ 3 := by rw [HJ.out.2]; simp; omega
        refine wp_app_seals _ _ rfl w4.heap.size (.slice bx zs.length cx) zs rfl hO (some ⟨W4.heap.size, 0, none⟩) [y] 1 rfl HS5.out.2 (by simp; omega) HS5.out.1.bel.size ?_
        intro b8 c8 w8 o8 g8
        obtain ⟨ys, hys⟩ : ∃ ys, ys = zs ++ [y] := ⟨_, rfl⟩
        rw [← hys] at o8 ⊢
        have HY : Hid (ys = zs ++ [y]) := hys
        clear hys hzl
        have HS8 : Hid (St w4.heap.size w4 [⟨w6.heap.size, 25, #[.int .i64 m, .int .i64 n, .int .i64 kk, .int .i64 f, .slice bx zs.length cx]⟩] [⟨(selT 28), fun W => OwnS W w4.heap.size (.slice b8 ys.length c8) ys⟩] w8) := St.appR HS5.out.1 0 28 (fun b e => ⟨(OwnS.low hO b e).1, own_type hO e⟩) g8 rfl (fun _ => rfl) (selT 28) (fun W => OwnS W w4.heap.size (.slice b8 ys.length c8) ys) (keep_owns _ _ _) o8
        clear HS5 hO o8 g8
        refine hK.out _ _ HS8.out.bel (fun hS => ?_)
        clear hK K
        refine take1 9 58 (Value.pointer (some ⟨w6.heap.size, 4, none⟩)) rfl rfl (by kernel_rfl) (by kernel_rfl) (by kernel_rfl) (by rfl) (fun _ _ _ h => h) hS (fun w' hS' => ?_) ?_
        · (go_simp) <;> (intro hx9; omega)
        simp only [Act.put, List.setIfInBounds_toArray]
        refine wpAnyH_ready (rs := [10]) (by kernel_rfl) (by simp) ?_
        refine AllReadyH.cons rfl (fun K hK => ?_) AllReadyH.nil
        have p0 := HS8.out.cell 0 rfl 0 (.int .i64 m) rfl
        have pf0 := HS8.out.fro 0 rfl 0
        have p1 := HS8.out.cell 0 rfl 1 (.int .i64 n) rfl
        have pf1 := HS8.out.fro 0 rfl 1
        have p2 := HS8.out.cell 0 rfl 2 (.int .i64 kk) rfl
        have pf2 := HS8.out.fro 0 rfl 2
        have p3 := HS8.out.cell 0 rfl 3 (.int .i64 f) rfl
        have pf3 := HS8.out.fro 0 rfl 3
        have p4 := HS8.out.cell 0 rfl 4 (.slice bx zs.length cx) rfl
        have pf4 := HS8.out.fro 0 rfl 4
        go_simp
        clear p0 pf0 p1 pf1 p2 pf2 p3 pf3 p4 pf4
        obtain ⟨w9, hX9, HS4⟩ : ∃ X, X = (w8.setCell ⟨w6.heap.size, 4, none⟩ (.slice b8 ys.length c8)) ∧ Hid (St w4.heap.size w4 [⟨w6.heap.size, 25, #[.int .i64 m, .int .i64 n, .int .i64 kk, .int .i64 f, .slice b8 ys.length c8]⟩] [⟨(selT 28), fun W => OwnS W w4.heap.size (.slice b8 ys.length c8) ys⟩] X) := ⟨_, rfl, Hid.mk' (by
          have h := (St.set 0 (q := 4) (v := .slice b8 ys.length c8) HS8.out rfl rfl)
          try simp only [World.size_alloc] at h
          try simp only [World.size_setCell] at h
          exact h)⟩
        rw [← hX9]
        clear hX9
        clear HS8
        refine hK.out _ _ HS4.out.bel (fun hS => ?_)
        clear hK K
        refine wpAnyH_done (by kernel_rfl) ?_ _
        clear hS
        have hw1 : wrap64 ((j : Int) - 1) = (j : Int) - 1 := by unfold wrap64; omega
        go_wp2_with fail
        go_roundw
        case rel => exact ⟨j, ys, b8, c8, by omega, by simp, by rw [HY.out, HJ.out.2, drop_rev HJ.out.1], HS4.out⟩
        case measure => simp [intOf]
      · skip
        go_simp
        obtain ⟨W5, hX9, HS5⟩ : ∃ X, X = W4.alloc (.cells #[.int .i64 y.k, .int .i64 y.t, .int .i64 y.a, .int .i64 y.b, .int .i64 y.c, .int .i64 y.d, .int .i64 y.e] 28) ∧ Hid (St w4.heap.size w4 [⟨w6.heap.size, 25, #[.int .i64 m, .int .i64 n, .int .i64 kk, .int .i64 f, .slice bx zs.length cx]⟩] [⟨(selT 28), fun W => OwnS W w4.heap.size (.slice bx zs.length cx) zs⟩] X ∧ SRow X (some ⟨W4.heap.size, 0, none⟩) [y]) := ⟨_, rfl, Hid.mk' ⟨St.lay _ HD.out, srow_one W4 y⟩⟩
        rw [← hX9]
        clear hX9 HD
        refine hK.out _ _ HS5.out.1.bel (fun hS => ?_)
        clear hK K
        refine wpAnyH_ready (rs := [1]) (by kernel_rfl) (by simp) ?_
        refine AllReadyH.cons rfl (fun K hK => ?_) AllReadyH.nil
        have p0 := HS5.out.1.cell 0 rfl 0 (.int .i64 m) rfl
        have p1 := HS5.out.1.cell 0 rfl 1 (.int .i64 n) rfl
        have p2 := HS5.out.1.cell 0 rfl 2 (.int .i64 kk) rfl
        have p3 := HS5.out.1.cell 0 rfl 3 (.int .i64 f) rfl
        have p4 := HS5.out.1.cell 0 rfl 4 (.slice bx zs.length cx) rfl
        go_simp
        clear p0 p1 p2 p3 p4
        refine hK.out _ _ hS (fun hS => ?_)
        clear hK K
        refine wpAnyH_ready (rs := [8]) (by kernel_rfl) (by simp) ?_
        refine AllReadyH.cons rfl (fun K hK => ?_) AllReadyH.nil
        rw [if_pos (by rfl)]
        have hO := HS5.out.1.of 0 rfl
        have hzl : zs.length ≤ 3 := by rw [HJ.out.2]; simp; omega
        refine wp_app_seals _ _ rfl w4.heap.size (.slice bx zs.length cx) zs rfl hO (some ⟨W4.heap.size, 0, none⟩) [y] 1 rfl HS5.out.2 (by simp; omega) HS5.out.1.bel.size ?_
        intro b8 c8 w8 o8 g8
        obtain ⟨ys, hys⟩ : ∃ ys, ys = zs ++ [y] := ⟨_, rfl⟩
        rw [← hys] at o8 ⊢
        have HY : Hid (ys = zs ++ [y]) := hys
        clear hys hzl
        have HS8 : Hid (St w4.heap.size w4 [⟨w6.heap.size, 25, #[.int .i64 m, .int .i64 n, .int .i64 kk, .int .i64 f, .slice bx zs.length cx]⟩] [⟨(selT 28), fun W => OwnS W w4.heap.size (.slice b8 ys.length c8) ys⟩] w8) := St.appR HS5.out.1 0 28 (fun b e => ⟨(OwnS.low hO b e).1, own_type hO e⟩) g8 rfl (fun _ => rfl) (selT 28) (fun W => OwnS W w4.heap.size (.slice b8 ys.length c8) ys) (keep_owns _ _ _) o8
        clear HS5 hO o8 g8
        refine hK.out _ _ HS8.out.bel (fun hS => ?_)
        clear hK K
        refine take1 9 58 (Value.pointer (some ⟨w6.heap.size, 4, none⟩)) rfl rfl (by kernel_rfl) (by kernel_rfl) (by kernel_rfl) (by rfl) (fun _ _ _ h => h) hS (fun w' hS' => ?_) ?_
        · (go_simp) <;> (intro hx9; omega)
        simp only [Act.put, List.setIfInBounds_toArray]
        refine wpAnyH_ready (rs := [10]) (by kernel_rfl) (by simp) ?_
        refine AllReadyH.cons rfl (fun K hK => ?_) AllReadyH.nil
        have p0 := HS8.out.cell 0 rfl 0 (.int .i64 m) rfl
        have pf0 := HS8.out.fro 0 rfl 0
        have p1 := HS8.out.cell 0 rfl 1 (.int .i64 n) rfl
        have pf1 := HS8.out.fro 0 rfl 1
        have p2 := HS8.out.cell 0 rfl 2 (.int .i64 kk) rfl
        have pf2 := HS8.out.fro 0 rfl 2
        have p3 := HS8.out.cell 0 rfl 3 (.int .i64 f) rfl
        have pf3 := HS8.out.fro 0 rfl 3
        have p4 := HS8.out.cell 0 rfl 4 (.slice bx zs.length cx) rfl
        have pf4 := HS8.out.fro 0 rfl 4
        go_simp
        clear p0 pf0 p1 pf1 p2 pf2 p3 pf3 p4 pf4
        obtain ⟨w9, hX9, HS4⟩ : ∃ X, X = (w8.setCell ⟨w6.heap.size, 4, none⟩ (.slice b8 ys.length c8)) ∧ Hid (St w4.heap.size w4 [⟨w6.heap.size, 25, #[.int .i64 m, .int .i64 n, .int .i64 kk, .int .i64 f, .slice b8 ys.length c8]⟩] [⟨(selT 28), fun W => OwnS W w4.heap.size (.slice b8 ys.length c8) ys⟩] X) := ⟨_, rfl, Hid.mk' (by
          have h := (St.set 0 (q := 4) (v := .slice b8 ys.length c8) HS8.out rfl rfl)
          try simp only [World.size_alloc] at h
          try simp only [World.size_setCell] at h
          exact h)⟩
        rw [← hX9]
        clear hX9
        clear HS8
        refine hK.out _ _ HS4.out.bel (fun hS => ?_)
        clear hK K
        refine wpAnyH_done (by kernel_rfl) ?_ _
        clear hS
        have hw1 : wrap64 ((j : Int) - 1) = (j : Int) - 1 := by unfold wrap64; omega
        go_wp2_with fail
        go_roundw
        case rel => exact ⟨j, ys, b8, c8, by omega, by simp, by rw [HY.out, HJ.out.2, drop_rev HJ.out.1], HS4.out⟩
        case measure => simp [intOf]
    have e0 : (((0 : Nat) : Int) - 1) = -1 := rfl
    rw [e0]
    clear e0 hj
    have HX : Hid (zs = xs.reverse ∧ ABlk 25 wr (w6.heap.size) #[.int .i64 m, .int .i64 n, .int .i64 kk, .int .i64 f, .slice bx zs.length cx] ∧ OwnS wr w4.heap.size (.slice bx zs.length cx) zs ∧ Below w4.heap.size w4 wr) := ⟨by rw [C.out.1]; simp, C.out.2.at 0 rfl, C.out.2.of 0 rfl, C.out.2.bel⟩
    clear C
    have m0 := (HM.out.1.later (HX.out.2.2.2.trans ((St.new wr).bel.mono HX.out.2.2.2.size))).at 0 _ rfl
    have m1 := (HM.out.1.later (HX.out.2.2.2.trans ((St.new wr).bel.mono HX.out.2.2.2.size))).at 1 _ rfl
    have m2 := (HM.out.1.later (HX.out.2.2.2.trans ((St.new wr).bel.mono HX.out.2.2.2.size))).at 2 _ rfl
    have m3 := (HM.out.1.later (HX.out.2.2.2.trans ((St.new wr).bel.mono HX.out.2.2.2.size))).at 3 _ rfl
    have m4 := (HM.out.1.later (HX.out.2.2.2.trans ((St.new wr).bel.mono HX.out.2.2.2.size))).at 4 _ rfl
    have ml : w1.heap.size < wr.heap.size := (HM.out.1.later (HX.out.2.2.2.trans ((St.new wr).bel.mono HX.out.2.2.2.size))).lt
    go_wp2_with fail
    clear m0 m1 m2 m3 m4 ml
    obtain ⟨w8, hX9, HS4⟩ : ∃ X, X = (wr.alloc (.cells #[.int .i64 m, .int .i64 n, .int .i64 kk, .int .i64 f, .slice a xs.length cap] 25)) ∧ Hid (St wr.heap.size wr [⟨wr.heap.size, 25, #[.int .i64 m, .int .i64 n, .int .i64 kk, .int .i64 f, .slice a xs.length cap]⟩] [] X) := ⟨_, rfl, Hid.mk' (by
      have h := (St.alloc #[.int .i64 m, .int .i64 n, .int .i64 kk, .int .i64 f, .slice a xs.length cap] 25 (St.new wr))
      try simp only [World.size_alloc] at h
      try simp only [World.size_setCell] at h
      exact h)⟩
    rw [← hX9]
    clear hX9
    have hD9 := HS4.out.drew
    refine wp_region_held_drew (S := fun w' => Below w4.heap.size w4 w') (by kernel_rfl) (HX.out.2.2.2.trans (hD9.bel.mono HX.out.2.2.2.size)) (fun hS => ?_)
    have HD : Hid (St wr.heap.size wr [⟨wr.heap.size, 25, #[.int .i64 m, .int .i64 n, .int .i64 kk, .int .i64 f, .slice a xs.length cap]⟩] [] w8.drew) := hD9
    clear hD9 HS4
    generalize w8.drew = W8 at HD hS ⊢
    refine take1 1 61 (Value.pointer (some ⟨w1.heap.size, 4, none⟩)) rfl rfl (by kernel_rfl) (by kernel_rfl) (by kernel_rfl) (by rfl) (fun _ _ _ h => h) hS (fun w' hS' => ?_) ?_
    · (go_simp) <;> (intro hx9; omega)
    simp only [Act.put, List.setIfInBounds_toArray, List.set_cons_zero, List.set_cons_succ]
    refine take1 2 62 (.slice a xs.length cap) rfl rfl (by kernel_rfl) (by kernel_rfl) (by kernel_rfl) (by rfl) (fun _ _ _ h => h) hS (fun w' hS' => ?_) ?_
    · have m4 := (HM.out.1.later hS').at 4 _ rfl
      (go_simp) <;> (intro hx9; omega)
    simp only [Act.put, List.setIfInBounds_toArray, List.set_cons_zero, List.set_cons_succ]
    refine take1 4 64 (.agg #[.int .i64 s.k, .int .i64 s.t, .int .i64 s.a, .int .i64 s.b, .int .i64 s.c, .int .i64 s.d, .int .i64 s.e]) rfl rfl (by kernel_rfl) (by kernel_rfl) (by kernel_rfl) (by rfl) (fun _ _ _ h => h) hS (fun w' hS' => ?_) ?_
    · have q0 := (HM.out.2.1.later hS').at 0 _ rfl
      have q1 := (HM.out.2.1.later hS').at 1 _ rfl
      have q2 := (HM.out.2.1.later hS').at 2 _ rfl
      have q3 := (HM.out.2.1.later hS').at 3 _ rfl
      have q4 := (HM.out.2.1.later hS').at 4 _ rfl
      have q5 := (HM.out.2.1.later hS').at 5 _ rfl
      have q6 := (HM.out.2.1.later hS').at 6 _ rfl
      (go_simp) <;> (intro hx9; omega)
    simp only [Act.put, List.setIfInBounds_toArray, List.set_cons_zero, List.set_cons_succ]
    refine wpAnyH_ready (rs := [0, 5]) (by kernel_rfl) (by simp) ?_
    refine AllReadyH.cons rfl (fun K hK => ?_) (AllReadyH.cons rfl (fun K hK => ?_) (AllReadyH.nil))
    · skip
      go_simp
      obtain ⟨Wn1, hX9, HSWn1⟩ : ∃ X, X = W8.alloc (.cells #[] 28) ∧ Hid (St wr.heap.size wr [⟨wr.heap.size, 25, #[.int .i64 m, .int .i64 n, .int .i64 kk, .int .i64 f, .slice a xs.length cap]⟩] [⟨(selT 28), fun W => OwnS W wr.heap.size (.slice (some ⟨W8.heap.size, 0, none⟩) 0 0) []⟩] X) := ⟨_, rfl, Hid.mk' (St.add (selT 28) (fun V => OwnS V wr.heap.size (.slice (some ⟨W8.heap.size, 0, none⟩) 0 0) []) (keep_owns _ _ _) (OwnS.zero W8 HD.out.sz) (St.lay _ HD.out))⟩
      rw [← hX9]
      clear hX9 HD
      refine hK.out _ _ (HX.out.2.2.2.trans (HSWn1.out.bel.mono HX.out.2.2.2.size)) (fun hS => ?_)
      clear hK K
      refine wpAnyH_ready (rs := [3, 5]) (by kernel_rfl) (by simp) ?_
      refine AllReadyH.cons rfl (fun K hK => ?_) (AllReadyH.cons rfl (fun K hK => ?_) (AllReadyH.nil))
      · skip
        rw [if_pos (by rfl)]
        have hO := HSWn1.out.of 0 rfl
        refine wp_app_seals _ _ rfl wr.heap.size (.slice (some ⟨W8.heap.size, 0, none⟩) 0 0) [] rfl hO a xs cap rfl (HM.out.2.2.1.later (HX.out.2.2.2.trans (HSWn1.out.bel.mono HX.out.2.2.2.size))) (by simp; omega) HSWn1.out.sz ?_
        intro b3 c3 Wn2 o3 g3
        simp only [List.nil_append] at o3 ⊢
        have HSWn2 : Hid (St wr.heap.size wr [⟨wr.heap.size, 25, #[.int .i64 m, .int .i64 n, .int .i64 kk, .int .i64 f, .slice a xs.length cap]⟩] [⟨(selT 28), fun W => OwnS W wr.heap.size (.slice b3 xs.length c3) xs⟩] Wn2) := St.appR HSWn1.out 0 28 (fun b e => ⟨(OwnS.low hO b e).1, own_type hO e⟩) g3 rfl (fun _ => rfl) (selT 28) (fun V => OwnS V wr.heap.size (.slice b3 xs.length c3) xs) (keep_owns _ _ _) o3
        clear hO o3 g3 HSWn1
        refine hK.out _ _ (HX.out.2.2.2.trans (HSWn2.out.bel.mono HX.out.2.2.2.size)) (fun hS => ?_)
        clear hK K
        refine wpAnyH_ready (rs := [5]) (by kernel_rfl) (by simp) ?_
        refine AllReadyH.cons rfl (fun K hK => ?_) (AllReadyH.nil)
        go_simp
        obtain ⟨Wn3, hX9, HSWn3, HN⟩ : ∃ X, X = Wn2.alloc (.cells #[.int .i64 s.k, .int .i64 s.t, .int .i64 s.a, .int .i64 s.b, .int .i64 s.c, .int .i64 s.d, .int .i64 s.e] 28) ∧ Hid (St wr.heap.size wr [⟨wr.heap.size, 25, #[.int .i64 m, .int .i64 n, .int .i64 kk, .int .i64 f, .slice a xs.length cap]⟩] [⟨(selT 28), fun W => OwnS W wr.heap.size (.slice b3 xs.length c3) xs⟩] X) ∧ Hid (SRow X (some ⟨Wn2.heap.size, 0, none⟩) [s]) := ⟨_, rfl, Hid.mk' (St.lay _ HSWn2.out), Hid.mk' (srow_one _ s)⟩
        rw [← hX9]
        clear hX9 HSWn2
        refine hK.out _ _ (HX.out.2.2.2.trans (HSWn3.out.bel.mono HX.out.2.2.2.size)) (fun hS => ?_)
        clear hK K
        refine wpAnyH_ready (rs := [6]) (by kernel_rfl) (by simp) ?_
        refine AllReadyH.cons rfl (fun K hK => ?_) (AllReadyH.nil)
        rw [if_pos (by rfl)]
        have hO := HSWn3.out.of 0 rfl
        refine wp_app_seals _ _ rfl wr.heap.size (.slice b3 xs.length c3) xs rfl hO (some ⟨Wn2.heap.size, 0, none⟩) [s] 1 rfl HN.out (by simp; omega) HSWn3.out.sz ?_
        intro b6 c6 Wn4 o6 g6
        obtain ⟨ys, hys⟩ : ∃ ys, ys = xs ++ [s] := ⟨_, rfl⟩
        rw [← hys] at o6 ⊢
        have HY : Hid (ys = xs ++ [s]) := hys
        clear hys HN
        have HSWn4 : Hid (St wr.heap.size wr [⟨wr.heap.size, 25, #[.int .i64 m, .int .i64 n, .int .i64 kk, .int .i64 f, .slice a xs.length cap]⟩] [⟨(selT 28), fun W => OwnS W wr.heap.size (.slice b6 ys.length c6) ys⟩] Wn4) := St.appR HSWn3.out 0 28 (fun b e => ⟨(OwnS.low hO b e).1, own_type hO e⟩) g6 rfl (fun _ => rfl) (selT 28) (fun V => OwnS V wr.heap.size (.slice b6 ys.length c6) ys) (keep_owns _ _ _) o6
        clear hO o6 g6 HSWn3
        refine hK.out _ _ (HX.out.2.2.2.trans (HSWn4.out.bel.mono HX.out.2.2.2.size)) (fun hS => ?_)
        clear hK K
        refine take1 7 67 (Value.pointer (some ⟨wr.heap.size, 4, none⟩)) rfl rfl (by kernel_rfl) (by kernel_rfl) (by kernel_rfl) (by rfl) (fun _ _ _ h => h) hS (fun w' hS' => ?_) ?_
        · (go_simp) <;> (intro hx9; omega)
        simp only [Act.put, List.setIfInBounds_toArray]
        refine wpAnyH_ready (rs := [8]) (by kernel_rfl) (by simp) ?_
        refine AllReadyH.cons rfl (fun K hK => ?_) (AllReadyH.nil)
        have p0 := HSWn4.out.cell 0 rfl 0 (.int .i64 m) rfl
        have pf0 := HSWn4.out.fro 0 rfl 0
        have p1 := HSWn4.out.cell 0 rfl 1 (.int .i64 n) rfl
        have pf1 := HSWn4.out.fro 0 rfl 1
        have p2 := HSWn4.out.cell 0 rfl 2 (.int .i64 kk) rfl
        have pf2 := HSWn4.out.fro 0 rfl 2
        have p3 := HSWn4.out.cell 0 rfl 3 (.int .i64 f) rfl
        have pf3 := HSWn4.out.fro 0 rfl 3
        have p4 := HSWn4.out.cell 0 rfl 4 (.slice a xs.length cap) rfl
        have pf4 := HSWn4.out.fro 0 rfl 4
        go_simp
        clear p0 pf0 p1 pf1 p2 pf2 p3 pf3 p4 pf4
        obtain ⟨Wn5, hX9, HS5⟩ : ∃ X, X = (Wn4.setCell ⟨wr.heap.size, 4, none⟩ (.slice b6 ys.length c6)) ∧ Hid (St wr.heap.size wr [⟨wr.heap.size, 25, #[.int .i64 m, .int .i64 n, .int .i64 kk, .int .i64 f, .slice b6 ys.length c6]⟩] [⟨(selT 28), fun W => OwnS W wr.heap.size (.slice b6 ys.length c6) ys⟩] X) := ⟨_, rfl, Hid.mk' (by
          have h := (St.set 0 (q := 4) (v := .slice b6 ys.length c6) HSWn4.out rfl rfl)
          try simp only [World.size_alloc] at h
          try simp only [World.size_setCell] at h
          exact h)⟩
        rw [← hX9]
        clear hX9
        clear HSWn4
        refine hK.out _ _ (HX.out.2.2.2.trans (HS5.out.bel.mono HX.out.2.2.2.size)) (fun hS => ?_)
        clear hK K
        refine wpAnyH_done (by kernel_rfl) ?_ _
        clear hS
        have hzl : zs.length ≤ 3 := by rw [HX.out.1]; simp; omega
        have hyl : ys.length ≤ 4 := by rw [HY.out]; simp; omega
        have x0 := (HX.out.2.1.later HS5.out.bel).at 0 _ rfl
        have x1 := (HX.out.2.1.later HS5.out.bel).at 1 _ rfl
        have x2 := (HX.out.2.1.later HS5.out.bel).at 2 _ rfl
        have x3 := (HX.out.2.1.later HS5.out.bel).at 3 _ rfl
        have x4 := (HX.out.2.1.later HS5.out.bel).at 4 _ rfl
        have xl : w6.heap.size < Wn5.heap.size := (HX.out.2.1.later HS5.out.bel).lt
        go_wp2_with fail
        clear x0 x1 x2 x3 x4 xl
        refine (implMsg_any m n kk f bx cx zs _ (OwnS.rowAt (HX.out.2.2.1.later HS5.out.bel)) (by omega) (HM.out.2.2.2.1.later (HX.out.2.2.2.trans (HS5.out.bel.mono HX.out.2.2.2.size)))).mono ?_
        rintro r V1 ⟨rfl, b9⟩
        rw [show msgB m n kk f zs = true by rw [HX.out.1]; exact HQ.out.2.1]
        have HS6 : Hid (St wr.heap.size wr [⟨wr.heap.size, 25, #[.int .i64 m, .int .i64 n, .int .i64 kk, .int .i64 f, .slice b6 ys.length c6]⟩] [⟨(selT 28), fun W => OwnS W wr.heap.size (.slice b6 ys.length c6) ys⟩] V1) := Hid.mk' (by
          have h := St.grow b9 HS5.out
          try simp only [World.size_alloc] at h
          try simp only [World.size_setCell] at h
          exact h)
        clear HS5
        clear b9
        have p0 := HS6.out.cell 0 rfl 0 (.int .i64 m) rfl
        have p1 := HS6.out.cell 0 rfl 1 (.int .i64 n) rfl
        have p2 := HS6.out.cell 0 rfl 2 (.int .i64 kk) rfl
        have p3 := HS6.out.cell 0 rfl 3 (.int .i64 f) rfl
        have p4 := HS6.out.cell 0 rfl 4 (.slice b6 ys.length c6) rfl
        go_wp2_with fail
        clear p0 p1 p2 p3 p4
        refine (implMsg_any m n kk f b6 c6 ys _ (OwnS.rowAt (HS6.out.of 0 rfl)) (by omega) (HM.out.2.2.2.1.later (HX.out.2.2.2.trans (HS6.out.bel.mono HX.out.2.2.2.size)))).mono ?_
        rintro r V2 ⟨rfl, b9⟩
        rw [show msgB m n kk f ys = false by rw [HY.out]; exact HQ.out.2.2.1]
        have HS7 : Hid (St wr.heap.size wr [⟨wr.heap.size, 25, #[.int .i64 m, .int .i64 n, .int .i64 kk, .int .i64 f, .slice b6 ys.length c6]⟩] [⟨(selT 28), fun W => OwnS W wr.heap.size (.slice b6 ys.length c6) ys⟩] V2) := Hid.mk' (by
          have h := St.grow b9 HS6.out
          try simp only [World.size_alloc] at h
          try simp only [World.size_setCell] at h
          exact h)
        clear HS6
        clear b9
        clear HY hyl
        have m0 := (HM.out.1.later (HX.out.2.2.2.trans (HS7.out.bel.mono HX.out.2.2.2.size))).at 0 _ rfl
        have m1 := (HM.out.1.later (HX.out.2.2.2.trans (HS7.out.bel.mono HX.out.2.2.2.size))).at 1 _ rfl
        have m2 := (HM.out.1.later (HX.out.2.2.2.trans (HS7.out.bel.mono HX.out.2.2.2.size))).at 2 _ rfl
        have m3 := (HM.out.1.later (HX.out.2.2.2.trans (HS7.out.bel.mono HX.out.2.2.2.size))).at 3 _ rfl
        have m4 := (HM.out.1.later (HX.out.2.2.2.trans (HS7.out.bel.mono HX.out.2.2.2.size))).at 4 _ rfl
        have ml : w1.heap.size < V2.heap.size := (HM.out.1.later (HX.out.2.2.2.trans (HS7.out.bel.mono HX.out.2.2.2.size))).lt
        by_cases hxe : xs.length = 0
        · have hxe2 : ((xs.length : Int) == 0) = true := by simp [hxe]
          have hxe3 : ((xs.length : Int)) = 0 := by omega
          clear hxe
          go_wp2_with fail
          clear m0 m1 m2 m3 m4 ml
          go_ret
          exact ⟨rfl, HM.out.2.2.2.2.trans ((HX.out.2.2.2.trans (HS7.out.bel.mono HX.out.2.2.2.size)).mono HM.out.2.2.2.2.size)⟩
        have hxe2 : ((xs.length : Int) == 0) = false := by rw [beq_eq_false_iff_ne]; omega
        have hxe3 : ¬ ((xs.length : Int)) = 0 := by omega
        have hxn : xs ≠ [] := fun e => hxe (by rw [e]; rfl)
        obtain ⟨y, hy⟩ : ∃ y, xs[0]? = some y := ⟨xs[0], List.getElem?_eq_getElem (by omega)⟩
        obtain ⟨g, off, ha, hgl, _⟩ := srow_elem HM.out.2.2.1 hy
        subst ha
        clear hy
        have hx1 : (1 : Int) ≤ (xs.length : Int) := by omega
        have hx4 : 1 ≤ xs.length := by omega
        have hcp : xs.length ≤ cap := xc
        have hcp2 : (xs.length : Int) ≤ (cap : Int) := by omega
        have hzn : zs ≠ [] := by rw [HX.out.1]; simpa using hxn
        have hzp : 0 < zs.length := List.length_pos_iff.2 hzn
        obtain ⟨gx, rfl, hgB, hgs, cur, hcur⟩ : ∃ gx, bx = some ⟨gx, 0, none⟩ ∧ w4.heap.size ≤ gx ∧ gx < wr.heap.size ∧ ∃ cur, wr.heap[gx]? = some (.cells cur 28 (0, 0)) := by
          obtain ⟨a9, c9, e9, _, _, h9⟩ := own_row HX.out.2.2.1
          obtain ⟨g9, rfl, hg9⟩ := h9 hzn
          injection e9 with e9 _ _
          subst e9
          obtain ⟨cur, hcur⟩ := own_type HX.out.2.2.1 (g := g9) rfl
          exact ⟨g9, rfl, hg9, (OwnS.low HX.out.2.2.1 g9 rfl).2, cur, hcur⟩
        obtain ⟨z0, hz0⟩ : ∃ z0, zs[0]? = some z0 := ⟨zs[0], List.getElem?_eq_getElem hzp⟩
        obtain ⟨r0, r1, r2, r3, r4, r5, r6⟩ := srow_at (OwnS.rowAt (HX.out.2.2.1.later HS7.out.bel)) hz0
        simp only [Nat.zero_mul, Nat.add_zero, Nat.zero_add] at r0 r1 r2 r3 r4 r5 r6
        have hcv := (HS7.out.bel.block gx hgs).trans hcur
        have fx0 : V2.frozen? ⟨gx, 0, none⟩ = false := by simp [World.frozen?, hcv]
        have fx1 : V2.frozen? ⟨gx, 1, none⟩ = false := by simp [World.frozen?, hcv]
        have fx2 : V2.frozen? ⟨gx, 2, none⟩ = false := by simp [World.frozen?, hcv]
        have fx3 : V2.frozen? ⟨gx, 3, none⟩ = false := by simp [World.frozen?, hcv]
        have fx4 : V2.frozen? ⟨gx, 4, none⟩ = false := by simp [World.frozen?, hcv]
        have fx5 : V2.frozen? ⟨gx, 5, none⟩ = false := by simp [World.frozen?, hcv]
        have fx6 : V2.frozen? ⟨gx, 6, none⟩ = false := by simp [World.frozen?, hcv]
        have hgv : gx < V2.heap.size := Nat.lt_of_lt_of_le hgs HS7.out.bel.size
        have hgn : ¬ V2.heap.size = gx := by omega
        have hgm : ¬ gx = V2.heap.size := by omega
        have hzp2 : (0 : Int) < (zs.length : Int) := by omega
        have x0 := (HX.out.2.1.later HS7.out.bel).at 0 _ rfl
        have x1 := (HX.out.2.1.later HS7.out.bel).at 1 _ rfl
        have x2 := (HX.out.2.1.later HS7.out.bel).at 2 _ rfl
        have x3 := (HX.out.2.1.later HS7.out.bel).at 3 _ rfl
        have x4 := (HX.out.2.1.later HS7.out.bel).at 4 _ rfl
        have xl : w6.heap.size < V2.heap.size := (HX.out.2.1.later HS7.out.bel).lt
        have sc0 := (HM.out.2.1.later (HX.out.2.2.2.trans (HS7.out.bel.mono HX.out.2.2.2.size))).at 0 _ rfl
        have sc1 := (HM.out.2.1.later (HX.out.2.2.2.trans (HS7.out.bel.mono HX.out.2.2.2.size))).at 1 _ rfl
        have sc2 := (HM.out.2.1.later (HX.out.2.2.2.trans (HS7.out.bel.mono HX.out.2.2.2.size))).at 2 _ rfl
        have sc3 := (HM.out.2.1.later (HX.out.2.2.2.trans (HS7.out.bel.mono HX.out.2.2.2.size))).at 3 _ rfl
        have sc4 := (HM.out.2.1.later (HX.out.2.2.2.trans (HS7.out.bel.mono HX.out.2.2.2.size))).at 4 _ rfl
        have sc5 := (HM.out.2.1.later (HX.out.2.2.2.trans (HS7.out.bel.mono HX.out.2.2.2.size))).at 5 _ rfl
        have sc6 := (HM.out.2.1.later (HX.out.2.2.2.trans (HS7.out.bel.mono HX.out.2.2.2.size))).at 6 _ rfl
        have scl : w3.heap.size < V2.heap.size := (HM.out.2.1.later (HX.out.2.2.2.trans (HS7.out.bel.mono HX.out.2.2.2.size))).lt
        by_cases hc1 : cap = 1
        · have hx7 : xs.length = 1 := by omega
          have HXD : Hid (xs.drop 1 = []) := Hid.mk' (List.eq_nil_of_length_eq_zero (by simp; omega))
          have HXR : Hid (0 = (xs.drop 1).length) := Hid.mk' (by rw [HXD.out]; rfl)
          clear hx7
          subst hc1
          go_wp2_with fail
          clear m0 m1 m2 m3 m4 ml x0 x1 x2 x3 x4 xl sc0 sc1 sc2 sc3 sc4 sc5 sc6 scl
          obtain ⟨V3, hX9, HZ⟩ : ∃ X, X = (((((((V2.setCell ⟨gx, 0, none⟩ (.int .i64 s.k)).setCell ⟨gx, 1, none⟩ (.int .i64 s.t)).setCell ⟨gx, 2, none⟩ (.int .i64 s.a)).setCell ⟨gx, 3, none⟩ (.int .i64 s.b)).setCell ⟨gx, 4, none⟩ (.int .i64 s.c)).setCell ⟨gx, 5, none⟩ (.int .i64 s.d)).setCell ⟨gx, 6, none⟩ (.int .i64 s.e)).alloc (.cells #[.int .i64 m, .int .i64 n, .int .i64 kk, .int .i64 f, .slice (some ⟨g, off, none⟩) 0 0] 25) ∧ Hid (ABlk 25 X w6.heap.size #[.int .i64 m, .int .i64 n, .int .i64 kk, .int .i64 f, .slice (some ⟨gx, 0, none⟩) zs.length cx] ∧ ABlk 25 X V2.heap.size #[.int .i64 m, .int .i64 n, .int .i64 kk, .int .i64 f, .slice (some ⟨g, off, none⟩) 0 0] ∧ SRow X (some ⟨gx, 0, none⟩) (zs.set 0 s) ∧ Below w4.heap.size w4 X ∧ SRow X (some ⟨g, off, none⟩) (xs.drop 1)) := ⟨_, rfl, Hid.mk' (by
            have hb := put7_below (s := s) (o := 0) (HX.out.2.2.2.trans (HS7.out.bel.mono HX.out.2.2.2.size)) hgB
            have hbx := (HX.out.2.1.later HS7.out.bel)
            have k1 : ABlk 25 (put7 V2 gx 0 s) w6.heap.size #[.int .i64 m, .int .i64 n, .int .i64 kk, .int .i64 f, .slice (some ⟨gx, 0, none⟩) zs.length cx] := (put7_heap (type_ne hcv hbx (by decide))).trans hbx
            have k2 := srow_put s (OwnS.rowAt (HX.out.2.2.1.later HS7.out.bel)) hzn
            have k3 : (put7 V2 gx 0 s).heap.size = V2.heap.size := put7_size
            have hzq : SRow ((put7 V2 gx 0 s).alloc (.cells #[.int .i64 m, .int .i64 n, .int .i64 kk, .int .i64 f, .slice (some ⟨g, off, none⟩) 0 0] 25)) (some ⟨g, off, none⟩) (xs.drop 1) := Or.inl (HXD.out)
            have k4 := ABlk.new (put7 V2 gx 0 s) 25 #[.int .i64 m, .int .i64 n, .int .i64 kk, .int .i64 f, .slice (some ⟨g, off, none⟩) 0 0]
            rw [k3] at k4
            exact ⟨k1.later (Below.alloc_ _ _), k4, k2.later (Below.alloc_ _ _), hb.alloc hb.size _, hzq⟩)⟩
          rw [← hX9]
          clear hX9 HS7
          clear r0 r1 r2 r3 r4 r5 r6 hz0 hcv hcur hgB hgs hgv hgn hgm hzp2 fx0 fx1 fx2 fx3 fx4 fx5 fx6
          obtain ⟨ok9, hok⟩ : ∃ ok9, ok9 = s.ok := ⟨_, rfl⟩
          have HO : Hid (ok9 = s.ok) := hok
          clear hok
          have HW : Hid (msgB m n kk f (xs.drop 1) = false ∧ msgB m n kk f (zs.set 0 s) = ok9 ∧ zs.length ≤ 3 ∧ xs.length ≤ 3) := ⟨(HQ.out.2.2.2 hxn).1, by rw [HX.out.1, HO.out]; exact (HQ.out.2.2.2 hxn).2, by omega, by omega⟩
          clear hxe2 hxe3 hx1 hx4 hcp hcp2 hxn hzn hzp hxe
          obtain ⟨sS, hsS⟩ : ∃ sS, sS = s := ⟨_, rfl⟩
          rw [← hsS] at HM HZ HO HW
          clear HQ hsS
          refine wp_region_walk [4, 88, 89, 90, 91, 92, 93, 94, 95, 96, 97] (fun d s W => St V3.heap.size V3 [] [] W ∧ Looks [(0, 88, Value.agg #[.int .i64 m, .int .i64 n, .int .i64 kk, .int .i64 f, .slice (some ⟨g, off, none⟩) 0 0]), (1, 89, .bool false), (2, 90, .bool true), (3, 91, .bool true), (4, 92, Value.agg #[.int .i64 m, .int .i64 n, .int .i64 kk, .int .i64 f, .slice (some ⟨gx, 0, none⟩) zs.length cx]), (5, 93, .bool ok9), (6, 94, Value.agg #[.int .i64 sS.k, .int .i64 sS.t, .int .i64 sS.a, .int .i64 sS.b, .int .i64 sS.c, .int .i64 sS.d, .int .i64 sS.e]), (7, 95, .bool ok9), (8, 96, .bool true), (9, 97, .bool true), (10, 4, .bool true)] d s) [0, 1, 2, 3, 4, 5, 6, 7, 8, 9, 10] (by kernel_rfl) (by kernel_rfl) (by kernel_rfl) ?_ ?_ ?_
          · intro s
            exact ⟨(St.new V3).drew, Looks.none _ _⟩
          · refine StepsR.cons (k := 0) [] (by kernel_rfl) ?_ (StepsR.cons (k := 1) [0] (by kernel_rfl) ?_ (StepsR.cons (k := 2) [1] (by kernel_rfl) ?_ (StepsR.cons (k := 3) [2] (by kernel_rfl) ?_ (StepsR.cons (k := 4) [3] (by kernel_rfl) ?_ (StepsR.cons (k := 5) [3, 4] (by kernel_rfl) ?_ (StepsR.cons (k := 6) [3] (by kernel_rfl) ?_ (StepsR.cons (k := 7) [3, 6] (by kernel_rfl) ?_ (StepsR.cons (k := 8) [3, 5, 7] (by kernel_rfl) ?_ (StepsR.cons (k := 9) [3, 8] (by kernel_rfl) ?_ (StepsR.cons (k := 10) [9] (by kernel_rfl) ?_ (StepsR.nil)))))))))))
            · intro d s w9 hd hA hC hF K hK
              have hB9 := hF.1.bel
              simp only [putL, putT, List.setIfInBounds_toArray, List.set_cons_zero, List.set_cons_succ]
              clear hB9
              as_aux_lemma =>
                have q0 := (HZ.out.2.1.later hF.1.bel).at 0 _ rfl
                have q1 := (HZ.out.2.1.later hF.1.bel).at 1 _ rfl
                have q2 := (HZ.out.2.1.later hF.1.bel).at 2 _ rfl
                have q3 := (HZ.out.2.1.later hF.1.bel).at 3 _ rfl
                have q4 := (HZ.out.2.1.later hF.1.bel).at 4 _ rfl
                go_simp
                clear q0 q1 q2 q3 q4
                refine hK.out (updS s 88 (Value.agg #[.int .i64 m, .int .i64 n, .int .i64 kk, .int .i64 f, .slice (some ⟨g, off, none⟩) 0 0])) _ _ ?_ ⟨hF.1, hF.2.put 0 88 (Value.agg #[.int .i64 m, .int .i64 n, .int .i64 kk, .int .i64 f, .slice (some ⟨g, off, none⟩) 0 0]) rfl (by simp)⟩
                simp only [putL, putT, List.setIfInBounds_toArray, List.set_cons_zero, List.set_cons_succ]; rfl
            · intro d s w9 hd hA hC hF K hK
              have hB9 := hF.1.bel
              simp only [putL, putT, List.setIfInBounds_toArray, List.set_cons_zero, List.set_cons_succ]
              clear hB9
              as_aux_lemma =>
                have eq0 : s 88 = Value.agg #[.int .i64 m, .int .i64 n, .int .i64 kk, .int .i64 f, .slice (some ⟨g, off, none⟩) 0 0] := hF.2 (0, 88, Value.agg #[.int .i64 m, .int .i64 n, .int .i64 kk, .int .i64 f, .slice (some ⟨g, off, none⟩) 0 0]) (by simp) (hA.1)
                rw [eq0]
                go_simp
                have hc := implMsg_any m n kk f (some ⟨g, off, none⟩) 0 (xs.drop 1) w9 (HZ.out.2.2.2.2.later hF.1.bel) (by have := HW.out.2.2.2; simp; omega) (HM.out.2.2.2.1.later (HZ.out.2.2.2.1.trans (hF.1.bel.mono HZ.out.2.2.2.1.size)))
                rw [← HXR.out] at hc
                refine hc.mono ?_
                rintro r w8 ⟨rfl, b9⟩
                rw [HW.out.1]
                go_simp
                refine hK.out (updS s 89 (.bool false)) _ _ ?_ ⟨St.grow b9 hF.1, hF.2.put 1 89 (.bool false) rfl (by simp)⟩
                simp only [putL, putT, List.setIfInBounds_toArray, List.set_cons_zero, List.set_cons_succ]
                rw [show updS s 89 (.bool false) 88 = Value.agg #[.int .i64 m, .int .i64 n, .int .i64 kk, .int .i64 f, .slice (some ⟨g, off, none⟩) 0 0] from eq0] <;> rfl
            · intro d s w9 hd hA hC hF K hK
              have hB9 := hF.1.bel
              simp only [putL, putT, List.setIfInBounds_toArray, List.set_cons_zero, List.set_cons_succ]
              clear hB9
              as_aux_lemma =>
                have eq1 : s 89 = .bool false := hF.2 (1, 89, .bool false) (by simp) (hA.1)
                rw [eq1]
                go_simp
                refine hK.out (updS s 90 (.bool true)) _ _ ?_ ⟨hF.1, hF.2.put 2 90 (.bool true) rfl (by simp)⟩
                simp only [putL, putT, List.setIfInBounds_toArray, List.set_cons_zero, List.set_cons_succ]; rw [show updS s 90 (.bool true) 89 = .bool false from eq1]; rfl
            · intro d s w9 hd hA hC hF K hK
              have hB9 := hF.1.bel
              simp only [putL, putT, List.setIfInBounds_toArray, List.set_cons_zero, List.set_cons_succ]
              clear hB9
              as_aux_lemma =>
                have eq2 : s 90 = .bool true := hF.2 (2, 90, .bool true) (by simp) (hA.1)
                rw [eq2]
                go_simp
                refine hK.out (updS s 91 (.bool true)) _ _ ?_ ⟨hF.1, hF.2.put 3 91 (.bool true) rfl (by simp)⟩
                simp only [putL, putT, List.setIfInBounds_toArray, List.set_cons_zero, List.set_cons_succ]; rw [show updS s 91 (.bool true) 90 = .bool true from eq2]; rfl
            · intro d s w9 hd hA hC hF K hK
              have hB9 := hF.1.bel
              simp only [putL, putT, List.setIfInBounds_toArray, List.set_cons_zero, List.set_cons_succ]
              clear hB9
              as_aux_lemma =>
                have eq3 : s 91 = .bool true := hF.2 (3, 91, .bool true) (by simp) (hA.1)
                rw [eq3]
                have q0 := (HZ.out.1.later hF.1.bel).at 0 _ rfl
                have q1 := (HZ.out.1.later hF.1.bel).at 1 _ rfl
                have q2 := (HZ.out.1.later hF.1.bel).at 2 _ rfl
                have q3 := (HZ.out.1.later hF.1.bel).at 3 _ rfl
                have q4 := (HZ.out.1.later hF.1.bel).at 4 _ rfl
                go_simp
                clear q0 q1 q2 q3 q4
                refine hK.out (updS s 92 (Value.agg #[.int .i64 m, .int .i64 n, .int .i64 kk, .int .i64 f, .slice (some ⟨gx, 0, none⟩) zs.length cx])) _ _ ?_ ⟨hF.1, hF.2.put 4 92 (Value.agg #[.int .i64 m, .int .i64 n, .int .i64 kk, .int .i64 f, .slice (some ⟨gx, 0, none⟩) zs.length cx]) rfl (by simp)⟩
                simp only [putL, putT, List.setIfInBounds_toArray, List.set_cons_zero, List.set_cons_succ]; rw [show updS s 92 (Value.agg #[.int .i64 m, .int .i64 n, .int .i64 kk, .int .i64 f, .slice (some ⟨gx, 0, none⟩) zs.length cx]) 91 = .bool true from eq3]; rfl
            · intro d s w9 hd hA hC hF K hK
              have hB9 := hF.1.bel
              simp only [putL, putT, List.setIfInBounds_toArray, List.set_cons_zero, List.set_cons_succ]
              clear hB9
              as_aux_lemma =>
                have eq3 : s 91 = .bool true := hF.2 (3, 91, .bool true) (by simp) (hA.1)
                have eq4 : s 92 = Value.agg #[.int .i64 m, .int .i64 n, .int .i64 kk, .int .i64 f, .slice (some ⟨gx, 0, none⟩) zs.length cx] := hF.2 (4, 92, Value.agg #[.int .i64 m, .int .i64 n, .int .i64 kk, .int .i64 f, .slice (some ⟨gx, 0, none⟩) zs.length cx]) (by simp) (hA.2.1)
                rw [eq3, eq4]
                go_simp
                have hc := implMsg_any m n kk f (some ⟨gx, 0, none⟩) cx (zs.set 0 sS) w9 (HZ.out.2.2.1.later hF.1.bel) (by have := HW.out.2.2.1; simp; omega) (HM.out.2.2.2.1.later (HZ.out.2.2.2.1.trans (hF.1.bel.mono HZ.out.2.2.2.1.size)))
                rw [List.length_set] at hc
                refine hc.mono ?_
                rintro r w8 ⟨rfl, b9⟩
                rw [HW.out.2.1]
                go_simp
                refine hK.out (updS s 93 (.bool ok9)) _ _ ?_ ⟨St.grow b9 hF.1, hF.2.put 5 93 (.bool ok9) rfl (by simp)⟩
                simp only [putL, putT, List.setIfInBounds_toArray, List.set_cons_zero, List.set_cons_succ]
                rw [show updS s 93 (.bool ok9) 91 = .bool true from eq3, show updS s 93 (.bool ok9) 92 = Value.agg #[.int .i64 m, .int .i64 n, .int .i64 kk, .int .i64 f, .slice (some ⟨gx, 0, none⟩) zs.length cx] from eq4] <;> rfl
            · intro d s w9 hd hA hC hF K hK
              have hB9 := hF.1.bel
              simp only [putL, putT, List.setIfInBounds_toArray, List.set_cons_zero, List.set_cons_succ]
              clear hB9
              as_aux_lemma =>
                have eq3 : s 91 = .bool true := hF.2 (3, 91, .bool true) (by simp) (hA.1)
                rw [eq3]
                have q0 := (HM.out.2.1.later (HZ.out.2.2.2.1.trans (hF.1.bel.mono HZ.out.2.2.2.1.size))).at 0 _ rfl
                have q1 := (HM.out.2.1.later (HZ.out.2.2.2.1.trans (hF.1.bel.mono HZ.out.2.2.2.1.size))).at 1 _ rfl
                have q2 := (HM.out.2.1.later (HZ.out.2.2.2.1.trans (hF.1.bel.mono HZ.out.2.2.2.1.size))).at 2 _ rfl
                have q3 := (HM.out.2.1.later (HZ.out.2.2.2.1.trans (hF.1.bel.mono HZ.out.2.2.2.1.size))).at 3 _ rfl
                have q4 := (HM.out.2.1.later (HZ.out.2.2.2.1.trans (hF.1.bel.mono HZ.out.2.2.2.1.size))).at 4 _ rfl
                have q5 := (HM.out.2.1.later (HZ.out.2.2.2.1.trans (hF.1.bel.mono HZ.out.2.2.2.1.size))).at 5 _ rfl
                have q6 := (HM.out.2.1.later (HZ.out.2.2.2.1.trans (hF.1.bel.mono HZ.out.2.2.2.1.size))).at 6 _ rfl
                go_simp
                clear q0 q1 q2 q3 q4 q5 q6
                refine hK.out (updS s 94 (Value.agg #[.int .i64 sS.k, .int .i64 sS.t, .int .i64 sS.a, .int .i64 sS.b, .int .i64 sS.c, .int .i64 sS.d, .int .i64 sS.e])) _ _ ?_ ⟨hF.1, hF.2.put 6 94 (Value.agg #[.int .i64 sS.k, .int .i64 sS.t, .int .i64 sS.a, .int .i64 sS.b, .int .i64 sS.c, .int .i64 sS.d, .int .i64 sS.e]) rfl (by simp)⟩
                simp only [putL, putT, List.setIfInBounds_toArray, List.set_cons_zero, List.set_cons_succ]; rw [show updS s 94 (Value.agg #[.int .i64 sS.k, .int .i64 sS.t, .int .i64 sS.a, .int .i64 sS.b, .int .i64 sS.c, .int .i64 sS.d, .int .i64 sS.e]) 91 = .bool true from eq3]; rfl
            · intro d s w9 hd hA hC hF K hK
              have hB9 := hF.1.bel
              simp only [putL, putT, List.setIfInBounds_toArray, List.set_cons_zero, List.set_cons_succ]
              clear hB9
              as_aux_lemma =>
                have eq3 : s 91 = .bool true := hF.2 (3, 91, .bool true) (by simp) (hA.1)
                have eq6 : s 94 = Value.agg #[.int .i64 sS.k, .int .i64 sS.t, .int .i64 sS.a, .int .i64 sS.b, .int .i64 sS.c, .int .i64 sS.d, .int .i64 sS.e] := hF.2 (6, 94, Value.agg #[.int .i64 sS.k, .int .i64 sS.t, .int .i64 sS.a, .int .i64 sS.b, .int .i64 sS.c, .int .i64 sS.d, .int .i64 sS.e]) (by simp) (hA.2.1)
                rw [eq3, eq6]
                go_simp
                refine (implOk_any _ _ _ _ _ _ _ _).mono ?_
                rintro r w8 ⟨rfl, b9⟩
                rw [show okB sS.k sS.t sS.a sS.b sS.c sS.d sS.e = ok9 from HO.out.symm]
                go_simp
                refine hK.out (updS s 95 (.bool ok9)) _ _ ?_ ⟨St.grow b9 hF.1, hF.2.put 7 95 (.bool ok9) rfl (by simp)⟩
                simp only [putL, putT, List.setIfInBounds_toArray, List.set_cons_zero, List.set_cons_succ]
                rw [show updS s 95 (.bool ok9) 91 = .bool true from eq3, show updS s 95 (.bool ok9) 94 = Value.agg #[.int .i64 sS.k, .int .i64 sS.t, .int .i64 sS.a, .int .i64 sS.b, .int .i64 sS.c, .int .i64 sS.d, .int .i64 sS.e] from eq6] <;> rfl
            · intro d s w9 hd hA hC hF K hK
              have hB9 := hF.1.bel
              simp only [putL, putT, List.setIfInBounds_toArray, List.set_cons_zero, List.set_cons_succ]
              clear hB9
              as_aux_lemma =>
                have eq3 : s 91 = .bool true := hF.2 (3, 91, .bool true) (by simp) (hA.1)
                have eq5 : s 93 = .bool ok9 := hF.2 (5, 93, .bool ok9) (by simp) (hA.2.1)
                have eq7 : s 95 = .bool ok9 := hF.2 (7, 95, .bool ok9) (by simp) (hA.2.2.1)
                rw [eq3, eq5, eq7]
                go_simp
                refine hK.out (updS s 96 (.bool true)) _ _ ?_ ⟨hF.1, hF.2.put 8 96 (.bool true) rfl (by simp)⟩
                simp only [putL, putT, List.setIfInBounds_toArray, List.set_cons_zero, List.set_cons_succ]; rw [show updS s 96 (.bool true) 91 = .bool true from eq3, show updS s 96 (.bool true) 93 = .bool ok9 from eq5, show updS s 96 (.bool true) 95 = .bool ok9 from eq7]; rfl
            · intro d s w9 hd hA hC hF K hK
              have hB9 := hF.1.bel
              simp only [putL, putT, List.setIfInBounds_toArray, List.set_cons_zero, List.set_cons_succ]
              clear hB9
              as_aux_lemma =>
                have eq3 : s 91 = .bool true := hF.2 (3, 91, .bool true) (by simp) (hA.1)
                have eq8 : s 96 = .bool true := hF.2 (8, 96, .bool true) (by simp) (hA.2.1)
                rw [eq3, eq8]
                go_simp
                refine hK.out (updS s 97 (.bool true)) _ _ ?_ ⟨hF.1, hF.2.put 9 97 (.bool true) rfl (by simp)⟩
                simp only [putL, putT, List.setIfInBounds_toArray, List.set_cons_zero, List.set_cons_succ]; rw [show updS s 97 (.bool true) 91 = .bool true from eq3, show updS s 97 (.bool true) 96 = .bool true from eq8]; rfl
            · intro d s w9 hd hA hC hF K hK
              have hB9 := hF.1.bel
              simp only [putL, putT, List.setIfInBounds_toArray, List.set_cons_zero, List.set_cons_succ]
              clear hB9
              as_aux_lemma =>
                have eq9 : s 97 = .bool true := hF.2 (9, 97, .bool true) (by simp) (hA.1)
                rw [eq9]
                go_simp
                refine hK.out (updS s 4 (.bool true)) _ _ ?_ ⟨hF.1, hF.2.put 10 4 (.bool true) rfl (by simp)⟩
                simp only [putL, putT, List.setIfInBounds_toArray, List.set_cons_zero, List.set_cons_succ]; rw [show updS s 4 (.bool true) 97 = .bool true from eq9]; rfl
          · intro d s V4 hA hF
            have hS := hF.1
            have eq10 : s 4 = .bool true := hF.2 (10, 4, .bool true) (by simp) (hA.2.2.2.2.2.2.2.2.2.2.1)
            have HS8 : Hid (St V3.heap.size V3 [] [] V4) := hS
            clear hS hF hA 
            simp only [putL, putT, List.setIfInBounds_toArray, List.set_cons_zero, List.set_cons_succ]
            rw [eq10]
            clear eq10
            go_wp2_with fail
            go_ret
            exact ⟨rfl, HM.out.2.2.2.2.trans ((HZ.out.2.2.2.1.trans (HS8.out.bel.mono HZ.out.2.2.2.1.size)).mono HM.out.2.2.2.2.size)⟩
        · have hc2 : ¬ cap - 1 = 0 := by omega
          have HXR : Hid (xs.length - 1 = (xs.drop 1).length) := Hid.mk' (by simp)
          go_wp2_with fail
          clear m0 m1 m2 m3 m4 ml x0 x1 x2 x3 x4 xl sc0 sc1 sc2 sc3 sc4 sc5 sc6 scl
          obtain ⟨V3, hX9, HZ⟩ : ∃ X, X = (((((((V2.setCell ⟨gx, 0, none⟩ (.int .i64 s.k)).setCell ⟨gx, 1, none⟩ (.int .i64 s.t)).setCell ⟨gx, 2, none⟩ (.int .i64 s.a)).setCell ⟨gx, 3, none⟩ (.int .i64 s.b)).setCell ⟨gx, 4, none⟩ (.int .i64 s.c)).setCell ⟨gx, 5, none⟩ (.int .i64 s.d)).setCell ⟨gx, 6, none⟩ (.int .i64 s.e)).alloc (.cells #[.int .i64 m, .int .i64 n, .int .i64 kk, .int .i64 f, .slice (some ⟨g, off + 7, none⟩) (xs.length - 1) (cap - 1)] 25) ∧ Hid (ABlk 25 X w6.heap.size #[.int .i64 m, .int .i64 n, .int .i64 kk, .int .i64 f, .slice (some ⟨gx, 0, none⟩) zs.length cx] ∧ ABlk 25 X V2.heap.size #[.int .i64 m, .int .i64 n, .int .i64 kk, .int .i64 f, .slice (some ⟨g, off + 7, none⟩) (xs.length - 1) (cap - 1)] ∧ SRow X (some ⟨gx, 0, none⟩) (zs.set 0 s) ∧ Below w4.heap.size w4 X ∧ SRow X (some ⟨g, off + 7, none⟩) (xs.drop 1)) := ⟨_, rfl, Hid.mk' (by
            have hb := put7_below (s := s) (o := 0) (HX.out.2.2.2.trans (HS7.out.bel.mono HX.out.2.2.2.size)) hgB
            have hbx := (HX.out.2.1.later HS7.out.bel)
            have k1 : ABlk 25 (put7 V2 gx 0 s) w6.heap.size #[.int .i64 m, .int .i64 n, .int .i64 kk, .int .i64 f, .slice (some ⟨gx, 0, none⟩) zs.length cx] := (put7_heap (type_ne hcv hbx (by decide))).trans hbx
            have k2 := srow_put s (OwnS.rowAt (HX.out.2.2.1.later HS7.out.bel)) hzn
            have k3 : (put7 V2 gx 0 s).heap.size = V2.heap.size := put7_size
            have hzq : SRow ((put7 V2 gx 0 s).alloc (.cells #[.int .i64 m, .int .i64 n, .int .i64 kk, .int .i64 f, .slice (some ⟨g, off + 7, none⟩) (xs.length - 1) (cap - 1)] 25)) (some ⟨g, off + 7, none⟩) (xs.drop 1) := (srow_drop (HM.out.2.2.1.later hb)).later (Below.alloc_ _ _)
            have k4 := ABlk.new (put7 V2 gx 0 s) 25 #[.int .i64 m, .int .i64 n, .int .i64 kk, .int .i64 f, .slice (some ⟨g, off + 7, none⟩) (xs.length - 1) (cap - 1)]
            rw [k3] at k4
            exact ⟨k1.later (Below.alloc_ _ _), k4, k2.later (Below.alloc_ _ _), hb.alloc hb.size _, hzq⟩)⟩
          rw [← hX9]
          clear hX9 HS7
          clear r0 r1 r2 r3 r4 r5 r6 hz0 hcv hcur hgB hgs hgv hgn hgm hzp2 fx0 fx1 fx2 fx3 fx4 fx5 fx6
          obtain ⟨ok9, hok⟩ : ∃ ok9, ok9 = s.ok := ⟨_, rfl⟩
          have HO : Hid (ok9 = s.ok) := hok
          clear hok
          have HW : Hid (msgB m n kk f (xs.drop 1) = false ∧ msgB m n kk f (zs.set 0 s) = ok9 ∧ zs.length ≤ 3 ∧ xs.length ≤ 3) := ⟨(HQ.out.2.2.2 hxn).1, by rw [HX.out.1, HO.out]; exact (HQ.out.2.2.2 hxn).2, by omega, by omega⟩
          clear hxe2 hxe3 hx1 hx4 hcp hcp2 hxn hzn hzp hxe
          obtain ⟨sS, hsS⟩ : ∃ sS, sS = s := ⟨_, rfl⟩
          rw [← hsS] at HM HZ HO HW
          clear HQ hsS
          refine wp_region_walk [4, 88, 89, 90, 91, 92, 93, 94, 95, 96, 97] (fun d s W => St V3.heap.size V3 [] [] W ∧ Looks [(0, 88, Value.agg #[.int .i64 m, .int .i64 n, .int .i64 kk, .int .i64 f, .slice (some ⟨g, off + 7, none⟩) (xs.length - 1) (cap - 1)]), (1, 89, .bool false), (2, 90, .bool true), (3, 91, .bool true), (4, 92, Value.agg #[.int .i64 m, .int .i64 n, .int .i64 kk, .int .i64 f, .slice (some ⟨gx, 0, none⟩) zs.length cx]), (5, 93, .bool ok9), (6, 94, Value.agg #[.int .i64 sS.k, .int .i64 sS.t, .int .i64 sS.a, .int .i64 sS.b, .int .i64 sS.c, .int .i64 sS.d, .int .i64 sS.e]), (7, 95, .bool ok9), (8, 96, .bool true), (9, 97, .bool true), (10, 4, .bool true)] d s) [0, 1, 2, 3, 4, 5, 6, 7, 8, 9, 10] (by kernel_rfl) (by kernel_rfl) (by kernel_rfl) ?_ ?_ ?_
          · intro s
            exact ⟨(St.new V3).drew, Looks.none _ _⟩
          · refine StepsR.cons (k := 0) [] (by kernel_rfl) ?_ (StepsR.cons (k := 1) [0] (by kernel_rfl) ?_ (StepsR.cons (k := 2) [1] (by kernel_rfl) ?_ (StepsR.cons (k := 3) [2] (by kernel_rfl) ?_ (StepsR.cons (k := 4) [3] (by kernel_rfl) ?_ (StepsR.cons (k := 5) [3, 4] (by kernel_rfl) ?_ (StepsR.cons (k := 6) [3] (by kernel_rfl) ?_ (StepsR.cons (k := 7) [3, 6] (by kernel_rfl) ?_ (StepsR.cons (k := 8) [3, 5, 7] (by kernel_rfl) ?_ (StepsR.cons (k := 9) [3, 8] (by kernel_rfl) ?_ (StepsR.cons (k := 10) [9] (by kernel_rfl) ?_ (StepsR.nil)))))))))))
            · intro d s w9 hd hA hC hF K hK
              have hB9 := hF.1.bel
              simp only [putL, putT, List.setIfInBounds_toArray, List.set_cons_zero, List.set_cons_succ]
              clear hB9
              as_aux_lemma =>
                have q0 := (HZ.out.2.1.later hF.1.bel).at 0 _ rfl
                have q1 := (HZ.out.2.1.later hF.1.bel).at 1 _ rfl
                have q2 := (HZ.out.2.1.later hF.1.bel).at 2 _ rfl
                have q3 := (HZ.out.2.1.later hF.1.bel).at 3 _ rfl
                have q4 := (HZ.out.2.1.later hF.1.bel).at 4 _ rfl
                go_simp
                clear q0 q1 q2 q3 q4
                refine hK.out (updS s 88 (Value.agg #[.int .i64 m, .int .i64 n, .int .i64 kk, .int .i64 f, .slice (some ⟨g, off + 7, none⟩) (xs.length - 1) (cap - 1)])) _ _ ?_ ⟨hF.1, hF.2.put 0 88 (Value.agg #[.int .i64 m, .int .i64 n, .int .i64 kk, .int .i64 f, .slice (some ⟨g, off + 7, none⟩) (xs.length - 1) (cap - 1)]) rfl (by simp)⟩
                simp only [putL, putT, List.setIfInBounds_toArray, List.set_cons_zero, List.set_cons_succ]; rfl
            · intro d s w9 hd hA hC hF K hK
              have hB9 := hF.1.bel
              simp only [putL, putT, List.setIfInBounds_toArray, List.set_cons_zero, List.set_cons_succ]
              clear hB9
              as_aux_lemma =>
                have eq0 : s 88 = Value.agg #[.int .i64 m, .int .i64 n, .int .i64 kk, .int .i64 f, .slice (some ⟨g, off + 7, none⟩) (xs.length - 1) (cap - 1)] := hF.2 (0, 88, Value.agg #[.int .i64 m, .int .i64 n, .int .i64 kk, .int .i64 f, .slice (some ⟨g, off + 7, none⟩) (xs.length - 1) (cap - 1)]) (by simp) (hA.1)
                rw [eq0]
                go_simp
                have hc := implMsg_any m n kk f (some ⟨g, off + 7, none⟩) (cap - 1) (xs.drop 1) w9 (HZ.out.2.2.2.2.later hF.1.bel) (by have := HW.out.2.2.2; simp; omega) (HM.out.2.2.2.1.later (HZ.out.2.2.2.1.trans (hF.1.bel.mono HZ.out.2.2.2.1.size)))
                rw [← HXR.out] at hc
                refine hc.mono ?_
                rintro r w8 ⟨rfl, b9⟩
                rw [HW.out.1]
                go_simp
                refine hK.out (updS s 89 (.bool false)) _ _ ?_ ⟨St.grow b9 hF.1, hF.2.put 1 89 (.bool false) rfl (by simp)⟩
                simp only [putL, putT, List.setIfInBounds_toArray, List.set_cons_zero, List.set_cons_succ]
                rw [show updS s 89 (.bool false) 88 = Value.agg #[.int .i64 m, .int .i64 n, .int .i64 kk, .int .i64 f, .slice (some ⟨g, off + 7, none⟩) (xs.length - 1) (cap - 1)] from eq0] <;> rfl
            · intro d s w9 hd hA hC hF K hK
              have hB9 := hF.1.bel
              simp only [putL, putT, List.setIfInBounds_toArray, List.set_cons_zero, List.set_cons_succ]
              clear hB9
              as_aux_lemma =>
                have eq1 : s 89 = .bool false := hF.2 (1, 89, .bool false) (by simp) (hA.1)
                rw [eq1]
                go_simp
                refine hK.out (updS s 90 (.bool true)) _ _ ?_ ⟨hF.1, hF.2.put 2 90 (.bool true) rfl (by simp)⟩
                simp only [putL, putT, List.setIfInBounds_toArray, List.set_cons_zero, List.set_cons_succ]; rw [show updS s 90 (.bool true) 89 = .bool false from eq1]; rfl
            · intro d s w9 hd hA hC hF K hK
              have hB9 := hF.1.bel
              simp only [putL, putT, List.setIfInBounds_toArray, List.set_cons_zero, List.set_cons_succ]
              clear hB9
              as_aux_lemma =>
                have eq2 : s 90 = .bool true := hF.2 (2, 90, .bool true) (by simp) (hA.1)
                rw [eq2]
                go_simp
                refine hK.out (updS s 91 (.bool true)) _ _ ?_ ⟨hF.1, hF.2.put 3 91 (.bool true) rfl (by simp)⟩
                simp only [putL, putT, List.setIfInBounds_toArray, List.set_cons_zero, List.set_cons_succ]; rw [show updS s 91 (.bool true) 90 = .bool true from eq2]; rfl
            · intro d s w9 hd hA hC hF K hK
              have hB9 := hF.1.bel
              simp only [putL, putT, List.setIfInBounds_toArray, List.set_cons_zero, List.set_cons_succ]
              clear hB9
              as_aux_lemma =>
                have eq3 : s 91 = .bool true := hF.2 (3, 91, .bool true) (by simp) (hA.1)
                rw [eq3]
                have q0 := (HZ.out.1.later hF.1.bel).at 0 _ rfl
                have q1 := (HZ.out.1.later hF.1.bel).at 1 _ rfl
                have q2 := (HZ.out.1.later hF.1.bel).at 2 _ rfl
                have q3 := (HZ.out.1.later hF.1.bel).at 3 _ rfl
                have q4 := (HZ.out.1.later hF.1.bel).at 4 _ rfl
                go_simp
                clear q0 q1 q2 q3 q4
                refine hK.out (updS s 92 (Value.agg #[.int .i64 m, .int .i64 n, .int .i64 kk, .int .i64 f, .slice (some ⟨gx, 0, none⟩) zs.length cx])) _ _ ?_ ⟨hF.1, hF.2.put 4 92 (Value.agg #[.int .i64 m, .int .i64 n, .int .i64 kk, .int .i64 f, .slice (some ⟨gx, 0, none⟩) zs.length cx]) rfl (by simp)⟩
                simp only [putL, putT, List.setIfInBounds_toArray, List.set_cons_zero, List.set_cons_succ]; rw [show updS s 92 (Value.agg #[.int .i64 m, .int .i64 n, .int .i64 kk, .int .i64 f, .slice (some ⟨gx, 0, none⟩) zs.length cx]) 91 = .bool true from eq3]; rfl
            · intro d s w9 hd hA hC hF K hK
              have hB9 := hF.1.bel
              simp only [putL, putT, List.setIfInBounds_toArray, List.set_cons_zero, List.set_cons_succ]
              clear hB9
              as_aux_lemma =>
                have eq3 : s 91 = .bool true := hF.2 (3, 91, .bool true) (by simp) (hA.1)
                have eq4 : s 92 = Value.agg #[.int .i64 m, .int .i64 n, .int .i64 kk, .int .i64 f, .slice (some ⟨gx, 0, none⟩) zs.length cx] := hF.2 (4, 92, Value.agg #[.int .i64 m, .int .i64 n, .int .i64 kk, .int .i64 f, .slice (some ⟨gx, 0, none⟩) zs.length cx]) (by simp) (hA.2.1)
                rw [eq3, eq4]
                go_simp
                have hc := implMsg_any m n kk f (some ⟨gx, 0, none⟩) cx (zs.set 0 sS) w9 (HZ.out.2.2.1.later hF.1.bel) (by have := HW.out.2.2.1; simp; omega) (HM.out.2.2.2.1.later (HZ.out.2.2.2.1.trans (hF.1.bel.mono HZ.out.2.2.2.1.size)))
                rw [List.length_set] at hc
                refine hc.mono ?_
                rintro r w8 ⟨rfl, b9⟩
                rw [HW.out.2.1]
                go_simp
                refine hK.out (updS s 93 (.bool ok9)) _ _ ?_ ⟨St.grow b9 hF.1, hF.2.put 5 93 (.bool ok9) rfl (by simp)⟩
                simp only [putL, putT, List.setIfInBounds_toArray, List.set_cons_zero, List.set_cons_succ]
                rw [show updS s 93 (.bool ok9) 91 = .bool true from eq3, show updS s 93 (.bool ok9) 92 = Value.agg #[.int .i64 m, .int .i64 n, .int .i64 kk, .int .i64 f, .slice (some ⟨gx, 0, none⟩) zs.length cx] from eq4] <;> rfl
            · intro d s w9 hd hA hC hF K hK
              have hB9 := hF.1.bel
              simp only [putL, putT, List.setIfInBounds_toArray, List.set_cons_zero, List.set_cons_succ]
              clear hB9
              as_aux_lemma =>
                have eq3 : s 91 = .bool true := hF.2 (3, 91, .bool true) (by simp) (hA.1)
                rw [eq3]
                have q0 := (HM.out.2.1.later (HZ.out.2.2.2.1.trans (hF.1.bel.mono HZ.out.2.2.2.1.size))).at 0 _ rfl
                have q1 := (HM.out.2.1.later (HZ.out.2.2.2.1.trans (hF.1.bel.mono HZ.out.2.2.2.1.size))).at 1 _ rfl
                have q2 := (HM.out.2.1.later (HZ.out.2.2.2.1.trans (hF.1.bel.mono HZ.out.2.2.2.1.size))).at 2 _ rfl
                have q3 := (HM.out.2.1.later (HZ.out.2.2.2.1.trans (hF.1.bel.mono HZ.out.2.2.2.1.size))).at 3 _ rfl
                have q4 := (HM.out.2.1.later (HZ.out.2.2.2.1.trans (hF.1.bel.mono HZ.out.2.2.2.1.size))).at 4 _ rfl
                have q5 := (HM.out.2.1.later (HZ.out.2.2.2.1.trans (hF.1.bel.mono HZ.out.2.2.2.1.size))).at 5 _ rfl
                have q6 := (HM.out.2.1.later (HZ.out.2.2.2.1.trans (hF.1.bel.mono HZ.out.2.2.2.1.size))).at 6 _ rfl
                go_simp
                clear q0 q1 q2 q3 q4 q5 q6
                refine hK.out (updS s 94 (Value.agg #[.int .i64 sS.k, .int .i64 sS.t, .int .i64 sS.a, .int .i64 sS.b, .int .i64 sS.c, .int .i64 sS.d, .int .i64 sS.e])) _ _ ?_ ⟨hF.1, hF.2.put 6 94 (Value.agg #[.int .i64 sS.k, .int .i64 sS.t, .int .i64 sS.a, .int .i64 sS.b, .int .i64 sS.c, .int .i64 sS.d, .int .i64 sS.e]) rfl (by simp)⟩
                simp only [putL, putT, List.setIfInBounds_toArray, List.set_cons_zero, List.set_cons_succ]; rw [show updS s 94 (Value.agg #[.int .i64 sS.k, .int .i64 sS.t, .int .i64 sS.a, .int .i64 sS.b, .int .i64 sS.c, .int .i64 sS.d, .int .i64 sS.e]) 91 = .bool true from eq3]; rfl
            · intro d s w9 hd hA hC hF K hK
              have hB9 := hF.1.bel
              simp only [putL, putT, List.setIfInBounds_toArray, List.set_cons_zero, List.set_cons_succ]
              clear hB9
              as_aux_lemma =>
                have eq3 : s 91 = .bool true := hF.2 (3, 91, .bool true) (by simp) (hA.1)
                have eq6 : s 94 = Value.agg #[.int .i64 sS.k, .int .i64 sS.t, .int .i64 sS.a, .int .i64 sS.b, .int .i64 sS.c, .int .i64 sS.d, .int .i64 sS.e] := hF.2 (6, 94, Value.agg #[.int .i64 sS.k, .int .i64 sS.t, .int .i64 sS.a, .int .i64 sS.b, .int .i64 sS.c, .int .i64 sS.d, .int .i64 sS.e]) (by simp) (hA.2.1)
                rw [eq3, eq6]
                go_simp
                refine (implOk_any _ _ _ _ _ _ _ _).mono ?_
                rintro r w8 ⟨rfl, b9⟩
                rw [show okB sS.k sS.t sS.a sS.b sS.c sS.d sS.e = ok9 from HO.out.symm]
                go_simp
                refine hK.out (updS s 95 (.bool ok9)) _ _ ?_ ⟨St.grow b9 hF.1, hF.2.put 7 95 (.bool ok9) rfl (by simp)⟩
                simp only [putL, putT, List.setIfInBounds_toArray, List.set_cons_zero, List.set_cons_succ]
                rw [show updS s 95 (.bool ok9) 91 = .bool true from eq3, show updS s 95 (.bool ok9) 94 = Value.agg #[.int .i64 sS.k, .int .i64 sS.t, .int .i64 sS.a, .int .i64 sS.b, .int .i64 sS.c, .int .i64 sS.d, .int .i64 sS.e] from eq6] <;> rfl
            · intro d s w9 hd hA hC hF K hK
              have hB9 := hF.1.bel
              simp only [putL, putT, List.setIfInBounds_toArray, List.set_cons_zero, List.set_cons_succ]
              clear hB9
              as_aux_lemma =>
                have eq3 : s 91 = .bool true := hF.2 (3, 91, .bool true) (by simp) (hA.1)
                have eq5 : s 93 = .bool ok9 := hF.2 (5, 93, .bool ok9) (by simp) (hA.2.1)
                have eq7 : s 95 = .bool ok9 := hF.2 (7, 95, .bool ok9) (by simp) (hA.2.2.1)
                rw [eq3, eq5, eq7]
                go_simp
                refine hK.out (updS s 96 (.bool true)) _ _ ?_ ⟨hF.1, hF.2.put 8 96 (.bool true) rfl (by simp)⟩
                simp only [putL, putT, List.setIfInBounds_toArray, List.set_cons_zero, List.set_cons_succ]; rw [show updS s 96 (.bool true) 91 = .bool true from eq3, show updS s 96 (.bool true) 93 = .bool ok9 from eq5, show updS s 96 (.bool true) 95 = .bool ok9 from eq7]; rfl
            · intro d s w9 hd hA hC hF K hK
              have hB9 := hF.1.bel
              simp only [putL, putT, List.setIfInBounds_toArray, List.set_cons_zero, List.set_cons_succ]
              clear hB9
              as_aux_lemma =>
                have eq3 : s 91 = .bool true := hF.2 (3, 91, .bool true) (by simp) (hA.1)
                have eq8 : s 96 = .bool true := hF.2 (8, 96, .bool true) (by simp) (hA.2.1)
                rw [eq3, eq8]
                go_simp
                refine hK.out (updS s 97 (.bool true)) _ _ ?_ ⟨hF.1, hF.2.put 9 97 (.bool true) rfl (by simp)⟩
                simp only [putL, putT, List.setIfInBounds_toArray, List.set_cons_zero, List.set_cons_succ]; rw [show updS s 97 (.bool true) 91 = .bool true from eq3, show updS s 97 (.bool true) 96 = .bool true from eq8]; rfl
            · intro d s w9 hd hA hC hF K hK
              have hB9 := hF.1.bel
              simp only [putL, putT, List.setIfInBounds_toArray, List.set_cons_zero, List.set_cons_succ]
              clear hB9
              as_aux_lemma =>
                have eq9 : s 97 = .bool true := hF.2 (9, 97, .bool true) (by simp) (hA.1)
                rw [eq9]
                go_simp
                refine hK.out (updS s 4 (.bool true)) _ _ ?_ ⟨hF.1, hF.2.put 10 4 (.bool true) rfl (by simp)⟩
                simp only [putL, putT, List.setIfInBounds_toArray, List.set_cons_zero, List.set_cons_succ]; rw [show updS s 4 (.bool true) 97 = .bool true from eq9]; rfl
          · intro d s V4 hA hF
            have hS := hF.1
            have eq10 : s 4 = .bool true := hF.2 (10, 4, .bool true) (by simp) (hA.2.2.2.2.2.2.2.2.2.2.1)
            have HS8 : Hid (St V3.heap.size V3 [] [] V4) := hS
            clear hS hF hA 
            simp only [putL, putT, List.setIfInBounds_toArray, List.set_cons_zero, List.set_cons_succ]
            rw [eq10]
            clear eq10
            go_wp2_with fail
            go_ret
            exact ⟨rfl, HM.out.2.2.2.2.trans ((HZ.out.2.2.2.1.trans (HS8.out.bel.mono HZ.out.2.2.2.1.size)).mono HM.out.2.2.2.2.size)⟩
      · skip
        go_simp
        have hlt : ¬ Wn1.heap.size = W8.heap.size := by have := (OwnS.low (HSWn1.out.of 0 rfl) W8.heap.size rfl).2; omega
        obtain ⟨Wn2, hX9, HSWn2, HN⟩ : ∃ X, X = Wn1.alloc (.cells #[.int .i64 s.k, .int .i64 s.t, .int .i64 s.a, .int .i64 s.b, .int .i64 s.c, .int .i64 s.d, .int .i64 s.e] 28) ∧ Hid (St wr.heap.size wr [⟨wr.heap.size, 25, #[.int .i64 m, .int .i64 n, .int .i64 kk, .int .i64 f, .slice a xs.length cap]⟩] [⟨(selT 28), fun W => OwnS W wr.heap.size (.slice (some ⟨W8.heap.size, 0, none⟩) 0 0) []⟩] X) ∧ Hid (SRow X (some ⟨Wn1.heap.size, 0, none⟩) [s] ∧ ¬ Wn1.heap.size = W8.heap.size) := ⟨_, rfl, Hid.mk' (St.lay _ HSWn1.out), Hid.mk' ⟨srow_one _ s, hlt⟩⟩
        rw [← hX9]
        clear hX9 HSWn1 hlt
        refine hK.out _ _ (HX.out.2.2.2.trans (HSWn2.out.bel.mono HX.out.2.2.2.size)) (fun hS => ?_)
        clear hK K
        refine wpAnyH_ready (rs := [3]) (by kernel_rfl) (by simp) ?_
        refine AllReadyH.cons rfl (fun K hK => ?_) (AllReadyH.nil)
        rw [if_pos (by rfl)]
        have hO := HSWn2.out.of 0 rfl
        refine wp_app_seals _ _ rfl wr.heap.size (.slice (some ⟨W8.heap.size, 0, none⟩) 0 0) [] rfl hO a xs cap rfl (HM.out.2.2.1.later (HX.out.2.2.2.trans (HSWn2.out.bel.mono HX.out.2.2.2.size))) (by simp; omega) HSWn2.out.sz ?_
        intro b3 c3 Wn3 o3 g3
        simp only [List.nil_append] at o3 ⊢
        have HSWn3 : Hid (St wr.heap.size wr [⟨wr.heap.size, 25, #[.int .i64 m, .int .i64 n, .int .i64 kk, .int .i64 f, .slice a xs.length cap]⟩] [⟨(selT 28), fun W => OwnS W wr.heap.size (.slice b3 xs.length c3) xs⟩] Wn3) := St.appR HSWn2.out 0 28 (fun b e => ⟨(OwnS.low hO b e).1, own_type hO e⟩) g3 rfl (fun _ => rfl) (selT 28) (fun V => OwnS V wr.heap.size (.slice b3 xs.length c3) xs) (keep_owns _ _ _) o3
        have hN : SRow Wn3 (some ⟨Wn1.heap.size, 0, none⟩) [s] := srow_grown HN.out.1 g3 (by have := HN.out.2; simp [Value.ownBlock]; omega)
        clear HN
        have HN : Hid (SRow Wn3 (some ⟨Wn1.heap.size, 0, none⟩) [s]) := hN
        clear hN
        clear hO o3 g3 HSWn2
        refine hK.out _ _ (HX.out.2.2.2.trans (HSWn3.out.bel.mono HX.out.2.2.2.size)) (fun hS => ?_)
        clear hK K
        refine wpAnyH_ready (rs := [6]) (by kernel_rfl) (by simp) ?_
        refine AllReadyH.cons rfl (fun K hK => ?_) (AllReadyH.nil)
        rw [if_pos (by rfl)]
        have hO := HSWn3.out.of 0 rfl
        refine wp_app_seals _ _ rfl wr.heap.size (.slice b3 xs.length c3) xs rfl hO (some ⟨Wn1.heap.size, 0, none⟩) [s] 1 rfl HN.out (by simp; omega) HSWn3.out.sz ?_
        intro b6 c6 Wn4 o6 g6
        obtain ⟨ys, hys⟩ : ∃ ys, ys = xs ++ [s] := ⟨_, rfl⟩
        rw [← hys] at o6 ⊢
        have HY : Hid (ys = xs ++ [s]) := hys
        clear hys HN
        have HSWn4 : Hid (St wr.heap.size wr [⟨wr.heap.size, 25, #[.int .i64 m, .int .i64 n, .int .i64 kk, .int .i64 f, .slice a xs.length cap]⟩] [⟨(selT 28), fun W => OwnS W wr.heap.size (.slice b6 ys.length c6) ys⟩] Wn4) := St.appR HSWn3.out 0 28 (fun b e => ⟨(OwnS.low hO b e).1, own_type hO e⟩) g6 rfl (fun _ => rfl) (selT 28) (fun V => OwnS V wr.heap.size (.slice b6 ys.length c6) ys) (keep_owns _ _ _) o6
        clear hO o6 g6 HSWn3
        refine hK.out _ _ (HX.out.2.2.2.trans (HSWn4.out.bel.mono HX.out.2.2.2.size)) (fun hS => ?_)
        clear hK K
        refine take1 7 67 (Value.pointer (some ⟨wr.heap.size, 4, none⟩)) rfl rfl (by kernel_rfl) (by kernel_rfl) (by kernel_rfl) (by rfl) (fun _ _ _ h => h) hS (fun w' hS' => ?_) ?_
        · (go_simp) <;> (intro hx9; omega)
        simp only [Act.put, List.setIfInBounds_toArray]
        refine wpAnyH_ready (rs := [8]) (by kernel_rfl) (by simp) ?_
        refine AllReadyH.cons rfl (fun K hK => ?_) (AllReadyH.nil)
        have p0 := HSWn4.out.cell 0 rfl 0 (.int .i64 m) rfl
        have pf0 := HSWn4.out.fro 0 rfl 0
        have p1 := HSWn4.out.cell 0 rfl 1 (.int .i64 n) rfl
        have pf1 := HSWn4.out.fro 0 rfl 1
        have p2 := HSWn4.out.cell 0 rfl 2 (.int .i64 kk) rfl
        have pf2 := HSWn4.out.fro 0 rfl 2
        have p3 := HSWn4.out.cell 0 rfl 3 (.int .i64 f) rfl
        have pf3 := HSWn4.out.fro 0 rfl 3
        have p4 := HSWn4.out.cell 0 rfl 4 (.slice a xs.length cap) rfl
        have pf4 := HSWn4.out.fro 0 rfl 4
        go_simp
        clear p0 pf0 p1 pf1 p2 pf2 p3 pf3 p4 pf4
        obtain ⟨Wn5, hX9, HS5⟩ : ∃ X, X = (Wn4.setCell ⟨wr.heap.size, 4, none⟩ (.slice b6 ys.length c6)) ∧ Hid (St wr.heap.size wr [⟨wr.heap.size, 25, #[.int .i64 m, .int .i64 n, .int .i64 kk, .int .i64 f, .slice b6 ys.length c6]⟩] [⟨(selT 28), fun W => OwnS W wr.heap.size (.slice b6 ys.length c6) ys⟩] X) := ⟨_, rfl, Hid.mk' (by
          have h := (St.set 0 (q := 4) (v := .slice b6 ys.length c6) HSWn4.out rfl rfl)
          try simp only [World.size_alloc] at h
          try simp only [World.size_setCell] at h
          exact h)⟩
        rw [← hX9]
        clear hX9
        clear HSWn4
        refine hK.out _ _ (HX.out.2.2.2.trans (HS5.out.bel.mono HX.out.2.2.2.size)) (fun hS => ?_)
        clear hK K
        refine wpAnyH_done (by kernel_rfl) ?_ _
        clear hS
        have hzl : zs.length ≤ 3 := by rw [HX.out.1]; simp; omega
        have hyl : ys.length ≤ 4 := by rw [HY.out]; simp; omega
        have x0 := (HX.out.2.1.later HS5.out.bel).at 0 _ rfl
        have x1 := (HX.out.2.1.later HS5.out.bel).at 1 _ rfl
        have x2 := (HX.out.2.1.later HS5.out.bel).at 2 _ rfl
        have x3 := (HX.out.2.1.later HS5.out.bel).at 3 _ rfl
        have x4 := (HX.out.2.1.later HS5.out.bel).at 4 _ rfl
        have xl : w6.heap.size < Wn5.heap.size := (HX.out.2.1.later HS5.out.bel).lt
        go_wp2_with fail
        clear x0 x1 x2 x3 x4 xl
        refine (implMsg_any m n kk f bx cx zs _ (OwnS.rowAt (HX.out.2.2.1.later HS5.out.bel)) (by omega) (HM.out.2.2.2.1.later (HX.out.2.2.2.trans (HS5.out.bel.mono HX.out.2.2.2.size)))).mono ?_
        rintro r V1 ⟨rfl, b9⟩
        rw [show msgB m n kk f zs = true by rw [HX.out.1]; exact HQ.out.2.1]
        have HS6 : Hid (St wr.heap.size wr [⟨wr.heap.size, 25, #[.int .i64 m, .int .i64 n, .int .i64 kk, .int .i64 f, .slice b6 ys.length c6]⟩] [⟨(selT 28), fun W => OwnS W wr.heap.size (.slice b6 ys.length c6) ys⟩] V1) := Hid.mk' (by
          have h := St.grow b9 HS5.out
          try simp only [World.size_alloc] at h
          try simp only [World.size_setCell] at h
          exact h)
        clear HS5
        clear b9
        have p0 := HS6.out.cell 0 rfl 0 (.int .i64 m) rfl
        have p1 := HS6.out.cell 0 rfl 1 (.int .i64 n) rfl
        have p2 := HS6.out.cell 0 rfl 2 (.int .i64 kk) rfl
        have p3 := HS6.out.cell 0 rfl 3 (.int .i64 f) rfl
        have p4 := HS6.out.cell 0 rfl 4 (.slice b6 ys.length c6) rfl
        go_wp2_with fail
        clear p0 p1 p2 p3 p4
        refine (implMsg_any m n kk f b6 c6 ys _ (OwnS.rowAt (HS6.out.of 0 rfl)) (by omega) (HM.out.2.2.2.1.later (HX.out.2.2.2.trans (HS6.out.bel.mono HX.out.2.2.2.size)))).mono ?_
        rintro r V2 ⟨rfl, b9⟩
        rw [show msgB m n kk f ys = false by rw [HY.out]; exact HQ.out.2.2.1]
        have HS7 : Hid (St wr.heap.size wr [⟨wr.heap.size, 25, #[.int .i64 m, .int .i64 n, .int .i64 kk, .int .i64 f, .slice b6 ys.length c6]⟩] [⟨(selT 28), fun W => OwnS W wr.heap.size (.slice b6 ys.length c6) ys⟩] V2) := Hid.mk' (by
          have h := St.grow b9 HS6.out
          try simp only [World.size_alloc] at h
          try simp only [World.size_setCell] at h
          exact h)
        clear HS6
        clear b9
        clear HY hyl
        have m0 := (HM.out.1.later (HX.out.2.2.2.trans (HS7.out.bel.mono HX.out.2.2.2.size))).at 0 _ rfl
        have m1 := (HM.out.1.later (HX.out.2.2.2.trans (HS7.out.bel.mono HX.out.2.2.2.size))).at 1 _ rfl
        have m2 := (HM.out.1.later (HX.out.2.2.2.trans (HS7.out.bel.mono HX.out.2.2.2.size))).at 2 _ rfl
        have m3 := (HM.out.1.later (HX.out.2.2.2.trans (HS7.out.bel.mono HX.out.2.2.2.size))).at 3 _ rfl
        have m4 := (HM.out.1.later (HX.out.2.2.2.trans (HS7.out.bel.mono HX.out.2.2.2.size))).at 4 _ rfl
        have ml : w1.heap.size < V2.heap.size := (HM.out.1.later (HX.out.2.2.2.trans (HS7.out.bel.mono HX.out.2.2.2.size))).lt
        by_cases hxe : xs.length = 0
        · have hxe2 : ((xs.length : Int) == 0) = true := by simp [hxe]
          have hxe3 : ((xs.length : Int)) = 0 := by omega
          clear hxe
          go_wp2_with fail
          clear m0 m1 m2 m3 m4 ml
          go_ret
          exact ⟨rfl, HM.out.2.2.2.2.trans ((HX.out.2.2.2.trans (HS7.out.bel.mono HX.out.2.2.2.size)).mono HM.out.2.2.2.2.size)⟩
        have hxe2 : ((xs.length : Int) == 0) = false := by rw [beq_eq_false_iff_ne]; omega
        have hxe3 : ¬ ((xs.length : Int)) = 0 := by omega
        have hxn : xs ≠ [] := fun e => hxe (by rw [e]; rfl)
        obtain ⟨y, hy⟩ : ∃ y, xs[0]? = some y := ⟨xs[0], List.getElem?_eq_getElem (by omega)⟩
        obtain ⟨g, off, ha, hgl, _⟩ := srow_elem HM.out.2.2.1 hy
        subst ha
        clear hy
        have hx1 : (1 : Int) ≤ (xs.length : Int) := by omega
        have hx4 : 1 ≤ xs.length := by omega
        have hcp : xs.length ≤ cap := xc
        have hcp2 : (xs.length : Int) ≤ (cap : Int) := by omega
        have hzn : zs ≠ [] := by rw [HX.out.1]; simpa using hxn
        have hzp : 0 < zs.length := List.length_pos_iff.2 hzn
        obtain ⟨gx, rfl, hgB, hgs, cur, hcur⟩ : ∃ gx, bx = some ⟨gx, 0, none⟩ ∧ w4.heap.size ≤ gx ∧ gx < wr.heap.size ∧ ∃ cur, wr.heap[gx]? = some (.cells cur 28 (0, 0)) := by
          obtain ⟨a9, c9, e9, _, _, h9⟩ := own_row HX.out.2.2.1
          obtain ⟨g9, rfl, hg9⟩ := h9 hzn
          injection e9 with e9 _ _
          subst e9
          obtain ⟨cur, hcur⟩ := own_type HX.out.2.2.1 (g := g9) rfl
          exact ⟨g9, rfl, hg9, (OwnS.low HX.out.2.2.1 g9 rfl).2, cur, hcur⟩
        obtain ⟨z0, hz0⟩ : ∃ z0, zs[0]? = some z0 := ⟨zs[0], List.getElem?_eq_getElem hzp⟩
        obtain ⟨r0, r1, r2, r3, r4, r5, r6⟩ := srow_at (OwnS.rowAt (HX.out.2.2.1.later HS7.out.bel)) hz0
        simp only [Nat.zero_mul, Nat.add_zero, Nat.zero_add] at r0 r1 r2 r3 r4 r5 r6
        have hcv := (HS7.out.bel.block gx hgs).trans hcur
        have fx0 : V2.frozen? ⟨gx, 0, none⟩ = false := by simp [World.frozen?, hcv]
        have fx1 : V2.frozen? ⟨gx, 1, none⟩ = false := by simp [World.frozen?, hcv]
        have fx2 : V2.frozen? ⟨gx, 2, none⟩ = false := by simp [World.frozen?, hcv]
        have fx3 : V2.frozen? ⟨gx, 3, none⟩ = false := by simp [World.frozen?, hcv]
        have fx4 : V2.frozen? ⟨gx, 4, none⟩ = false := by simp [World.frozen?, hcv]
        have fx5 : V2.frozen? ⟨gx, 5, none⟩ = false := by simp [World.frozen?, hcv]
        have fx6 : V2.frozen? ⟨gx, 6, none⟩ = false := by simp [World.frozen?, hcv]
        have hgv : gx < V2.heap.size := Nat.lt_of_lt_of_le hgs HS7.out.bel.size
        have hgn : ¬ V2.heap.size = gx := by omega
        have hgm : ¬ gx = V2.heap.size := by omega
        have hzp2 : (0 : Int) < (zs.length : Int) := by omega
        have x0 := (HX.out.2.1.later HS7.out.bel).at 0 _ rfl
        have x1 := (HX.out.2.1.later HS7.out.bel).at 1 _ rfl
        have x2 := (HX.out.2.1.later HS7.out.bel).at 2 _ rfl
        have x3 := (HX.out.2.1.later HS7.out.bel).at 3 _ rfl
        have x4 := (HX.out.2.1.later HS7.out.bel).at 4 _ rfl
        have xl : w6.heap.size < V2.heap.size := (HX.out.2.1.later HS7.out.bel).lt
        have sc0 := (HM.out.2.1.later (HX.out.2.2.2.trans (HS7.out.bel.mono HX.out.2.2.2.size))).at 0 _ rfl
        have sc1 := (HM.out.2.1.later (HX.out.2.2.2.trans (HS7.out.bel.mono HX.out.2.2.2.size))).at 1 _ rfl
        have sc2 := (HM.out.2.1.later (HX.out.2.2.2.trans (HS7.out.bel.mono HX.out.2.2.2.size))).at 2 _ rfl
        have sc3 := (HM.out.2.1.later (HX.out.2.2.2.trans (HS7.out.bel.mono HX.out.2.2.2.size))).at 3 _ rfl
        have sc4 := (HM.out.2.1.later (HX.out.2.2.2.trans (HS7.out.bel.mono HX.out.2.2.2.size))).at 4 _ rfl
        have sc5 := (HM.out.2.1.later (HX.out.2.2.2.trans (HS7.out.bel.mono HX.out.2.2.2.size))).at 5 _ rfl
        have sc6 := (HM.out.2.1.later (HX.out.2.2.2.trans (HS7.out.bel.mono HX.out.2.2.2.size))).at 6 _ rfl
        have scl : w3.heap.size < V2.heap.size := (HM.out.2.1.later (HX.out.2.2.2.trans (HS7.out.bel.mono HX.out.2.2.2.size))).lt
        by_cases hc1 : cap = 1
        · have hx7 : xs.length = 1 := by omega
          have HXD : Hid (xs.drop 1 = []) := Hid.mk' (List.eq_nil_of_length_eq_zero (by simp; omega))
          have HXR : Hid (0 = (xs.drop 1).length) := Hid.mk' (by rw [HXD.out]; rfl)
          clear hx7
          subst hc1
          go_wp2_with fail
          clear m0 m1 m2 m3 m4 ml x0 x1 x2 x3 x4 xl sc0 sc1 sc2 sc3 sc4 sc5 sc6 scl
          obtain ⟨V3, hX9, HZ⟩ : ∃ X, X = (((((((V2.setCell ⟨gx, 0, none⟩ (.int .i64 s.k)).setCell ⟨gx, 1, none⟩ (.int .i64 s.t)).setCell ⟨gx, 2, none⟩ (.int .i64 s.a)).setCell ⟨gx, 3, none⟩ (.int .i64 s.b)).setCell ⟨gx, 4, none⟩ (.int .i64 s.c)).setCell ⟨gx, 5, none⟩ (.int .i64 s.d)).setCell ⟨gx, 6, none⟩ (.int .i64 s.e)).alloc (.cells #[.int .i64 m, .int .i64 n, .int .i64 kk, .int .i64 f, .slice (some ⟨g, off, none⟩) 0 0] 25) ∧ Hid (ABlk 25 X w6.heap.size #[.int .i64 m, .int .i64 n, .int .i64 kk, .int .i64 f, .slice (some ⟨gx, 0, none⟩) zs.length cx] ∧ ABlk 25 X V2.heap.size #[.int .i64 m, .int .i64 n, .int .i64 kk, .int .i64 f, .slice (some ⟨g, off, none⟩) 0 0] ∧ SRow X (some ⟨gx, 0, none⟩) (zs.set 0 s) ∧ Below w4.heap.size w4 X ∧ SRow X (some ⟨g, off, none⟩) (xs.drop 1)) := ⟨_, rfl, Hid.mk' (by
            have hb := put7_below (s := s) (o := 0) (HX.out.2.2.2.trans (HS7.out.bel.mono HX.out.2.2.2.size)) hgB
            have hbx := (HX.out.2.1.later HS7.out.bel)
            have k1 : ABlk 25 (put7 V2 gx 0 s) w6.heap.size #[.int .i64 m, .int .i64 n, .int .i64 kk, .int .i64 f, .slice (some ⟨gx, 0, none⟩) zs.length cx] := (put7_heap (type_ne hcv hbx (by decide))).trans hbx
            have k2 := srow_put s (OwnS.rowAt (HX.out.2.2.1.later HS7.out.bel)) hzn
            have k3 : (put7 V2 gx 0 s).heap.size = V2.heap.size := put7_size
            have hzq : SRow ((put7 V2 gx 0 s).alloc (.cells #[.int .i64 m, .int .i64 n, .int .i64 kk, .int .i64 f, .slice (some ⟨g, off, none⟩) 0 0] 25)) (some ⟨g, off, none⟩) (xs.drop 1) := Or.inl (HXD.out)
            have k4 := ABlk.new (put7 V2 gx 0 s) 25 #[.int .i64 m, .int .i64 n, .int .i64 kk, .int .i64 f, .slice (some ⟨g, off, none⟩) 0 0]
            rw [k3] at k4
            exact ⟨k1.later (Below.alloc_ _ _), k4, k2.later (Below.alloc_ _ _), hb.alloc hb.size _, hzq⟩)⟩
          rw [← hX9]
          clear hX9 HS7
          clear r0 r1 r2 r3 r4 r5 r6 hz0 hcv hcur hgB hgs hgv hgn hgm hzp2 fx0 fx1 fx2 fx3 fx4 fx5 fx6
          obtain ⟨ok9, hok⟩ : ∃ ok9, ok9 = s.ok := ⟨_, rfl⟩
          have HO : Hid (ok9 = s.ok) := hok
          clear hok
          have HW : Hid (msgB m n kk f (xs.drop 1) = false ∧ msgB m n kk f (zs.set 0 s) = ok9 ∧ zs.length ≤ 3 ∧ xs.length ≤ 3) := ⟨(HQ.out.2.2.2 hxn).1, by rw [HX.out.1, HO.out]; exact (HQ.out.2.2.2 hxn).2, by omega, by omega⟩
          clear hxe2 hxe3 hx1 hx4 hcp hcp2 hxn hzn hzp hxe
          obtain ⟨sS, hsS⟩ : ∃ sS, sS = s := ⟨_, rfl⟩
          rw [← hsS] at HM HZ HO HW
          clear HQ hsS
          refine wp_region_walk [4, 88, 89, 90, 91, 92, 93, 94, 95, 96, 97] (fun d s W => St V3.heap.size V3 [] [] W ∧ Looks [(0, 88, Value.agg #[.int .i64 m, .int .i64 n, .int .i64 kk, .int .i64 f, .slice (some ⟨g, off, none⟩) 0 0]), (1, 89, .bool false), (2, 90, .bool true), (3, 91, .bool true), (4, 92, Value.agg #[.int .i64 m, .int .i64 n, .int .i64 kk, .int .i64 f, .slice (some ⟨gx, 0, none⟩) zs.length cx]), (5, 93, .bool ok9), (6, 94, Value.agg #[.int .i64 sS.k, .int .i64 sS.t, .int .i64 sS.a, .int .i64 sS.b, .int .i64 sS.c, .int .i64 sS.d, .int .i64 sS.e]), (7, 95, .bool ok9), (8, 96, .bool true), (9, 97, .bool true), (10, 4, .bool true)] d s) [0, 1, 2, 3, 4, 5, 6, 7, 8, 9, 10] (by kernel_rfl) (by kernel_rfl) (by kernel_rfl) ?_ ?_ ?_
          · intro s
            exact ⟨(St.new V3).drew, Looks.none _ _⟩
          · refine StepsR.cons (k := 0) [] (by kernel_rfl) ?_ (StepsR.cons (k := 1) [0] (by kernel_rfl) ?_ (StepsR.cons (k := 2) [1] (by kernel_rfl) ?_ (StepsR.cons (k := 3) [2] (by kernel_rfl) ?_ (StepsR.cons (k := 4) [3] (by kernel_rfl) ?_ (StepsR.cons (k := 5) [3, 4] (by kernel_rfl) ?_ (StepsR.cons (k := 6) [3] (by kernel_rfl) ?_ (StepsR.cons (k := 7) [3, 6] (by kernel_rfl) ?_ (StepsR.cons (k := 8) [3, 5, 7] (by kernel_rfl) ?_ (StepsR.cons (k := 9) [3, 8] (by kernel_rfl) ?_ (StepsR.cons (k := 10) [9] (by kernel_rfl) ?_ (StepsR.nil)))))))))))
            · intro d s w9 hd hA hC hF K hK
              have hB9 := hF.1.bel
              simp only [putL, putT, List.setIfInBounds_toArray, List.set_cons_zero, List.set_cons_succ]
              clear hB9
              as_aux_lemma =>
                have q0 := (HZ.out.2.1.later hF.1.bel).at 0 _ rfl
                have q1 := (HZ.out.2.1.later hF.1.bel).at 1 _ rfl
                have q2 := (HZ.out.2.1.later hF.1.bel).at 2 _ rfl
                have q3 := (HZ.out.2.1.later hF.1.bel).at 3 _ rfl
                have q4 := (HZ.out.2.1.later hF.1.bel).at 4 _ rfl
                go_simp
                clear q0 q1 q2 q3 q4
                refine hK.out (updS s 88 (Value.agg #[.int .i64 m, .int .i64 n, .int .i64 kk, .int .i64 f, .slice (some ⟨g, off, none⟩) 0 0])) _ _ ?_ ⟨hF.1, hF.2.put 0 88 (Value.agg #[.int .i64 m, .int .i64 n, .int .i64 kk, .int .i64 f, .slice (some ⟨g, off, none⟩) 0 0]) rfl (by simp)⟩
                simp only [putL, putT, List.setIfInBounds_toArray, List.set_cons_zero, List.set_cons_succ]; rfl
            · intro d s w9 hd hA hC hF K hK
              have hB9 := hF.1.bel
              simp only [putL, putT, List.setIfInBounds_toArray, List.set_cons_zero, List.set_cons_succ]
              clear hB9
              as_aux_lemma =>
                have eq0 : s 88 = Value.agg #[.int .i64 m, .int .i64 n, .int .i64 kk, .int .i64 f, .slice (some ⟨g, off, none⟩) 0 0] := hF.2 (0, 88, Value.agg #[.int .i64 m, .int .i64 n, .int .i64 kk, .int .i64 f, .slice (some ⟨g, off, none⟩) 0 0]) (by simp) (hA.1)
                rw [eq0]
                go_simp
                have hc := implMsg_any m n kk f (some ⟨g, off, none⟩) 0 (xs.drop 1) w9 (HZ.out.2.2.2.2.later hF.1.bel) (by have := HW.out.2.2.2; simp; omega) (HM.out.2.2.2.1.later (HZ.out.2.2.2.1.trans (hF.1.bel.mono HZ.out.2.2.2.1.size)))
                rw [← HXR.out] at hc
                refine hc.mono ?_
                rintro r w8 ⟨rfl, b9⟩
                rw [HW.out.1]
                go_simp
                refine hK.out (updS s 89 (.bool false)) _ _ ?_ ⟨St.grow b9 hF.1, hF.2.put 1 89 (.bool false) rfl (by simp)⟩
                simp only [putL, putT, List.setIfInBounds_toArray, List.set_cons_zero, List.set_cons_succ]
                rw [show updS s 89 (.bool false) 88 = Value.agg #[.int .i64 m, .int .i64 n, .int .i64 kk, .int .i64 f, .slice (some ⟨g, off, none⟩) 0 0] from eq0] <;> rfl
            · intro d s w9 hd hA hC hF K hK
              have hB9 := hF.1.bel
              simp only [putL, putT, List.setIfInBounds_toArray, List.set_cons_zero, List.set_cons_succ]
              clear hB9
              as_aux_lemma =>
                have eq1 : s 89 = .bool false := hF.2 (1, 89, .bool false) (by simp) (hA.1)
                rw [eq1]
                go_simp
                refine hK.out (updS s 90 (.bool true)) _ _ ?_ ⟨hF.1, hF.2.put 2 90 (.bool true) rfl (by simp)⟩
                simp only [putL, putT, List.setIfInBounds_toArray, List.set_cons_zero, List.set_cons_succ]; rw [show updS s 90 (.bool true) 89 = .bool false from eq1]; rfl
            · intro d s w9 hd hA hC hF K hK
              have hB9 := hF.1.bel
              simp only [putL, putT, List.setIfInBounds_toArray, List.set_cons_zero, List.set_cons_succ]
              clear hB9
              as_aux_lemma =>
                have eq2 : s 90 = .bool true := hF.2 (2, 90, .bool true) (by simp) (hA.1)
                rw [eq2]
                go_simp
                refine hK.out (updS s 91 (.bool true)) _ _ ?_ ⟨hF.1, hF.2.put 3 91 (.bool true) rfl (by simp)⟩
                simp only [putL, putT, List.setIfInBounds_toArray, List.set_cons_zero, List.set_cons_succ]; rw [show updS s 91 (.bool true) 90 = .bool true from eq2]; rfl
            · intro d s w9 hd hA hC hF K hK
              have hB9 := hF.1.bel
              simp only [putL, putT, List.setIfInBounds_toArray, List.set_cons_zero, List.set_cons_succ]
              clear hB9
              as_aux_lemma =>
                have eq3 : s 91 = .bool true := hF.2 (3, 91, .bool true) (by simp) (hA.1)
                rw [eq3]
                have q0 := (HZ.out.1.later hF.1.bel).at 0 _ rfl
                have q1 := (HZ.out.1.later hF.1.bel).at 1 _ rfl
                have q2 := (HZ.out.1.later hF.1.bel).at 2 _ rfl
                have q3 := (HZ.out.1.later hF.1.bel).at 3 _ rfl
                have q4 := (HZ.out.1.later hF.1.bel).at 4 _ rfl
                go_simp
                clear q0 q1 q2 q3 q4
                refine hK.out (updS s 92 (Value.agg #[.int .i64 m, .int .i64 n, .int .i64 kk, .int .i64 f, .slice (some ⟨gx, 0, none⟩) zs.length cx])) _ _ ?_ ⟨hF.1, hF.2.put 4 92 (Value.agg #[.int .i64 m, .int .i64 n, .int .i64 kk, .int .i64 f, .slice (some ⟨gx, 0, none⟩) zs.length cx]) rfl (by simp)⟩
                simp only [putL, putT, List.setIfInBounds_toArray, List.set_cons_zero, List.set_cons_succ]; rw [show updS s 92 (Value.agg #[.int .i64 m, .int .i64 n, .int .i64 kk, .int .i64 f, .slice (some ⟨gx, 0, none⟩) zs.length cx]) 91 = .bool true from eq3]; rfl
            · intro d s w9 hd hA hC hF K hK
              have hB9 := hF.1.bel
              simp only [putL, putT, List.setIfInBounds_toArray, List.set_cons_zero, List.set_cons_succ]
              clear hB9
              as_aux_lemma =>
                have eq3 : s 91 = .bool true := hF.2 (3, 91, .bool true) (by simp) (hA.1)
                have eq4 : s 92 = Value.agg #[.int .i64 m, .int .i64 n, .int .i64 kk, .int .i64 f, .slice (some ⟨gx, 0, none⟩) zs.length cx] := hF.2 (4, 92, Value.agg #[.int .i64 m, .int .i64 n, .int .i64 kk, .int .i64 f, .slice (some ⟨gx, 0, none⟩) zs.length cx]) (by simp) (hA.2.1)
                rw [eq3, eq4]
                go_simp
                have hc := implMsg_any m n kk f (some ⟨gx, 0, none⟩) cx (zs.set 0 sS) w9 (HZ.out.2.2.1.later hF.1.bel) (by have := HW.out.2.2.1; simp; omega) (HM.out.2.2.2.1.later (HZ.out.2.2.2.1.trans (hF.1.bel.mono HZ.out.2.2.2.1.size)))
                rw [List.length_set] at hc
                refine hc.mono ?_
                rintro r w8 ⟨rfl, b9⟩
                rw [HW.out.2.1]
                go_simp
                refine hK.out (updS s 93 (.bool ok9)) _ _ ?_ ⟨St.grow b9 hF.1, hF.2.put 5 93 (.bool ok9) rfl (by simp)⟩
                simp only [putL, putT, List.setIfInBounds_toArray, List.set_cons_zero, List.set_cons_succ]
                rw [show updS s 93 (.bool ok9) 91 = .bool true from eq3, show updS s 93 (.bool ok9) 92 = Value.agg #[.int .i64 m, .int .i64 n, .int .i64 kk, .int .i64 f, .slice (some ⟨gx, 0, none⟩) zs.length cx] from eq4] <;> rfl
            · intro d s w9 hd hA hC hF K hK
              have hB9 := hF.1.bel
              simp only [putL, putT, List.setIfInBounds_toArray, List.set_cons_zero, List.set_cons_succ]
              clear hB9
              as_aux_lemma =>
                have eq3 : s 91 = .bool true := hF.2 (3, 91, .bool true) (by simp) (hA.1)
                rw [eq3]
                have q0 := (HM.out.2.1.later (HZ.out.2.2.2.1.trans (hF.1.bel.mono HZ.out.2.2.2.1.size))).at 0 _ rfl
                have q1 := (HM.out.2.1.later (HZ.out.2.2.2.1.trans (hF.1.bel.mono HZ.out.2.2.2.1.size))).at 1 _ rfl
                have q2 := (HM.out.2.1.later (HZ.out.2.2.2.1.trans (hF.1.bel.mono HZ.out.2.2.2.1.size))).at 2 _ rfl
                have q3 := (HM.out.2.1.later (HZ.out.2.2.2.1.trans (hF.1.bel.mono HZ.out.2.2.2.1.size))).at 3 _ rfl
                have q4 := (HM.out.2.1.later (HZ.out.2.2.2.1.trans (hF.1.bel.mono HZ.out.2.2.2.1.size))).at 4 _ rfl
                have q5 := (HM.out.2.1.later (HZ.out.2.2.2.1.trans (hF.1.bel.mono HZ.out.2.2.2.1.size))).at 5 _ rfl
                have q6 := (HM.out.2.1.later (HZ.out.2.2.2.1.trans (hF.1.bel.mono HZ.out.2.2.2.1.size))).at 6 _ rfl
                go_simp
                clear q0 q1 q2 q3 q4 q5 q6
                refine hK.out (updS s 94 (Value.agg #[.int .i64 sS.k, .int .i64 sS.t, .int .i64 sS.a, .int .i64 sS.b, .int .i64 sS.c, .int .i64 sS.d, .int .i64 sS.e])) _ _ ?_ ⟨hF.1, hF.2.put 6 94 (Value.agg #[.int .i64 sS.k, .int .i64 sS.t, .int .i64 sS.a, .int .i64 sS.b, .int .i64 sS.c, .int .i64 sS.d, .int .i64 sS.e]) rfl (by simp)⟩
                simp only [putL, putT, List.setIfInBounds_toArray, List.set_cons_zero, List.set_cons_succ]; rw [show updS s 94 (Value.agg #[.int .i64 sS.k, .int .i64 sS.t, .int .i64 sS.a, .int .i64 sS.b, .int .i64 sS.c, .int .i64 sS.d, .int .i64 sS.e]) 91 = .bool true from eq3]; rfl
            · intro d s w9 hd hA hC hF K hK
              have hB9 := hF.1.bel
              simp only [putL, putT, List.setIfInBounds_toArray, List.set_cons_zero, List.set_cons_succ]
              clear hB9
              as_aux_lemma =>
                have eq3 : s 91 = .bool true := hF.2 (3, 91, .bool true) (by simp) (hA.1)
                have eq6 : s 94 = Value.agg #[.int .i64 sS.k, .int .i64 sS.t, .int .i64 sS.a, .int .i64 sS.b, .int .i64 sS.c, .int .i64 sS.d, .int .i64 sS.e] := hF.2 (6, 94, Value.agg #[.int .i64 sS.k, .int .i64 sS.t, .int .i64 sS.a, .int .i64 sS.b, .int .i64 sS.c, .int .i64 sS.d, .int .i64 sS.e]) (by simp) (hA.2.1)
                rw [eq3, eq6]
                go_simp
                refine (implOk_any _ _ _ _ _ _ _ _).mono ?_
                rintro r w8 ⟨rfl, b9⟩
                rw [show okB sS.k sS.t sS.a sS.b sS.c sS.d sS.e = ok9 from HO.out.symm]
                go_simp
                refine hK.out (updS s 95 (.bool ok9)) _ _ ?_ ⟨St.grow b9 hF.1, hF.2.put 7 95 (.bool ok9) rfl (by simp)⟩
                simp only [putL, putT, List.setIfInBounds_toArray, List.set_cons_zero, List.set_cons_succ]
                rw [show updS s 95 (.bool ok9) 91 = .bool true from eq3, show updS s 95 (.bool ok9) 94 = Value.agg #[.int .i64 sS.k, .int .i64 sS.t, .int .i64 sS.a, .int .i64 sS.b, .int .i64 sS.c, .int .i64 sS.d, .int .i64 sS.e] from eq6] <;> rfl
            · intro d s w9 hd hA hC hF K hK
              have hB9 := hF.1.bel
              simp only [putL, putT, List.setIfInBounds_toArray, List.set_cons_zero, List.set_cons_succ]
              clear hB9
              as_aux_lemma =>
                have eq3 : s 91 = .bool true := hF.2 (3, 91, .bool true) (by simp) (hA.1)
                have eq5 : s 93 = .bool ok9 := hF.2 (5, 93, .bool ok9) (by simp) (hA.2.1)
                have eq7 : s 95 = .bool ok9 := hF.2 (7, 95, .bool ok9) (by simp) (hA.2.2.1)
                rw [eq3, eq5, eq7]
                go_simp
                refine hK.out (updS s 96 (.bool true)) _ _ ?_ ⟨hF.1, hF.2.put 8 96 (.bool true) rfl (by simp)⟩
                simp only [putL, putT, List.setIfInBounds_toArray, List.set_cons_zero, List.set_cons_succ]; rw [show updS s 96 (.bool true) 91 = .bool true from eq3, show updS s 96 (.bool true) 93 = .bool ok9 from eq5, show updS s 96 (.bool true) 95 = .bool ok9 from eq7]; rfl
            · intro d s w9 hd hA hC hF K hK
              have hB9 := hF.1.bel
              simp only [putL, putT, List.setIfInBounds_toArray, List.set_cons_zero, List.set_cons_succ]
              clear hB9
              as_aux_lemma =>
                have eq3 : s 91 = .bool true := hF.2 (3, 91, .bool true) (by simp) (hA.1)
                have eq8 : s 96 = .bool true := hF.2 (8, 96, .bool true) (by simp) (hA.2.1)
                rw [eq3, eq8]
                go_simp
                refine hK.out (updS s 97 (.bool true)) _ _ ?_ ⟨hF.1, hF.2.put 9 97 (.bool true) rfl (by simp)⟩
                simp only [putL, putT, List.setIfInBounds_toArray, List.set_cons_zero, List.set_cons_succ]; rw [show updS s 97 (.bool true) 91 = .bool true from eq3, show updS s 97 (.bool true) 96 = .bool true from eq8]; rfl
            · intro d s w9 hd hA hC hF K hK
              have hB9 := hF.1.bel
              simp only [putL, putT, List.setIfInBounds_toArray, List.set_cons_zero, List.set_cons_succ]
              clear hB9
              as_aux_lemma =>
                have eq9 : s 97 = .bool true := hF.2 (9, 97, .bool true) (by simp) (hA.1)
                rw [eq9]
                go_simp
                refine hK.out (updS s 4 (.bool true)) _ _ ?_ ⟨hF.1, hF.2.put 10 4 (.bool true) rfl (by simp)⟩
                simp only [putL, putT, List.setIfInBounds_toArray, List.set_cons_zero, List.set_cons_succ]; rw [show updS s 4 (.bool true) 97 = .bool true from eq9]; rfl
          · intro d s V4 hA hF
            have hS := hF.1
            have eq10 : s 4 = .bool true := hF.2 (10, 4, .bool true) (by simp) (hA.2.2.2.2.2.2.2.2.2.2.1)
            have HS8 : Hid (St V3.heap.size V3 [] [] V4) := hS
            clear hS hF hA 
            simp only [putL, putT, List.setIfInBounds_toArray, List.set_cons_zero, List.set_cons_succ]
            rw [eq10]
            clear eq10
            go_wp2_with fail
            go_ret
            exact ⟨rfl, HM.out.2.2.2.2.trans ((HZ.out.2.2.2.1.trans (HS8.out.bel.mono HZ.out.2.2.2.1.size)).mono HM.out.2.2.2.2.size)⟩
        · have hc2 : ¬ cap - 1 = 0 := by omega
          have HXR : Hid (xs.length - 1 = (xs.drop 1).length) := Hid.mk' (by simp)
          go_wp2_with fail
          clear m0 m1 m2 m3 m4 ml x0 x1 x2 x3 x4 xl sc0 sc1 sc2 sc3 sc4 sc5 sc6 scl
          obtain ⟨V3, hX9, HZ⟩ : ∃ X, X = (((((((V2.setCell ⟨gx, 0, none⟩ (.int .i64 s.k)).setCell ⟨gx, 1, none⟩ (.int .i64 s.t)).setCell ⟨gx, 2, none⟩ (.int .i64 s.a)).setCell ⟨gx, 3, none⟩ (.int .i64 s.b)).setCell ⟨gx, 4, none⟩ (.int .i64 s.c)).setCell ⟨gx, 5, none⟩ (.int .i64 s.d)).setCell ⟨gx, 6, none⟩ (.int .i64 s.e)).alloc (.cells #[.int .i64 m, .int .i64 n, .int .i64 kk, .int .i64 f, .slice (some ⟨g, off + 7, none⟩) (xs.length - 1) (cap - 1)] 25) ∧ Hid (ABlk 25 X w6.heap.size #[.int .i64 m, .int .i64 n, .int .i64 kk, .int .i64 f, .slice (some ⟨gx, 0, none⟩) zs.length cx] ∧ ABlk 25 X V2.heap.size #[.int .i64 m, .int .i64 n, .int .i64 kk, .int .i64 f, .slice (some ⟨g, off + 7, none⟩) (xs.length - 1) (cap - 1)] ∧ SRow X (some ⟨gx, 0, none⟩) (zs.set 0 s) ∧ Below w4.heap.size w4 X ∧ SRow X (some ⟨g, off + 7, none⟩) (xs.drop 1)) := ⟨_, rfl, Hid.mk' (by
            have hb := put7_below (s := s) (o := 0) (HX.out.2.2.2.trans (HS7.out.bel.mono HX.out.2.2.2.size)) hgB
            have hbx := (HX.out.2.1.later HS7.out.bel)
            have k1 : ABlk 25 (put7 V2 gx 0 s) w6.heap.size #[.int .i64 m, .int .i64 n, .int .i64 kk, .int .i64 f, .slice (some ⟨gx, 0, none⟩) zs.length cx] := (put7_heap (type_ne hcv hbx (by decide))).trans hbx
            have k2 := srow_put s (OwnS.rowAt (HX.out.2.2.1.later HS7.out.bel)) hzn
            have k3 : (put7 V2 gx 0 s).heap.size = V2.heap.size := put7_size
            have hzq : SRow ((put7 V2 gx 0 s).alloc (.cells #[.int .i64 m, .int .i64 n, .int .i64 kk, .int .i64 f, .slice (some ⟨g, off + 7, none⟩) (xs.length - 1) (cap - 1)] 25)) (some ⟨g, off + 7, none⟩) (xs.drop 1) := (srow_drop (HM.out.2.2.1.later hb)).later (Below.alloc_ _ _)
            have k4 := ABlk.new (put7 V2 gx 0 s) 25 #[.int .i64 m, .int .i64 n, .int .i64 kk, .int .i64 f, .slice (some ⟨g, off + 7, none⟩) (xs.length - 1) (cap - 1)]
            rw [k3] at k4
            exact ⟨k1.later (Below.alloc_ _ _), k4, k2.later (Below.alloc_ _ _), hb.alloc hb.size _, hzq⟩)⟩
          rw [← hX9]
          clear hX9 HS7
          clear r0 r1 r2 r3 r4 r5 r6 hz0 hcv hcur hgB hgs hgv hgn hgm hzp2 fx0 fx1 fx2 fx3 fx4 fx5 fx6
          obtain ⟨ok9, hok⟩ : ∃ ok9, ok9 = s.ok := ⟨_, rfl⟩
          have HO : Hid (ok9 = s.ok) := hok
          clear hok
          have HW : Hid (msgB m n kk f (xs.drop 1) = false ∧ msgB m n kk f (zs.set 0 s) = ok9 ∧ zs.length ≤ 3 ∧ xs.length ≤ 3) := ⟨(HQ.out.2.2.2 hxn).1, by rw [HX.out.1, HO.out]; exact (HQ.out.2.2.2 hxn).2, by omega, by omega⟩
          clear hxe2 hxe3 hx1 hx4 hcp hcp2 hxn hzn hzp hxe
          obtain ⟨sS, hsS⟩ : ∃ sS, sS = s := ⟨_, rfl⟩
          rw [← hsS] at HM HZ HO HW
          clear HQ hsS
          refine wp_region_walk [4, 88, 89, 90, 91, 92, 93, 94, 95, 96, 97] (fun d s W => St V3.heap.size V3 [] [] W ∧ Looks [(0, 88, Value.agg #[.int .i64 m, .int .i64 n, .int .i64 kk, .int .i64 f, .slice (some ⟨g, off + 7, none⟩) (xs.length - 1) (cap - 1)]), (1, 89, .bool false), (2, 90, .bool true), (3, 91, .bool true), (4, 92, Value.agg #[.int .i64 m, .int .i64 n, .int .i64 kk, .int .i64 f, .slice (some ⟨gx, 0, none⟩) zs.length cx]), (5, 93, .bool ok9), (6, 94, Value.agg #[.int .i64 sS.k, .int .i64 sS.t, .int .i64 sS.a, .int .i64 sS.b, .int .i64 sS.c, .int .i64 sS.d, .int .i64 sS.e]), (7, 95, .bool ok9), (8, 96, .bool true), (9, 97, .bool true), (10, 4, .bool true)] d s) [0, 1, 2, 3, 4, 5, 6, 7, 8, 9, 10] (by kernel_rfl) (by kernel_rfl) (by kernel_rfl) ?_ ?_ ?_
          · intro s
            exact ⟨(St.new V3).drew, Looks.none _ _⟩
          · refine StepsR.cons (k := 0) [] (by kernel_rfl) ?_ (StepsR.cons (k := 1) [0] (by kernel_rfl) ?_ (StepsR.cons (k := 2) [1] (by kernel_rfl) ?_ (StepsR.cons (k := 3) [2] (by kernel_rfl) ?_ (StepsR.cons (k := 4) [3] (by kernel_rfl) ?_ (StepsR.cons (k := 5) [3, 4] (by kernel_rfl) ?_ (StepsR.cons (k := 6) [3] (by kernel_rfl) ?_ (StepsR.cons (k := 7) [3, 6] (by kernel_rfl) ?_ (StepsR.cons (k := 8) [3, 5, 7] (by kernel_rfl) ?_ (StepsR.cons (k := 9) [3, 8] (by kernel_rfl) ?_ (StepsR.cons (k := 10) [9] (by kernel_rfl) ?_ (StepsR.nil)))))))))))
            · intro d s w9 hd hA hC hF K hK
              have hB9 := hF.1.bel
              simp only [putL, putT, List.setIfInBounds_toArray, List.set_cons_zero, List.set_cons_succ]
              clear hB9
              as_aux_lemma =>
                have q0 := (HZ.out.2.1.later hF.1.bel).at 0 _ rfl
                have q1 := (HZ.out.2.1.later hF.1.bel).at 1 _ rfl
                have q2 := (HZ.out.2.1.later hF.1.bel).at 2 _ rfl
                have q3 := (HZ.out.2.1.later hF.1.bel).at 3 _ rfl
                have q4 := (HZ.out.2.1.later hF.1.bel).at 4 _ rfl
                go_simp
                clear q0 q1 q2 q3 q4
                refine hK.out (updS s 88 (Value.agg #[.int .i64 m, .int .i64 n, .int .i64 kk, .int .i64 f, .slice (some ⟨g, off + 7, none⟩) (xs.length - 1) (cap - 1)])) _ _ ?_ ⟨hF.1, hF.2.put 0 88 (Value.agg #[.int .i64 m, .int .i64 n, .int .i64 kk, .int .i64 f, .slice (some ⟨g, off + 7, none⟩) (xs.length - 1) (cap - 1)]) rfl (by simp)⟩
                simp only [putL, putT, List.setIfInBounds_toArray, List.set_cons_zero, List.set_cons_succ]; rfl
            · intro d s w9 hd hA hC hF K hK
              have hB9 := hF.1.bel
              simp only [putL, putT, List.setIfInBounds_toArray, List.set_cons_zero, List.set_cons_succ]
              clear hB9
              as_aux_lemma =>
                have eq0 : s 88 = Value.agg #[.int .i64 m, .int .i64 n, .int .i64 kk, .int .i64 f, .slice (some ⟨g, off + 7, none⟩) (xs.length - 1) (cap - 1)] := hF.2 (0, 88, Value.agg #[.int .i64 m, .int .i64 n, .int .i64 kk, .int .i64 f, .slice (some ⟨g, off + 7, none⟩) (xs.length - 1) (cap - 1)]) (by simp) (hA.1)
                rw [eq0]
                go_simp
                have hc := implMsg_any m n kk f (some ⟨g, off + 7, none⟩) (cap - 1) (xs.drop 1) w9 (HZ.out.2.2.2.2.later hF.1.bel) (by have := HW.out.2.2.2; simp; omega) (HM.out.2.2.2.1.later (HZ.out.2.2.2.1.trans (hF.1.bel.mono HZ.out.2.2.2.1.size)))
                rw [← HXR.out] at hc
                refine hc.mono ?_
                rintro r w8 ⟨rfl, b9⟩
                rw [HW.out.1]
                go_simp
                refine hK.out (updS s 89 (.bool false)) _ _ ?_ ⟨St.grow b9 hF.1, hF.2.put 1 89 (.bool false) rfl (by simp)⟩
                simp only [putL, putT, List.setIfInBounds_toArray, List.set_cons_zero, List.set_cons_succ]
                rw [show updS s 89 (.bool false) 88 = Value.agg #[.int .i64 m, .int .i64 n, .int .i64 kk, .int .i64 f, .slice (some ⟨g, off + 7, none⟩) (xs.length - 1) (cap - 1)] from eq0] <;> rfl
            · intro d s w9 hd hA hC hF K hK
              have hB9 := hF.1.bel
              simp only [putL, putT, List.setIfInBounds_toArray, List.set_cons_zero, List.set_cons_succ]
              clear hB9
              as_aux_lemma =>
                have eq1 : s 89 = .bool false := hF.2 (1, 89, .bool false) (by simp) (hA.1)
                rw [eq1]
                go_simp
                refine hK.out (updS s 90 (.bool true)) _ _ ?_ ⟨hF.1, hF.2.put 2 90 (.bool true) rfl (by simp)⟩
                simp only [putL, putT, List.setIfInBounds_toArray, List.set_cons_zero, List.set_cons_succ]; rw [show updS s 90 (.bool true) 89 = .bool false from eq1]; rfl
            · intro d s w9 hd hA hC hF K hK
              have hB9 := hF.1.bel
              simp only [putL, putT, List.setIfInBounds_toArray, List.set_cons_zero, List.set_cons_succ]
              clear hB9
              as_aux_lemma =>
                have eq2 : s 90 = .bool true := hF.2 (2, 90, .bool true) (by simp) (hA.1)
                rw [eq2]
                go_simp
                refine hK.out (updS s 91 (.bool true)) _ _ ?_ ⟨hF.1, hF.2.put 3 91 (.bool true) rfl (by simp)⟩
                simp only [putL, putT, List.setIfInBounds_toArray, List.set_cons_zero, List.set_cons_succ]; rw [show updS s 91 (.bool true) 90 = .bool true from eq2]; rfl
            · intro d s w9 hd hA hC hF K hK
              have hB9 := hF.1.bel
              simp only [putL, putT, List.setIfInBounds_toArray, List.set_cons_zero, List.set_cons_succ]
              clear hB9
              as_aux_lemma =>
                have eq3 : s 91 = .bool true := hF.2 (3, 91, .bool true) (by simp) (hA.1)
                rw [eq3]
                have q0 := (HZ.out.1.later hF.1.bel).at 0 _ rfl
                have q1 := (HZ.out.1.later hF.1.bel).at 1 _ rfl
                have q2 := (HZ.out.1.later hF.1.bel).at 2 _ rfl
                have q3 := (HZ.out.1.later hF.1.bel).at 3 _ rfl
                have q4 := (HZ.out.1.later hF.1.bel).at 4 _ rfl
                go_simp
                clear q0 q1 q2 q3 q4
                refine hK.out (updS s 92 (Value.agg #[.int .i64 m, .int .i64 n, .int .i64 kk, .int .i64 f, .slice (some ⟨gx, 0, none⟩) zs.length cx])) _ _ ?_ ⟨hF.1, hF.2.put 4 92 (Value.agg #[.int .i64 m, .int .i64 n, .int .i64 kk, .int .i64 f, .slice (some ⟨gx, 0, none⟩) zs.length cx]) rfl (by simp)⟩
                simp only [putL, putT, List.setIfInBounds_toArray, List.set_cons_zero, List.set_cons_succ]; rw [show updS s 92 (Value.agg #[.int .i64 m, .int .i64 n, .int .i64 kk, .int .i64 f, .slice (some ⟨gx, 0, none⟩) zs.length cx]) 91 = .bool true from eq3]; rfl
            · intro d s w9 hd hA hC hF K hK
              have hB9 := hF.1.bel
              simp only [putL, putT, List.setIfInBounds_toArray, List.set_cons_zero, List.set_cons_succ]
              clear hB9
              as_aux_lemma =>
                have eq3 : s 91 = .bool true := hF.2 (3, 91, .bool true) (by simp) (hA.1)
                have eq4 : s 92 = Value.agg #[.int .i64 m, .int .i64 n, .int .i64 kk, .int .i64 f, .slice (some ⟨gx, 0, none⟩) zs.length cx] := hF.2 (4, 92, Value.agg #[.int .i64 m, .int .i64 n, .int .i64 kk, .int .i64 f, .slice (some ⟨gx, 0, none⟩) zs.length cx]) (by simp) (hA.2.1)
                rw [eq3, eq4]
                go_simp
                have hc := implMsg_any m n kk f (some ⟨gx, 0, none⟩) cx (zs.set 0 sS) w9 (HZ.out.2.2.1.later hF.1.bel) (by have := HW.out.2.2.1; simp; omega) (HM.out.2.2.2.1.later (HZ.out.2.2.2.1.trans (hF.1.bel.mono HZ.out.2.2.2.1.size)))
                rw [List.length_set] at hc
                refine hc.mono ?_
                rintro r w8 ⟨rfl, b9⟩
                rw [HW.out.2.1]
                go_simp
                refine hK.out (updS s 93 (.bool ok9)) _ _ ?_ ⟨St.grow b9 hF.1, hF.2.put 5 93 (.bool ok9) rfl (by simp)⟩
                simp only [putL, putT, List.setIfInBounds_toArray, List.set_cons_zero, List.set_cons_succ]
                rw [show updS s 93 (.bool ok9) 91 = .bool true from eq3, show updS s 93 (.bool ok9) 92 = Value.agg #[.int .i64 m, .int .i64 n, .int .i64 kk, .int .i64 f, .slice (some ⟨gx, 0, none⟩) zs.length cx] from eq4] <;> rfl
            · intro d s w9 hd hA hC hF K hK
              have hB9 := hF.1.bel
              simp only [putL, putT, List.setIfInBounds_toArray, List.set_cons_zero, List.set_cons_succ]
              clear hB9
              as_aux_lemma =>
                have eq3 : s 91 = .bool true := hF.2 (3, 91, .bool true) (by simp) (hA.1)
                rw [eq3]
                have q0 := (HM.out.2.1.later (HZ.out.2.2.2.1.trans (hF.1.bel.mono HZ.out.2.2.2.1.size))).at 0 _ rfl
                have q1 := (HM.out.2.1.later (HZ.out.2.2.2.1.trans (hF.1.bel.mono HZ.out.2.2.2.1.size))).at 1 _ rfl
                have q2 := (HM.out.2.1.later (HZ.out.2.2.2.1.trans (hF.1.bel.mono HZ.out.2.2.2.1.size))).at 2 _ rfl
                have q3 := (HM.out.2.1.later (HZ.out.2.2.2.1.trans (hF.1.bel.mono HZ.out.2.2.2.1.size))).at 3 _ rfl
                have q4 := (HM.out.2.1.later (HZ.out.2.2.2.1.trans (hF.1.bel.mono HZ.out.2.2.2.1.size))).at 4 _ rfl
                have q5 := (HM.out.2.1.later (HZ.out.2.2.2.1.trans (hF.1.bel.mono HZ.out.2.2.2.1.size))).at 5 _ rfl
                have q6 := (HM.out.2.1.later (HZ.out.2.2.2.1.trans (hF.1.bel.mono HZ.out.2.2.2.1.size))).at 6 _ rfl
                go_simp
                clear q0 q1 q2 q3 q4 q5 q6
                refine hK.out (updS s 94 (Value.agg #[.int .i64 sS.k, .int .i64 sS.t, .int .i64 sS.a, .int .i64 sS.b, .int .i64 sS.c, .int .i64 sS.d, .int .i64 sS.e])) _ _ ?_ ⟨hF.1, hF.2.put 6 94 (Value.agg #[.int .i64 sS.k, .int .i64 sS.t, .int .i64 sS.a, .int .i64 sS.b, .int .i64 sS.c, .int .i64 sS.d, .int .i64 sS.e]) rfl (by simp)⟩
                simp only [putL, putT, List.setIfInBounds_toArray, List.set_cons_zero, List.set_cons_succ]; rw [show updS s 94 (Value.agg #[.int .i64 sS.k, .int .i64 sS.t, .int .i64 sS.a, .int .i64 sS.b, .int .i64 sS.c, .int .i64 sS.d, .int .i64 sS.e]) 91 = .bool true from eq3]; rfl
            · intro d s w9 hd hA hC hF K hK
              have hB9 := hF.1.bel
              simp only [putL, putT, List.setIfInBounds_toArray, List.set_cons_zero, List.set_cons_succ]
              clear hB9
              as_aux_lemma =>
                have eq3 : s 91 = .bool true := hF.2 (3, 91, .bool true) (by simp) (hA.1)
                have eq6 : s 94 = Value.agg #[.int .i64 sS.k, .int .i64 sS.t, .int .i64 sS.a, .int .i64 sS.b, .int .i64 sS.c, .int .i64 sS.d, .int .i64 sS.e] := hF.2 (6, 94, Value.agg #[.int .i64 sS.k, .int .i64 sS.t, .int .i64 sS.a, .int .i64 sS.b, .int .i64 sS.c, .int .i64 sS.d, .int .i64 sS.e]) (by simp) (hA.2.1)
                rw [eq3, eq6]
                go_simp
                refine (implOk_any _ _ _ _ _ _ _ _).mono ?_
                rintro r w8 ⟨rfl, b9⟩
                rw [show okB sS.k sS.t sS.a sS.b sS.c sS.d sS.e = ok9 from HO.out.symm]
                go_simp
                refine hK.out (updS s 95 (.bool ok9)) _ _ ?_ ⟨St.grow b9 hF.1, hF.2.put 7 95 (.bool ok9) rfl (by simp)⟩
                simp only [putL, putT, List.setIfInBounds_toArray, List.set_cons_zero, List.set_cons_succ]
                rw [show updS s 95 (.bool ok9) 91 = .bool true from eq3, show updS s 95 (.bool ok9) 94 = Value.agg #[.int .i64 sS.k, .int .i64 sS.t, .int .i64 sS.a, .int .i64 sS.b, .int .i64 sS.c, .int .i64 sS.d, .int .i64 sS.e] from eq6] <;> rfl
            · intro d s w9 hd hA hC hF K hK
              have hB9 := hF.1.bel
              simp only [putL, putT, List.setIfInBounds_toArray, List.set_cons_zero, List.set_cons_succ]
              clear hB9
              as_aux_lemma =>
                have eq3 : s 91 = .bool true := hF.2 (3, 91, .bool true) (by simp) (hA.1)
                have eq5 : s 93 = .bool ok9 := hF.2 (5, 93, .bool ok9) (by simp) (hA.2.1)
                have eq7 : s 95 = .bool ok9 := hF.2 (7, 95, .bool ok9) (by simp) (hA.2.2.1)
                rw [eq3, eq5, eq7]
                go_simp
                refine hK.out (updS s 96 (.bool true)) _ _ ?_ ⟨hF.1, hF.2.put 8 96 (.bool true) rfl (by simp)⟩
                simp only [putL, putT, List.setIfInBounds_toArray, List.set_cons_zero, List.set_cons_succ]; rw [show updS s 96 (.bool true) 91 = .bool true from eq3, show updS s 96 (.bool true) 93 = .bool ok9 from eq5, show updS s 96 (.bool true) 95 = .bool ok9 from eq7]; rfl
            · intro d s w9 hd hA hC hF K hK
              have hB9 := hF.1.bel
              simp only [putL, putT, List.setIfInBounds_toArray, List.set_cons_zero, List.set_cons_succ]
              clear hB9
              as_aux_lemma =>
                have eq3 : s 91 = .bool true := hF.2 (3, 91, .bool true) (by simp) (hA.1)
                have eq8 : s 96 = .bool true := hF.2 (8, 96, .bool true) (by simp) (hA.2.1)
                rw [eq3, eq8]
                go_simp
                refine hK.out (updS s 97 (.bool true)) _ _ ?_ ⟨hF.1, hF.2.put 9 97 (.bool true) rfl (by simp)⟩
                simp only [putL, putT, List.setIfInBounds_toArray, List.set_cons_zero, List.set_cons_succ]; rw [show updS s 97 (.bool true) 91 = .bool true from eq3, show updS s 97 (.bool true) 96 = .bool true from eq8]; rfl
            · intro d s w9 hd hA hC hF K hK
              have hB9 := hF.1.bel
              simp only [putL, putT, List.setIfInBounds_toArray, List.set_cons_zero, List.set_cons_succ]
              clear hB9
              as_aux_lemma =>
                have eq9 : s 97 = .bool true := hF.2 (9, 97, .bool true) (by simp) (hA.1)
                rw [eq9]
                go_simp
                refine hK.out (updS s 4 (.bool true)) _ _ ?_ ⟨hF.1, hF.2.put 10 4 (.bool true) rfl (by simp)⟩
                simp only [putL, putT, List.setIfInBounds_toArray, List.set_cons_zero, List.set_cons_succ]; rw [show updS s 4 (.bool true) 97 = .bool true from eq9]; rfl
          · intro d s V4 hA hF
            have hS := hF.1
            have eq10 : s 4 = .bool true := hF.2 (10, 4, .bool true) (by simp) (hA.2.2.2.2.2.2.2.2.2.2.1)
            have HS8 : Hid (St V3.heap.size V3 [] [] V4) := hS
            clear hS hF hA 
            simp only [putL, putT, List.setIfInBounds_toArray, List.set_cons_zero, List.set_cons_succ]
            rw [eq10]
            clear eq10
            go_wp2_with fail
            go_ret
            exact ⟨rfl, HM.out.2.2.2.2.trans ((HZ.out.2.2.2.1.trans (HS8.out.bel.mono HZ.out.2.2.2.1.size)).mono HM.out.2.2.2.2.size)⟩
    · skip
      go_simp
      obtain ⟨Wn1, hX9, HSWn1, HN⟩ : ∃ X, X = W8.alloc (.cells #[.int .i64 s.k, .int .i64 s.t, .int .i64 s.a, .int .i64 s.b, .int .i64 s.c, .int .i64 s.d, .int .i64 s.e] 28) ∧ Hid (St wr.heap.size wr [⟨wr.heap.size, 25, #[.int .i64 m, .int .i64 n, .int .i64 kk, .int .i64 f, .slice a xs.length cap]⟩] [] X) ∧ Hid (SRow X (some ⟨W8.heap.size, 0, none⟩) [s]) := ⟨_, rfl, Hid.mk' (St.lay _ HD.out), Hid.mk' (srow_one _ s)⟩
      rw [← hX9]
      clear hX9 HD
      refine hK.out _ _ (HX.out.2.2.2.trans (HSWn1.out.bel.mono HX.out.2.2.2.size)) (fun hS => ?_)
      clear hK K
      refine wpAnyH_ready (rs := [0]) (by kernel_rfl) (by simp) ?_
      refine AllReadyH.cons rfl (fun K hK => ?_) (AllReadyH.nil)
      go_simp
      have hN : SRow (Wn1.alloc (.cells #[] 28)) (some ⟨W8.heap.size, 0, none⟩) [s] ∧ ¬ W8.heap.size = Wn1.heap.size := ⟨HN.out.later (Below.alloc_ _ _), by have := srow_lt1 HN.out; omega⟩
      clear HN
      obtain ⟨Wn2, hX9, HSWn2⟩ : ∃ X, X = Wn1.alloc (.cells #[] 28) ∧ Hid (St wr.heap.size wr [⟨wr.heap.size, 25, #[.int .i64 m, .int .i64 n, .int .i64 kk, .int .i64 f, .slice a xs.length cap]⟩] [⟨(selT 28), fun W => OwnS W wr.heap.size (.slice (some ⟨Wn1.heap.size, 0, none⟩) 0 0) []⟩] X) := ⟨_, rfl, Hid.mk' (St.add (selT 28) (fun V => OwnS V wr.heap.size (.slice (some ⟨Wn1.heap.size, 0, none⟩) 0 0) []) (keep_owns _ _ _) (OwnS.zero Wn1 HSWn1.out.sz) (St.lay _ HSWn1.out))⟩
      rw [← hX9] at hN ⊢
      have HN : Hid (SRow Wn2 (some ⟨W8.heap.size, 0, none⟩) [s] ∧ ¬ W8.heap.size = Wn1.heap.size) := hN
      clear hN
      clear hX9 HSWn1
      refine hK.out _ _ (HX.out.2.2.2.trans (HSWn2.out.bel.mono HX.out.2.2.2.size)) (fun hS => ?_)
      clear hK K
      refine wpAnyH_ready (rs := [3]) (by kernel_rfl) (by simp) ?_
      refine AllReadyH.cons rfl (fun K hK => ?_) (AllReadyH.nil)
      rw [if_pos (by rfl)]
      have hO := HSWn2.out.of 0 rfl
      refine wp_app_seals _ _ rfl wr.heap.size (.slice (some ⟨Wn1.heap.size, 0, none⟩) 0 0) [] rfl hO a xs cap rfl (HM.out.2.2.1.later (HX.out.2.2.2.trans (HSWn2.out.bel.mono HX.out.2.2.2.size))) (by simp; omega) HSWn2.out.sz ?_
      intro b3 c3 Wn3 o3 g3
      simp only [List.nil_append] at o3 ⊢
      have HSWn3 : Hid (St wr.heap.size wr [⟨wr.heap.size, 25, #[.int .i64 m, .int .i64 n, .int .i64 kk, .int .i64 f, .slice a xs.length cap]⟩] [⟨(selT 28), fun W => OwnS W wr.heap.size (.slice b3 xs.length c3) xs⟩] Wn3) := St.appR HSWn2.out 0 28 (fun b e => ⟨(OwnS.low hO b e).1, own_type hO e⟩) g3 rfl (fun _ => rfl) (selT 28) (fun V => OwnS V wr.heap.size (.slice b3 xs.length c3) xs) (keep_owns _ _ _) o3
      have hN : SRow Wn3 (some ⟨W8.heap.size, 0, none⟩) [s] := srow_grown HN.out.1 g3 (by have := HN.out.2; simp [Value.ownBlock]; omega)
      clear HN
      have HN : Hid (SRow Wn3 (some ⟨W8.heap.size, 0, none⟩) [s]) := hN
      clear hN
      clear hO o3 g3 HSWn2
      refine hK.out _ _ (HX.out.2.2.2.trans (HSWn3.out.bel.mono HX.out.2.2.2.size)) (fun hS => ?_)
      clear hK K
      refine wpAnyH_ready (rs := [6]) (by kernel_rfl) (by simp) ?_
      refine AllReadyH.cons rfl (fun K hK => ?_) (AllReadyH.nil)
      rw [if_pos (by rfl)]
      have hO := HSWn3.out.of 0 rfl
      refine wp_app_seals _ _ rfl wr.heap.size (.slice b3 xs.length c3) xs rfl hO (some ⟨W8.heap.size, 0, none⟩) [s] 1 rfl HN.out (by simp; omega) HSWn3.out.sz ?_
      intro b6 c6 Wn4 o6 g6
      obtain ⟨ys, hys⟩ : ∃ ys, ys = xs ++ [s] := ⟨_, rfl⟩
      rw [← hys] at o6 ⊢
      have HY : Hid (ys = xs ++ [s]) := hys
      clear hys HN
      have HSWn4 : Hid (St wr.heap.size wr [⟨wr.heap.size, 25, #[.int .i64 m, .int .i64 n, .int .i64 kk, .int .i64 f, .slice a xs.length cap]⟩] [⟨(selT 28), fun W => OwnS W wr.heap.size (.slice b6 ys.length c6) ys⟩] Wn4) := St.appR HSWn3.out 0 28 (fun b e => ⟨(OwnS.low hO b e).1, own_type hO e⟩) g6 rfl (fun _ => rfl) (selT 28) (fun V => OwnS V wr.heap.size (.slice b6 ys.length c6) ys) (keep_owns _ _ _) o6
      clear hO o6 g6 HSWn3
      refine hK.out _ _ (HX.out.2.2.2.trans (HSWn4.out.bel.mono HX.out.2.2.2.size)) (fun hS => ?_)
      clear hK K
      refine take1 7 67 (Value.pointer (some ⟨wr.heap.size, 4, none⟩)) rfl rfl (by kernel_rfl) (by kernel_rfl) (by kernel_rfl) (by rfl) (fun _ _ _ h => h) hS (fun w' hS' => ?_) ?_
      · (go_simp) <;> (intro hx9; omega)
      simp only [Act.put, List.setIfInBounds_toArray]
      refine wpAnyH_ready (rs := [8]) (by kernel_rfl) (by simp) ?_
      refine AllReadyH.cons rfl (fun K hK => ?_) (AllReadyH.nil)
      have p0 := HSWn4.out.cell 0 rfl 0 (.int .i64 m) rfl
      have pf0 := HSWn4.out.fro 0 rfl 0
      have p1 := HSWn4.out.cell 0 rfl 1 (.int .i64 n) rfl
      have pf1 := HSWn4.out.fro 0 rfl 1
      have p2 := HSWn4.out.cell 0 rfl 2 (.int .i64 kk) rfl
      have pf2 := HSWn4.out.fro 0 rfl 2
      have p3 := HSWn4.out.cell 0 rfl 3 (.int .i64 f) rfl
      have pf3 := HSWn4.out.fro 0 rfl 3
      have p4 := HSWn4.out.cell 0 rfl 4 (.slice a xs.length cap) rfl
      have pf4 := HSWn4.out.fro 0 rfl 4
      go_simp
      clear p0 pf0 p1 pf1 p2 pf2 p3 pf3 p4 pf4
      obtain ⟨Wn5, hX9, HS5⟩ : ∃ X, X = (Wn4.setCell ⟨wr.heap.size, 4, none⟩ (.slice b6 ys.length c6)) ∧ Hid (St wr.heap.size wr [⟨wr.heap.size, 25, #[.int .i64 m, .int .i64 n, .int .i64 kk, .int .i64 f, .slice b6 ys.length c6]⟩] [⟨(selT 28), fun W => OwnS W wr.heap.size (.slice b6 ys.length c6) ys⟩] X) := ⟨_, rfl, Hid.mk' (by
        have h := (St.set 0 (q := 4) (v := .slice b6 ys.length c6) HSWn4.out rfl rfl)
        try simp only [World.size_alloc] at h
        try simp only [World.size_setCell] at h
        exact h)⟩
      rw [← hX9]
      clear hX9
      clear HSWn4
      refine hK.out _ _ (HX.out.2.2.2.trans (HS5.out.bel.mono HX.out.2.2.2.size)) (fun hS => ?_)
      clear hK K
      refine wpAnyH_done (by kernel_rfl) ?_ _
      clear hS
      have hzl : zs.length ≤ 3 := by rw [HX.out.1]; simp; omega
      have hyl : ys.length ≤ 4 := by rw [HY.out]; simp; omega
      have x0 := (HX.out.2.1.later HS5.out.bel).at 0 _ rfl
      have x1 := (HX.out.2.1.later HS5.out.bel).at 1 _ rfl
      have x2 := (HX.out.2.1.later HS5.out.bel).at 2 _ rfl
      have x3 := (HX.out.2.1.later HS5.out.bel).at 3 _ rfl
      have x4 := (HX.out.2.1.later HS5.out.bel).at 4 _ rfl
      have xl : w6.heap.size < Wn5.heap.size := (HX.out.2.1.later HS5.out.bel).lt
      go_wp2_with fail
      clear x0 x1 x2 x3 x4 xl
      refine (implMsg_any m n kk f bx cx zs _ (OwnS.rowAt (HX.out.2.2.1.later HS5.out.bel)) (by omega) (HM.out.2.2.2.1.later (HX.out.2.2.2.trans (HS5.out.bel.mono HX.out.2.2.2.size)))).mono ?_
      rintro r V1 ⟨rfl, b9⟩
      rw [show msgB m n kk f zs = true by rw [HX.out.1]; exact HQ.out.2.1]
      have HS6 : Hid (St wr.heap.size wr [⟨wr.heap.size, 25, #[.int .i64 m, .int .i64 n, .int .i64 kk, .int .i64 f, .slice b6 ys.length c6]⟩] [⟨(selT 28), fun W => OwnS W wr.heap.size (.slice b6 ys.length c6) ys⟩] V1) := Hid.mk' (by
        have h := St.grow b9 HS5.out
        try simp only [World.size_alloc] at h
        try simp only [World.size_setCell] at h
        exact h)
      clear HS5
      clear b9
      have p0 := HS6.out.cell 0 rfl 0 (.int .i64 m) rfl
      have p1 := HS6.out.cell 0 rfl 1 (.int .i64 n) rfl
      have p2 := HS6.out.cell 0 rfl 2 (.int .i64 kk) rfl
      have p3 := HS6.out.cell 0 rfl 3 (.int .i64 f) rfl
      have p4 := HS6.out.cell 0 rfl 4 (.slice b6 ys.length c6) rfl
      go_wp2_with fail
      clear p0 p1 p2 p3 p4
      refine (implMsg_any m n kk f b6 c6 ys _ (OwnS.rowAt (HS6.out.of 0 rfl)) (by omega) (HM.out.2.2.2.1.later (HX.out.2.2.2.trans (HS6.out.bel.mono HX.out.2.2.2.size)))).mono ?_
      rintro r V2 ⟨rfl, b9⟩
      rw [show msgB m n kk f ys = false by rw [HY.out]; exact HQ.out.2.2.1]
      have HS7 : Hid (St wr.heap.size wr [⟨wr.heap.size, 25, #[.int .i64 m, .int .i64 n, .int .i64 kk, .int .i64 f, .slice b6 ys.length c6]⟩] [⟨(selT 28), fun W => OwnS W wr.heap.size (.slice b6 ys.length c6) ys⟩] V2) := Hid.mk' (by
        have h := St.grow b9 HS6.out
        try simp only [World.size_alloc] at h
        try simp only [World.size_setCell] at h
        exact h)
      clear HS6
      clear b9
      clear HY hyl
      have m0 := (HM.out.1.later (HX.out.2.2.2.trans (HS7.out.bel.mono HX.out.2.2.2.size))).at 0 _ rfl
      have m1 := (HM.out.1.later (HX.out.2.2.2.trans (HS7.out.bel.mono HX.out.2.2.2.size))).at 1 _ rfl
      have m2 := (HM.out.1.later (HX.out.2.2.2.trans (HS7.out.bel.mono HX.out.2.2.2.size))).at 2 _ rfl
      have m3 := (HM.out.1.later (HX.out.2.2.2.trans (HS7.out.bel.mono HX.out.2.2.2.size))).at 3 _ rfl
      have m4 := (HM.out.1.later (HX.out.2.2.2.trans (HS7.out.bel.mono HX.out.2.2.2.size))).at 4 _ rfl
      have ml : w1.heap.size < V2.heap.size := (HM.out.1.later (HX.out.2.2.2.trans (HS7.out.bel.mono HX.out.2.2.2.size))).lt
      by_cases hxe : xs.length = 0
      · have hxe2 : ((xs.length : Int) == 0) = true := by simp [hxe]
        have hxe3 : ((xs.length : Int)) = 0 := by omega
        clear hxe
        go_wp2_with fail
        clear m0 m1 m2 m3 m4 ml
        go_ret
        exact ⟨rfl, HM.out.2.2.2.2.trans ((HX.out.2.2.2.trans (HS7.out.bel.mono HX.out.2.2.2.size)).mono HM.out.2.2.2.2.size)⟩
      have hxe2 : ((xs.length : Int) == 0) = false := by rw [beq_eq_false_iff_ne]; omega
      have hxe3 : ¬ ((xs.length : Int)) = 0 := by omega
      have hxn : xs ≠ [] := fun e => hxe (by rw [e]; rfl)
      obtain ⟨y, hy⟩ : ∃ y, xs[0]? = some y := ⟨xs[0], List.getElem?_eq_getElem (by omega)⟩
      obtain ⟨g, off, ha, hgl, _⟩ := srow_elem HM.out.2.2.1 hy
      subst ha
      clear hy
      have hx1 : (1 : Int) ≤ (xs.length : Int) := by omega
      have hx4 : 1 ≤ xs.length := by omega
      have hcp : xs.length ≤ cap := xc
      have hcp2 : (xs.length : Int) ≤ (cap : Int) := by omega
      have hzn : zs ≠ [] := by rw [HX.out.1]; simpa using hxn
      have hzp : 0 < zs.length := List.length_pos_iff.2 hzn
      obtain ⟨gx, rfl, hgB, hgs, cur, hcur⟩ : ∃ gx, bx = some ⟨gx, 0, none⟩ ∧ w4.heap.size ≤ gx ∧ gx < wr.heap.size ∧ ∃ cur, wr.heap[gx]? = some (.cells cur 28 (0, 0)) := by
        obtain ⟨a9, c9, e9, _, _, h9⟩ := own_row HX.out.2.2.1
        obtain ⟨g9, rfl, hg9⟩ := h9 hzn
        injection e9 with e9 _ _
        subst e9
        obtain ⟨cur, hcur⟩ := own_type HX.out.2.2.1 (g := g9) rfl
        exact ⟨g9, rfl, hg9, (OwnS.low HX.out.2.2.1 g9 rfl).2, cur, hcur⟩
      obtain ⟨z0, hz0⟩ : ∃ z0, zs[0]? = some z0 := ⟨zs[0], List.getElem?_eq_getElem hzp⟩
      obtain ⟨r0, r1, r2, r3, r4, r5, r6⟩ := srow_at (OwnS.rowAt (HX.out.2.2.1.later HS7.out.bel)) hz0
      simp only [Nat.zero_mul, Nat.add_zero, Nat.zero_add] at r0 r1 r2 r3 r4 r5 r6
      have hcv := (HS7.out.bel.block gx hgs).trans hcur
      have fx0 : V2.frozen? ⟨gx, 0, none⟩ = false := by simp [World.frozen?, hcv]
      have fx1 : V2.frozen? ⟨gx, 1, none⟩ = false := by simp [World.frozen?, hcv]
      have fx2 : V2.frozen? ⟨gx, 2, none⟩ = false := by simp [World.frozen?, hcv]
      have fx3 : V2.frozen? ⟨gx, 3, none⟩ = false := by simp [World.frozen?, hcv]
      have fx4 : V2.frozen? ⟨gx, 4, none⟩ = false := by simp [World.frozen?, hcv]
      have fx5 : V2.frozen? ⟨gx, 5, none⟩ = false := by simp [World.frozen?, hcv]
      have fx6 : V2.frozen? ⟨gx, 6, none⟩ = false := by simp [World.frozen?, hcv]
      have hgv : gx < V2.heap.size := Nat.lt_of_lt_of_le hgs HS7.out.bel.size
      have hgn : ¬ V2.heap.size = gx := by omega
      have hgm : ¬ gx = V2.heap.size := by omega
      have hzp2 : (0 : Int) < (zs.length : Int) := by omega
      have x0 := (HX.out.2.1.later HS7.out.bel).at 0 _ rfl
      have x1 := (HX.out.2.1.later HS7.out.bel).at 1 _ rfl
      have x2 := (HX.out.2.1.later HS7.out.bel).at 2 _ rfl
      have x3 := (HX.out.2.1.later HS7.out.bel).at 3 _ rfl
      have x4 := (HX.out.2.1.later HS7.out.bel).at 4 _ rfl
      have xl : w6.heap.size < V2.heap.size := (HX.out.2.1.later HS7.out.bel).lt
      have sc0 := (HM.out.2.1.later (HX.out.2.2.2.trans (HS7.out.bel.mono HX.out.2.2.2.size))).at 0 _ rfl
      have sc1 := (HM.out.2.1.later (HX.out.2.2.2.trans (HS7.out.bel.mono HX.out.2.2.2.size))).at 1 _ rfl
      have sc2 := (HM.out.2.1.later (HX.out.2.2.2.trans (HS7.out.bel.mono HX.out.2.2.2.size))).at 2 _ rfl
      have sc3 := (HM.out.2.1.later (HX.out.2.2.2.trans (HS7.out.bel.mono HX.out.2.2.2.size))).at 3 _ rfl
      have sc4 := (HM.out.2.1.later (HX.out.2.2.2.trans (HS7.out.bel.mono HX.out.2.2.2.size))).at 4 _ rfl
      have sc5 := (HM.out.2.1.later (HX.out.2.2.2.trans (HS7.out.bel.mono HX.out.2.2.2.size))).at 5 _ rfl
      have sc6 := (HM.out.2.1.later (HX.out.2.2.2.trans (HS7.out.bel.mono HX.out.2.2.2.size))).at 6 _ rfl
      have scl : w3.heap.size < V2.heap.size := (HM.out.2.1.later (HX.out.2.2.2.trans (HS7.out.bel.mono HX.out.2.2.2.size))).lt
      by_cases hc1 : cap = 1
      · have hx7 : xs.length = 1 := by omega
        have HXD : Hid (xs.drop 1 = []) := Hid.mk' (List.eq_nil_of_length_eq_zero (by simp; omega))
        have HXR : Hid (0 = (xs.drop 1).length) := Hid.mk' (by rw [HXD.out]; rfl)
        clear hx7
        subst hc1
        go_wp2_with fail
        clear m0 m1 m2 m3 m4 ml x0 x1 x2 x3 x4 xl sc0 sc1 sc2 sc3 sc4 sc5 sc6 scl
        obtain ⟨V3, hX9, HZ⟩ : ∃ X, X = (((((((V2.setCell ⟨gx, 0, none⟩ (.int .i64 s.k)).setCell ⟨gx, 1, none⟩ (.int .i64 s.t)).setCell ⟨gx, 2, none⟩ (.int .i64 s.a)).setCell ⟨gx, 3, none⟩ (.int .i64 s.b)).setCell ⟨gx, 4, none⟩ (.int .i64 s.c)).setCell ⟨gx, 5, none⟩ (.int .i64 s.d)).setCell ⟨gx, 6, none⟩ (.int .i64 s.e)).alloc (.cells #[.int .i64 m, .int .i64 n, .int .i64 kk, .int .i64 f, .slice (some ⟨g, off, none⟩) 0 0] 25) ∧ Hid (ABlk 25 X w6.heap.size #[.int .i64 m, .int .i64 n, .int .i64 kk, .int .i64 f, .slice (some ⟨gx, 0, none⟩) zs.length cx] ∧ ABlk 25 X V2.heap.size #[.int .i64 m, .int .i64 n, .int .i64 kk, .int .i64 f, .slice (some ⟨g, off, none⟩) 0 0] ∧ SRow X (some ⟨gx, 0, none⟩) (zs.set 0 s) ∧ Below w4.heap.size w4 X ∧ SRow X (some ⟨g, off, none⟩) (xs.drop 1)) := ⟨_, rfl, Hid.mk' (by
          have hb := put7_below (s := s) (o := 0) (HX.out.2.2.2.trans (HS7.out.bel.mono HX.out.2.2.2.size)) hgB
          have hbx := (HX.out.2.1.later HS7.out.bel)
          have k1 : ABlk 25 (put7 V2 gx 0 s) w6.heap.size #[.int .i64 m, .int .i64 n, .int .i64 kk, .int .i64 f, .slice (some ⟨gx, 0, none⟩) zs.length cx] := (put7_heap (type_ne hcv hbx (by decide))).trans hbx
          have k2 := srow_put s (OwnS.rowAt (HX.out.2.2.1.later HS7.out.bel)) hzn
          have k3 : (put7 V2 gx 0 s).heap.size = V2.heap.size := put7_size
          have hzq : SRow ((put7 V2 gx 0 s).alloc (.cells #[.int .i64 m, .int .i64 n, .int .i64 kk, .int .i64 f, .slice (some ⟨g, off, none⟩) 0 0] 25)) (some ⟨g, off, none⟩) (xs.drop 1) := Or.inl (HXD.out)
          have k4 := ABlk.new (put7 V2 gx 0 s) 25 #[.int .i64 m, .int .i64 n, .int .i64 kk, .int .i64 f, .slice (some ⟨g, off, none⟩) 0 0]
          rw [k3] at k4
          exact ⟨k1.later (Below.alloc_ _ _), k4, k2.later (Below.alloc_ _ _), hb.alloc hb.size _, hzq⟩)⟩
        rw [← hX9]
        clear hX9 HS7
        clear r0 r1 r2 r3 r4 r5 r6 hz0 hcv hcur hgB hgs hgv hgn hgm hzp2 fx0 fx1 fx2 fx3 fx4 fx5 fx6
        obtain ⟨ok9, hok⟩ : ∃ ok9, ok9 = s.ok := ⟨_, rfl⟩
        have HO : Hid (ok9 = s.ok) := hok
        clear hok
        have HW : Hid (msgB m n kk f (xs.drop 1) = false ∧ msgB m n kk f (zs.set 0 s) = ok9 ∧ zs.length ≤ 3 ∧ xs.length ≤ 3) := ⟨(HQ.out.2.2.2 hxn).1, by rw [HX.out.1, HO.out]; exact (HQ.out.2.2.2 hxn).2, by omega, by omega⟩
        clear hxe2 hxe3 hx1 hx4 hcp hcp2 hxn hzn hzp hxe
        obtain ⟨sS, hsS⟩ : ∃ sS, sS = s := ⟨_, rfl⟩
        rw [← hsS] at HM HZ HO HW
        clear HQ hsS
        refine wp_region_walk [4, 88, 89, 90, 91, 92, 93, 94, 95, 96, 97] (fun d s W => St V3.heap.size V3 [] [] W ∧ Looks [(0, 88, Value.agg #[.int .i64 m, .int .i64 n, .int .i64 kk, .int .i64 f, .slice (some ⟨g, off, none⟩) 0 0]), (1, 89, .bool false), (2, 90, .bool true), (3, 91, .bool true), (4, 92, Value.agg #[.int .i64 m, .int .i64 n, .int .i64 kk, .int .i64 f, .slice (some ⟨gx, 0, none⟩) zs.length cx]), (5, 93, .bool ok9), (6, 94, Value.agg #[.int .i64 sS.k, .int .i64 sS.t, .int .i64 sS.a, .int .i64 sS.b, .int .i64 sS.c, .int .i64 sS.d, .int .i64 sS.e]), (7, 95, .bool ok9), (8, 96, .bool true), (9, 97, .bool true), (10, 4, .bool true)] d s) [0, 1, 2, 3, 4, 5, 6, 7, 8, 9, 10] (by kernel_rfl) (by kernel_rfl) (by kernel_rfl) ?_ ?_ ?_
        · intro s
          exact ⟨(St.new V3).drew, Looks.none _ _⟩
        · refine StepsR.cons (k := 0) [] (by kernel_rfl) ?_ (StepsR.cons (k := 1) [0] (by kernel_rfl) ?_ (StepsR.cons (k := 2) [1] (by kernel_rfl) ?_ (StepsR.cons (k := 3) [2] (by kernel_rfl) ?_ (StepsR.cons (k := 4) [3] (by kernel_rfl) ?_ (StepsR.cons (k := 5) [3, 4] (by kernel_rfl) ?_ (StepsR.cons (k := 6) [3] (by kernel_rfl) ?_ (StepsR.cons (k := 7) [3, 6] (by kernel_rfl) ?_ (StepsR.cons (k := 8) [3, 5, 7] (by kernel_rfl) ?_ (StepsR.cons (k := 9) [3, 8] (by kernel_rfl) ?_ (StepsR.cons (k := 10) [9] (by kernel_rfl) ?_ (StepsR.nil)))))))))))
          · intro d s w9 hd hA hC hF K hK
            have hB9 := hF.1.bel
            simp only [putL, putT, List.setIfInBounds_toArray, List.set_cons_zero, List.set_cons_succ]
            clear hB9
            as_aux_lemma =>
              have q0 := (HZ.out.2.1.later hF.1.bel).at 0 _ rfl
              have q1 := (HZ.out.2.1.later hF.1.bel).at 1 _ rfl
              have q2 := (HZ.out.2.1.later hF.1.bel).at 2 _ rfl
              have q3 := (HZ.out.2.1.later hF.1.bel).at 3 _ rfl
              have q4 := (HZ.out.2.1.later hF.1.bel).at 4 _ rfl
              go_simp
              clear q0 q1 q2 q3 q4
              refine hK.out (updS s 88 (Value.agg #[.int .i64 m, .int .i64 n, .int .i64 kk, .int .i64 f, .slice (some ⟨g, off, none⟩) 0 0])) _ _ ?_ ⟨hF.1, hF.2.put 0 88 (Value.agg #[.int .i64 m, .int .i64 n, .int .i64 kk, .int .i64 f, .slice (some ⟨g, off, none⟩) 0 0]) rfl (by simp)⟩
              simp only [putL, putT, List.setIfInBounds_toArray, List.set_cons_zero, List.set_cons_succ]; rfl
          · intro d s w9 hd hA hC hF K hK
            have hB9 := hF.1.bel
            simp only [putL, putT, List.setIfInBounds_toArray, List.set_cons_zero, List.set_cons_succ]
            clear hB9
            as_aux_lemma =>
              have eq0 : s 88 = Value.agg #[.int .i64 m, .int .i64 n, .int .i64 kk, .int .i64 f, .slice (some ⟨g, off, none⟩) 0 0] := hF.2 (0, 88, Value.agg #[.int .i64 m, .int .i64 n, .int .i64 kk, .int .i64 f, .slice (some ⟨g, off, none⟩) 0 0]) (by simp) (hA.1)
              rw [eq0]
              go_simp
              have hc := implMsg_any m n kk f (some ⟨g, off, none⟩) 0 (xs.drop 1) w9 (HZ.out.2.2.2.2.later hF.1.bel) (by have := HW.out.2.2.2; simp; omega) (HM.out.2.2.2.1.later (HZ.out.2.2.2.1.trans (hF.1.bel.mono HZ.out.2.2.2.1.size)))
              rw [← HXR.out] at hc
              refine hc.mono ?_
              rintro r w8 ⟨rfl, b9⟩
              rw [HW.out.1]
              go_simp
              refine hK.out (updS s 89 (.bool false)) _ _ ?_ ⟨St.grow b9 hF.1, hF.2.put 1 89 (.bool false) rfl (by simp)⟩
              simp only [putL, putT, List.setIfInBounds_toArray, List.set_cons_zero, List.set_cons_succ]
              rw [show updS s 89 (.bool false) 88 = Value.agg #[.int .i64 m, .int .i64 n, .int .i64 kk, .int .i64 f, .slice (some ⟨g, off, none⟩) 0 0] from eq0] <;> rfl
          · intro d s w9 hd hA hC hF K hK
            have hB9 := hF.1.bel
            simp only [putL, putT, List.setIfInBounds_toArray, List.set_cons_zero, List.set_cons_succ]
            clear hB9
            as_aux_lemma =>
              have eq1 : s 89 = .bool false := hF.2 (1, 89, .bool false) (by simp) (hA.1)
              rw [eq1]
              go_simp
              refine hK.out (updS s 90 (.bool true)) _ _ ?_ ⟨hF.1, hF.2.put 2 90 (.bool true) rfl (by simp)⟩
              simp only [putL, putT, List.setIfInBounds_toArray, List.set_cons_zero, List.set_cons_succ]; rw [show updS s 90 (.bool true) 89 = .bool false from eq1]; rfl
          · intro d s w9 hd hA hC hF K hK
            have hB9 := hF.1.bel
            simp only [putL, putT, List.setIfInBounds_toArray, List.set_cons_zero, List.set_cons_succ]
            clear hB9
            as_aux_lemma =>
              have eq2 : s 90 = .bool true := hF.2 (2, 90, .bool true) (by simp) (hA.1)
              rw [eq2]
              go_simp
              refine hK.out (updS s 91 (.bool true)) _ _ ?_ ⟨hF.1, hF.2.put 3 91 (.bool true) rfl (by simp)⟩
              simp only [putL, putT, List.setIfInBounds_toArray, List.set_cons_zero, List.set_cons_succ]; rw [show updS s 91 (.bool true) 90 = .bool true from eq2]; rfl
          · intro d s w9 hd hA hC hF K hK
            have hB9 := hF.1.bel
            simp only [putL, putT, List.setIfInBounds_toArray, List.set_cons_zero, List.set_cons_succ]
            clear hB9
            as_aux_lemma =>
              have eq3 : s 91 = .bool true := hF.2 (3, 91, .bool true) (by simp) (hA.1)
              rw [eq3]
              have q0 := (HZ.out.1.later hF.1.bel).at 0 _ rfl
              have q1 := (HZ.out.1.later hF.1.bel).at 1 _ rfl
              have q2 := (HZ.out.1.later hF.1.bel).at 2 _ rfl
              have q3 := (HZ.out.1.later hF.1.bel).at 3 _ rfl
              have q4 := (HZ.out.1.later hF.1.bel).at 4 _ rfl
              go_simp
              clear q0 q1 q2 q3 q4
              refine hK.out (updS s 92 (Value.agg #[.int .i64 m, .int .i64 n, .int .i64 kk, .int .i64 f, .slice (some ⟨gx, 0, none⟩) zs.length cx])) _ _ ?_ ⟨hF.1, hF.2.put 4 92 (Value.agg #[.int .i64 m, .int .i64 n, .int .i64 kk, .int .i64 f, .slice (some ⟨gx, 0, none⟩) zs.length cx]) rfl (by simp)⟩
              simp only [putL, putT, List.setIfInBounds_toArray, List.set_cons_zero, List.set_cons_succ]; rw [show updS s 92 (Value.agg #[.int .i64 m, .int .i64 n, .int .i64 kk, .int .i64 f, .slice (some ⟨gx, 0, none⟩) zs.length cx]) 91 = .bool true from eq3]; rfl
          · intro d s w9 hd hA hC hF K hK
            have hB9 := hF.1.bel
            simp only [putL, putT, List.setIfInBounds_toArray, List.set_cons_zero, List.set_cons_succ]
            clear hB9
            as_aux_lemma =>
              have eq3 : s 91 = .bool true := hF.2 (3, 91, .bool true) (by simp) (hA.1)
              have eq4 : s 92 = Value.agg #[.int .i64 m, .int .i64 n, .int .i64 kk, .int .i64 f, .slice (some ⟨gx, 0, none⟩) zs.length cx] := hF.2 (4, 92, Value.agg #[.int .i64 m, .int .i64 n, .int .i64 kk, .int .i64 f, .slice (some ⟨gx, 0, none⟩) zs.length cx]) (by simp) (hA.2.1)
              rw [eq3, eq4]
              go_simp
              have hc := implMsg_any m n kk f (some ⟨gx, 0, none⟩) cx (zs.set 0 sS) w9 (HZ.out.2.2.1.later hF.1.bel) (by have := HW.out.2.2.1; simp; omega) (HM.out.2.2.2.1.later (HZ.out.2.2.2.1.trans (hF.1.bel.mono HZ.out.2.2.2.1.size)))
              rw [List.length_set] at hc
              refine hc.mono ?_
              rintro r w8 ⟨rfl, b9⟩
              rw [HW.out.2.1]
              go_simp
              refine hK.out (updS s 93 (.bool ok9)) _ _ ?_ ⟨St.grow b9 hF.1, hF.2.put 5 93 (.bool ok9) rfl (by simp)⟩
              simp only [putL, putT, List.setIfInBounds_toArray, List.set_cons_zero, List.set_cons_succ]
              rw [show updS s 93 (.bool ok9) 91 = .bool true from eq3, show updS s 93 (.bool ok9) 92 = Value.agg #[.int .i64 m, .int .i64 n, .int .i64 kk, .int .i64 f, .slice (some ⟨gx, 0, none⟩) zs.length cx] from eq4] <;> rfl
          · intro d s w9 hd hA hC hF K hK
            have hB9 := hF.1.bel
            simp only [putL, putT, List.setIfInBounds_toArray, List.set_cons_zero, List.set_cons_succ]
            clear hB9
            as_aux_lemma =>
              have eq3 : s 91 = .bool true := hF.2 (3, 91, .bool true) (by simp) (hA.1)
              rw [eq3]
              have q0 := (HM.out.2.1.later (HZ.out.2.2.2.1.trans (hF.1.bel.mono HZ.out.2.2.2.1.size))).at 0 _ rfl
              have q1 := (HM.out.2.1.later (HZ.out.2.2.2.1.trans (hF.1.bel.mono HZ.out.2.2.2.1.size))).at 1 _ rfl
              have q2 := (HM.out.2.1.later (HZ.out.2.2.2.1.trans (hF.1.bel.mono HZ.out.2.2.2.1.size))).at 2 _ rfl
              have q3 := (HM.out.2.1.later (HZ.out.2.2.2.1.trans (hF.1.bel.mono HZ.out.2.2.2.1.size))).at 3 _ rfl
              have q4 := (HM.out.2.1.later (HZ.out.2.2.2.1.trans (hF.1.bel.mono HZ.out.2.2.2.1.size))).at 4 _ rfl
              have q5 := (HM.out.2.1.later (HZ.out.2.2.2.1.trans (hF.1.bel.mono HZ.out.2.2.2.1.size))).at 5 _ rfl
              have q6 := (HM.out.2.1.later (HZ.out.2.2.2.1.trans (hF.1.bel.mono HZ.out.2.2.2.1.size))).at 6 _ rfl
              go_simp
              clear q0 q1 q2 q3 q4 q5 q6
              refine hK.out (updS s 94 (Value.agg #[.int .i64 sS.k, .int .i64 sS.t, .int .i64 sS.a, .int .i64 sS.b, .int .i64 sS.c, .int .i64 sS.d, .int .i64 sS.e])) _ _ ?_ ⟨hF.1, hF.2.put 6 94 (Value.agg #[.int .i64 sS.k, .int .i64 sS.t, .int .i64 sS.a, .int .i64 sS.b, .int .i64 sS.c, .int .i64 sS.d, .int .i64 sS.e]) rfl (by simp)⟩
              simp only [putL, putT, List.setIfInBounds_toArray, List.set_cons_zero, List.set_cons_succ]; rw [show updS s 94 (Value.agg #[.int .i64 sS.k, .int .i64 sS.t, .int .i64 sS.a, .int .i64 sS.b, .int .i64 sS.c, .int .i64 sS.d, .int .i64 sS.e]) 91 = .bool true from eq3]; rfl
          · intro d s w9 hd hA hC hF K hK
            have hB9 := hF.1.bel
            simp only [putL, putT, List.setIfInBounds_toArray, List.set_cons_zero, List.set_cons_succ]
            clear hB9
            as_aux_lemma =>
              have eq3 : s 91 = .bool true := hF.2 (3, 91, .bool true) (by simp) (hA.1)
              have eq6 : s 94 = Value.agg #[.int .i64 sS.k, .int .i64 sS.t, .int .i64 sS.a, .int .i64 sS.b, .int .i64 sS.c, .int .i64 sS.d, .int .i64 sS.e] := hF.2 (6, 94, Value.agg #[.int .i64 sS.k, .int .i64 sS.t, .int .i64 sS.a, .int .i64 sS.b, .int .i64 sS.c, .int .i64 sS.d, .int .i64 sS.e]) (by simp) (hA.2.1)
              rw [eq3, eq6]
              go_simp
              refine (implOk_any _ _ _ _ _ _ _ _).mono ?_
              rintro r w8 ⟨rfl, b9⟩
              rw [show okB sS.k sS.t sS.a sS.b sS.c sS.d sS.e = ok9 from HO.out.symm]
              go_simp
              refine hK.out (updS s 95 (.bool ok9)) _ _ ?_ ⟨St.grow b9 hF.1, hF.2.put 7 95 (.bool ok9) rfl (by simp)⟩
              simp only [putL, putT, List.setIfInBounds_toArray, List.set_cons_zero, List.set_cons_succ]
              rw [show updS s 95 (.bool ok9) 91 = .bool true from eq3, show updS s 95 (.bool ok9) 94 = Value.agg #[.int .i64 sS.k, .int .i64 sS.t, .int .i64 sS.a, .int .i64 sS.b, .int .i64 sS.c, .int .i64 sS.d, .int .i64 sS.e] from eq6] <;> rfl
          · intro d s w9 hd hA hC hF K hK
            have hB9 := hF.1.bel
            simp only [putL, putT, List.setIfInBounds_toArray, List.set_cons_zero, List.set_cons_succ]
            clear hB9
            as_aux_lemma =>
              have eq3 : s 91 = .bool true := hF.2 (3, 91, .bool true) (by simp) (hA.1)
              have eq5 : s 93 = .bool ok9 := hF.2 (5, 93, .bool ok9) (by simp) (hA.2.1)
              have eq7 : s 95 = .bool ok9 := hF.2 (7, 95, .bool ok9) (by simp) (hA.2.2.1)
              rw [eq3, eq5, eq7]
              go_simp
              refine hK.out (updS s 96 (.bool true)) _ _ ?_ ⟨hF.1, hF.2.put 8 96 (.bool true) rfl (by simp)⟩
              simp only [putL, putT, List.setIfInBounds_toArray, List.set_cons_zero, List.set_cons_succ]; rw [show updS s 96 (.bool true) 91 = .bool true from eq3, show updS s 96 (.bool true) 93 = .bool ok9 from eq5, show updS s 96 (.bool true) 95 = .bool ok9 from eq7]; rfl
          · intro d s w9 hd hA hC hF K hK
            have hB9 := hF.1.bel
            simp only [putL, putT, List.setIfInBounds_toArray, List.set_cons_zero, List.set_cons_succ]
            clear hB9
            as_aux_lemma =>
              have eq3 : s 91 = .bool true := hF.2 (3, 91, .bool true) (by simp) (hA.1)
              have eq8 : s 96 = .bool true := hF.2 (8, 96, .bool true) (by simp) (hA.2.1)
              rw [eq3, eq8]
              go_simp
              refine hK.out (updS s 97 (.bool true)) _ _ ?_ ⟨hF.1, hF.2.put 9 97 (.bool true) rfl (by simp)⟩
              simp only [putL, putT, List.setIfInBounds_toArray, List.set_cons_zero, List.set_cons_succ]; rw [show updS s 97 (.bool true) 91 = .bool true from eq3, show updS s 97 (.bool true) 96 = .bool true from eq8]; rfl
          · intro d s w9 hd hA hC hF K hK
            have hB9 := hF.1.bel
            simp only [putL, putT, List.setIfInBounds_toArray, List.set_cons_zero, List.set_cons_succ]
            clear hB9
            as_aux_lemma =>
              have eq9 : s 97 = .bool true := hF.2 (9, 97, .bool true) (by simp) (hA.1)
              rw [eq9]
              go_simp
              refine hK.out (updS s 4 (.bool true)) _ _ ?_ ⟨hF.1, hF.2.put 10 4 (.bool true) rfl (by simp)⟩
              simp only [putL, putT, List.setIfInBounds_toArray, List.set_cons_zero, List.set_cons_succ]; rw [show updS s 4 (.bool true) 97 = .bool true from eq9]; rfl
        · intro d s V4 hA hF
          have hS := hF.1
          have eq10 : s 4 = .bool true := hF.2 (10, 4, .bool true) (by simp) (hA.2.2.2.2.2.2.2.2.2.2.1)
          have HS8 : Hid (St V3.heap.size V3 [] [] V4) := hS
          clear hS hF hA 
          simp only [putL, putT, List.setIfInBounds_toArray, List.set_cons_zero, List.set_cons_succ]
          rw [eq10]
          clear eq10
          go_wp2_with fail
          go_ret
          exact ⟨rfl, HM.out.2.2.2.2.trans ((HZ.out.2.2.2.1.trans (HS8.out.bel.mono HZ.out.2.2.2.1.size)).mono HM.out.2.2.2.2.size)⟩
      · have hc2 : ¬ cap - 1 = 0 := by omega
        have HXR : Hid (xs.length - 1 = (xs.drop 1).length) := Hid.mk' (by simp)
        go_wp2_with fail
        clear m0 m1 m2 m3 m4 ml x0 x1 x2 x3 x4 xl sc0 sc1 sc2 sc3 sc4 sc5 sc6 scl
        obtain ⟨V3, hX9, HZ⟩ : ∃ X, X = (((((((V2.setCell ⟨gx, 0, none⟩ (.int .i64 s.k)).setCell ⟨gx, 1, none⟩ (.int .i64 s.t)).setCell ⟨gx, 2, none⟩ (.int .i64 s.a)).setCell ⟨gx, 3, none⟩ (.int .i64 s.b)).setCell ⟨gx, 4, none⟩ (.int .i64 s.c)).setCell ⟨gx, 5, none⟩ (.int .i64 s.d)).setCell ⟨gx, 6, none⟩ (.int .i64 s.e)).alloc (.cells #[.int .i64 m, .int .i64 n, .int .i64 kk, .int .i64 f, .slice (some ⟨g, off + 7, none⟩) (xs.length - 1) (cap - 1)] 25) ∧ Hid (ABlk 25 X w6.heap.size #[.int .i64 m, .int .i64 n, .int .i64 kk, .int .i64 f, .slice (some ⟨gx, 0, none⟩) zs.length cx] ∧ ABlk 25 X V2.heap.size #[.int .i64 m, .int .i64 n, .int .i64 kk, .int .i64 f, .slice (some ⟨g, off + 7, none⟩) (xs.length - 1) (cap - 1)] ∧ SRow X (some ⟨gx, 0, none⟩) (zs.set 0 s) ∧ Below w4.heap.size w4 X ∧ SRow X (some ⟨g, off + 7, none⟩) (xs.drop 1)) := ⟨_, rfl, Hid.mk' (by
          have hb := put7_below (s := s) (o := 0) (HX.out.2.2.2.trans (HS7.out.bel.mono HX.out.2.2.2.size)) hgB
          have hbx := (HX.out.2.1.later HS7.out.bel)
          have k1 : ABlk 25 (put7 V2 gx 0 s) w6.heap.size #[.int .i64 m, .int .i64 n, .int .i64 kk, .int .i64 f, .slice (some ⟨gx, 0, none⟩) zs.length cx] := (put7_heap (type_ne hcv hbx (by decide))).trans hbx
          have k2 := srow_put s (OwnS.rowAt (HX.out.2.2.1.later HS7.out.bel)) hzn
          have k3 : (put7 V2 gx 0 s).heap.size = V2.heap.size := put7_size
          have hzq : SRow ((put7 V2 gx 0 s).alloc (.cells #[.int .i64 m, .int .i64 n, .int .i64 kk, .int .i64 f, .slice (some ⟨g, off + 7, none⟩) (xs.length - 1) (cap - 1)] 25)) (some ⟨g, off + 7, none⟩) (xs.drop 1) := (srow_drop (HM.out.2.2.1.later hb)).later (Below.alloc_ _ _)
          have k4 := ABlk.new (put7 V2 gx 0 s) 25 #[.int .i64 m, .int .i64 n, .int .i64 kk, .int .i64 f, .slice (some ⟨g, off + 7, none⟩) (xs.length - 1) (cap - 1)]
          rw [k3] at k4
          exact ⟨k1.later (Below.alloc_ _ _), k4, k2.later (Below.alloc_ _ _), hb.alloc hb.size _, hzq⟩)⟩
        rw [← hX9]
        clear hX9 HS7
        clear r0 r1 r2 r3 r4 r5 r6 hz0 hcv hcur hgB hgs hgv hgn hgm hzp2 fx0 fx1 fx2 fx3 fx4 fx5 fx6
        obtain ⟨ok9, hok⟩ : ∃ ok9, ok9 = s.ok := ⟨_, rfl⟩
        have HO : Hid (ok9 = s.ok) := hok
        clear hok
        have HW : Hid (msgB m n kk f (xs.drop 1) = false ∧ msgB m n kk f (zs.set 0 s) = ok9 ∧ zs.length ≤ 3 ∧ xs.length ≤ 3) := ⟨(HQ.out.2.2.2 hxn).1, by rw [HX.out.1, HO.out]; exact (HQ.out.2.2.2 hxn).2, by omega, by omega⟩
        clear hxe2 hxe3 hx1 hx4 hcp hcp2 hxn hzn hzp hxe
        obtain ⟨sS, hsS⟩ : ∃ sS, sS = s := ⟨_, rfl⟩
        rw [← hsS] at HM HZ HO HW
        clear HQ hsS
        refine wp_region_walk [4, 88, 89, 90, 91, 92, 93, 94, 95, 96, 97] (fun d s W => St V3.heap.size V3 [] [] W ∧ Looks [(0, 88, Value.agg #[.int .i64 m, .int .i64 n, .int .i64 kk, .int .i64 f, .slice (some ⟨g, off + 7, none⟩) (xs.length - 1) (cap - 1)]), (1, 89, .bool false), (2, 90, .bool true), (3, 91, .bool true), (4, 92, Value.agg #[.int .i64 m, .int .i64 n, .int .i64 kk, .int .i64 f, .slice (some ⟨gx, 0, none⟩) zs.length cx]), (5, 93, .bool ok9), (6, 94, Value.agg #[.int .i64 sS.k, .int .i64 sS.t, .int .i64 sS.a, .int .i64 sS.b, .int .i64 sS.c, .int .i64 sS.d, .int .i64 sS.e]), (7, 95, .bool ok9), (8, 96, .bool true), (9, 97, .bool true), (10, 4, .bool true)] d s) [0, 1, 2, 3, 4, 5, 6, 7, 8, 9, 10] (by kernel_rfl) (by kernel_rfl) (by kernel_rfl) ?_ ?_ ?_
        · intro s
          exact ⟨(St.new V3).drew, Looks.none _ _⟩
        · refine StepsR.cons (k := 0) [] (by kernel_rfl) ?_ (StepsR.cons (k := 1) [0] (by kernel_rfl) ?_ (StepsR.cons (k := 2) [1] (by kernel_rfl) ?_ (StepsR.cons (k := 3) [2] (by kernel_rfl) ?_ (StepsR.cons (k := 4) [3] (by kernel_rfl) ?_ (StepsR.cons (k := 5) [3, 4] (by kernel_rfl) ?_ (StepsR.cons (k := 6) [3] (by kernel_rfl) ?_ (StepsR.cons (k := 7) [3, 6] (by kernel_rfl) ?_ (StepsR.cons (k := 8) [3, 5, 7] (by kernel_rfl) ?_ (StepsR.cons (k := 9) [3, 8] (by kernel_rfl) ?_ (StepsR.cons (k := 10) [9] (by kernel_rfl) ?_ (StepsR.nil)))))))))))
          · intro d s w9 hd hA hC hF K hK
            have hB9 := hF.1.bel
            simp only [putL, putT, List.setIfInBounds_toArray, List.set_cons_zero, List.set_cons_succ]
            clear hB9
            as_aux_lemma =>
              have q0 := (HZ.out.2.1.later hF.1.bel).at 0 _ rfl
              have q1 := (HZ.out.2.1.later hF.1.bel).at 1 _ rfl
              have q2 := (HZ.out.2.1.later hF.1.bel).at 2 _ rfl
              have q3 := (HZ.out.2.1.later hF.1.bel).at 3 _ rfl
              have q4 := (HZ.out.2.1.later hF.1.bel).at 4 _ rfl
              go_simp
              clear q0 q1 q2 q3 q4
              refine hK.out (updS s 88 (Value.agg #[.int .i64 m, .int .i64 n, .int .i64 kk, .int .i64 f, .slice (some ⟨g, off + 7, none⟩) (xs.length - 1) (cap - 1)])) _ _ ?_ ⟨hF.1, hF.2.put 0 88 (Value.agg #[.int .i64 m, .int .i64 n, .int .i64 kk, .int .i64 f, .slice (some ⟨g, off + 7, none⟩) (xs.length - 1) (cap - 1)]) rfl (by simp)⟩
              simp only [putL, putT, List.setIfInBounds_toArray, List.set_cons_zero, List.set_cons_succ]; rfl
          · intro d s w9 hd hA hC hF K hK
            have hB9 := hF.1.bel
            simp only [putL, putT, List.setIfInBounds_toArray, List.set_cons_zero, List.set_cons_succ]
            clear hB9
            as_aux_lemma =>
              have eq0 : s 88 = Value.agg #[.int .i64 m, .int .i64 n, .int .i64 kk, .int .i64 f, .slice (some ⟨g, off + 7, none⟩) (xs.length - 1) (cap - 1)] := hF.2 (0, 88, Value.agg #[.int .i64 m, .int .i64 n, .int .i64 kk, .int .i64 f, .slice (some ⟨g, off + 7, none⟩) (xs.length - 1) (cap - 1)]) (by simp) (hA.1)
              rw [eq0]
              go_simp
              have hc := implMsg_any m n kk f (some ⟨g, off + 7, none⟩) (cap - 1) (xs.drop 1) w9 (HZ.out.2.2.2.2.later hF.1.bel) (by have := HW.out.2.2.2; simp; omega) (HM.out.2.2.2.1.later (HZ.out.2.2.2.1.trans (hF.1.bel.mono HZ.out.2.2.2.1.size)))
              rw [← HXR.out] at hc
              refine hc.mono ?_
              rintro r w8 ⟨rfl, b9⟩
              rw [HW.out.1]
              go_simp
              refine hK.out (updS s 89 (.bool false)) _ _ ?_ ⟨St.grow b9 hF.1, hF.2.put 1 89 (.bool false) rfl (by simp)⟩
              simp only [putL, putT, List.setIfInBounds_toArray, List.set_cons_zero, List.set_cons_succ]
              rw [show updS s 89 (.bool false) 88 = Value.agg #[.int .i64 m, .int .i64 n, .int .i64 kk, .int .i64 f, .slice (some ⟨g, off + 7, none⟩) (xs.length - 1) (cap - 1)] from eq0] <;> rfl
          · intro d s w9 hd hA hC hF K hK
            have hB9 := hF.1.bel
            simp only [putL, putT, List.setIfInBounds_toArray, List.set_cons_zero, List.set_cons_succ]
            clear hB9
            as_aux_lemma =>
              have eq1 : s 89 = .bool false := hF.2 (1, 89, .bool false) (by simp) (hA.1)
              rw [eq1]
              go_simp
              refine hK.out (updS s 90 (.bool true)) _ _ ?_ ⟨hF.1, hF.2.put 2 90 (.bool true) rfl (by simp)⟩
              simp only [putL, putT, List.setIfInBounds_toArray, List.set_cons_zero, List.set_cons_succ]; rw [show updS s 90 (.bool true) 89 = .bool false from eq1]; rfl
          · intro d s w9 hd hA hC hF K hK
            have hB9 := hF.1.bel
            simp only [putL, putT, List.setIfInBounds_toArray, List.set_cons_zero, List.set_cons_succ]
            clear hB9
            as_aux_lemma =>
              have eq2 : s 90 = .bool true := hF.2 (2, 90, .bool true) (by simp) (hA.1)
              rw [eq2]
              go_simp
              refine hK.out (updS s 91 (.bool true)) _ _ ?_ ⟨hF.1, hF.2.put 3 91 (.bool true) rfl (by simp)⟩
              simp only [putL, putT, List.setIfInBounds_toArray, List.set_cons_zero, List.set_cons_succ]; rw [show updS s 91 (.bool true) 90 = .bool true from eq2]; rfl
          · intro d s w9 hd hA hC hF K hK
            have hB9 := hF.1.bel
            simp only [putL, putT, List.setIfInBounds_toArray, List.set_cons_zero, List.set_cons_succ]
            clear hB9
            as_aux_lemma =>
              have eq3 : s 91 = .bool true := hF.2 (3, 91, .bool true) (by simp) (hA.1)
              rw [eq3]
              have q0 := (HZ.out.1.later hF.1.bel).at 0 _ rfl
              have q1 := (HZ.out.1.later hF.1.bel).at 1 _ rfl
              have q2 := (HZ.out.1.later hF.1.bel).at 2 _ rfl
              have q3 := (HZ.out.1.later hF.1.bel).at 3 _ rfl
              have q4 := (HZ.out.1.later hF.1.bel).at 4 _ rfl
              go_simp
              clear q0 q1 q2 q3 q4
              refine hK.out (updS s 92 (Value.agg #[.int .i64 m, .int .i64 n, .int .i64 kk, .int .i64 f, .slice (some ⟨gx, 0, none⟩) zs.length cx])) _ _ ?_ ⟨hF.1, hF.2.put 4 92 (Value.agg #[.int .i64 m, .int .i64 n, .int .i64 kk, .int .i64 f, .slice (some ⟨gx, 0, none⟩) zs.length cx]) rfl (by simp)⟩
              simp only [putL, putT, List.setIfInBounds_toArray, List.set_cons_zero, List.set_cons_succ]; rw [show updS s 92 (Value.agg #[.int .i64 m, .int .i64 n, .int .i64 kk, .int .i64 f, .slice (some ⟨gx, 0, none⟩) zs.length cx]) 91 = .bool true from eq3]; rfl
          · intro d s w9 hd hA hC hF K hK
            have hB9 := hF.1.bel
            simp only [putL, putT, List.setIfInBounds_toArray, List.set_cons_zero, List.set_cons_succ]
            clear hB9
            as_aux_lemma =>
              have eq3 : s 91 = .bool true := hF.2 (3, 91, .bool true) (by simp) (hA.1)
              have eq4 : s 92 = Value.agg #[.int .i64 m, .int .i64 n, .int .i64 kk, .int .i64 f, .slice (some ⟨gx, 0, none⟩) zs.length cx] := hF.2 (4, 92, Value.agg #[.int .i64 m, .int .i64 n, .int .i64 kk, .int .i64 f, .slice (some ⟨gx, 0, none⟩) zs.length cx]) (by simp) (hA.2.1)
              rw [eq3, eq4]
              go_simp
              have hc := implMsg_any m n kk f (some ⟨gx, 0, none⟩) cx (zs.set 0 sS) w9 (HZ.out.2.2.1.later hF.1.bel) (by have := HW.out.2.2.1; simp; omega) (HM.out.2.2.2.1.later (HZ.out.2.2.2.1.trans (hF.1.bel.mono HZ.out.2.2.2.1.size)))
              rw [List.length_set] at hc
              refine hc.mono ?_
              rintro r w8 ⟨rfl, b9⟩
              rw [HW.out.2.1]
              go_simp
              refine hK.out (updS s 93 (.bool ok9)) _ _ ?_ ⟨St.grow b9 hF.1, hF.2.put 5 93 (.bool ok9) rfl (by simp)⟩
              simp only [putL, putT, List.setIfInBounds_toArray, List.set_cons_zero, List.set_cons_succ]
              rw [show updS s 93 (.bool ok9) 91 = .bool true from eq3, show updS s 93 (.bool ok9) 92 = Value.agg #[.int .i64 m, .int .i64 n, .int .i64 kk, .int .i64 f, .slice (some ⟨gx, 0, none⟩) zs.length cx] from eq4] <;> rfl
          · intro d s w9 hd hA hC hF K hK
            have hB9 := hF.1.bel
            simp only [putL, putT, List.setIfInBounds_toArray, List.set_cons_zero, List.set_cons_succ]
            clear hB9
            as_aux_lemma =>
              have eq3 : s 91 = .bool true := hF.2 (3, 91, .bool true) (by simp) (hA.1)
              rw [eq3]
              have q0 := (HM.out.2.1.later (HZ.out.2.2.2.1.trans (hF.1.bel.mono HZ.out.2.2.2.1.size))).at 0 _ rfl
              have q1 := (HM.out.2.1.later (HZ.out.2.2.2.1.trans (hF.1.bel.mono HZ.out.2.2.2.1.size))).at 1 _ rfl
              have q2 := (HM.out.2.1.later (HZ.out.2.2.2.1.trans (hF.1.bel.mono HZ.out.2.2.2.1.size))).at 2 _ rfl
              have q3 := (HM.out.2.1.later (HZ.out.2.2.2.1.trans (hF.1.bel.mono HZ.out.2.2.2.1.size))).at 3 _ rfl
              have q4 := (HM.out.2.1.later (HZ.out.2.2.2.1.trans (hF.1.bel.mono HZ.out.2.2.2.1.size))).at 4 _ rfl
              have q5 := (HM.out.2.1.later (HZ.out.2.2.2.1.trans (hF.1.bel.mono HZ.out.2.2.2.1.size))).at 5 _ rfl
              have q6 := (HM.out.2.1.later (HZ.out.2.2.2.1.trans (hF.1.bel.mono HZ.out.2.2.2.1.size))).at 6 _ rfl
              go_simp
              clear q0 q1 q2 q3 q4 q5 q6
              refine hK.out (updS s 94 (Value.agg #[.int .i64 sS.k, .int .i64 sS.t, .int .i64 sS.a, .int .i64 sS.b, .int .i64 sS.c, .int .i64 sS.d, .int .i64 sS.e])) _ _ ?_ ⟨hF.1, hF.2.put 6 94 (Value.agg #[.int .i64 sS.k, .int .i64 sS.t, .int .i64 sS.a, .int .i64 sS.b, .int .i64 sS.c, .int .i64 sS.d, .int .i64 sS.e]) rfl (by simp)⟩
              simp only [putL, putT, List.setIfInBounds_toArray, List.set_cons_zero, List.set_cons_succ]; rw [show updS s 94 (Value.agg #[.int .i64 sS.k, .int .i64 sS.t, .int .i64 sS.a, .int .i64 sS.b, .int .i64 sS.c, .int .i64 sS.d, .int .i64 sS.e]) 91 = .bool true from eq3]; rfl
          · intro d s w9 hd hA hC hF K hK
            have hB9 := hF.1.bel
            simp only [putL, putT, List.setIfInBounds_toArray, List.set_cons_zero, List.set_cons_succ]
            clear hB9
            as_aux_lemma =>
              have eq3 : s 91 = .bool true := hF.2 (3, 91, .bool true) (by simp) (hA.1)
              have eq6 : s 94 = Value.agg #[.int .i64 sS.k, .int .i64 sS.t, .int .i64 sS.a, .int .i64 sS.b, .int .i64 sS.c, .int .i64 sS.d, .int .i64 sS.e] := hF.2 (6, 94, Value.agg #[.int .i64 sS.k, .int .i64 sS.t, .int .i64 sS.a, .int .i64 sS.b, .int .i64 sS.c, .int .i64 sS.d, .int .i64 sS.e]) (by simp) (hA.2.1)
              rw [eq3, eq6]
              go_simp
              refine (implOk_any _ _ _ _ _ _ _ _).mono ?_
              rintro r w8 ⟨rfl, b9⟩
              rw [show okB sS.k sS.t sS.a sS.b sS.c sS.d sS.e = ok9 from HO.out.symm]
              go_simp
              refine hK.out (updS s 95 (.bool ok9)) _ _ ?_ ⟨St.grow b9 hF.1, hF.2.put 7 95 (.bool ok9) rfl (by simp)⟩
              simp only [putL, putT, List.setIfInBounds_toArray, List.set_cons_zero, List.set_cons_succ]
              rw [show updS s 95 (.bool ok9) 91 = .bool true from eq3, show updS s 95 (.bool ok9) 94 = Value.agg #[.int .i64 sS.k, .int .i64 sS.t, .int .i64 sS.a, .int .i64 sS.b, .int .i64 sS.c, .int .i64 sS.d, .int .i64 sS.e] from eq6] <;> rfl
          · intro d s w9 hd hA hC hF K hK
            have hB9 := hF.1.bel
            simp only [putL, putT, List.setIfInBounds_toArray, List.set_cons_zero, List.set_cons_succ]
            clear hB9
            as_aux_lemma =>
              have eq3 : s 91 = .bool true := hF.2 (3, 91, .bool true) (by simp) (hA.1)
              have eq5 : s 93 = .bool ok9 := hF.2 (5, 93, .bool ok9) (by simp) (hA.2.1)
              have eq7 : s 95 = .bool ok9 := hF.2 (7, 95, .bool ok9) (by simp) (hA.2.2.1)
              rw [eq3, eq5, eq7]
              go_simp
              refine hK.out (updS s 96 (.bool true)) _ _ ?_ ⟨hF.1, hF.2.put 8 96 (.bool true) rfl (by simp)⟩
              simp only [putL, putT, List.setIfInBounds_toArray, List.set_cons_zero, List.set_cons_succ]; rw [show updS s 96 (.bool true) 91 = .bool true from eq3, show updS s 96 (.bool true) 93 = .bool ok9 from eq5, show updS s 96 (.bool true) 95 = .bool ok9 from eq7]; rfl
          · intro d s w9 hd hA hC hF K hK
            have hB9 := hF.1.bel
            simp only [putL, putT, List.setIfInBounds_toArray, List.set_cons_zero, List.set_cons_succ]
            clear hB9
            as_aux_lemma =>
              have eq3 : s 91 = .bool true := hF.2 (3, 91, .bool true) (by simp) (hA.1)
              have eq8 : s 96 = .bool true := hF.2 (8, 96, .bool true) (by simp) (hA.2.1)
              rw [eq3, eq8]
              go_simp
              refine hK.out (updS s 97 (.bool true)) _ _ ?_ ⟨hF.1, hF.2.put 9 97 (.bool true) rfl (by simp)⟩
              simp only [putL, putT, List.setIfInBounds_toArray, List.set_cons_zero, List.set_cons_succ]; rw [show updS s 97 (.bool true) 91 = .bool true from eq3, show updS s 97 (.bool true) 96 = .bool true from eq8]; rfl
          · intro d s w9 hd hA hC hF K hK
            have hB9 := hF.1.bel
            simp only [putL, putT, List.setIfInBounds_toArray, List.set_cons_zero, List.set_cons_succ]
            clear hB9
            as_aux_lemma =>
              have eq9 : s 97 = .bool true := hF.2 (9, 97, .bool true) (by simp) (hA.1)
              rw [eq9]
              go_simp
              refine hK.out (updS s 4 (.bool true)) _ _ ?_ ⟨hF.1, hF.2.put 10 4 (.bool true) rfl (by simp)⟩
              simp only [putL, putT, List.setIfInBounds_toArray, List.set_cons_zero, List.set_cons_succ]; rw [show updS s 4 (.bool true) 97 = .bool true from eq9]; rfl
        · intro d s V4 hA hF
          have hS := hF.1
          have eq10 : s 4 = .bool true := hF.2 (10, 4, .bool true) (by simp) (hA.2.2.2.2.2.2.2.2.2.2.1)
          have HS8 : Hid (St V3.heap.size V3 [] [] V4) := hS
          clear hS hF hA 
          simp only [putL, putT, List.setIfInBounds_toArray, List.set_cons_zero, List.set_cons_succ]
          rw [eq10]
          clear eq10
          go_wp2_with fail
          go_ret
          exact ⟨rfl, HM.out.2.2.2.2.trans ((HZ.out.2.2.2.1.trans (HS8.out.bel.mono HZ.out.2.2.2.1.size)).mono HM.out.2.2.2.2.size)⟩

end Go.Proofs.YtimmfabaogeanaaDoor
