/-
  A service that hears that somebody calls: what the specification answers.
-/
import Derived.Test.YtghajmfjekfdpaaDoorSvHearS
import Derived.Test.YtghajmfjekfdpaaDoorSvFallS
namespace Go.Proofs.YtghajmfjekfdpaaDoor
open Go.RowKit
attribute [local go_sem ↓] Go.wp_at_zero Go.wp_at_succ

theorem servB_auth {i s : Int} {xs : List Sl} {ts : List Ca} (h : servB i s xs ts = true) : ∀ u ∈ xs, u.auth = true := by
  unfold servB at h
  simp only [Bool.and_eq_true] at h
  exact cacheB_auth h.1.2

set_option maxHeartbeats 8000000 in
set_option maxRecDepth 100000 in
theorem specServHear_any (i s9 : Int) (a1 a2 : Option Addr) (c1 c2 : Nat) (xs : List Sl) (ts : List Ca) (m cl sv nc : Int) (g2 : Nat) (cap : Nat) (ys : List Sl) (now : Int) (w : World) (h1 : SRow w a1 xs) (h2 : NRow celC w a2 ts) (h : SRow w (some ⟨g2, 0, none⟩) ys) (hc : xs.length ≤ c1) (hx : xs.length ≤ 1048576) (ht : ts.length ≤ 1048576) (hy : ys.length ≤ 1048576) :
    Calls Tryd.prog 18 #[.agg #[.int .i64 i, .int .i64 s9, .slice a1 xs.length c1, .slice a2 ts.length c2], .agg #[.int .i64 m, .int .i64 cl, .int .i64 sv, .int .i64 nc, .slice (some ⟨g2, 0, none⟩) ys.length cap], .int .i64 now] w fun r w' => HAns w.heap.size w' (hearA i s9 xs ts m cl sv nc ys now) r ∧ Below w.heap.size w w' := by
  have HH : Hid (SRow w a1 xs ∧ NRow celC w a2 ts ∧ SRow w (some ⟨g2, 0, none⟩) ys ∧ (ys ≠ [] → g2 < w.heap.size)) := ⟨h1, h2, h, fun he => srow_lt h (List.length_pos_iff.2 he)⟩
  clear h1 h2 h
  go_enter Tryd.func18, Tryd.ntmps18
  go_wp2_with fail
  obtain ⟨w1, hX9, HS1⟩ : ∃ X, X = ((((w.alloc (.cells #[.int .i64 i, .int .i64 s9, .slice a1 xs.length c1, .slice a2 ts.length c2] 49)).alloc (.cells #[.int .i64 m, .int .i64 cl, .int .i64 sv, .int .i64 nc, .slice (some ⟨g2, 0, none⟩) ys.length cap] 33)).alloc (.cells #[.int .i64 0, .int .i64 0, .slice none 0 0, .slice none 0 0] 49)).alloc (.cells #[.int .i64 0, .int .i64 0, .int .i64 0, .int .i64 0, .slice none 0 0] 33)) ∧ Hid (St w.heap.size w [⟨w.heap.size, 49, #[.int .i64 i, .int .i64 s9, .slice a1 xs.length c1, .slice a2 ts.length c2]⟩, ⟨w.heap.size + 1, 33, #[.int .i64 m, .int .i64 cl, .int .i64 sv, .int .i64 nc, .slice (some ⟨g2, 0, none⟩) ys.length cap]⟩, ⟨w.heap.size + 1 + 1, 49, #[.int .i64 0, .int .i64 0, .slice none 0 0, .slice none 0 0]⟩, ⟨w.heap.size + 1 + 1 + 1, 33, #[.int .i64 0, .int .i64 0, .int .i64 0, .int .i64 0, .slice none 0 0]⟩] [] X) := ⟨_, rfl, Hid.mk' (by
    have h := (St.alloc #[.int .i64 0, .int .i64 0, .int .i64 0, .int .i64 0, .slice none 0 0] 33 (St.alloc #[.int .i64 0, .int .i64 0, .slice none 0 0, .slice none 0 0] 49 (St.alloc #[.int .i64 m, .int .i64 cl, .int .i64 sv, .int .i64 nc, .slice (some ⟨g2, 0, none⟩) ys.length cap] 33 (St.alloc #[.int .i64 i, .int .i64 s9, .slice a1 xs.length c1, .slice a2 ts.length c2] 49 (St.new w)))))
    try simp only [World.size_alloc] at h
    try simp only [World.size_setCell] at h
    exact h)⟩
  rw [← hX9]
  clear hX9
  refine (specServOk_any i s9 _ _ _ _ xs ts _ (HH.out.1.later HS1.out.bel) (HH.out.2.1.later HS1.out.bel) hc (by omega) ht).mono ?_
  rintro r w2 ⟨rfl, b9⟩
  have HS2 : Hid (St w.heap.size w [⟨w.heap.size, 49, #[.int .i64 i, .int .i64 s9, .slice a1 xs.length c1, .slice a2 ts.length c2]⟩, ⟨w.heap.size + 1, 33, #[.int .i64 m, .int .i64 cl, .int .i64 sv, .int .i64 nc, .slice (some ⟨g2, 0, none⟩) ys.length cap]⟩, ⟨w.heap.size + 1 + 1, 49, #[.int .i64 0, .int .i64 0, .slice none 0 0, .slice none 0 0]⟩, ⟨w.heap.size + 1 + 1 + 1, 33, #[.int .i64 0, .int .i64 0, .int .i64 0, .int .i64 0, .slice none 0 0]⟩] [] w2) := Hid.mk' (by
    have h := St.grow b9 HS1.out
    try simp only [World.size_alloc] at h
    try simp only [World.size_setCell] at h
    exact h)
  clear HS1
  clear b9
  cases u1 : servB i s9 xs ts
  · skip
    have EA : Hid (hearA i s9 xs ts m cl sv nc ys now = noH) := Hid.mk' (by unfold hearA; rw [if_neg (by rw [u1]; simp)])
    have lt2 : w.heap.size + 1 + 1 < w2.heap.size := (HS2.out.lt 2 rfl).2
    have lt3 : w.heap.size + 1 + 1 + 1 < w2.heap.size := (HS2.out.lt 3 rfl).2
    have z0 := HS2.out.cell 2 rfl 0 (.int .i64 0) rfl
    have zf0 := HS2.out.fro 2 rfl 0
    have z1 := HS2.out.cell 2 rfl 1 (.int .i64 0) rfl
    have zf1 := HS2.out.fro 2 rfl 1
    have z2 := HS2.out.cell 2 rfl 2 (.slice none 0 0) rfl
    have zf2 := HS2.out.fro 2 rfl 2
    have z3 := HS2.out.cell 2 rfl 3 (.slice none 0 0) rfl
    have zf3 := HS2.out.fro 2 rfl 3
    have y0 := HS2.out.cell 3 rfl 0 (.int .i64 0) rfl
    have yf0 := HS2.out.fro 3 rfl 0
    have y1 := HS2.out.cell 3 rfl 1 (.int .i64 0) rfl
    have yf1 := HS2.out.fro 3 rfl 1
    have y2 := HS2.out.cell 3 rfl 2 (.int .i64 0) rfl
    have yf2 := HS2.out.fro 3 rfl 2
    have y3 := HS2.out.cell 3 rfl 3 (.int .i64 0) rfl
    have yf3 := HS2.out.fro 3 rfl 3
    have y4 := HS2.out.cell 3 rfl 4 (.slice none 0 0) rfl
    have yf4 := HS2.out.fro 3 rfl 4
    go_wp2_with fail
    clear lt2 lt3 z0 zf0 z1 zf1 z2 zf2 z3 zf3 y0 yf0 y1 yf1 y2 yf2 y3 yf3 y4 yf4
    obtain ⟨V, hX9, HS3⟩ : ∃ X, X = (((((((((w2.setCell ⟨w.heap.size + 1 + 1, 0, none⟩ (.int .i64 0)).setCell ⟨w.heap.size + 1 + 1, 1, none⟩ (.int .i64 0)).setCell ⟨w.heap.size + 1 + 1, 2, none⟩ (.slice none 0 0)).setCell ⟨w.heap.size + 1 + 1, 3, none⟩ (.slice none 0 0)).setCell ⟨w.heap.size + 1 + 1 + 1, 0, none⟩ (.int .i64 0)).setCell ⟨w.heap.size + 1 + 1 + 1, 1, none⟩ (.int .i64 0)).setCell ⟨w.heap.size + 1 + 1 + 1, 2, none⟩ (.int .i64 0)).setCell ⟨w.heap.size + 1 + 1 + 1, 3, none⟩ (.int .i64 0)).setCell ⟨w.heap.size + 1 + 1 + 1, 4, none⟩ (.slice none 0 0)) ∧ Hid (St w.heap.size w [⟨w.heap.size, 49, #[.int .i64 i, .int .i64 s9, .slice a1 xs.length c1, .slice a2 ts.length c2]⟩, ⟨w.heap.size + 1, 33, #[.int .i64 m, .int .i64 cl, .int .i64 sv, .int .i64 nc, .slice (some ⟨g2, 0, none⟩) ys.length cap]⟩, ⟨w.heap.size + 1 + 1, 49, #[.int .i64 0, .int .i64 0, .slice none 0 0, .slice none 0 0]⟩, ⟨w.heap.size + 1 + 1 + 1, 33, #[.int .i64 0, .int .i64 0, .int .i64 0, .int .i64 0, .slice none 0 0]⟩] [] X) := ⟨_, rfl, Hid.mk' (by
      have h := (St.put5 3 (St.put4 2 HS2.out rfl rfl (.int .i64 0) (.int .i64 0) (.slice none 0 0) (.slice none 0 0)) rfl rfl (.int .i64 0) (.int .i64 0) (.int .i64 0) (.int .i64 0) (.slice none 0 0))
      try simp only [World.size_alloc] at h
      try simp only [World.size_setCell] at h
      exact h)⟩
    rw [← hX9]
    clear hX9
    clear HS2
    have y0 := HS3.out.cell 2 rfl 0 (.int .i64 0) rfl
    have y1 := HS3.out.cell 2 rfl 1 (.int .i64 0) rfl
    have y2 := HS3.out.cell 2 rfl 2 (.slice none 0 0) rfl
    have y3 := HS3.out.cell 2 rfl 3 (.slice none 0 0) rfl
    have z0 := HS3.out.cell 3 rfl 0 (.int .i64 0) rfl
    have z1 := HS3.out.cell 3 rfl 1 (.int .i64 0) rfl
    have z2 := HS3.out.cell 3 rfl 2 (.int .i64 0) rfl
    have z3 := HS3.out.cell 3 rfl 3 (.int .i64 0) rfl
    have z4 := HS3.out.cell 3 rfl 4 (.slice none 0 0) rfl
    refine bodyPost_ret (v := .tuple #[.agg #[.int .i64 0, .int .i64 0, .slice none 0 0, .slice none 0 0], .agg #[.int .i64 0, .int .i64 0, .int .i64 0, .int .i64 0, .slice none 0 0], .bool false]) (by simp [results, Tryd.results18, go_sem, *]) rfl ?_
    rw [EA.out]
    exact ⟨⟨none, 0, none, 0, none, 0, w.heap.size, rfl, OwnS.nil _ _, OwnN.zero _ _ _ _, OwnS.nil _ _, Nat.le_refl _, fun k hk => by cases hk⟩, HS3.out.bel⟩
  go_wp2_with fail
  refine (l1Time_any now _).mono ?_
  rintro r w9 ⟨rfl, he9⟩
  obtain rfl : w2 = w9 := he9.symm
  cases u2 : inB now 0 100
  · skip
    have EA : Hid (hearA i s9 xs ts m cl sv nc ys now = noH) := Hid.mk' (by unfold hearA; rw [if_neg (by rw [u1, u2]; simp)])
    have lt2 : w.heap.size + 1 + 1 < w2.heap.size := (HS2.out.lt 2 rfl).2
    have lt3 : w.heap.size + 1 + 1 + 1 < w2.heap.size := (HS2.out.lt 3 rfl).2
    have z0 := HS2.out.cell 2 rfl 0 (.int .i64 0) rfl
    have zf0 := HS2.out.fro 2 rfl 0
    have z1 := HS2.out.cell 2 rfl 1 (.int .i64 0) rfl
    have zf1 := HS2.out.fro 2 rfl 1
    have z2 := HS2.out.cell 2 rfl 2 (.slice none 0 0) rfl
    have zf2 := HS2.out.fro 2 rfl 2
    have z3 := HS2.out.cell 2 rfl 3 (.slice none 0 0) rfl
    have zf3 := HS2.out.fro 2 rfl 3
    have y0 := HS2.out.cell 3 rfl 0 (.int .i64 0) rfl
    have yf0 := HS2.out.fro 3 rfl 0
    have y1 := HS2.out.cell 3 rfl 1 (.int .i64 0) rfl
    have yf1 := HS2.out.fro 3 rfl 1
    have y2 := HS2.out.cell 3 rfl 2 (.int .i64 0) rfl
    have yf2 := HS2.out.fro 3 rfl 2
    have y3 := HS2.out.cell 3 rfl 3 (.int .i64 0) rfl
    have yf3 := HS2.out.fro 3 rfl 3
    have y4 := HS2.out.cell 3 rfl 4 (.slice none 0 0) rfl
    have yf4 := HS2.out.fro 3 rfl 4
    go_wp2_with fail
    clear lt2 lt3 z0 zf0 z1 zf1 z2 zf2 z3 zf3 y0 yf0 y1 yf1 y2 yf2 y3 yf3 y4 yf4
    obtain ⟨V, hX9, HS3⟩ : ∃ X, X = (((((((((w2.setCell ⟨w.heap.size + 1 + 1, 0, none⟩ (.int .i64 0)).setCell ⟨w.heap.size + 1 + 1, 1, none⟩ (.int .i64 0)).setCell ⟨w.heap.size + 1 + 1, 2, none⟩ (.slice none 0 0)).setCell ⟨w.heap.size + 1 + 1, 3, none⟩ (.slice none 0 0)).setCell ⟨w.heap.size + 1 + 1 + 1, 0, none⟩ (.int .i64 0)).setCell ⟨w.heap.size + 1 + 1 + 1, 1, none⟩ (.int .i64 0)).setCell ⟨w.heap.size + 1 + 1 + 1, 2, none⟩ (.int .i64 0)).setCell ⟨w.heap.size + 1 + 1 + 1, 3, none⟩ (.int .i64 0)).setCell ⟨w.heap.size + 1 + 1 + 1, 4, none⟩ (.slice none 0 0)) ∧ Hid (St w.heap.size w [⟨w.heap.size, 49, #[.int .i64 i, .int .i64 s9, .slice a1 xs.length c1, .slice a2 ts.length c2]⟩, ⟨w.heap.size + 1, 33, #[.int .i64 m, .int .i64 cl, .int .i64 sv, .int .i64 nc, .slice (some ⟨g2, 0, none⟩) ys.length cap]⟩, ⟨w.heap.size + 1 + 1, 49, #[.int .i64 0, .int .i64 0, .slice none 0 0, .slice none 0 0]⟩, ⟨w.heap.size + 1 + 1 + 1, 33, #[.int .i64 0, .int .i64 0, .int .i64 0, .int .i64 0, .slice none 0 0]⟩] [] X) := ⟨_, rfl, Hid.mk' (by
      have h := (St.put5 3 (St.put4 2 HS2.out rfl rfl (.int .i64 0) (.int .i64 0) (.slice none 0 0) (.slice none 0 0)) rfl rfl (.int .i64 0) (.int .i64 0) (.int .i64 0) (.int .i64 0) (.slice none 0 0))
      try simp only [World.size_alloc] at h
      try simp only [World.size_setCell] at h
      exact h)⟩
    rw [← hX9]
    clear hX9
    clear HS2
    have y0 := HS3.out.cell 2 rfl 0 (.int .i64 0) rfl
    have y1 := HS3.out.cell 2 rfl 1 (.int .i64 0) rfl
    have y2 := HS3.out.cell 2 rfl 2 (.slice none 0 0) rfl
    have y3 := HS3.out.cell 2 rfl 3 (.slice none 0 0) rfl
    have z0 := HS3.out.cell 3 rfl 0 (.int .i64 0) rfl
    have z1 := HS3.out.cell 3 rfl 1 (.int .i64 0) rfl
    have z2 := HS3.out.cell 3 rfl 2 (.int .i64 0) rfl
    have z3 := HS3.out.cell 3 rfl 3 (.int .i64 0) rfl
    have z4 := HS3.out.cell 3 rfl 4 (.slice none 0 0) rfl
    refine bodyPost_ret (v := .tuple #[.agg #[.int .i64 0, .int .i64 0, .slice none 0 0, .slice none 0 0], .agg #[.int .i64 0, .int .i64 0, .int .i64 0, .int .i64 0, .slice none 0 0], .bool false]) (by simp [results, Tryd.results18, go_sem, *]) rfl ?_
    rw [EA.out]
    exact ⟨⟨none, 0, none, 0, none, 0, w.heap.size, rfl, OwnS.nil _ _, OwnN.zero _ _ _ _, OwnS.nil _ _, Nat.le_refl _, fun k hk => by cases hk⟩, HS3.out.bel⟩
  obtain ⟨KA, hKA⟩ : ∃ KA, KA = askH i s9 xs ts m cl sv nc ys now := ⟨_, rfl⟩
  have EA : Hid (hearA i s9 xs ts m cl sv nc ys now = KA) := Hid.mk' (by unfold hearA; rw [if_pos ⟨u1, u2⟩, hKA])
  have hau : ∀ u ∈ xs, 0 ≤ u.b ∧ u.b ≤ 100 := fun u hu => by obtain ⟨_, _, _, _, _, _, e1, e2, _⟩ := auth_parts (servB_auth u1 u hu); exact ⟨e1, e2⟩
  have hnw := inB_is.1 u2
  have HN : Hid ((∀ u ∈ xs, 0 ≤ u.b ∧ u.b ≤ 100) ∧ (0 ≤ now ∧ now ≤ 100) ∧ KA = askH i s9 xs ts m cl sv nc ys now) := ⟨hau, hnw, hKA⟩
  clear hau hnw hKA
  have lt0 : w.heap.size < w2.heap.size := (HS2.out.lt 0 rfl).2
  have lt1 : w.heap.size + 1 < w2.heap.size := (HS2.out.lt 1 rfl).2
  have lt2 : w.heap.size + 1 + 1 < w2.heap.size := (HS2.out.lt 2 rfl).2
  have lt3 : w.heap.size + 1 + 1 + 1 < w2.heap.size := (HS2.out.lt 3 rfl).2
  go_wp2_with fail
  refine wp_region_held_drew (S := fun w' => ∀ k, k < w2.heap.size → k ≠ w.heap.size + 1 + 1 → k ≠ w.heap.size + 1 + 1 + 1 → w'.heap[k]? = w2.heap[k]?) (by kernel_rfl) (fun _ _ _ _ => rfl) (fun hS => ?_)
  have hD : Below w2.heap.size w2 w2.drew := (Below.refl _ _).drew
  generalize w2.drew = W5 at hS hD ⊢
  refine take1 0 19 (Value.agg #[.int .i64 i, .int .i64 s9, .slice a1 xs.length c1, .slice a2 ts.length c2]) rfl rfl (by kernel_rfl) (by kernel_rfl) (by kernel_rfl) (by rfl) (fun _ _ _ h => h) hS (fun w' hS' => ?_) ?_
  · have hb : ABlk 49 w' (w.heap.size) #[.int .i64 i, .int .i64 s9, .slice a1 xs.length c1, .slice a2 ts.length c2] := (hS' (w.heap.size) (by omega) (by omega) (by omega)).trans (HS2.out.at 0 rfl)
    have p0 := hb.at 0 _ rfl
    have p1 := hb.at 1 _ rfl
    have p2 := hb.at 2 _ rfl
    have p3 := hb.at 3 _ rfl
    (go_simp) <;> (intro hx9; omega)
  simp only [Act.put, List.setIfInBounds_toArray, List.set_cons_zero, List.set_cons_succ]
  refine take1 2 21 (Value.agg #[.int .i64 m, .int .i64 cl, .int .i64 sv, .int .i64 nc, .slice (some ⟨g2, 0, none⟩) ys.length cap]) rfl rfl (by kernel_rfl) (by kernel_rfl) (by kernel_rfl) (by rfl) (fun _ _ _ h => h) hS (fun w' hS' => ?_) ?_
  · have hb : ABlk 33 w' (w.heap.size + 1) #[.int .i64 m, .int .i64 cl, .int .i64 sv, .int .i64 nc, .slice (some ⟨g2, 0, none⟩) ys.length cap] := (hS' (w.heap.size + 1) (by omega) (by omega) (by omega)).trans (HS2.out.at 1 rfl)
    have p0 := hb.at 0 _ rfl
    have p1 := hb.at 1 _ rfl
    have p2 := hb.at 2 _ rfl
    have p3 := hb.at 3 _ rfl
    have p4 := hb.at 4 _ rfl
    (go_simp) <;> (intro hx9; omega)
  simp only [Act.put, List.setIfInBounds_toArray, List.set_cons_zero, List.set_cons_succ]
  refine take1 3 22 (.int .i64 now) rfl rfl (by kernel_rfl) (by kernel_rfl) (by kernel_rfl) (by rfl) (fun _ _ _ h => h) hS (fun w' hS' => ?_) ?_
  · (go_simp) <;> (intro hx9; omega)
  simp only [Act.put, List.setIfInBounds_toArray, List.set_cons_zero, List.set_cons_succ]
  refine wpAnyH_ready (rs := [1]) (by kernel_rfl) (by simp) ?_
  refine AllReadyH.cons rfl (fun K hK => ?_) AllReadyH.nil
  go_simp
  refine (l13Copy_any i s9 a1 a2 c1 c2 xs ts _ (HH.out.1.later (HS2.out.bel.trans (hD.mono HS2.out.sz))) (HH.out.2.1.later (HS2.out.bel.trans (hD.mono HS2.out.sz))) hx ht).mono ?_
  rintro r w3 ⟨a', c', a4, c4, rfl, o3, o4, b3⟩
  have S3 : ∀ k, k < w2.heap.size → k ≠ w.heap.size + 1 + 1 → k ≠ w.heap.size + 1 + 1 + 1 → w3.heap[k]? = w2.heap[k]? := fun k h1 h2 h3 => (b3.block k (by have := hD.size; omega)).trans (hS k h1 h2 h3)
  have H3 : Hid (OwnS w3 W5.heap.size (.slice a' xs.length c') xs ∧ OwnN celC 90 w3 W5.heap.size (.slice a4 ts.length c4) ts ∧ Below w2.heap.size w2 w3 ∧ W5.heap.size ≤ w3.heap.size ∧ w2.heap.size ≤ W5.heap.size ∧ w.heap.size ≤ w2.heap.size) := ⟨o3, o4, hD.trans (b3.mono hD.size), b3.size, hD.size, HS2.out.bel.size⟩
  clear hD b3 o3 o4
  refine hK.out _ _ S3 (fun hS => ?_)
  clear hK K S3
  refine wpAnyH_ready (rs := [4]) (by kernel_rfl) (by simp) ?_
  refine AllReadyH.cons rfl (fun K hK => ?_) AllReadyH.nil
  go_simp
  refine (l13Hear_any W5.heap.size i s9 a' a4 c' c4 xs ts m cl sv nc g2 cap ys now _ H3.out.2.2.2.1 H3.out.1 H3.out.2.1 (HH.out.2.2.1.later (HS2.out.bel.trans (H3.out.2.2.1.mono HS2.out.sz))) (fun he => by have := HH.out.2.2.2 he; have := H3.out.2.2.2.2; omega) hx ht hy HN.out.2.1 HN.out.1).mono ?_
  intro r w5 hr
  rw [← HN.out.2.2] at hr
  obtain ⟨⟨a5, c5, a6, c6, a7, c7, B2, rfl, o5, o6, o7, hB2, hlo⟩, b5⟩ := hr
  have S5 : ∀ k, k < w2.heap.size → k ≠ w.heap.size + 1 + 1 → k ≠ w.heap.size + 1 + 1 + 1 → w5.heap[k]? = w2.heap[k]? := fun k h1 h2 h3 => (b5.block k (by have := H3.out.2.2.2.2.1; omega)).trans (hS k h1 h2 h3)
  have hz5 : W5.heap.size ≤ B2 ∧ w2.heap.size ≤ W5.heap.size ∧ w.heap.size ≤ w2.heap.size := ⟨hB2, H3.out.2.2.2.2.1, H3.out.2.2.2.2.2⟩
  have HB : Hid (w.heap.size ≤ B2 ∧ ∀ k, (Value.slice a5 KA.X.length c5).ownBlock = some k → k < B2) := ⟨by omega, hlo⟩
  have b9 := H3.out.2.2.1.trans (b5.mono H3.out.2.2.2.2.1)
  have o5 := OwnS.less o5 (base' := w.heap.size) (by omega)
  have o6 := OwnN.lessC o6 (B' := w.heap.size) (by omega)
  clear hB2 hlo hz5 b5 H3
  have HS3 : Hid (St w.heap.size w [⟨w.heap.size, 49, #[.int .i64 i, .int .i64 s9, .slice a1 xs.length c1, .slice a2 ts.length c2]⟩, ⟨w.heap.size + 1, 33, #[.int .i64 m, .int .i64 cl, .int .i64 sv, .int .i64 nc, .slice (some ⟨g2, 0, none⟩) ys.length cap]⟩, ⟨w.heap.size + 1 + 1, 49, #[.int .i64 0, .int .i64 0, .slice none 0 0, .slice none 0 0]⟩, ⟨w.heap.size + 1 + 1 + 1, 33, #[.int .i64 0, .int .i64 0, .int .i64 0, .int .i64 0, .slice none 0 0]⟩] [] w5) := St.grow b9 HS2.out
  clear b9 HS2
  have HS4 : Hid (St w.heap.size w [⟨w.heap.size, 49, #[.int .i64 i, .int .i64 s9, .slice a1 xs.length c1, .slice a2 ts.length c2]⟩, ⟨w.heap.size + 1, 33, #[.int .i64 m, .int .i64 cl, .int .i64 sv, .int .i64 nc, .slice (some ⟨g2, 0, none⟩) ys.length cap]⟩, ⟨w.heap.size + 1 + 1, 49, #[.int .i64 0, .int .i64 0, .slice none 0 0, .slice none 0 0]⟩, ⟨w.heap.size + 1 + 1 + 1, 33, #[.int .i64 0, .int .i64 0, .int .i64 0, .int .i64 0, .slice none 0 0]⟩] [⟨selT 64, fun W => OwnS W w.heap.size (.slice a5 KA.X.length c5) KA.X⟩] w5) := Hid.mk' (by
    have h := St.add (selT 64) (fun W => OwnS W w.heap.size (.slice a5 KA.X.length c5) KA.X) (keep_owns _ _ _) (o5) HS3.out
    try simp only [World.size_alloc] at h
    try simp only [World.size_setCell] at h
    exact h)
  clear HS3
  have HS5 : Hid (St w.heap.size w [⟨w.heap.size, 49, #[.int .i64 i, .int .i64 s9, .slice a1 xs.length c1, .slice a2 ts.length c2]⟩, ⟨w.heap.size + 1, 33, #[.int .i64 m, .int .i64 cl, .int .i64 sv, .int .i64 nc, .slice (some ⟨g2, 0, none⟩) ys.length cap]⟩, ⟨w.heap.size + 1 + 1, 49, #[.int .i64 0, .int .i64 0, .slice none 0 0, .slice none 0 0]⟩, ⟨w.heap.size + 1 + 1 + 1, 33, #[.int .i64 0, .int .i64 0, .int .i64 0, .int .i64 0, .slice none 0 0]⟩] [⟨selT 64, fun W => OwnS W w.heap.size (.slice a5 KA.X.length c5) KA.X⟩, ⟨selT 90, fun W => OwnN celC 90 W w.heap.size (.slice a6 KA.C.length c6) KA.C⟩] w5) := Hid.mk' (by
    have h := St.add (selT 90) (fun W => OwnN celC 90 W w.heap.size (.slice a6 KA.C.length c6) KA.C) (keep_own celC _ _ _ _) (o6) HS4.out
    try simp only [World.size_alloc] at h
    try simp only [World.size_setCell] at h
    exact h)
  clear HS4
  have HS6 : Hid (St w.heap.size w [⟨w.heap.size, 49, #[.int .i64 i, .int .i64 s9, .slice a1 xs.length c1, .slice a2 ts.length c2]⟩, ⟨w.heap.size + 1, 33, #[.int .i64 m, .int .i64 cl, .int .i64 sv, .int .i64 nc, .slice (some ⟨g2, 0, none⟩) ys.length cap]⟩, ⟨w.heap.size + 1 + 1, 49, #[.int .i64 0, .int .i64 0, .slice none 0 0, .slice none 0 0]⟩, ⟨w.heap.size + 1 + 1 + 1, 33, #[.int .i64 0, .int .i64 0, .int .i64 0, .int .i64 0, .slice none 0 0]⟩] [⟨selT 64, fun W => OwnS W w.heap.size (.slice a5 KA.X.length c5) KA.X⟩, ⟨selT 90, fun W => OwnN celC 90 W w.heap.size (.slice a6 KA.C.length c6) KA.C⟩, ⟨selT 64, fun W => OwnS W B2 (.slice a7 KA.Y.length c7) KA.Y⟩] w5) := Hid.mk' (by
    have h := St.add (selT 64) (fun W => OwnS W B2 (.slice a7 KA.Y.length c7) KA.Y) (keep_owns _ _ _) (o7) HS5.out
    try simp only [World.size_alloc] at h
    try simp only [World.size_setCell] at h
    exact h)
  clear HS5
  clear o5 o6 o7
  refine hK.out _ _ S5 (fun hS => ?_)
  clear hK K S5
  refine take1 5 24 (Value.agg #[.int .i64 KA.i, .int .i64 KA.s, .slice a5 KA.X.length c5, .slice a6 KA.C.length c6]) rfl rfl (by kernel_rfl) (by kernel_rfl) (by kernel_rfl) (by rfl) (fun _ _ _ h => h) hS (fun w' hS' => ?_) ?_
  · (go_simp) <;> (intro hx9; omega)
  simp only [Act.put, List.setIfInBounds_toArray, List.set_cons_zero, List.set_cons_succ]
  refine take1 6 25 (Value.agg #[.int .i64 KA.m, .int .i64 KA.c, .int .i64 KA.v, .int .i64 KA.f, .slice a7 KA.Y.length c7]) rfl rfl (by kernel_rfl) (by kernel_rfl) (by kernel_rfl) (by rfl) (fun _ _ _ h => h) hS (fun w' hS' => ?_) ?_
  · (go_simp) <;> (intro hx9; omega)
  simp only [Act.put, List.setIfInBounds_toArray, List.set_cons_zero, List.set_cons_succ]
  refine take1 7 26 (.bool KA.T) rfl rfl (by kernel_rfl) (by kernel_rfl) (by kernel_rfl) (by rfl) (fun _ _ _ h => h) hS (fun w' hS' => ?_) ?_
  · (go_simp) <;> (intro hx9; omega)
  simp only [Act.put, List.setIfInBounds_toArray, List.set_cons_zero, List.set_cons_succ]
  refine wpAnyH_ready (rs := [8]) (by kernel_rfl) (by simp) ?_
  refine AllReadyH.cons rfl (fun K hK => ?_) AllReadyH.nil
  have z0 := HS6.out.cell 2 rfl 0 (.int .i64 0) rfl
  have zf0 := HS6.out.fro 2 rfl 0
  have z1 := HS6.out.cell 2 rfl 1 (.int .i64 0) rfl
  have zf1 := HS6.out.fro 2 rfl 1
  have z2 := HS6.out.cell 2 rfl 2 (.slice none 0 0) rfl
  have zf2 := HS6.out.fro 2 rfl 2
  have z3 := HS6.out.cell 2 rfl 3 (.slice none 0 0) rfl
  have zf3 := HS6.out.fro 2 rfl 3
  go_simp
  clear z0 zf0 z1 zf1 z2 zf2 z3 zf3
  have S9 : ∀ k, k < w2.heap.size → k ≠ w.heap.size + 1 + 1 → k ≠ w.heap.size + 1 + 1 + 1 → (((((w5.setCell ⟨w.heap.size + 1 + 1, 0, none⟩ (.int .i64 KA.i)).setCell ⟨w.heap.size + 1 + 1, 1, none⟩ (.int .i64 KA.s)).setCell ⟨w.heap.size + 1 + 1, 2, none⟩ (.slice a5 KA.X.length c5)).setCell ⟨w.heap.size + 1 + 1, 3, none⟩ (.slice a6 KA.C.length c6))).heap[k]? = w2.heap[k]? := fun k h1 h2 h3 => by
    have q : ¬ w.heap.size + 1 + 1 = k := fun e => h2 e.symm
    rw [← hS k h1 h2 h3]
    simp [World.setCell, Array.getElem?_modify, q]
  obtain ⟨w6, hX9, HS7⟩ : ∃ X, X = ((((w5.setCell ⟨w.heap.size + 1 + 1, 0, none⟩ (.int .i64 KA.i)).setCell ⟨w.heap.size + 1 + 1, 1, none⟩ (.int .i64 KA.s)).setCell ⟨w.heap.size + 1 + 1, 2, none⟩ (.slice a5 KA.X.length c5)).setCell ⟨w.heap.size + 1 + 1, 3, none⟩ (.slice a6 KA.C.length c6)) ∧ Hid (St w.heap.size w [⟨w.heap.size, 49, #[.int .i64 i, .int .i64 s9, .slice a1 xs.length c1, .slice a2 ts.length c2]⟩, ⟨w.heap.size + 1, 33, #[.int .i64 m, .int .i64 cl, .int .i64 sv, .int .i64 nc, .slice (some ⟨g2, 0, none⟩) ys.length cap]⟩, ⟨w.heap.size + 1 + 1, 49, #[.int .i64 KA.i, .int .i64 KA.s, .slice a5 KA.X.length c5, .slice a6 KA.C.length c6]⟩, ⟨w.heap.size + 1 + 1 + 1, 33, #[.int .i64 0, .int .i64 0, .int .i64 0, .int .i64 0, .slice none 0 0]⟩] [⟨selT 64, fun W => OwnS W w.heap.size (.slice a5 KA.X.length c5) KA.X⟩, ⟨selT 90, fun W => OwnN celC 90 W w.heap.size (.slice a6 KA.C.length c6) KA.C⟩, ⟨selT 64, fun W => OwnS W B2 (.slice a7 KA.Y.length c7) KA.Y⟩] X) := ⟨_, rfl, Hid.mk' (St.put4 2 HS6.out rfl rfl (.int .i64 KA.i) (.int .i64 KA.s) (.slice a5 KA.X.length c5) (.slice a6 KA.C.length c6))⟩
  rw [← hX9] at S9 ⊢
  clear hX9 HS6
  clear hS
  refine hK.out _ _ S9 (fun hS => ?_)
  clear hK K S9
  refine wpAnyH_ready (rs := [9]) (by kernel_rfl) (by simp) ?_
  refine AllReadyH.cons rfl (fun K hK => ?_) AllReadyH.nil
  have z0 := HS7.out.cell 3 rfl 0 (.int .i64 0) rfl
  have zf0 := HS7.out.fro 3 rfl 0
  have z1 := HS7.out.cell 3 rfl 1 (.int .i64 0) rfl
  have zf1 := HS7.out.fro 3 rfl 1
  have z2 := HS7.out.cell 3 rfl 2 (.int .i64 0) rfl
  have zf2 := HS7.out.fro 3 rfl 2
  have z3 := HS7.out.cell 3 rfl 3 (.int .i64 0) rfl
  have zf3 := HS7.out.fro 3 rfl 3
  have z4 := HS7.out.cell 3 rfl 4 (.slice none 0 0) rfl
  have zf4 := HS7.out.fro 3 rfl 4
  go_simp
  clear z0 zf0 z1 zf1 z2 zf2 z3 zf3 z4 zf4
  have S9 : ∀ k, k < w2.heap.size → k ≠ w.heap.size + 1 + 1 → k ≠ w.heap.size + 1 + 1 + 1 → ((((((w6.setCell ⟨w.heap.size + 1 + 1 + 1, 0, none⟩ (.int .i64 KA.m)).setCell ⟨w.heap.size + 1 + 1 + 1, 1, none⟩ (.int .i64 KA.c)).setCell ⟨w.heap.size + 1 + 1 + 1, 2, none⟩ (.int .i64 KA.v)).setCell ⟨w.heap.size + 1 + 1 + 1, 3, none⟩ (.int .i64 KA.f)).setCell ⟨w.heap.size + 1 + 1 + 1, 4, none⟩ (.slice a7 KA.Y.length c7))).heap[k]? = w2.heap[k]? := fun k h1 h2 h3 => by
    have q : ¬ w.heap.size + 1 + 1 + 1 = k := fun e => h3 e.symm
    rw [← hS k h1 h2 h3]
    simp [World.setCell, Array.getElem?_modify, q]
  obtain ⟨w7, hX9, HS8⟩ : ∃ X, X = (((((w6.setCell ⟨w.heap.size + 1 + 1 + 1, 0, none⟩ (.int .i64 KA.m)).setCell ⟨w.heap.size + 1 + 1 + 1, 1, none⟩ (.int .i64 KA.c)).setCell ⟨w.heap.size + 1 + 1 + 1, 2, none⟩ (.int .i64 KA.v)).setCell ⟨w.heap.size + 1 + 1 + 1, 3, none⟩ (.int .i64 KA.f)).setCell ⟨w.heap.size + 1 + 1 + 1, 4, none⟩ (.slice a7 KA.Y.length c7)) ∧ Hid (St w.heap.size w [⟨w.heap.size, 49, #[.int .i64 i, .int .i64 s9, .slice a1 xs.length c1, .slice a2 ts.length c2]⟩, ⟨w.heap.size + 1, 33, #[.int .i64 m, .int .i64 cl, .int .i64 sv, .int .i64 nc, .slice (some ⟨g2, 0, none⟩) ys.length cap]⟩, ⟨w.heap.size + 1 + 1, 49, #[.int .i64 KA.i, .int .i64 KA.s, .slice a5 KA.X.length c5, .slice a6 KA.C.length c6]⟩, ⟨w.heap.size + 1 + 1 + 1, 33, #[.int .i64 KA.m, .int .i64 KA.c, .int .i64 KA.v, .int .i64 KA.f, .slice a7 KA.Y.length c7]⟩] [⟨selT 64, fun W => OwnS W w.heap.size (.slice a5 KA.X.length c5) KA.X⟩, ⟨selT 90, fun W => OwnN celC 90 W w.heap.size (.slice a6 KA.C.length c6) KA.C⟩, ⟨selT 64, fun W => OwnS W B2 (.slice a7 KA.Y.length c7) KA.Y⟩] X) := ⟨_, rfl, Hid.mk' (St.put5 3 HS7.out rfl rfl (.int .i64 KA.m) (.int .i64 KA.c) (.int .i64 KA.v) (.int .i64 KA.f) (.slice a7 KA.Y.length c7))⟩
  rw [← hX9] at S9 ⊢
  clear hX9 HS7
  clear hS
  refine hK.out _ _ S9 (fun hS => ?_)
  clear hK K S9
  refine take1 10 8 (.bool KA.T) rfl rfl (by kernel_rfl) (by kernel_rfl) (by kernel_rfl) (by rfl) (fun _ _ _ h => h) hS (fun w' hS' => ?_) ?_
  · (go_simp) <;> (intro hx9; omega)
  simp only [Act.put, List.setIfInBounds_toArray, List.set_cons_zero, List.set_cons_succ]
  refine wpAnyH_done (by kernel_rfl) ?_ _
  clear hS
  go_wp2_with fail
  have y0 := HS8.out.cell 2 rfl 0 (.int .i64 KA.i) rfl
  have y1 := HS8.out.cell 2 rfl 1 (.int .i64 KA.s) rfl
  have y2 := HS8.out.cell 2 rfl 2 (.slice a5 KA.X.length c5) rfl
  have y3 := HS8.out.cell 2 rfl 3 (.slice a6 KA.C.length c6) rfl
  have z0 := HS8.out.cell 3 rfl 0 (.int .i64 KA.m) rfl
  have z1 := HS8.out.cell 3 rfl 1 (.int .i64 KA.c) rfl
  have z2 := HS8.out.cell 3 rfl 2 (.int .i64 KA.v) rfl
  have z3 := HS8.out.cell 3 rfl 3 (.int .i64 KA.f) rfl
  have z4 := HS8.out.cell 3 rfl 4 (.slice a7 KA.Y.length c7) rfl
  refine bodyPost_ret (v := .tuple #[.agg #[.int .i64 KA.i, .int .i64 KA.s, .slice a5 KA.X.length c5, .slice a6 KA.C.length c6], .agg #[.int .i64 KA.m, .int .i64 KA.c, .int .i64 KA.v, .int .i64 KA.f, .slice a7 KA.Y.length c7], .bool KA.T]) (by simp [results, Tryd.results18, go_sem, *]) rfl ?_
  rw [EA.out]
  exact ⟨⟨a5, c5, a6, c6, a7, c7, B2, rfl, HS8.out.of 0 rfl, HS8.out.of 1 rfl, HS8.out.of 2 rfl, HB.out.1, HB.out.2⟩, HS8.out.bel⟩

end Go.Proofs.YtghajmfjekfdpaaDoor
