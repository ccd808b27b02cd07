/-
  The program's withSeal: a word with the seal of a line behind those that it has, or none; but for the word's own row nothing that was in memory is turned.
-/
import Derived.Test.YtopikapamfmalaaGreatDoorReadWords
import Derived.Test.YtopikapamfmalaaGreatDoorReadImpl
namespace Go.Proofs.YtopikapamfmalaaGreatDoor
open Go.RowKit
attribute [local go_sem ↓] Go.wp_at_zero Go.wp_at_succ

theorem grown_of_below {w w' : World} (row : Option Nat) (h : Below w.heap.size w w') : w.grownBy w' row := ⟨h.os, h.tape, h.output, h.size, fun k hk _ => h.block k hk⟩
theorem grown_trans {a b c : World} {row : Option Nat} (h : a.grownBy b row) (k : b.grownBy c row) : a.grownBy c row :=
  ⟨k.os.trans h.os, k.tape.trans h.tape, k.output.trans h.output, Nat.le_trans h.size k.size, fun j hj hr => (k.block j (Nat.lt_of_lt_of_le hj h.size) hr).trans (h.block j hj hr)⟩
theorem grown_store {a b : World} {row : Option Nat} (h : a.grownBy b row) {B o : Nat} (hB : a.heap.size ≤ B) (v : Value) : a.grownBy (b.setCell ⟨B, o, none⟩ v) row :=
  ⟨h.os, h.tape, h.output, by simpa using h.size, fun j hj hr => (heap_put_else (by omega)).trans (h.block j hj hr)⟩

theorem own_set {w : World} {base e size n B o T : Nat} {v u : Value} {xs : List Value} {cs : Array Value} (h : w.ownsRow base e size v n xs) (hB : w.heap[B]? = some (.cells cs T (0, 0))) (hne : T ≠ e) : (w.setCell ⟨B, o, none⟩ u).ownsRow base e size v n xs := by
  refine own_blocks' h fun g cur _ hh => heap_put_else ?_
  rintro rfl
  rw [hB] at hh
  injection hh with hh
  injection hh with _ h2
  exact hne h2

set_option maxHeartbeats 2000000 in
set_option maxRecDepth 100000 in
/-- The program's withSeal. -/
theorem withSeal_any (s : ByteArray) (hs : s.size ≤ 2000000) (m n k f : Int) (a : Option Addr) (cap base : Nat) (xs : List Sl) (hx : xs.length ≤ 900) (p1 p2 p3 : Option Addr) (w : World) (hl : Lb w) (he : Er p1 p2 p3 w)
    (hown : w.ownsRow base 39 7 (.slice a xs.length cap) xs.length (cellsL xs)) (hbase : base ≤ w.heap.size) :
    Calls Tryz.prog 49 #[.agg #[.int .i64 m, .int .i64 n, .int .i64 k, .int .i64 f, .slice a xs.length cap], .string s] w fun r w' => ((∃ (u : Sl) (g cap' : Nat), Par s u.k u.t u.a u.b u.c u.d u.e ∧ r = .returned (.tuple #[.agg #[.int .i64 m, .int .i64 n, .int .i64 k, .int .i64 f, .slice (some ⟨g, 0, none⟩) (xs.length + 1) cap'], .nilIface]) ∧ w'.ownsRow base 39 7 (.slice (some ⟨g, 0, none⟩) (xs.length + 1) cap') (xs.length + 1) (cellsL (xs ++ [u])))
      ∨ ((∀ k t a b c d e, ¬ Par s k t a b c d e) ∧ r = .returned (.tuple #[.agg #[.int .i64 0, .int .i64 0, .int .i64 0, .int .i64 0, .slice none 0 0], .iface 179 (.pointer p3)]))) ∧ w.grownBy w' (Value.slice a xs.length cap).ownBlock := by
  have HE : Hid (Er p1 p2 p3 w ∧ Lb w ∧ w.ownsRow base 39 7 (.slice a xs.length cap) xs.length (cellsL xs)) := ⟨he, hl, hown⟩
  clear he hl hown
  have hgg : 4 < w.heap.size := block_lt_of_cell HE.out.1.sea
  go_enter Tryz.func49, Tryz.ntmps49
  go_wp2_with fail
  obtain ⟨W, hW⟩ : ∃ W, W = ((w.alloc (.cells #[.int .i64 m, .int .i64 n, .int .i64 k, .int .i64 f, .slice a xs.length cap] 24)).alloc (.cells #[.int .i64 0, .int .i64 0, .int .i64 0, .int .i64 0, .slice none 0 0] 24)) := ⟨_, rfl⟩
  have hz : W.heap.size = w.heap.size + 2 := by subst hW; simp
  have B0 : Below w.heap.size w W := hW ▸ ((Below.refl _ _).alloc (Nat.le_refl _) _).alloc (by simp) _
  have k0 : W.heap[w.heap.size]? = some (.cells #[.int .i64 m, .int .i64 n, .int .i64 k, .int .i64 f, .slice a xs.length cap] 24 (0, 0)) := by subst hW; rw [heap_alloc_old _ _ (by simp)]; exact heap_alloc_new _ _
  have k1 : W.heap[w.heap.size + 1]? = some (.cells #[.int .i64 0, .int .i64 0, .int .i64 0, .int .i64 0, .slice none 0 0] 24 (0, 0)) := by subst hW; have := heap_alloc_new (w.alloc (.cells #[.int .i64 m, .int .i64 n, .int .i64 k, .int .i64 f, .slice a xs.length cap] 24)) (.cells #[.int .i64 0, .int .i64 0, .int .i64 0, .int .i64 0, .slice none 0 0] 24); simpa using this
  rw [← hW]
  clear hW
  refine (read_any s hs _ (HE.out.2.1.below B0)).mono ?_
  rintro r1 w1 ⟨⟨t0, t1, t2, t3, t4, t5, t6, ok, rfl, h1, h2⟩, b1⟩
  have z1 := b1.size
  have D1 : Hid (Below w.heap.size w w1 ∧ w1.heap[w.heap.size]? = some (.cells #[.int .i64 m, .int .i64 n, .int .i64 k, .int .i64 f, .slice a xs.length cap] 24 (0, 0)) ∧ w1.heap[w.heap.size + 1]? = some (.cells #[.int .i64 0, .int .i64 0, .int .i64 0, .int .i64 0, .slice none 0 0] 24 (0, 0))) := ⟨B0.trans (b1.mono (by omega)), (b1.block _ (by omega)).trans k0, (b1.block _ (by omega)).trans k1⟩
  clear b1 k0 k1 B0
  obtain ⟨z0, z1', z2, z3, z4, zf, zl⟩ := cells5 D1.out.2.1
  obtain ⟨y0, y1, y2, y3, y4, yf, yl⟩ := cells5 D1.out.2.2
  cases ok
  · have HN : Hid (∀ k t a b c d e, ¬ Par s k t a b c d e) := (h2 rfl).2.2.2.2.2.2.2
    have hgs : w1.cell? ⟨4, 0, none⟩ = some (.iface 179 (.pointer p3)) := cell_later D1.out.1 HE.out.1.sea
    have hg1 : 4 < w1.heap.size := by omega
    clear h1 h2
    go_wp2_with fail
    refine wp_region_held_drew (S := fun w' => w'.cell? ⟨4, 0, none⟩ = some (.iface 179 (.pointer p3))) (by kernel_rfl) (by go_simp) (fun hS => ?_)
    refine take1 0 15 (.agg #[.int .i64 0, .int .i64 0, .int .i64 0, .int .i64 0, .slice none 0 0]) rfl rfl (by kernel_rfl) (by kernel_rfl) (by kernel_rfl) (by rfl) (fun _ _ _ h => h) hS (fun w' hS' => ?_) ?_
    · go_simp
    simp only [Act.put, List.setIfInBounds_toArray, List.set_cons_zero, List.set_cons_succ]
    refine take1 1 16 (.iface 179 (.pointer p3)) rfl rfl (by kernel_rfl) (by kernel_rfl) (by kernel_rfl) (by rfl) (fun _ _ _ h => h) hS (fun w' hS' => ?_) ?_
    · go_simp
    simp only [Act.put, List.setIfInBounds_toArray, List.set_cons_zero, List.set_cons_succ]
    refine wpAnyH_ready (rs := [2]) (by kernel_rfl) (by simp) ?_
    refine AllReadyH.cons rfl (fun K hK => ?_) AllReadyH.nil
    go_simp
    refine hK.out _ _ (by go_simp) (fun hS2 => ?_)
    clear hK K hS
    refine take1 3 5 (.iface 179 (.pointer p3)) rfl rfl (by kernel_rfl) (by kernel_rfl) (by kernel_rfl) (by rfl) (fun _ _ _ h => h) hS2 (fun w' hS' => ?_) ?_
    · go_simp
    simp only [Act.put, List.setIfInBounds_toArray, List.set_cons_zero, List.set_cons_succ]
    clear hS2
    refine wpAnyH_done (by kernel_rfl) ?_ _
    go_wp2_with fail
    refine bodyPost_ret (v := .tuple #[.agg #[.int .i64 0, .int .i64 0, .int .i64 0, .int .i64 0, .slice none 0 0], .iface 179 (.pointer p3)]) (by simp [results, Tryz.results49, go_sem, *]) rfl ⟨Or.inr ⟨HN.out, rfl⟩, ?_⟩
    exact grown_of_below _ (((((((D1.out.1.setCell (p := ⟨w.heap.size + 1, 0, none⟩) (by simp) _).setCell (p := ⟨w.heap.size + 1, 1, none⟩) (by simp) _).setCell (p := ⟨w.heap.size + 1, 2, none⟩) (by simp) _).setCell (p := ⟨w.heap.size + 1, 3, none⟩) (by simp) _).setCell (p := ⟨w.heap.size + 1, 4, none⟩) (by simp) _).alloc (by simpa using D1.out.1.size) _).drew)
  · obtain ⟨u, hu⟩ : ∃ u : Sl, u = ⟨t0, t1, t2, t3, t4, t5, t6⟩ := ⟨_, rfl⟩
    have HP : Hid (Par s u.k u.t u.a u.b u.c u.d u.e) := by rw [hu]; exact h1 rfl
    have e0 : t0 = u.k := by rw [hu]
    have e1 : t1 = u.t := by rw [hu]
    have e2 : t2 = u.a := by rw [hu]
    have e3 : t3 = u.b := by rw [hu]
    have e4 : t4 = u.c := by rw [hu]
    have e5 : t5 = u.d := by rw [hu]
    have e6 : t6 = u.e := by rw [hu]
    subst e0 e1 e2 e3 e4 e5 e6
    clear hu h1 h2
    have hown1 : w1.ownsRow base 39 7 (.slice a xs.length cap) xs.length (cellsL xs) := own_later D1.out.1 HE.out.2.2
    obtain ⟨i0, hi, hz0, hz1, hz2⟩ := info_parts infoSealM
    go_wp2_with (at_builtin; refine wpList_append_own _ rfl _ _ 22 rfl base 39 i0 (.agg #[.int .i64 0, .int .i64 0, .int .i64 0, .int .i64 0, .int .i64 0, .int .i64 0, .int .i64 0]) 7 56 Tryz.underlying22 hi hz0 hz1 hz2 rfl (by decide) _ _ _ rfl ((hown1.alloc _).alloc _) ⟨w1.heap.size + 1, 0, none⟩ 1 1 u.cs rfl rfl ?c1 ?c2 ?c3 ?c4 ?c5 ?_)
    case c1 =>
      intro j v hv
      have h7 : j < 7 := by have := (List.getElem?_eq_some_iff.1 hv).1; simpa [Sl.cs] using this
      obtain rfl | rfl | rfl | rfl | rfl | rfl | rfl : j = 0 ∨ j = 1 ∨ j = 2 ∨ j = 3 ∨ j = 4 ∨ j = 5 ∨ j = 6 := by omega
      all_goals (simp [Sl.cs] at hv; subst hv; simp only [Addr.add]; go_simp)
    case c2 =>
      intro v hv
      simp [Sl.cs] at hv
      rcases hv with rfl | rfl | rfl | rfl | rfl | rfl | rfl <;> rfl
    case c3 => unfold maxLen; omega
    case c4 => omega
    case c5 => simp; omega
    intro v' w2 hown' hgrow _
    obtain ⟨g, cap', rfl⟩ : ∃ g cap', v' = .slice (some ⟨g, 0, none⟩) (xs.length + 1) cap' := by
      have h1' := hown'
      obtain ⟨_, ⟨_, h0⟩ | ⟨g, cap', _, rfl, _⟩⟩ := h1'
      · omega
      · exact ⟨g, cap', rfl⟩
    have hA : Below w.heap.size w w1 := D1.out.1
    have hblk : ∀ (B : Nat) (cs : Array Value), w1.heap[B]? = some (Obj.cells cs 24 (0, 0)) → w2.heap[B]? = some (Obj.cells cs 24 (0, 0)) := by
      intro B cs hB
      have hlt := (Array.getElem?_eq_some_iff.1 hB).1
      have hne := own_neD hown1 hB msgNeSeal
      rw [hgrow.block B (by simp; omega) (Ne.symm hne), heap_alloc_old _ _ (by simp; omega), heap_alloc_old _ _ hlt, hB]
    have m2 := hblk _ _ D1.out.2.1
    have r2 := hblk _ _ D1.out.2.2
    obtain ⟨q0, q1, q2, q3, q4, qf, ql⟩ := cells5 m2
    obtain ⟨s0, s1, s2, s3, s4, sf, sl⟩ := cells5 r2
    have HO : Hid (w2.ownsRow base 39 7 (.slice (some ⟨g, 0, none⟩) (xs.length + 1) cap') (xs.length + 1) (cellsL (xs ++ [u])) ∧ w.grownBy w2 (Value.slice a xs.length cap).ownBlock ∧ w2.heap[w.heap.size]? = some (.cells #[.int .i64 m, .int .i64 n, .int .i64 k, .int .i64 f, .slice a xs.length cap] 24 (0, 0)) ∧ w2.heap[w.heap.size + 1]? = some (.cells #[.int .i64 0, .int .i64 0, .int .i64 0, .int .i64 0, .slice none 0 0] 24 (0, 0))) :=
      ⟨by rw [cellsL_add]; exact hown', grown_trans (grown_of_below _ (hA.trans ((((Below.refl _ w1).alloc (Nat.le_refl _) _).alloc (by simp) _).mono hA.size))) hgrow, m2, r2⟩
    clear hblk m2 r2 hA hown' hgrow hown1 hi hz0 hz1 hz2 D1 z0 z1' z2 z3 z4 zf zl y0 y1 y2 y3 y4 yf yl
    go_wp2_with fail
    refine bodyPost_ret (v := .tuple #[.agg #[.int .i64 m, .int .i64 n, .int .i64 k, .int .i64 f, .slice (some ⟨g, 0, none⟩) (xs.length + 1) cap'], .nilIface]) (by simp [results, Tryz.results49, go_sem, *]) rfl ⟨Or.inl ⟨u, g, cap', HP.out, rfl, ?_⟩, ?_⟩
    · have o1 := own_set HO.out.1 HO.out.2.2.1 msgNeSeal (o := 4) (u := .slice (some ⟨g, 0, none⟩) (xs.length + 1) cap')
      have b1 : (w2.setCell ⟨w.heap.size, 4, none⟩ (.slice (some ⟨g, 0, none⟩) (xs.length + 1) cap')).heap[w.heap.size + 1]? = some (.cells #[.int .i64 0, .int .i64 0, .int .i64 0, .int .i64 0, .slice none 0 0] 24 (0, 0)) := (heap_put_else (by omega)).trans HO.out.2.2.2
      have o2 := own_set o1 b1 msgNeSeal (o := 0) (u := .int .i64 m)
      have b2 := heap_put (o := 0) (u := .int .i64 m) b1
      have o3 := own_set o2 b2 msgNeSeal (o := 1) (u := .int .i64 n)
      have b3 := heap_put (o := 1) (u := .int .i64 n) b2
      have o4 := own_set o3 b3 msgNeSeal (o := 2) (u := .int .i64 k)
      have b4 := heap_put (o := 2) (u := .int .i64 k) b3
      have o5 := own_set o4 b4 msgNeSeal (o := 3) (u := .int .i64 f)
      have b5 := heap_put (o := 3) (u := .int .i64 f) b4
      exact own_set o5 b5 msgNeSeal
    · exact grown_store (grown_store (grown_store (grown_store (grown_store (grown_store HO.out.2.1 (Nat.le_refl _) _) (by omega) _) (by omega) _) (by omega) _) (by omega) _) (by omega) _

end Go.Proofs.YtopikapamfmalaaGreatDoor
