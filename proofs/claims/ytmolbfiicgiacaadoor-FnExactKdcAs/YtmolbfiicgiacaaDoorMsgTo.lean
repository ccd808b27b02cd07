/-
  The laws' own copies of words: the same numbers, and a row of the same seals of its own; two words are held against each other field by field; nothing that was in memory is turned.
-/
import Derived.Test.YtmolbfiicgiacaaDoorMsgRow
import Derived.Test.YtmolbfiicgiacaaDoorKTo
namespace Go.Proofs.YtmolbfiicgiacaaDoor
open Go.RowKit
attribute [local go_sem ↓] Go.wp_at_zero Go.wp_at_succ

set_option maxRecDepth 100000 in
set_option maxHeartbeats 1000000 in
/-- The laws' own copy of a word. -/
theorem toMsg_any (m n k f : Int) (a : Option Addr) (cap : Nat) (xs : List Sl) (w : World) (h : SRow w a xs) (hx : xs.length ≤ 2000000) :
    Calls Tryd.prog 9 #[.agg #[.int .i64 m, .int .i64 n, .int .i64 k, .int .i64 f, .slice a xs.length cap]] w fun r w' => (∃ a', r = .returned (.agg #[.int .i64 m, .int .i64 n, .int .i64 k, .int .i64 f, .slice a' xs.length xs.length]) ∧ SRow w' a' xs) ∧ Below w.heap.size w w' := by
  obtain ⟨W, hW⟩ : ∃ W, W = (((w.alloc (.cells #[.int .i64 m, .int .i64 n, .int .i64 k, .int .i64 f, .slice a xs.length cap] 26)).alloc (.cells #[.int .i64 0, .int .i64 0, .int .i64 0, .int .i64 0, .slice none 0 0] 33)).alloc (.cells #[.int .i64 m, .int .i64 n, .int .i64 k, .int .i64 f, .slice none 0 0] 33)) := ⟨_, rfl⟩
  have hz : W.heap.size = w.heap.size + 3 := by subst hW; simp
  have B0 : Below w.heap.size w W := hW ▸ (((Below.refl _ _).alloc (Nat.le_refl _) _).alloc (by simp) _).alloc (by simp; omega) _
  have k0 : W.cell? ⟨w.heap.size + 1 + 1, 0, none⟩ = some (.int .i64 m) := by subst hW; go_simp
  have k1 : W.cell? ⟨w.heap.size + 1 + 1, 1, none⟩ = some (.int .i64 n) := by subst hW; go_simp
  have k2 : W.cell? ⟨w.heap.size + 1 + 1, 2, none⟩ = some (.int .i64 k) := by subst hW; go_simp
  have k3 : W.cell? ⟨w.heap.size + 1 + 1, 3, none⟩ = some (.int .i64 f) := by subst hW; go_simp
  have k4 : W.cell? ⟨w.heap.size + 1 + 1, 4, none⟩ = some (.slice none 0 0) := by subst hW; go_simp
  have r0 : W.cell? ⟨w.heap.size + 1, 0, none⟩ = some (.int .i64 0) := by subst hW; go_simp
  have r1 : W.cell? ⟨w.heap.size + 1, 1, none⟩ = some (.int .i64 0) := by subst hW; go_simp
  have r2 : W.cell? ⟨w.heap.size + 1, 2, none⟩ = some (.int .i64 0) := by subst hW; go_simp
  have r3 : W.cell? ⟨w.heap.size + 1, 3, none⟩ = some (.int .i64 0) := by subst hW; go_simp
  have r4 : W.cell? ⟨w.heap.size + 1, 4, none⟩ = some (.slice none 0 0) := by subst hW; go_simp
  have fk : W.frozen? ⟨w.heap.size + 1 + 1, 4, none⟩ = false := by subst hW; go_simp
  have fr0 : W.frozen? ⟨w.heap.size + 1, 0, none⟩ = false := by subst hW; go_simp
  have fr1 : W.frozen? ⟨w.heap.size + 1, 1, none⟩ = false := by subst hW; go_simp
  have fr2 : W.frozen? ⟨w.heap.size + 1, 2, none⟩ = false := by subst hW; go_simp
  have fr3 : W.frozen? ⟨w.heap.size + 1, 3, none⟩ = false := by subst hW; go_simp
  have fr4 : W.frozen? ⟨w.heap.size + 1, 4, none⟩ = false := by subst hW; go_simp
  obtain ⟨W, hW⟩ : ∃ W, W = (((w.alloc (.cells #[.int .i64 m, .int .i64 n, .int .i64 k, .int .i64 f, .slice a xs.length cap] 26)).alloc (.cells #[.int .i64 0, .int .i64 0, .int .i64 0, .int .i64 0, .slice none 0 0] 33)).alloc (.cells #[.int .i64 m, .int .i64 n, .int .i64 k, .int .i64 f, .slice none 0 0] 33)) := ⟨_, rfl⟩
  have hz : W.heap.size = w.heap.size + 3 := by subst hW; simp
  have B0 : Below w.heap.size w W := hW ▸ (((Below.refl _ _).alloc (Nat.le_refl _) _).alloc (by simp) _).alloc (by simp; omega) _
  have k0 : W.cell? ⟨w.heap.size + 1 + 1, 0, none⟩ = some (.int .i64 m) := by subst hW; go_simp
  have k1 : W.cell? ⟨w.heap.size + 1 + 1, 1, none⟩ = some (.int .i64 n) := by subst hW; go_simp
  have k2 : W.cell? ⟨w.heap.size + 1 + 1, 2, none⟩ = some (.int .i64 k) := by subst hW; go_simp
  have k3 : W.cell? ⟨w.heap.size + 1 + 1, 3, none⟩ = some (.int .i64 f) := by subst hW; go_simp
  have k4 : W.cell? ⟨w.heap.size + 1 + 1, 4, none⟩ = some (.slice none 0 0) := by subst hW; go_simp
  have r0 : W.cell? ⟨w.heap.size + 1, 0, none⟩ = some (.int .i64 0) := by subst hW; go_simp
  have r1 : W.cell? ⟨w.heap.size + 1, 1, none⟩ = some (.int .i64 0) := by subst hW; go_simp
  have r2 : W.cell? ⟨w.heap.size + 1, 2, none⟩ = some (.int .i64 0) := by subst hW; go_simp
  have r3 : W.cell? ⟨w.heap.size + 1, 3, none⟩ = some (.int .i64 0) := by subst hW; go_simp
  have r4 : W.cell? ⟨w.heap.size + 1, 4, none⟩ = some (.slice none 0 0) := by subst hW; go_simp
  have fk : W.frozen? ⟨w.heap.size + 1 + 1, 4, none⟩ = false := by subst hW; go_simp
  have fr0 : W.frozen? ⟨w.heap.size + 1, 0, none⟩ = false := by subst hW; go_simp
  have fr1 : W.frozen? ⟨w.heap.size + 1, 1, none⟩ = false := by subst hW; go_simp
  have fr2 : W.frozen? ⟨w.heap.size + 1, 2, none⟩ = false := by subst hW; go_simp
  have fr3 : W.frozen? ⟨w.heap.size + 1, 3, none⟩ = false := by subst hW; go_simp
  have fr4 : W.frozen? ⟨w.heap.size + 1, 4, none⟩ = false := by subst hW; go_simp
  go_enter Tryd.func9, Tryd.ntmps9
  go_wp2_with fail
  rw [← hW]
  clear hW
  refine (toSealS_any a cap xs _ (h.later B0) hx).mono ?_
  rintro r w2 ⟨rfl, hr2, hb2⟩
  have hz2 := hb2.size
  obtain ⟨hc, hf⟩ := bcell hb2
  rw [← hc _ _ (by omega)] at k0 r0
  rw [← hc _ _ (by omega)] at k1 r1
  rw [← hc _ _ (by omega)] at k2 r2
  rw [← hc _ _ (by omega)] at k3 r3
  rw [← hc _ _ (by omega)] at k4 r4
  rw [← hf _ _ (by omega)] at fr0
  rw [← hf _ _ (by omega)] at fr1
  rw [← hf _ _ (by omega)] at fr2
  rw [← hf _ _ (by omega)] at fr3
  rw [← hf _ _ (by omega)] at fr4
  rw [← hf _ _ (by omega)] at fk
  have hl1 : w.heap.size + 1 < w2.heap.size := by omega
  have hl2 : w.heap.size + 1 + 1 < w2.heap.size := by omega
  have HR : Hid (SRow w2 (some ⟨W.heap.size, 0, none⟩) xs ∧ Below W.heap.size W w2 ∧ Below w.heap.size w W) := ⟨hr2, hb2, B0⟩
  clear hr2 hb2 B0 hc hf h
  go_wp2_with fail
  refine bodyPost_ret (v := .agg #[.int .i64 m, .int .i64 n, .int .i64 k, .int .i64 f, .slice (some ⟨w.heap.size + 3, 0, none⟩) xs.length xs.length]) (by simp [results, Tryd.results9, go_sem, *]) rfl ⟨⟨_, rfl, ?_⟩, ?_⟩
  · have h1 := HR.out.1
    rw [hz] at h1
    exact ((((((h1.set (by omega)).set (by omega)).set (by omega)).set (by omega)).set (by omega)).set (by omega))
  · have h1 := HR.out.2.2.trans (HR.out.2.1.mono (by omega))
    exact ((((((h1.setCell (p := ⟨_, _, none⟩) (by simp; omega) _).setCell (p := ⟨_, _, none⟩) (by simp) _).setCell (p := ⟨_, _, none⟩) (by simp) _).setCell (p := ⟨_, _, none⟩) (by simp) _).setCell (p := ⟨_, _, none⟩) (by simp) _).setCell (p := ⟨_, _, none⟩) (by simp) _)

end Go.Proofs.YtmolbfiicgiacaaDoor
