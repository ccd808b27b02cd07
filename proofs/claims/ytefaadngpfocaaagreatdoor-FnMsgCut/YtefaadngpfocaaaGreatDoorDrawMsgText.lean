/-
  A word is drawn from a list of bytes: four numbers, and a row of at most three seals in new memory; nothing that was there is turned.
-/
import Derived.Test.YtefaadngpfocaaaGreatDoorDrawMsg
namespace Go.Proofs.YtefaadngpfocaaaGreatDoor
open Go.RowKit

set_option maxHeartbeats 1000000 in
set_option maxRecDepth 100000 in
theorem drawMsgText_any (a : Option Addr) (len cap : Nat) (w : World) (h : Code w a len cap) :
    Calls Tryz.prog 6 #[.slice a len cap] w fun r w' => (∃ (m n k f : Int) (a : Option Addr) (xs : List Sl) (cap : Nat), r = .returned (.agg #[.int .i64 m, .int .i64 n, .int .i64 k, .int .i64 f, .slice a xs.length cap]) ∧ SRow w' a xs ∧ xs.length ≤ 3 ∧ (xs ≠ [] → ∃ g, a = some ⟨g, 0, none⟩ ∧ w.heap.size ≤ g)) ∧ Below w.heap.size w w' := by
  have HC : Hid (Code w a len cap) := h
  clear h
  go_enter Tryz.func6, Tryz.ntmps6
  go_wp2_with fail
  refine (l6Open_any a len cap _ (HC.out.below ((Below.refl _ _).alloc (Nat.le_refl _) _))).mono ?_
  rintro e1 w1 ⟨rfl, ⟨sv, L, R1⟩, b1⟩
  have hz1 : w.heap.size < w1.heap.size := by have := b1.size; simp at this; omega
  have c1 : w1.heap[w.heap.size]? = some (.cells #[.int .i64 0, .int .i64 0, .int .i64 0, .int .i64 0, .slice none 0 0] 25 (0, 0)) := (b1.block _ (by simp)).trans (heap_alloc_new w _)
  have H1 : Hid (Rd w1 (w.heap.size + 1) sv L 0 ∧ Below w.heap.size w w1 ∧ w1.heap[w.heap.size]? = some (.cells #[.int .i64 0, .int .i64 0, .int .i64 0, .int .i64 0, .slice none 0 0] 25 (0, 0))) := ⟨by simpa using R1, ((Below.refl _ _).alloc (Nat.le_refl _) _).trans (b1.mono (by simp)), c1⟩
  clear R1 b1 c1 HC
  go_wp2_with fail
  refine (l71Msg_any _ sv L _ H1.out.1).mono ?_
  rintro e2 w2 ⟨⟨m, n, k, f, a', xs, cap', rfl, hr, hx3, _, hg⟩, q, q0, q1, R2, G2⟩
  have c2 : w2.heap[w.heap.size]? = some (.cells #[.int .i64 0, .int .i64 0, .int .i64 0, .int .i64 0, .slice none 0 0] 25 (0, 0)) := (G2.block _ hz1 (by omega)).trans H1.out.2.2
  have B2 : Hid (Below w.heap.size w w2 ∧ SRow w2 a' xs ∧ (xs ≠ [] → ∃ g, a' = some ⟨g, 0, none⟩ ∧ w1.heap.size ≤ g)) := ⟨H1.out.2.1.trans (G2.below (by omega) (by omega)), hr, hg⟩
  clear R2 G2 H1 hr hg
  obtain ⟨z0, z1, z2, z3, z4, zf, zl⟩ := cells5 c2
  clear c2
  go_wp2_with fail
  refine bodyPost_ret (v := .agg #[.int .i64 m, .int .i64 n, .int .i64 k, .int .i64 f, .slice a' xs.length cap']) (by simp [results, Tryz.results6, go_sem, *]) rfl ⟨⟨m, n, k, f, a', xs, cap', rfl, ?_, hx3, ?_⟩, ?_⟩
  · have hp : ∀ g off, a' = some ⟨g, off, none⟩ → xs ≠ [] → g ≠ w.heap.size := by
      rintro g off rfl hx
      obtain ⟨g', e, hg'⟩ := B2.out.2.2 hx
      simp at e
      omega
    exact ((((B2.out.2.1.put hp).put hp).put hp).put hp).put hp
  · intro hx
    obtain ⟨g, e, hg'⟩ := B2.out.2.2 hx
    exact ⟨g, e, by omega⟩
  · exact ((((B2.out.1.setCell (p := ⟨_, _, none⟩) (Nat.le_refl _) _).setCell (p := ⟨_, _, none⟩) (Nat.le_refl _) _).setCell (p := ⟨_, _, none⟩) (Nat.le_refl _) _).setCell (p := ⟨_, _, none⟩) (Nat.le_refl _) _).setCell (p := ⟨_, _, none⟩) (Nat.le_refl _) _

end Go.Proofs.YtefaadngpfocaaaGreatDoor
