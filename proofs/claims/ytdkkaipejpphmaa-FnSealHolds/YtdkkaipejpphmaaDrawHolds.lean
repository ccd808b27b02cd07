/-
  A seal is drawn from a list of bytes, anew now and then where no key is in it: seven numbers; nothing that was there is turned.
-/
import Derived.Test.YtdkkaipejpphmaaDrawOk
import Derived.Test.YtdkkaipejpphmaaSealSame
namespace Go.Proofs.Ytdkkaipejpphmaa
open Go.RowKit

/-- Another seal, laid over the last one. -/
theorem Dk.over {W : World} {sv : Value} {L B : Nat} {w : World} {p : Int} {v0 v1 v2 v3 v4 v5 v6 u0 u1 u2 u3 u4 u5 u6 : Value} (h : Dk W sv L B (.cells #[v0, v1, v2, v3, v4, v5, v6] 24 (0, 0)) w p) :
    Dk W sv L B (.cells #[u0, u1, u2, u3, u4, u5, u6] 24 (0, 0)) (((((((w.setCell ⟨B, 0, none⟩ u0).setCell ⟨B, 1, none⟩ u1).setCell ⟨B, 2, none⟩ u2).setCell ⟨B, 3, none⟩ u3).setCell ⟨B, 4, none⟩ u4).setCell ⟨B, 5, none⟩ u5).setCell ⟨B, 6, none⟩ u6) p := by
  have hs : ∀ {w : World} {cs : Array Value} (o : Nat) (v : Value), Dk W sv L B (.cells cs 24 (0, 0)) w p → Dk W sv L B (.cells (cs.setIfInBounds o v) 24 (0, 0)) (w.setCell ⟨B, o, none⟩ v) p := by
    intro w cs o v h
    have g := h.gt
    refine ⟨h.rd.store (by simp; omega) v, h.below.setCell (by simp; omega) v, (Below.heap_setCell w _ _ _ (by simp; omega)).trans h.res, ?_, g⟩
    have hlt : B < w.heap.size := (Array.getElem?_eq_some_iff.1 h.sealed).1
    simp [World.setCell, Array.getElem?_modify, h.sealed]
  have h7 := hs 6 u6 (hs 5 u5 (hs 4 u4 (hs 3 u3 (hs 2 u2 (hs 1 u1 (hs 0 u0 h))))))
  simpa using h7

set_option maxHeartbeats 1000000 in
set_option maxRecDepth 100000 in
theorem drawSealHolds_any (a : Option Addr) (len cap : Nat) (w : World) (h : Code w a len cap) :
    Calls Try.prog 10 #[.slice a len cap] w fun r w' => (∃ k t a b c d e : Int, r = .returned (.agg #[.int .i64 k, .int .i64 t, .int .i64 a, .int .i64 b, .int .i64 c, .int .i64 d, .int .i64 e])) ∧ Below w.heap.size w w' := by
  have HC : Hid (Code w a len cap) := h
  clear h
  go_enter Try.func10, Try.ntmps10
  go_wp2_with fail
  refine (l6Open_any a len cap _ (HC.out.below ((Below.refl _ _).alloc (Nat.le_refl _) _))).mono ?_
  rintro e1 w1 ⟨rfl, ⟨sv, L, R1⟩, b1⟩
  have c1 : w1.heap[w.heap.size]? = some (.cells #[.int .i64 0, .int .i64 0, .int .i64 0, .int .i64 0, .int .i64 0, .int .i64 0, .int .i64 0] 24 (0, 0)) := (b1.block _ (by simp)).trans (heap_alloc_new w _)
  have H1 : Hid (Rd w1 (w.heap.size + 1) sv L 0 ∧ Below w.heap.size w w1 ∧ w1.heap[w.heap.size]? = some (.cells #[.int .i64 0, .int .i64 0, .int .i64 0, .int .i64 0, .int .i64 0, .int .i64 0, .int .i64 0] 24 (0, 0))) := ⟨by simpa using R1, ((Below.refl _ _).alloc (Nat.le_refl _) _).trans (b1.mono (by simp)), c1⟩
  clear R1 b1 c1 HC
  go_wp2_with fail
  refine (l71Seal_any _ sv L 0 _ H1.out.1 (by omega) (by omega)).mono ?_
  rintro e2 w2 ⟨⟨k, t, a', b, c, d, e, rfl⟩, q, q0, q1, R2, G2⟩
  have H2 : Hid (Dk w sv L w2.heap.size (.cells #[.int .i64 k, .int .i64 t, .int .i64 a', .int .i64 b, .int .i64 c, .int .i64 d, .int .i64 e] 24 (0, 0)) (w2.alloc (.cells #[.int .i64 k, .int .i64 t, .int .i64 a', .int .i64 b, .int .i64 c, .int .i64 d, .int .i64 e] 24)) q) := dk_start R2 H1.out.2.1 H1.out.2.2 G2
  clear R2 G2 H1
  go_wp2_with fail
  go_loopw [5] (fun i wr => ∃ (j : Nat) (p : Int), j ≤ 3 ∧ i = .int .i64 j ∧ 0 ≤ p ∧ p ≤ 20 + 30 * j ∧ ∃ k t a b c d e : Int, Hid (Dk w sv L w2.heap.size (.cells #[.int .i64 k, .int .i64 t, .int .i64 a, .int .i64 b, .int .i64 c, .int .i64 d, .int .i64 e] 24 (0, 0)) wr p)) (fun i _ => 3 - (intOf i).toNat)
  case atStart => exact ⟨0, q, by omega, rfl, q0, by omega, _, _, _, _, _, _, _, H2⟩
  case round =>
    clear H2
    obtain ⟨j, p, hj, rfl, p0, p1, k, t, a', b, c, d, e, H⟩ := hrel
    have hgt := H.out.gt
    have hne : ¬ w2.heap.size = w.heap.size := by omega
    have hne2 : ¬ w.heap.size = w2.heap.size := by omega
    obtain ⟨m0, m1, m2, m3, m4, m5, m6, mf⟩ := cells7 H.out.sealed
    by_cases hlt : j < 3
    · go_wp2_with fail
      refine (specH_any _ _ _ _ _ _ _ _).mono ?_
      rintro e3 w3 ⟨rfl, b3⟩
      have H3 : Hid (Dk w sv L w2.heap.size (.cells #[.int .i64 k, .int .i64 t, .int .i64 a', .int .i64 b, .int .i64 c, .int .i64 d, .int .i64 e] 24 (0, 0)) w3 p) := H.out.grew (H.out.rd.below b3) (Below.grew _ b3)
      clear b3 H m0 m1 m2 m3 m4 m5 m6 mf
      obtain ⟨m0, m1, m2, m3, m4, m5, m6, mf⟩ := cells7 H3.out.sealed
      obtain ⟨z0, z1, z2, z3, z4, z5, z6, zf⟩ := cells7 H3.out.res
      by_cases hk : hK k t a' b c d e = 0
      · rw [hk]
        clear hk m0 m1 m2 m3 m4 m5 m6 mf z0 z1 z2 z3 z4 z5 z6 zf
        go_wp2_with fail
        refine (pick_any 3 (by omega) _ sv L p _ H3.out.rd p0 (by omega)).mono ?_
        rintro e4 w4 ⟨⟨v, v0, v1, rfl⟩, R4, G4⟩
        have H4 : Hid (Dk w sv L w2.heap.size (.cells #[.int .i64 k, .int .i64 t, .int .i64 a', .int .i64 b, .int .i64 c, .int .i64 d, .int .i64 e] 24 (0, 0)) w4 (p + 1)) := H3.out.only R4 G4
        clear R4 G4 H3
        by_cases hv : 0 < v
        · go_wp2_with fail
          refine (l71Seal_any _ sv L (p + 1) _ H4.out.rd (by omega) (by omega)).mono ?_
          rintro e5 w5 ⟨⟨k', t', a'', b', c', d', e', rfl⟩, q', q0', q1', R5, G5⟩
          have H5 := H4.out.grew R5 G5
          obtain ⟨m0, m1, m2, m3, m4, m5, m6, mf⟩ := cells7 H5.sealed
          have H6 : Hid (Dk w sv L w2.heap.size (.cells #[.int .i64 k', .int .i64 t', .int .i64 a'', .int .i64 b', .int .i64 c', .int .i64 d', .int .i64 e'] 24 (0, 0)) (((((((w5.setCell ⟨w2.heap.size, 0, none⟩ (.int .i64 k')).setCell ⟨w2.heap.size, 1, none⟩ (.int .i64 t')).setCell ⟨w2.heap.size, 2, none⟩ (.int .i64 a'')).setCell ⟨w2.heap.size, 3, none⟩ (.int .i64 b')).setCell ⟨w2.heap.size, 4, none⟩ (.int .i64 c')).setCell ⟨w2.heap.size, 5, none⟩ (.int .i64 d')).setCell ⟨w2.heap.size, 6, none⟩ (.int .i64 e')) q') := H5.over
          clear R5 G5 H4 H5
          go_wp2_with fail
          go_roundw
          case rel => exact ⟨j + 1, q', by omega, by go_num, q0', by omega, _, _, _, _, _, _, _, H6⟩
          case measure => simp [intOf]; omega
        · obtain ⟨m0, m1, m2, m3, m4, m5, m6, mf⟩ := cells7 H4.out.sealed
          obtain ⟨z0, z1, z2, z3, z4, z5, z6, zf⟩ := cells7 H4.out.res
          have hv' : v ≤ 0 := by omega
          go_wp2
          exact bodyPost_ret (v := .agg #[_, _, _, _, _, _, _]) (by simp [results, Try.results10, go_sem, z0, z1, z2, z3, z4, z5, z6]; exact ⟨rfl, rfl, rfl, rfl, rfl, rfl, rfl⟩) rfl ⟨⟨_, _, _, _, _, _, _, rfl⟩, ((((((H4.out.below.setCell (Nat.le_refl _) _).setCell (Nat.le_refl _) _).setCell (Nat.le_refl _) _).setCell (Nat.le_refl _) _).setCell (Nat.le_refl _) _).setCell (Nat.le_refl _) _).setCell (Nat.le_refl _) _⟩
      · have hk' : (hK k t a' b c d e == 0) = false := by simpa using hk
        go_wp2
        exact bodyPost_ret (v := .agg #[_, _, _, _, _, _, _]) (by simp [results, Try.results10, go_sem, z0, z1, z2, z3, z4, z5, z6]; exact ⟨rfl, rfl, rfl, rfl, rfl, rfl, rfl⟩) rfl ⟨⟨_, _, _, _, _, _, _, rfl⟩, ((((((H3.out.below.setCell (Nat.le_refl _) _).setCell (Nat.le_refl _) _).setCell (Nat.le_refl _) _).setCell (Nat.le_refl _) _).setCell (Nat.le_refl _) _).setCell (Nat.le_refl _) _).setCell (Nat.le_refl _) _⟩
    · obtain rfl : j = 3 := by omega
      obtain ⟨z0, z1, z2, z3, z4, z5, z6, zf⟩ := cells7 H.out.res
      go_wp2
      exact bodyPost_ret (v := .agg #[_, _, _, _, _, _, _]) (by simp [results, Try.results10, go_sem, z0, z1, z2, z3, z4, z5, z6]; exact ⟨rfl, rfl, rfl, rfl, rfl, rfl, rfl⟩) rfl ⟨⟨_, _, _, _, _, _, _, rfl⟩, ((((((H.out.below.setCell (Nat.le_refl _) _).setCell (Nat.le_refl _) _).setCell (Nat.le_refl _) _).setCell (Nat.le_refl _) _).setCell (Nat.le_refl _) _).setCell (Nat.le_refl _) _).setCell (Nat.le_refl _) _⟩

end Go.Proofs.Ytdkkaipejpphmaa
