/-
  The program's CacheWith: as the plain mathematics says, in a row of its own; nothing that was in memory is turned.
-/
import Derived.Test.YtghajmfjekfdpaaDoorKdcCache
namespace Go.Proofs.YtghajmfjekfdpaaDoor
open Go.RowKit

theorem OwnS.less {w : World} {base base' : Nat} {v : Value} {zs : List Sl} (h : OwnS w base v zs) (hb : base' ≤ base) : OwnS w base' v zs :=
  ⟨h.1, h.2.imp id fun ⟨g, cap, cur, q1, q2, q3⟩ => ⟨g, cap, cur, q1, Nat.le_trans hb q2, q3⟩⟩
theorem ret_two {v : Value} {a b : Bool} (h : a = b) : Ending.returned (.tuple #[v, .bool a]) = .returned (.tuple #[v, .bool b]) := by rw [h]
theorem OwnS.nil (w : World) (base : Nat) : OwnS w base (.slice none 0 0) [] := World.ownsRow_nil _ _ _ _

set_option maxHeartbeats 4000000 in
set_option maxRecDepth 100000 in
theorem implWith_any (a : Option Addr) (cap : Nat) (xs : List Sl) (s : Sl) (now : Int) (w : World) (h : SRow w a xs) (hc : xs.length ≤ cap) :
    Calls Tryd.prog 35 #[.slice a xs.length cap, .agg #[.int .i64 s.k, .int .i64 s.t, .int .i64 s.a, .int .i64 s.b, .int .i64 s.c, .int .i64 s.d, .int .i64 s.e], .int .i64 now] w fun r w' => (∃ v, r = .returned (.tuple #[v, .bool (cwB now xs s)]) ∧ OwnS w' w.heap.size v (cwL now xs s)) ∧ Below w.heap.size w w' := by
  go_enter Tryd.func35, Tryd.ntmps35
  obtain ⟨F1, F2, F3⟩ := freshS w s
  have HF : Hid (SealAt (w.alloc (.cells #[.int .i64 s.k, .int .i64 s.t, .int .i64 s.a, .int .i64 s.b, .int .i64 s.c, .int .i64 s.d, .int .i64 s.e] 64)) w.heap.size 0 s ∧ Below w.heap.size w (w.alloc (.cells #[.int .i64 s.k, .int .i64 s.t, .int .i64 s.a, .int .i64 s.b, .int .i64 s.c, .int .i64 s.d, .int .i64 s.e] 64))) := ⟨F2, F1⟩
  have h1 := h.later F1
  clear F1 F2 F3
  go_wp2_with fail
  refine (isCache_any a cap xs _ h1 hc).mono ?_
  rintro r w2 ⟨rfl, b2⟩
  have HAT : Hid (SealAt w2 w.heap.size 0 s) := HF.out.1.later b2 (by simp)
  have HB : Hid (Below w.heap.size w w2) := HF.out.2.trans (b2.mono (by simp))
  have HLT : w.heap.size < w2.heap.size := by have := b2.size; simp at this; omega
  clear HF b2 h1
  cases hca : cacheB xs
  · have E : Hid (cwB now xs s = false ∧ cwL now xs s = []) := ⟨by simp [cwB, askB, hca], by simp [cwL, askB, hca]⟩
    clear h
    go_wp2_with fail
    go_ret2
    exact ⟨⟨.slice none 0 0, ret_two E.out.1.symm, by rw [E.out.2]; exact OwnS.nil _ _⟩, HB.out⟩
  · obtain ⟨c0, c1, c2, c3, c4, c5, c6⟩ := id HAT.out
    simp only [Nat.zero_add] at c1 c2 c3 c4 c5 c6
    go_wp2_with fail
    refine (isAuth_any s _).mono ?_
    rintro r w3 ⟨rfl, b3⟩
    replace HAT : Hid (SealAt w3 w.heap.size 0 s) := HAT.out.later b3 HLT
    replace HB : Hid (Below w.heap.size w w3) := HB.out.trans (b3.mono (by omega))
    replace HLT : w.heap.size < w3.heap.size := by have := b3.size; omega
    clear c0 c1 c2 c3 c4 c5 c6 b3
    cases hau : s.auth
    · have E : Hid (cwB now xs s = false ∧ cwL now xs s = []) := ⟨by simp [cwB, askB, hau], by simp [cwL, askB, hau]⟩
      clear h
      go_wp2_with fail
      go_ret2
      exact ⟨⟨.slice none 0 0, ret_two E.out.1.symm, by rw [E.out.2]; exact OwnS.nil _ _⟩, HB.out⟩
    · go_wp2_with fail
      refine (isTime_any now _).mono ?_
      rintro r w4 ⟨rfl, rfl⟩
      cases hti : inB now 0 100
      · have E : Hid (cwB now xs s = false ∧ cwL now xs s = []) := ⟨by simp [cwB, askB, hti], by simp [cwL, askB, hti]⟩
        clear h
        go_wp2_with fail
        go_ret2
        exact ⟨⟨.slice none 0 0, ret_two E.out.1.symm, by rw [E.out.2]; exact OwnS.nil _ _⟩, HB.out⟩
      · have E : Hid (cwB now xs s = remB now (keep now xs) s ∧ cwL now xs s = remL now (keep now xs) s) := ⟨by simp only [cwB, askB, hca, hau, hti]; rfl, by simp only [cwL, askB, hca, hau, hti]; rfl⟩
        have hn := inB_is.1 hti
        have hb : 0 ≤ s.b ∧ s.b ≤ 100 := by have := auth_parts hau; omega
        have HX : Hid (∀ u ∈ xs, 0 ≤ u.b ∧ u.b ≤ 100) := fun u hu => by
          have := auth_parts (cacheB_auth hca u hu)
          omega
        have hx := cacheB_len hca
        go_wp2_with fail
        refine (ringOf_any a cap xs _ (h.later HB.out) hx).mono ?_
        rintro r w5 ⟨rfl, r5, b5⟩
        obtain ⟨R, hR⟩ : ∃ R, R = w4.heap.size := ⟨_, rfl⟩
        rw [← hR] at r5 ⊢
        have hR0 : w.heap.size < R := by omega
        have H5 : Hid (Ring w5 R 0 xs ∧ Below w.heap.size w w5 ∧ SealAt w5 w.heap.size 0 s ∧ w.heap.size < w5.heap.size) := ⟨r5, HB.out.trans (b5.mono HB.out.size), HAT.out.later b5 HLT, by have := b5.size; omega⟩
        clear h HB HAT HLT r5 b5 hR
        go_wp2_with fail
        refine (forget_any R 0 now xs _ H5.out.1 hn HX.out).mono ?_
        rintro r w6 ⟨rfl, ⟨f', r6⟩, g6⟩
        have H6 : Hid (Ring w6 R f' (keep now xs) ∧ Below w.heap.size w w6 ∧ SealAt w6 w.heap.size 0 s ∧ w.heap.size < w6.heap.size) := ⟨r6, grown_below H5.out.2.1 g6 (by omega), H5.out.2.2.1.same (g6.block _ H5.out.2.2.2 (fun e => by simp at e; omega)), by have := g6.size; have := H5.out.2.2.2; omega⟩
        clear H5 r6 g6
        obtain ⟨c0, c1, c2, c3, c4, c5, c6⟩ := id H6.out.2.2.1
        simp only [Nat.zero_add] at c1 c2 c3 c4 c5 c6
        go_wp2_with fail
        refine (remember_any R f' now (keep now xs) s _ H6.out.1 hn hb).mono ?_
        rintro r w7 ⟨rfl, r7, g7⟩
        have H7 : Hid (Ring w7 R f' (remL now (keep now xs) s) ∧ Below w.heap.size w w7) := ⟨r7, grown_below H6.out.2.1 g7 (by omega)⟩
        clear H6 r7 g7 c0 c1 c2 c3 c4 c5 c6
        go_wp2_with fail
        refine (list_any R f' _ _ H7.out.1).mono ?_
        rintro r w8 ⟨⟨v, rfl, o8⟩, b8⟩
        have H8 : Hid (OwnS w8 w7.heap.size v (remL now (keep now xs) s) ∧ Below w7.heap.size w7 w8) := ⟨o8, b8⟩
        clear o8 b8
        go_wp2_with fail
        go_ret2
        refine ⟨⟨v, ret_two E.out.1.symm, ?_⟩, H7.out.2.trans (H8.out.2.mono H7.out.2.size)⟩
        rw [E.out.2]
        exact OwnS.less H8.out.1 H7.out.2.size

end Go.Proofs.YtghajmfjekfdpaaDoor
