/-
  Whether what one has is ok, and whether a user is: the program's areCreds and ClientOk; nothing that was in memory is turned.
-/
import Derived.Test.YthhdddcgkoaieaaPurseOf
import Derived.Test.YthhdddcgkoaieaaClOkI
import Derived.Test.YthhdddcgkoaieaaClMetI
namespace Go.Proofs.Ythhdddcgkoaieaa
open Go.RowKit Go.Maps
attribute [local go_sem ↓] Go.wp_at_zero Go.wp_at_succ

theorem purse_order (m : Nat) (av : Option Addr) (l c : Nat) (w : World) : (Instr.field 97 (.agg #[.map (some m), .slice av l c]) 1).run Try.prog w = .ok (.slice av l c) w := by kernel_rfl
theorem peer_of {x : Int} (h : inB x 4 6 = true) : 4 ≤ x ∧ x ≤ 6 := by simp [inB] at h; exact h

set_option maxHeartbeats 8000000 in
set_option maxRecDepth 100000 in
theorem areCreds_any (a : Option Addr) (cap : Nat) (xs : List Cd) (w : World) (h : NRow celD w a xs) (hx : xs.length ≤ 1048576) :
    Calls Try.prog 62 #[.slice a xs.length cap] w fun r w' => r = .returned (.bool (xs.all okCd && dupB [] xs)) ∧ Below w.heap.size w w' := by
  have HR : Hid (NRow celD w a xs) := h
  go_enter Try.func62, Try.ntmps62
  go_wp2_with fail
  go_loopw [7] (fun i wr => ∃ (j : Nat), j ≤ xs.length ∧ i = .int .i64 j ∧ Hid (Below w.heap.size w wr ∧ (xs.all okCd && dupB [] xs) = ((xs.drop j).all okCd && dupB [] xs) ∧ ∀ y ∈ xs.take j, 4 ≤ y.s ∧ y.s ≤ 6)) (fun i _ => xs.length - (intOf i).toNat)
  case atStart => exact ⟨0, Nat.zero_le _, rfl, Below.refl _ _, by rw [List.drop_zero], by simp⟩
  case round =>
    obtain ⟨j, hj, rfl, C⟩ := hrel
    by_cases hlt : j < xs.length
    · obtain ⟨x, hs⟩ : ∃ x, xs[j]? = some x := ⟨xs[j], List.getElem?_eq_getElem hlt⟩
      rcases h with h | ⟨b, off, rfl, hl, h⟩
      · simp [h] at hlt
      obtain ⟨d0, d1, d2, d3, d4, d5, d6, d7, d8, d9⟩ := celD.at ((h j x hs).later C.out.1 hl)
      simp only [show celD.n = 10 from rfl] at d0 d1 d2 d3 d4 d5 d6 d7 d8 d9
      have E : Hid ((xs.all okCd && dupB [] xs) = (okCd x && (xs.drop (j + 1)).all okCd && dupB [] xs)) := by have e := C.out.2.1; rw [drop_at hs] at e; exact e
      have HT : Hid ((∀ y ∈ xs.take j, 4 ≤ y.s ∧ y.s ≤ 6) ∧ xs.take (j + 1) = xs.take j ++ [x]) := ⟨C.out.2.2, take_at hs⟩
      have B : Hid (Below w.heap.size w (wr.alloc (.cells #[.int .i64 x.s, .int .i64 x.k, .int .i64 x.u, .int .i64 x.x.k, .int .i64 x.x.t, .int .i64 x.x.a, .int .i64 x.x.b, .int .i64 x.x.c, .int .i64 x.x.d, .int .i64 x.x.e] 68)) ∧ NumsAt (wr.alloc (.cells #[.int .i64 x.s, .int .i64 x.k, .int .i64 x.u, .int .i64 x.x.k, .int .i64 x.x.t, .int .i64 x.x.a, .int .i64 x.x.b, .int .i64 x.x.c, .int .i64 x.x.d, .int .i64 x.x.e] 68)) wr.heap.size 0 (celD.cs x) ∧ wr.heap.size < (wr.alloc (.cells #[.int .i64 x.s, .int .i64 x.k, .int .i64 x.u, .int .i64 x.x.k, .int .i64 x.x.t, .int .i64 x.x.a, .int .i64 x.x.b, .int .i64 x.x.c, .int .i64 x.x.d, .int .i64 x.x.e] 68)).heap.size) := ⟨C.out.1.alloc C.out.1.size _, numsAt_new wr 68 (celD.cs x), by simp⟩
      clear h C hs
      go_wp2_with fail
      clear d0 d1 d2 d3 d4 d5 d6 d7 d8 d9
      generalize wr.alloc (.cells #[.int .i64 x.s, .int .i64 x.k, .int .i64 x.u, .int .i64 x.x.k, .int .i64 x.x.t, .int .i64 x.x.a, .int .i64 x.x.b, .int .i64 x.x.c, .int .i64 x.x.d, .int .i64 x.x.e] 68) = W at B ⊢
      obtain ⟨p, hp⟩ : ∃ p, p = wr.heap.size := ⟨_, rfl⟩
      rw [← hp] at B ⊢
      clear hp
      obtain ⟨d0, d1, d2, d3, d4, d5, d6, d7, d8, d9⟩ := celD.at B.out.2.1
      simp only [Nat.zero_add] at d1 d2 d3 d4 d5 d6 d7 d8 d9
      refine (isPeer_any _ _).mono ?_
      rintro r w2 ⟨rfl, rfl⟩
      cases t0 : inB x.s 4 6
      · have E3 : Hid ((xs.all okCd && dupB [] xs) = false) := Hid.mk' (by rw [E.out]; simp [okCd, Sl.ok, t0])
        clear E
        go_wp2_with fail
        go_ret
        exact ⟨ret_bool E3.out.symm, B.out.1⟩
      go_wp2_with fail
      refine (isMadeKey_any _ _).mono ?_
      rintro r w2 ⟨rfl, rfl⟩
      cases t1 : inB x.k 10 60
      · have E3 : Hid ((xs.all okCd && dupB [] xs) = false) := Hid.mk' (by rw [E.out]; simp [okCd, Sl.ok, t1])
        clear E
        go_wp2_with fail
        go_ret
        exact ⟨ret_bool E3.out.symm, B.out.1⟩
      go_wp2_with fail
      refine (isTime_any _ _).mono ?_
      rintro r w2 ⟨rfl, rfl⟩
      cases t2 : inB x.u 0 100
      · have E3 : Hid ((xs.all okCd && dupB [] xs) = false) := Hid.mk' (by rw [E.out]; simp [okCd, Sl.ok, t2])
        clear E
        go_wp2_with fail
        go_ret
        exact ⟨ret_bool E3.out.symm, B.out.1⟩
      go_wp2_with fail
      clear d0 d1 d2 d3 d4 d5 d6 d7 d8 d9
      refine (implOk_any x.x.k x.x.t x.x.a x.x.b x.x.c x.x.d x.x.e _).mono ?_
      rintro r w4 ⟨rfl, b9⟩
      have B4 : Hid (Below w.heap.size w w4 ∧ True) := ⟨B.out.1.trans (b9.mono B.out.1.size), trivial⟩
      clear B b9
      cases t3 : okB x.x.k x.x.t x.x.a x.x.b x.x.c x.x.d x.x.e
      · have E3 : Hid ((xs.all okCd && dupB [] xs) = false) := Hid.mk' (by rw [E.out]; simp [okCd, Sl.ok, t3])
        clear E
        go_wp2_with fail
        go_ret
        exact ⟨ret_bool E3.out.symm, B4.out.1⟩
      have E9 : Hid ((xs.all okCd && dupB [] xs) = ((xs.drop (j + 1)).all okCd && dupB [] xs) ∧ ∀ y ∈ xs.take (j + 1), 4 ≤ y.s ∧ y.s ≤ 6) := Hid.mk' (by
        refine ⟨by rw [E.out]; simp [okCd, Sl.ok, t0, t1, t2, t3], fun y hy => ?_⟩
        rw [HT.out.2] at hy
        rcases List.mem_append.1 hy with hy | hy
        · exact HT.out.1 y hy
        · rw [List.mem_singleton.1 hy]; exact peer_of t0)
      clear E HT t0 t1 t2 t3
      go_wp2_with fail
      go_roundw
      case rel => exact ⟨j + 1, by omega, by go_num, B4.out.1, E9.out⟩
      case measure => simp [intOf]; omega
    · obtain rfl : j = xs.length := by omega
      have E : Hid ((xs.all okCd && dupB [] xs) = dupB [] xs ∧ (∀ y ∈ xs, 4 ≤ y.s ∧ y.s ≤ 6) ∧ Below w.heap.size w wr) := by
        obtain ⟨e0, e1, e2⟩ := C.out
        rw [List.drop_length] at e1
        rw [List.take_length] at e2
        exact ⟨e1, e2, e0⟩
      clear h C
      go_wp2_with fail
      refine (purseOf_any a cap xs _ (HR.out.later E.out.2.2) E.out.2.1 hx).mono ?_
      rintro r w2 ⟨m, vo, D, rfl, u2, b2, _⟩
      obtain ⟨av, cv, rfl, _⟩ := u2.own.rows
      have H9 : Hid ((xs.all okCd && dupB [] xs) = decide ((ordS [] xs).length = xs.length) ∧ Below w.heap.size w w2) := ⟨by rw [E.out.1, ← ordS_dup xs []]; simp, E.out.2.2.trans (b2.mono E.out.2.2.size)⟩
      clear E u2 b2
      have hfld := purse_order m av (ordS [] xs).length cv w2
      go_wp2_with fail
      go_ret
      refine ⟨ret_bool ?_, H9.out.2⟩
      rw [H9.out.1]
      refine decide_eq_decide.2 ?_
      omega

end Go.Proofs.Ythhdddcgkoaieaa
