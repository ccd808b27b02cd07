/-
  The law 'a seal whose key one has not one cannot make', walked at every list of bytes: it returns true, and nothing that was in memory is turned.
-/
import Derived.Test.YtepnijocfilgoaaDoorDrawnWord
import Derived.Test.YtepnijocfilgoaaDoorKnowKeysI
import Derived.Test.YtepnijocfilgoaaDoorIntLb
import Derived.Test.YtepnijocfilgoaaDoorLbAmong
import Derived.Test.YtepnijocfilgoaaDoorKSkip
namespace Go.Proofs.YtepnijocfilgoaaDoor
open Go.RowKit
attribute [local go_sem ↓] Go.wp_at_zero Go.wp_at_succ

/-- The seal that is tried of a key. -/
def backS (key : Int) : Sl := ⟨key, 4, 1, 1, 0, 0, 0⟩
theorem backS_ok {key : Int} (h1 : 10 ≤ key) (h2 : key ≤ 60) : (backS key).ok = true := by
  simp [backS, Sl.ok, okB, ok4, inB, h1, h2]
theorem backS_inn {key : Int} : (backS key).inn = 0 := by
  unfold Sl.inn
  split
  · rfl
  · rfl
theorem backS_build {xs : List Sl} {H : List Bool} {key : Int} (h1 : 10 ≤ key) (h2 : key ≤ 60) : buildB H xs 6 1 0 0 [backS key] = (decide (key ∈ keysOf H 61) || inS (backS key) xs) := by
  have hm : msgB 6 1 0 0 [backS key] = true := by simp [msgB, slB, backS_ok h1 h2, inB]
  have hk : decide (key ∈ keysOf H 61) = H.getD key.toNat false := by
    cases hb : H.getD key.toNat false
    · exact decide_eq_false fun hm => by have := (mem_keysOf.1 hm).2.2; rw [hb] at this; cases this
    · exact decide_eq_true (mem_keysOf.2 ⟨by omega, by omega, hb⟩)
  unfold buildB
  rw [hm, Bool.true_and, List.all_cons, List.all_nil, Bool.and_true, hk]
  unfold canB
  rw [backS_inn, decide_eq_true rfl, Bool.true_or, Bool.and_true, Bool.or_comm]
  rfl

set_option maxRecDepth 100000 in
set_option maxHeartbeats 1000000 in
theorem buildNot_long (a : Option Addr) (len cap : Nat) (w : World) (h : 1048576 < (len : Int)) :
    Calls Tryd.prog 5 #[.slice a len cap] w fun r w' => r = .returned (.bool true) ∧ Below w.heap.size w w' := by
  go_enter Tryd.func5, Tryd.ntmps5
  go_wp2_with fail
  go_ret
  exact ⟨rfl, Below.refl _ _⟩

set_option maxRecDepth 100000 in
set_option maxHeartbeats 8000000 in
theorem buildNot_short (a : Option Addr) (len cap : Nat) (w : World) (h : (len : Int) ≤ 1048576) (hc : Code w a len cap) (hf : Forms w) :
    Calls Tryd.prog 5 #[.slice a len cap] w fun r w' => r = .returned (.bool true) ∧ Below w.heap.size w w' := by
  go_enter Tryd.func5, Tryd.ntmps5
  go_wp2_with fail
  refine (drawBuild_any a len cap w hc).mono ?_
  rintro r w1 ⟨a1, c1, ks, a2, c2, xs, m, n, k, f, a3, c3, ys, rfl, d1, r1, hy⟩
  have f1 := d1.few1
  have f2 := d1.few2
  have E1 : Hid (Dw w a1 ks a2 xs a3 ys w1.heap.size m n k f (.slice a3 ys.length c3) (w1.alloc (.cells #[.int .i64 m, .int .i64 n, .int .i64 k, .int .i64 f, .slice a3 ys.length c3] 33))) := Dw.of d1 r1 hf
  obtain ⟨H, hR⟩ := right_any ks xs
  have HR : Hid (Right ks xs H) := hR
  clear d1 r1 hc hR
  go_wp2_with fail
  refine (implBuild_any a1 a2 a3 c1 c2 c3 ks xs m n k f ys _ H HR.out E1.out.dr.keys E1.out.dr.seals E1.out.row (by omega) (by omega) (by omega) E1.out.fo).mono ?_
  rintro r w2 ⟨rfl, b2⟩
  have E2 : Hid (Dw w a1 ks a2 xs a3 ys w1.heap.size m n k f (.slice a3 ys.length c3) w2) := E1.out.later b2
  clear E1 b2
  obtain ⟨bb, hbb⟩ : ∃ bb, buildB H xs m n k f ys = bb := ⟨_, rfl⟩
  have HB : Hid (buildB H xs m n k f ys = bb) := hbb
  rw [hbb]
  clear hbb
  obtain ⟨e0, e1, e2, e3, e4⟩ := E2.out.mc
  go_wp2_with fail
  refine (specBuild_any a1 a2 a3 c1 c2 c3 ks xs m n k f ys _ H HR.out E2.out.dr.keys E2.out.dr.seals E2.out.row (by omega) (by omega) (by omega)).mono ?_
  rintro r w3 ⟨rfl, b3⟩
  have E3 : Hid (Dw w a1 ks a2 xs a3 ys w1.heap.size m n k f (.slice a3 ys.length c3) w3) := E2.out.later b3
  clear E2 b3 e0 e1 e2 e3 e4
  rw [HB.out]
  obtain ⟨e0, e1, e2, e3, e4⟩ := E3.out.mc
  clear HB
  clear e0 e1 e2 e3 e4
  have hbb : (bb != bb) = false := by cases bb <;> rfl
  go_wp2_with fail
  refine (implKeys_any a1 a2 c1 c2 ks xs w3 E3.out.dr.keys E3.out.dr.seals (by omega) (by omega)).mono ?_
  rintro r w4 ⟨⟨v4, H', rfl, hR', o4⟩, b4⟩
  obtain rfl : H = H' := HR.out.one hR' (fun _ => Iff.rfl)
  obtain ⟨aa, ca, rfl, i4⟩ := o4.row
  have E4 : Hid (Drawn w a1 ks a2 xs w4 ∧ IRow w4 aa (keysOf H 61) ∧ Forms w4) := ⟨E3.out.dr.later b4, i4, E3.out.fo.later b4⟩
  have hkl := keysOf_len H 61
  clear E3 o4 i4 b4 hR'
  go_wp2_with fail
  go_loopw [8] (fun i wr => ∃ (key : Int), 10 ≤ key ∧ key ≤ 61 ∧ i = .int .i64 key ∧ Hid (Drawn w a1 ks a2 xs wr ∧ IRow wr aa (keysOf H 61) ∧ Forms wr)) (fun i _ => (61 - intOf i).toNat)
  case atStart => exact ⟨10, by omega, by omega, rfl, E4.out⟩
  case round =>
    clear E4
    obtain ⟨key, hk1, hk2, rfl, C⟩ := hrel
    by_cases hlt : key ≤ 60
    · have hbs := backS_build (xs := xs) (H := H) hk1 hlt
      have HBS : Hid _ := hbs
      clear hbs
      have ab : Below wr.heap.size wr (((wr.alloc (.cells #[.int .i64 key, .int .i64 4, .int .i64 1, .int .i64 1, .int .i64 0, .int .i64 0, .int .i64 0] 45)).alloc (.cells #[.int .i64 key, .int .i64 4, .int .i64 1, .int .i64 1, .int .i64 0, .int .i64 0, .int .i64 0] 45)).alloc (.cells #[.int .i64 6, .int .i64 1, .int .i64 0, .int .i64 0, .slice (some ⟨wr.heap.size + 1, 0, none⟩) 1 1] 33)) := ((Below.alloc_ wr _).alloc (by simp) _).alloc (by simp; omega) _
      have D5 : Hid (Drawn w a1 ks a2 xs (((wr.alloc (.cells #[.int .i64 key, .int .i64 4, .int .i64 1, .int .i64 1, .int .i64 0, .int .i64 0, .int .i64 0] 45)).alloc (.cells #[.int .i64 key, .int .i64 4, .int .i64 1, .int .i64 1, .int .i64 0, .int .i64 0, .int .i64 0] 45)).alloc (.cells #[.int .i64 6, .int .i64 1, .int .i64 0, .int .i64 0, .slice (some ⟨wr.heap.size + 1, 0, none⟩) 1 1] 33)) ∧ IRow (((wr.alloc (.cells #[.int .i64 key, .int .i64 4, .int .i64 1, .int .i64 1, .int .i64 0, .int .i64 0, .int .i64 0] 45)).alloc (.cells #[.int .i64 key, .int .i64 4, .int .i64 1, .int .i64 1, .int .i64 0, .int .i64 0, .int .i64 0] 45)).alloc (.cells #[.int .i64 6, .int .i64 1, .int .i64 0, .int .i64 0, .slice (some ⟨wr.heap.size + 1, 0, none⟩) 1 1] 33)) aa (keysOf H 61) ∧ Forms (((wr.alloc (.cells #[.int .i64 key, .int .i64 4, .int .i64 1, .int .i64 1, .int .i64 0, .int .i64 0, .int .i64 0] 45)).alloc (.cells #[.int .i64 key, .int .i64 4, .int .i64 1, .int .i64 1, .int .i64 0, .int .i64 0, .int .i64 0] 45)).alloc (.cells #[.int .i64 6, .int .i64 1, .int .i64 0, .int .i64 0, .slice (some ⟨wr.heap.size + 1, 0, none⟩) 1 1] 33))) := ⟨C.out.1.later ab, C.out.2.1.later ab, C.out.2.2.later ab⟩
      have V5 : Hid (SealAt (((wr.alloc (.cells #[.int .i64 key, .int .i64 4, .int .i64 1, .int .i64 1, .int .i64 0, .int .i64 0, .int .i64 0] 45)).alloc (.cells #[.int .i64 key, .int .i64 4, .int .i64 1, .int .i64 1, .int .i64 0, .int .i64 0, .int .i64 0] 45)).alloc (.cells #[.int .i64 6, .int .i64 1, .int .i64 0, .int .i64 0, .slice (some ⟨wr.heap.size + 1, 0, none⟩) 1 1] 33)) wr.heap.size 0 (backS key) ∧ wr.heap.size < (((wr.alloc (.cells #[.int .i64 key, .int .i64 4, .int .i64 1, .int .i64 1, .int .i64 0, .int .i64 0, .int .i64 0] 45)).alloc (.cells #[.int .i64 key, .int .i64 4, .int .i64 1, .int .i64 1, .int .i64 0, .int .i64 0, .int .i64 0] 45)).alloc (.cells #[.int .i64 6, .int .i64 1, .int .i64 0, .int .i64 0, .slice (some ⟨wr.heap.size + 1, 0, none⟩) 1 1] 33)).heap.size ∧ SRow (((wr.alloc (.cells #[.int .i64 key, .int .i64 4, .int .i64 1, .int .i64 1, .int .i64 0, .int .i64 0, .int .i64 0] 45)).alloc (.cells #[.int .i64 key, .int .i64 4, .int .i64 1, .int .i64 1, .int .i64 0, .int .i64 0, .int .i64 0] 45)).alloc (.cells #[.int .i64 6, .int .i64 1, .int .i64 0, .int .i64 0, .slice (some ⟨wr.heap.size + 1, 0, none⟩) 1 1] 33)) (some ⟨wr.heap.size + 1, 0, none⟩) [backS key]) := by
        refine ⟨⟨by go_simp; rfl, by go_simp; rfl, by go_simp; rfl, by go_simp; rfl, by go_simp; rfl, by go_simp; rfl, by go_simp; rfl⟩, by simp; omega, Or.inr ⟨wr.heap.size + 1, 0, rfl, by simp, fun i s hs => ?_⟩⟩
        obtain ⟨rfl, rfl⟩ : i = 0 ∧ backS key = s := by
          cases i with
          | zero => exact ⟨rfl, by simpa using hs⟩
          | succ i => simp at hs
        exact ⟨by go_simp; rfl, by go_simp; rfl, by go_simp; rfl, by go_simp; rfl, by go_simp; rfl, by go_simp; rfl, by go_simp; rfl⟩
      clear C ab
      go_wp2_with fail
      refine (implBuild_any a1 a2 (some ⟨wr.heap.size + 1, 0, none⟩) c1 c2 1 ks xs 6 1 0 0 [backS key] _ H HR.out D5.out.1.keys D5.out.1.seals V5.out.2.2 (by omega) (by omega) (by simp) D5.out.2.2).mono ?_
      rintro r w6 ⟨rfl, b6⟩
      rw [HBS.out]
      have D6 : Hid (Drawn w a1 ks a2 xs w6 ∧ IRow w6 aa (keysOf H 61) ∧ Forms w6) := ⟨D5.out.1.later b6, D5.out.2.1.later b6, D5.out.2.2.later b6⟩
      have V6 := V5.out.1.later b6 V5.out.2.1
      clear D5 V5 b6
      obtain ⟨p, hp⟩ : ∃ p, p = wr.heap.size := ⟨_, rfl⟩
      rw [← hp] at V6 ⊢
      clear hp
      obtain ⟨d0, d1, d2, d3, d4, d5, d6⟩ := V6
      simp only [Nat.zero_add, backS] at d0 d1 d2 d3 d4 d5 d6
      have hwk : IntKind.i64.wrap (key + 1) = key + 1 := wrapM (by omega) (by omega)
      go_wp2_with fail
      refine (lbHas_any aa ca (keysOf H 61) key w6 D6.out.2.1 (by omega)).mono ?_
      rintro r w' ⟨rfl, hw⟩
      rw [hw]
      clear hw w'
      cases hin : decide (key ∈ keysOf H 61)
      · simp only [Bool.false_or]
        go_wp2_with fail
        refine (lbAmong_any a2 c2 xs (backS key) w6 D6.out.1.seals (by omega)).mono ?_
        rintro r w7 ⟨rfl, b7⟩
        have D7 : Hid (Drawn w a1 ks a2 xs w7 ∧ IRow w7 aa (keysOf H 61) ∧ Forms w7) := ⟨D6.out.1.later b7, D6.out.2.1.later b7, D6.out.2.2.later b7⟩
        clear D6 b7 d0 d1 d2 d3 d4 d5 d6
        obtain ⟨cc, hcc⟩ : ∃ cc, cc = inS (backS key) xs := ⟨_, rfl⟩
        rw [← hcc]
        clear hcc
        have hne : (cc != cc) = false := by cases cc <;> rfl
        go_wp2_with fail
        go_roundw
        case rel => exact ⟨key + 1, by omega, by omega, rfl, D7.out⟩
        case measure => simp [intOf]; omega
      · simp only [Bool.true_or]
        go_wp2_with fail
        go_roundw
        case rel => exact ⟨key + 1, by omega, by omega, rfl, D6.out⟩
        case measure => simp [intOf]; omega
    · obtain rfl : key = 61 := by omega
      go_wp2_with fail
      go_ret
      exact ⟨rfl, C.out.1.below⟩

end Go.Proofs.YtepnijocfilgoaaDoor
