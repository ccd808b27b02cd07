/-
  The law 'who has all keys reads all', walked at every list of bytes: it returns true, and nothing that was in memory is turned.
-/
import Derived.Test.YtadjphljohdieaaKnowReadS
import Derived.Test.YtadjphljohdieaaDrawKnowRead
import Derived.Test.YtadjphljohdieaaSealLb
import Derived.Test.YtadjphljohdieaaKEvery
namespace Go.Proofs.Ytadjphljohdieaa
open Go.RowKit
attribute [local go_sem ↓] Go.wp_at_zero Go.wp_at_succ

/-- Of the first seals those that are ok. -/
def goodL (xs : List Sl) (j : Nat) : List Sl := (xs.take j).filter Sl.ok
theorem goodL_succ {xs : List Sl} {j : Nat} {s : Sl} (h : xs[j]? = some s) : goodL xs (j + 1) = goodL xs j ++ (if s.ok then [s] else []) := by
  unfold goodL
  rw [List.take_add_one, h, Option.toList_some, List.filter_append]
  congr 1
  cases hb : s.ok
  · rw [List.filter_cons_of_neg (by rw [hb]; decide)]; rfl
  · rw [List.filter_cons_of_pos (by exact hb)]; rfl
theorem goodL_len (xs : List Sl) (m : Nat) : (goodL xs m).length ≤ xs.length := by
  unfold goodL
  exact Nat.le_trans (List.length_filter_le _ _) (by rw [List.length_take]; omega)
theorem Right.every {xs : List Sl} {H : List Bool} (h : Right (everyL 60) xs H) : readOf H xs xs.length = goodL xs xs.length := by
  unfold readOf goodL
  apply List.filter_congr
  intro s _
  cases ho : s.ok
  · rfl
  · obtain ⟨h1, h2⟩ := Sl.key_of_ok ho
    rw [Bool.true_and, (h.iff s.k.toNat (by omega)).2]
    rw [Int.toNat_of_nonneg (by omega)]
    exact .had (mem_everyL.2 ⟨h1, by omega⟩) h1 h2
theorem Come.none' {xs : List Sl} {n : Int} (h : Come [] xs n) : False :=
  h.ind (P := fun _ => False) (fun _ h _ _ => by simp at h) (fun _ _ _ ih _ => ih)
theorem Right.nothing {xs : List Sl} {H : List Bool} (h : Right [] xs H) : readOf H xs xs.length = [] := by
  unfold readOf
  rw [List.filter_eq_nil_iff]
  intro s _ hb
  rw [Bool.and_eq_true] at hb
  obtain ⟨h1, h2⟩ := Sl.key_of_ok hb.1
  exact ((h.iff s.k.toNat (by omega)).1 hb.2).none'

/-- On the way: a row of seals of the call's own. -/
structure Gd (W : World) (xs : List Sl) (j : Nat) (v : Value) (w : World) : Prop where
  own : OwnS w W.heap.size v (goodL xs j)
  below : Below W.heap.size W w

set_option maxRecDepth 100000 in
set_option maxHeartbeats 1000000 in
theorem knowAll_long (a : Option Addr) (len cap : Nat) (w : World) (h : 1048576 < (len : Int)) :
    Calls Try.prog 7 #[.slice a len cap] w fun r w' => r = .returned (.bool true) ∧ Below w.heap.size w w' := by
  go_enter Try.func7, Try.ntmps7
  go_wp2_with fail
  go_ret
  exact ⟨rfl, Below.refl _ _⟩

set_option maxRecDepth 100000 in
set_option maxHeartbeats 8000000 in
theorem knowAll_short (a : Option Addr) (len cap : Nat) (w : World) (h : (len : Int) ≤ 1048576) (hc : Code w a len cap) :
    Calls Try.prog 7 #[.slice a len cap] w fun r w' => r = .returned (.bool true) ∧ Below w.heap.size w w' := by
  obtain ⟨i0, hi, hz0, hz1, hz2⟩ := info_parts infoInt
  obtain ⟨j0, hj0, hy0, hy1, hy2⟩ := info_parts infoSealM
  go_enter Try.func7, Try.ntmps7
  go_wp2_with fail
  refine (drawRead_any a len cap w hc).mono ?_
  rintro r w1 ⟨a1, c1, ks, a2, c2, xs, rfl, d1⟩
  have D1 : Hid (Drawn w a1 ks a2 xs w1) := d1
  clear d1 hc
  have f1 := D1.out.few1
  have f2 := D1.out.few2
  go_wp2_with fail
  refine (implRead_any a1 a2 c1 c2 ks xs w1 D1.out.keys D1.out.seals (by omega) (by omega)).mono ?_
  rintro r w2 ⟨⟨v2, H, rfl, hR, o2⟩, b2⟩
  obtain ⟨aa, ca, rfl, i2⟩ := o2.row
  have D2 : Hid (Drawn w a1 ks a2 xs w2) := D1.out.later b2
  have I2 : Hid (SRow w2 aa (readOf H xs xs.length)) := i2
  have HR : Hid (Right ks xs H) := hR
  have hrl := readOf_len H xs xs.length
  clear D1 b2 o2 i2 hR
  go_wp2_with fail
  refine (specRead_any a1 a2 c1 c2 ks xs w2 D2.out.keys D2.out.seals (by omega) (by omega)).mono ?_
  rintro r w3 ⟨⟨v3, H', rfl, hR', o3⟩, b3⟩
  obtain rfl : H = H' := HR.out.one hR' (fun _ => Iff.rfl)
  obtain ⟨az, cz, rfl, i3⟩ := o3.row
  have D3 : Hid (Drawn w a1 ks a2 xs w3) := D2.out.later b3
  have I3 : Hid (SRow w3 aa (readOf H xs xs.length)) := I2.out.later b3
  clear D2 I2 b3 o3 hR'
  go_wp2_with fail
  refine (lbSeals_any aa az ca cz _ _ w3 I3.out i3 (by omega) (by omega)).mono ?_
  rintro r w4 ⟨rfl, b4⟩
  rw [eqS_true rfl]
  have D4 : Hid (Drawn w a1 ks a2 xs w4) := D3.out.later b4
  have I4 : Hid (SRow w4 aa (readOf H xs xs.length)) := I3.out.later b4
  clear D3 I3 b4 i3
  have T0 : Hid (Ev w4 0 (.slice (some ⟨w4.heap.size, 0, none⟩) 0 0) (w4.alloc (.cells #[] 3))) := ⟨OwnI.zero w4 _ rfl (Nat.le_refl _), Below.alloc_ _ _⟩
  go_wp2_with fail
  go_loopw [6, 7] (fun v k wr => ∃ (m : Nat), m ≤ 60 ∧ k = .int .i64 ((m : Int) + 1) ∧ Hid (Ev w4 m v wr)) (fun _ k _ => 61 - (intOf k).toNat)
  case atStart => exact ⟨0, Nat.zero_le _, rfl, T0⟩
  case round =>
    obtain ⟨m, hm, rfl, C⟩ := hrel
    clear T0
    by_cases hlt : m < 60
    · have hle : (m : Int) + 1 ≤ 60 := by omega
      have hel := everyL_len m
      have hsz := C.out.below.size
      go_wp2_with (first
        | (at_builtin; refine wpList_append_own_at _ rfl _ _ 22 rfl w4.heap.size 3 i0 (.int .i64 0) 1 8 Try.underlying22 hi hz0 hz1 hz2 rfl (by decide) _ _ _ rfl (World.ownsRow.alloc C.out.own _) ⟨wr.heap.size, 0, none⟩ 1 1 [.int .i64 ((m : Int) + 1)] rfl rfl (cell_one_new _ _ _) (ints_one .i64 _) (by unfold maxLen; omega) (by omega) (by simp; omega) ?_; intro v' w6 hown' hgrow hnil hloc)
        | go_in)
      go_roundw
      case rel =>
        refine ⟨m + 1, by omega, by first | rfl | (congr 1; omega) | (simp; omega), ?_, (C.out.below.alloc C.out.below.size _).grown hgrow (by simp; omega) (OwnI.lo C.out.own)⟩
        rw [everyL_succ]
        simpa [OwnI] using hown'
      case measure => simp [intOf]; omega
    · obtain rfl : m = 60 := by omega
      have o5 := C.out.own
      obtain ⟨ab, cb, rfl, i5⟩ := o5.row
      have D5 : Hid (Drawn w a1 ks a2 xs wr) := D4.out.later C.out.below
      have J5 : Hid (IRow wr ab (everyL 60)) := i5
      have hel := everyL_len 60
      clear o5 i5 C D4 I4
      obtain ⟨w5, hw5⟩ : ∃ w5, w5 = wr := ⟨_, rfl⟩
      rw [← hw5] at D5 J5 ⊢
      rw [hel, show ((60 : Nat) : Int) + 1 = 61 from rfl]
      clear hw5
      have T0 : Hid (Gd w5 xs 0 (.slice (some ⟨w5.heap.size, 0, none⟩) 0 0) (w5.alloc (.cells #[] 41))) := ⟨OwnS.zero w5 (Nat.le_refl _), Below.alloc_ _ _⟩
      go_wp2_with fail
      go_loopw [8, 9] (fun v i wr => ∃ (j : Nat), j ≤ xs.length ∧ i = .int .i64 j ∧ Hid (Gd w5 xs j v wr)) (fun _ i _ => xs.length - (intOf i).toNat)
      case atStart => exact ⟨0, Nat.zero_le _, rfl, T0⟩
      case round =>
        obtain ⟨j, hj, rfl, C⟩ := hrel
        clear T0
        by_cases hlt : j < xs.length
        · obtain ⟨s, hs⟩ : ∃ s, xs[j]? = some s := ⟨xs[j], List.getElem?_eq_getElem hlt⟩
          rcases (D5.out.later C.out.below).seals with hz | ⟨b2, off2, rfl, hl2, hr2⟩
          · simp [hz] at hlt
          have hS := hr2 j s hs
          obtain ⟨c0, c1', c2', c3, c4, c5, c6⟩ := id hS
          clear hr2
          go_wp2_with fail
          refine (implOk_any _ _ _ _ _ _ _ _).mono ?_
          rintro r w6 ⟨rfl, hb6⟩
          have hok : okB s.k s.t s.a s.b s.c s.d s.e = s.ok := rfl
          rw [hok]
          have C6 : Hid (Gd w5 xs j u8 w6) := ⟨OwnS.later C.out.own hb6, C.out.below.trans (hb6.mono C.out.below.size)⟩
          clear c0 c1' c2' c3 c4 c5 c6
          obtain ⟨c0, c1', c2', c3, c4, c5, c6⟩ := hS.later hb6 hl2
          clear C hb6 hok hS
          have hgl := goodL_len xs j
          have hsu := goodL_succ hs
          have hsz := C6.out.below.size
          cases hso : s.ok
          · have hl1 : goodL xs (j + 1) = goodL xs j := by rw [hsu, hso]; simp
            go_wp2_with fail
            go_roundw
            case rel => exact ⟨j + 1, by omega, by go_num, by rw [hl1]; exact C6.out.own, C6.out.below⟩
            case measure => simp [intOf]; omega
          · have hl1 : goodL xs (j + 1) = goodL xs j ++ [s] := by rw [hsu, hso]; rfl
            go_wp2_with (first
              | (at_builtin; refine wpList_append_own_at _ rfl _ _ 25 rfl w5.heap.size 41 j0 (.agg #[.int .i64 0, .int .i64 0, .int .i64 0, .int .i64 0, .int .i64 0, .int .i64 0, .int .i64 0]) 7 56 Try.underlying25 hj0 hy0 hy1 hy2 rfl (by decide) _ _ _ rfl (World.ownsRow.alloc C6.out.own _) ⟨w6.heap.size, 0, none⟩ 1 1 s.cs rfl (by unfold Sl.cs; rfl) (cs_at ⟨by go_simp, by go_simp, by go_simp, by go_simp, by go_simp, by go_simp, by go_simp⟩) (cs_one s) (by unfold maxLen; omega) (by omega) (by simp; omega) ?_; intro v' w7 hown' hgrow hnil hloc)
              | go_in)
            go_roundw
            case rel =>
              refine ⟨j + 1, by omega, by go_num, ?_, (C6.out.below.alloc C6.out.below.size _).grown hgrow (by simp; omega) (OwnS.lo C6.out.own)⟩
              rw [hl1]
              unfold OwnS
              rw [cellsL_app, List.length_append]
              simpa [cellsL] using hown'
            case measure => simp [intOf]; omega
        · obtain rfl : j = xs.length := by omega
          have o6 := C.out.own
          obtain ⟨ag, cg, rfl, i6⟩ := o6.row
          have D6 : Hid (Drawn w a1 ks a2 xs wr) := D5.out.later C.out.below
          have J6 : Hid (IRow wr ab (everyL 60)) := J5.out.later C.out.below
          have G6 : Hid (SRow wr ag (goodL xs xs.length)) := i6
          have hgl := goodL_len xs xs.length
          clear o6 i6 C D5 J5
          go_wp2_with fail
          have q7 := implRead_any ab a2 cb c2 (everyL 60) xs wr J6.out D6.out.seals (by omega) (by omega)
          rw [hel] at q7
          refine q7.mono ?_
          rintro r w7 ⟨⟨v7, H7, rfl, hR7, o7⟩, b7⟩
          rw [hR7.every] at o7
          obtain ⟨ay, cy, rfl, i7⟩ := o7.row
          have D7 : Hid (Drawn w a1 ks a2 xs w7) := D6.out.later b7
          have G7 : Hid (SRow w7 ag (goodL xs xs.length)) := G6.out.later b7
          clear D6 J6 G6 b7 o7 hR7 q7
          go_wp2_with fail
          refine (lbSeals_any ay ag cy cg _ _ w7 i7 G7.out (by omega) (by omega)).mono ?_
          rintro r w8 ⟨rfl, b8⟩
          rw [eqS_true rfl]
          have D8 : Hid (Drawn w a1 ks a2 xs w8) := D7.out.later b8
          clear D7 G7 b8 i7
          go_wp2_with fail
          refine (implRead_any none a2 0 c2 [] xs w8 (Or.inl rfl) D8.out.seals (by simp) (by omega)).mono ?_
          rintro r w9 ⟨⟨v9, H9, rfl, hR9, o9⟩, b9⟩
          rw [hR9.nothing] at o9
          obtain ⟨a9, c9, rfl, _⟩ := o9.row
          have D9 : Hid (Drawn w a1 ks a2 xs w9) := D8.out.later b9
          clear D8 b9 o9 hR9
          go_wp2_with fail
          go_ret
          exact ⟨rfl, D9.out.below⟩

end Go.Proofs.Ytadjphljohdieaa
