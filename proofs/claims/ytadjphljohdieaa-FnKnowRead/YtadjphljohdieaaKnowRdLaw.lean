/-
  The law 'one reads what one has the key of', walked at every list of bytes: it returns true, and nothing that was in memory is turned.
-/
import Derived.Test.YtadjphljohdieaaKnowReadS
import Derived.Test.YtadjphljohdieaaDrawKnowRead
import Derived.Test.YtadjphljohdieaaIntLb
import Derived.Test.YtadjphljohdieaaSealLb
import Derived.Test.YtadjphljohdieaaKSkip
namespace Go.Proofs.Ytadjphljohdieaa
open Go.RowKit
attribute [local go_sem ↓] Go.wp_at_zero Go.wp_at_succ

theorem readOf_at {H : List Bool} {xs : List Sl} {j : Nat} {s : Sl} (h : xs[j]? = some s) (hb : (s.ok && H.getD s.k.toNat false) = true) : (readOf H xs xs.length)[(readOf H xs j).length]? = some s := by
  have hj : j < xs.length := (List.getElem?_eq_some_iff.1 h).1
  have hp : readOf H xs (j + 1) <+: readOf H xs xs.length := by
    unfold readOf
    refine List.IsPrefix.filter _ ?_
    rw [List.take_length]
    exact List.take_prefix _ _
  obtain ⟨t, ht⟩ := hp
  rw [← ht, readOf_succ h, hb, if_pos rfl, List.append_assoc, List.getElem?_append_right (Nat.le_refl _)]
  simp
theorem has_iff {H : List Bool} {s : Sl} (ho : s.ok = true) : decide (s.k ∈ keysOf H 61) = H.getD s.k.toNat false := by
  obtain ⟨h1, h2⟩ := Sl.key_of_ok ho
  cases hb : H.getD s.k.toNat false
  · exact decide_eq_false fun hm => by have := (mem_keysOf.1 hm).2.2; rw [hb] at this; cases this
  · exact decide_eq_true (mem_keysOf.2 ⟨by omega, by omega, hb⟩)

set_option maxRecDepth 100000 in
set_option maxHeartbeats 1000000 in
theorem knowRd_long (a : Option Addr) (len cap : Nat) (w : World) (h : 1048576 < (len : Int)) :
    Calls Try.prog 6 #[.slice a len cap] w fun r w' => r = .returned (.bool true) ∧ Below w.heap.size w w' := by
  go_enter Try.func6, Try.ntmps6
  go_wp2_with fail
  go_ret
  exact ⟨rfl, Below.refl _ _⟩

set_option maxRecDepth 100000 in
set_option maxHeartbeats 8000000 in
theorem knowRd_short (a : Option Addr) (len cap : Nat) (w : World) (h : (len : Int) ≤ 1048576) (hc : Code w a len cap) :
    Calls Try.prog 6 #[.slice a len cap] w fun r w' => r = .returned (.bool true) ∧ Below w.heap.size w w' := by
  go_enter Try.func6, Try.ntmps6
  go_wp2_with fail
  refine (drawRead_any a len cap w hc).mono ?_
  rintro r w1 ⟨a1, c1, ks, a2, c2, xs, rfl, d1⟩
  have D1 : Hid (Drawn w a1 ks a2 xs w1) := d1
  clear d1 hc
  have f1 := D1.out.few1
  have f2 := D1.out.few2
  go_wp2_with fail
  refine (implRead_any a1 a2 c1 c2 ks xs w1 D1.out.keys D1.out.seals (by omega) (by omega)).mono ?_
  rintro r w2 ⟨⟨v2, H, rfl, hR, o2⟩, b2⟩
  obtain ⟨aa, ca, rfl, i2⟩ := o2.row
  have D2 : Hid (Drawn w a1 ks a2 xs w2) := D1.out.later b2
  have I2 : Hid (SRow w2 aa (readOf H xs xs.length)) := i2
  have HR : Hid (Right ks xs H) := hR
  have hrl := readOf_len H xs xs.length
  clear D1 b2 o2 i2 hR
  go_wp2_with fail
  refine (specRead_any a1 a2 c1 c2 ks xs w2 D2.out.keys D2.out.seals (by omega) (by omega)).mono ?_
  rintro r w3 ⟨⟨v3, H', rfl, hR', o3⟩, b3⟩
  obtain rfl : H = H' := HR.out.one hR' (fun _ => Iff.rfl)
  obtain ⟨az, cz, rfl, i3⟩ := o3.row
  have D3 : Hid (Drawn w a1 ks a2 xs w3) := D2.out.later b3
  have I3 : Hid (SRow w3 aa (readOf H xs xs.length)) := I2.out.later b3
  clear D2 I2 b3 o3 hR'
  go_wp2_with fail
  refine (lbSeals_any aa az ca cz _ _ w3 I3.out i3 (by omega) (by omega)).mono ?_
  rintro r w4 ⟨rfl, b4⟩
  rw [eqS_true rfl]
  have D4 : Hid (Drawn w a1 ks a2 xs w4) := D3.out.later b4
  have I4 : Hid (SRow w4 aa (readOf H xs xs.length)) := I3.out.later b4
  clear D3 I3 b4 i3
  go_wp2_with fail
  refine (implKeys_any a1 a2 c1 c2 ks xs w4 D4.out.keys D4.out.seals (by omega) (by omega)).mono ?_
  rintro r w5 ⟨⟨v5, H', rfl, hR', o5⟩, b5⟩
  obtain rfl : H = H' := HR.out.one hR' (fun _ => Iff.rfl)
  obtain ⟨ab, cb, rfl, i5⟩ := o5.row
  have D5 : Hid (Drawn w a1 ks a2 xs w5) := D4.out.later b5
  have I5 : Hid (SRow w5 aa (readOf H xs xs.length)) := I4.out.later b5
  have J5 : Hid (IRow w5 ab (keysOf H 61)) := i5
  have hkl := keysOf_len H 61
  clear D4 I4 b5 o5 hR' i5
  go_wp2_with fail
  go_loopw [7, 8] (fun k i wr => ∃ (j : Nat), j ≤ xs.length ∧ i = .int .i64 j ∧ k = .int .i64 (readOf H xs j).length ∧ Hid (Below w5.heap.size w5 wr)) (fun _ i _ => xs.length - (intOf i).toNat)
  case atStart => exact ⟨0, Nat.zero_le _, rfl, rfl, Below.refl _ _⟩
  case round =>
    obtain ⟨j, hj, rfl, rfl, C⟩ := hrel
    by_cases hlt : j < xs.length
    · obtain ⟨s, hs⟩ : ∃ s, xs[j]? = some s := ⟨xs[j], List.getElem?_eq_getElem hlt⟩
      rcases (D5.out.later C.out).seals with hz | ⟨b2, off2, rfl, hl2, hr2⟩
      · simp [hz] at hlt
      have hS := hr2 j s hs
      obtain ⟨c0, c1', c2', c3, c4, c5, c6⟩ := id hS
      clear hr2
      go_wp2_with fail
      refine (implOk_any _ _ _ _ _ _ _ _).mono ?_
      rintro r w6 ⟨rfl, hb6⟩
      have hok : okB s.k s.t s.a s.b s.c s.d s.e = s.ok := rfl
      rw [hok]
      have C6 : Hid (Below w5.heap.size w5 w6) := C.out.trans (hb6.mono C.out.size)
      have S6 : Hid (SealAt w6 b2 (off2 + j * 7) s ∧ b2 < w6.heap.size) := ⟨hS.later hb6 hl2, Nat.lt_of_lt_of_le hl2 hb6.size⟩
      clear C c0 c1' c2' c3 c4 c5 c6 hb6 hok hS hl2
      have hsu := readOf_succ (H := H) hs
      cases hso : s.ok
      · have hl1 : (readOf H xs (j + 1)).length = (readOf H xs j).length := by rw [hsu, hso, Bool.false_and]; simp
        go_wp2_with fail
        go_roundw
        case rel => exact ⟨j + 1, by omega, by go_num, by rw [hl1], C6⟩
        case measure => simp [intOf]; omega
      · have c0 := S6.out.1.c0
        go_wp2_with fail
        refine (lbHas_any ab cb (keysOf H 61) s.k w6 (J5.out.later C6.out) (by omega)).mono ?_
        rintro r w' ⟨rfl, hw⟩
        rw [hw, has_iff hso]
        clear hw w' c0
        cases hb : H.getD s.k.toNat false
        · have hl1 : (readOf H xs (j + 1)).length = (readOf H xs j).length := by rw [hsu, hso, hb, Bool.true_and]; simp
          go_wp2_with fail
          go_roundw
          case rel => exact ⟨j + 1, by omega, by go_num, by rw [hl1], C6⟩
          case measure => simp [intOf]; omega
        · have hl1 : (readOf H xs (j + 1)).length = (readOf H xs j).length + 1 := by rw [hsu, hso, hb, Bool.true_and]; simp
          have hat := readOf_at hs (by rw [hso, hb]; rfl)
          have hkl2 : (readOf H xs j).length < (readOf H xs xs.length).length := (List.getElem?_eq_some_iff.1 hat).1
          obtain ⟨K, hKe⟩ : ∃ K, K = (readOf H xs j).length := ⟨_, rfl⟩
          rw [← hKe] at hat hkl2 hl1 ⊢
          rcases I5.out.later C6.out.drew with hz | ⟨b3, off3, rfl, hl3, hr3⟩
          · simp [hz] at hkl2
          have r0 : SealAt w6.drew b3 (off3 + K * 7) s ∧ SealAt w6.drew b2 (off2 + j * 7) s := ⟨hr3 K s hat, S6.out.1.later (Below.refl _ _).drew S6.out.2⟩
          have C7 : Hid (Below w5.heap.size w5 w6.drew) := C6.out.drew
          have hge : ¬ ((readOf H xs xs.length).length : Int) ≤ K := by omega
          have hwk : IntKind.i64.wrap ((K : Int) + 1) = (K : Int) + 1 := wrapM (by omega) (by omega)
          clear hr3 C6 S6 hKe
          go_wp2_with fail
          refine wp_region_held_drew (S := fun w' => SealAt w' b3 (off3 + K * 7) s ∧ SealAt w' b2 (off2 + j * 7) s) (by kernel_rfl) r0 (fun hS => ?_)
          refine take1 0 49 (.int .i64 K) rfl rfl (by kernel_rfl) (by kernel_rfl) (by kernel_rfl) (by rfl) (fun _ _ _ h => h) hS (fun w' hS' => ?_) ?_
          · (go_simp) <;> (intro hx9; omega)
          simp only [Act.put, List.setIfInBounds_toArray, List.set_cons_zero, List.set_cons_succ]
          refine take1 1 50 (.slice (some ⟨b3, off3, none⟩) (readOf H xs xs.length).length ca) rfl rfl (by kernel_rfl) (by kernel_rfl) (by kernel_rfl) (by rfl) (fun _ _ _ h => h) hS (fun w' hS' => ?_) ?_
          · (go_simp) <;> (intro hx9; omega)
          simp only [Act.put, List.setIfInBounds_toArray, List.set_cons_zero, List.set_cons_succ]
          refine take1 2 51 (.int .i64 (readOf H xs xs.length).length) rfl rfl (by kernel_rfl) (by kernel_rfl) (by kernel_rfl) (by rfl) (fun _ _ _ h => h) hS (fun w' hS' => ?_) ?_
          · (go_simp) <;> (intro hx9; omega)
          simp only [Act.put, List.setIfInBounds_toArray, List.set_cons_zero, List.set_cons_succ]
          refine take1 3 52 (.bool false) rfl rfl (by kernel_rfl) (by kernel_rfl) (by kernel_rfl) (by rfl) (fun _ _ _ h => h) hS (fun w' hS' => ?_) ?_
          · (go_simp) <;> (intro hx9; omega)
          simp only [Act.put, List.setIfInBounds_toArray, List.set_cons_zero, List.set_cons_succ]
          refine take1 4 53 (.bool false) rfl rfl (by kernel_rfl) (by kernel_rfl) (by kernel_rfl) (by rfl) (fun _ _ _ h => h) hS (fun w' hS' => ?_) ?_
          · (go_simp) <;> (intro hx9; omega)
          simp only [Act.put, List.setIfInBounds_toArray, List.set_cons_zero, List.set_cons_succ]
          refine take1 5 54 (.slice (some ⟨b3, off3, none⟩) (readOf H xs xs.length).length ca) rfl rfl (by kernel_rfl) (by kernel_rfl) (by kernel_rfl) (by rfl) (fun _ _ _ h => h) hS (fun w' hS' => ?_) ?_
          · (go_simp) <;> (intro hx9; omega)
          simp only [Act.put, List.setIfInBounds_toArray, List.set_cons_zero, List.set_cons_succ]
          refine take1 6 55 (.int .i64 K) rfl rfl (by kernel_rfl) (by kernel_rfl) (by kernel_rfl) (by rfl) (fun _ _ _ h => h) hS (fun w' hS' => ?_) ?_
          · (go_simp) <;> (intro hx9; omega)
          simp only [Act.put, List.setIfInBounds_toArray, List.set_cons_zero, List.set_cons_succ]
          refine take1 7 56 (.pointer (some ⟨b3, off3 + K * 7, none⟩)) rfl rfl (by kernel_rfl) (by kernel_rfl) (by kernel_rfl) (by rfl) (fun _ _ _ h => h) hS (fun w' hS' => ?_) ?_
          · (go_simp) <;> (intro hx9; omega)
          simp only [Act.put, List.setIfInBounds_toArray, List.set_cons_zero, List.set_cons_succ]
          refine take1 8 57 (Value.agg #[.int .i64 s.k, .int .i64 s.t, .int .i64 s.a, .int .i64 s.b, .int .i64 s.c, .int .i64 s.d, .int .i64 s.e]) rfl rfl (by kernel_rfl) (by kernel_rfl) (by kernel_rfl) (by rfl) (fun _ _ _ h => h) hS (fun w' hS' => ?_) ?_
          · obtain ⟨⟨c0, c1', c2', c3, c4, c5, c6⟩, _⟩ := hS'
            (go_simp) <;> (intro hx9; omega)
          simp only [Act.put, List.setIfInBounds_toArray, List.set_cons_zero, List.set_cons_succ]
          refine take1 9 58 (.slice (some ⟨b2, off2, none⟩) xs.length c2) rfl rfl (by kernel_rfl) (by kernel_rfl) (by kernel_rfl) (by rfl) (fun _ _ _ h => h) hS (fun w' hS' => ?_) ?_
          · (go_simp) <;> (intro hx9; omega)
          simp only [Act.put, List.setIfInBounds_toArray, List.set_cons_zero, List.set_cons_succ]
          refine take1 10 59 (.int .i64 j) rfl rfl (by kernel_rfl) (by kernel_rfl) (by kernel_rfl) (by rfl) (fun _ _ _ h => h) hS (fun w' hS' => ?_) ?_
          · (go_simp) <;> (intro hx9; omega)
          simp only [Act.put, List.setIfInBounds_toArray, List.set_cons_zero, List.set_cons_succ]
          refine take1 11 60 (.pointer (some ⟨b2, off2 + j * 7, none⟩)) rfl rfl (by kernel_rfl) (by kernel_rfl) (by kernel_rfl) (by rfl) (fun _ _ _ h => h) hS (fun w' hS' => ?_) ?_
          · (go_simp) <;> (intro hx9; omega)
          simp only [Act.put, List.setIfInBounds_toArray, List.set_cons_zero, List.set_cons_succ]
          refine take1 12 61 (Value.agg #[.int .i64 s.k, .int .i64 s.t, .int .i64 s.a, .int .i64 s.b, .int .i64 s.c, .int .i64 s.d, .int .i64 s.e]) rfl rfl (by kernel_rfl) (by kernel_rfl) (by kernel_rfl) (by rfl) (fun _ _ _ h => h) hS (fun w' hS' => ?_) ?_
          · obtain ⟨_, ⟨c0, c1', c2', c3, c4, c5, c6⟩⟩ := hS'
            (go_simp) <;> (intro hx9; omega)
          simp only [Act.put, List.setIfInBounds_toArray, List.set_cons_zero, List.set_cons_succ]
          refine take1 13 62 (.bool false) rfl rfl (by kernel_rfl) (by kernel_rfl) (by kernel_rfl) (by rfl) (fun _ _ _ h => h) hS (fun w' hS' => ?_) ?_
          · (go_simp) <;> (intro hx9; omega)
          simp only [Act.put, List.setIfInBounds_toArray, List.set_cons_zero, List.set_cons_succ]
          refine take1 14 63 (.bool false) rfl rfl (by kernel_rfl) (by kernel_rfl) (by kernel_rfl) (by rfl) (fun _ _ _ h => h) hS (fun w' hS' => ?_) ?_
          · (go_simp) <;> (intro hx9; omega)
          simp only [Act.put, List.setIfInBounds_toArray, List.set_cons_zero, List.set_cons_succ]
          refine wpAnyH_done (by kernel_rfl) ?_ _
          clear hS r0
          go_wp2_with fail
          go_roundw
          case rel => exact ⟨j + 1, by omega, by go_num, by rw [hl1]; first | rfl | (congr 1; omega) | (simp; omega), C7⟩
          case measure => simp [intOf]; omega
    · obtain rfl : j = xs.length := by omega
      go_wp2_with fail
      go_ret
      exact ⟨rfl, (D5.out.later C.out).below⟩

end Go.Proofs.Ytadjphljohdieaa
