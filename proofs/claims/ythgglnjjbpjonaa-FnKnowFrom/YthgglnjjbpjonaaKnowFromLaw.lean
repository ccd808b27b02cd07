/-
  The law 'a key comes from a seal that one can read, or one had it', walked at every list of bytes: it returns true, and nothing that was in memory is turned.
-/
import Derived.Test.YthgglnjjbpjonaaKnowKeysS
import Derived.Test.YthgglnjjbpjonaaKnowKeysI
import Derived.Test.YthgglnjjbpjonaaDrawKnowKeys
import Derived.Test.YthgglnjjbpjonaaIntLb
import Derived.Test.YthgglnjjbpjonaaKSkip
namespace Go.Proofs.Ythgglnjjbpjonaa
open Go.RowKit
attribute [local go_sem ↓] Go.wp_at_zero Go.wp_at_succ

/-- One had it, or it is in one of the first seals whose key one has come to. -/
def fromB (ks : List Int) (xs : List Sl) (l : List Int) (n : Int) (k : Nat) : Bool := decide (n ∈ ks) || (xs.take k).any (fun s => decide (s.inn = n) && decide (s.k ∈ l))
theorem fromB_succ {ks : List Int} {xs : List Sl} {l : List Int} {n : Int} {k : Nat} {s : Sl} (h : xs[k]? = some s) : fromB ks xs l n (k + 1) = (fromB ks xs l n k || (decide (s.inn = n) && decide (s.k ∈ l))) := by
  unfold fromB
  rw [List.take_add_one, h, Option.toList_some, List.any_append]
  simp [Bool.or_assoc]
theorem fromB_all {ks : List Int} {xs : List Sl} {H : List Bool} (hR : Right ks xs H) {n : Int} (hn : n ∈ keysOf H 61) : fromB ks xs (keysOf H 61) n xs.length = true := by
  unfold fromB
  rw [List.take_length]
  rcases (hR.mem.1 hn).inv with ⟨h, _, _⟩ | ⟨s, hs, hc, _, rfl⟩
  · simp [h]
  · rw [Bool.or_eq_true, List.any_eq_true]
    exact Or.inr ⟨s, hs, by simp [hR.mem.2 hc]⟩

set_option maxRecDepth 100000 in
set_option maxHeartbeats 1000000 in
theorem knowFrom_long (a : Option Addr) (len cap : Nat) (w : World) (h : 1048576 < (len : Int)) :
    Calls Try.prog 6 #[.slice a len cap] w fun r w' => r = .returned (.bool true) ∧ Below w.heap.size w w' := by
  go_enter Try.func6, Try.ntmps6
  go_wp2_with fail
  go_ret
  exact ⟨rfl, Below.refl _ _⟩

set_option maxRecDepth 100000 in
set_option maxHeartbeats 8000000 in
theorem knowFrom_short (a : Option Addr) (len cap : Nat) (w : World) (h : (len : Int) ≤ 1048576) (hc : Code w a len cap) :
    Calls Try.prog 6 #[.slice a len cap] w fun r w' => r = .returned (.bool true) ∧ Below w.heap.size w w' := by
  go_enter Try.func6, Try.ntmps6
  go_wp2_with fail
  refine (drawKeys_any a len cap w hc).mono ?_
  rintro r w1 ⟨a1, c1, ks, a2, c2, xs, rfl, d1⟩
  have D1 : Hid (Drawn w a1 ks a2 xs w1) := d1
  clear d1 hc
  have f1 := D1.out.few1
  have f2 := D1.out.few2
  go_wp2_with fail
  refine (implKeys_any a1 a2 c1 c2 ks xs w1 D1.out.keys D1.out.seals (by omega) (by omega)).mono ?_
  rintro r w2 ⟨⟨v2, H, rfl, hR, o2⟩, b2⟩
  obtain ⟨aa, ca, rfl, i2⟩ := o2.row
  have D2 : Hid (Drawn w a1 ks a2 xs w2) := D1.out.later b2
  have I2 : Hid (IRow w2 aa (keysOf H 61)) := i2
  have HR : Hid (Right ks xs H) := hR
  have hkl := keysOf_len H 61
  clear D1 b2 o2 i2 hR
  go_wp2_with fail
  refine (specKeys_any a1 a2 c1 c2 ks xs w2 D2.out.keys D2.out.seals (by omega) (by omega)).mono ?_
  rintro r w3 ⟨⟨v3, H', rfl, hR', o3⟩, b3⟩
  obtain rfl : H = H' := HR.out.one hR' (fun _ => Iff.rfl)
  obtain ⟨az, cz, rfl, i3⟩ := o3.row
  have D3 : Hid (Drawn w a1 ks a2 xs w3) := D2.out.later b3
  have I3 : Hid (IRow w3 aa (keysOf H 61)) := I2.out.later b3
  clear D2 I2 b3 o3 hR'
  go_wp2_with fail
  refine (lbInts_same aa az ca cz (keysOf H 61) w3 I3.out i3 (by omega)).mono ?_
  rintro r w4 ⟨rfl, b4⟩
  have D4 : Hid (Drawn w a1 ks a2 xs w4) := D3.out.later b4
  have I4 : Hid (IRow w4 aa (keysOf H 61)) := I3.out.later b4
  clear D3 I3 b4 i3
  go_wp2_with fail
  go_loopw [6] (fun i wr => ∃ (j : Nat), j ≤ (keysOf H 61).length ∧ i = .int .i64 j ∧ Hid (Below w4.heap.size w4 wr)) (fun i _ => (keysOf H 61).length - (intOf i).toNat)
  case atStart => exact ⟨0, Nat.zero_le _, rfl, Below.refl _ _⟩
  case round =>
    obtain ⟨j, hj, rfl, C⟩ := hrel
    by_cases hlt : j < (keysOf H 61).length
    · obtain ⟨n, hn⟩ : ∃ n, (keysOf H 61)[j]? = some n := ⟨(keysOf H 61)[j], List.getElem?_eq_getElem hlt⟩
      rcases id I4.out with hz | ⟨b, off, rfl, hl, hr⟩
      · simp [hz] at hlt
      have hr4 : Hid (w4.cell? ⟨b, off + j, none⟩ = some (.int .i64 n) ∧ b < w4.heap.size) := ⟨hr j n hn, hl⟩
      have c0 := ((bcell C.out).1 _ _ hl).trans (hr j n hn)
      have DK := (D4.out.later C.out).keys
      clear hr
      go_wp2_with fail
      refine (lbHas_any a1 c1 ks n wr DK (by omega)).mono ?_
      rintro r w' ⟨rfl, hw⟩
      rw [hw]
      clear hw w' c0 DK
      have e0 : decide (n ∈ ks) = fromB ks xs (keysOf H 61) n 0 := by simp [fromB]
      rw [e0]
      go_wp2_with fail
      go_loopw [7, 8] (fun fr i wi => ∃ (k : Nat), k ≤ xs.length ∧ i = .int .i64 k ∧ fr = .bool (fromB ks xs (keysOf H 61) n k) ∧ Hid (Below w4.heap.size w4 wi)) (fun _ i _ => xs.length - (intOf i).toNat)
      case atStart => exact ⟨0, Nat.zero_le _, rfl, rfl, C⟩
      case round =>
        clear C e0
        obtain ⟨k, hk, rfl, rfl, C⟩ := hrel
        by_cases hlt2 : k < xs.length
        · obtain ⟨s, hs⟩ : ∃ s, xs[k]? = some s := ⟨xs[k], List.getElem?_eq_getElem hlt2⟩
          have hsucc := fromB_succ (ks := ks) (l := keysOf H 61) (n := n) hs
          have CD : Below w4.heap.size w4 wr.drew := C.out.drew
          rcases (D4.out.later CD).seals with hz | ⟨b2, off2, rfl, hl2, hr2⟩
          · simp [hz] at hlt2
          have r0 : SealAt wr.drew b2 (off2 + k * 7) s ∧ wr.drew.cell? ⟨b, off + j, none⟩ = some (.int .i64 n) := ⟨hr2 k s hs, ((bcell CD).1 _ _ hr4.out.2).trans hr4.out.1⟩
          have HC : Hid (Below w4.heap.size w4 wr.drew) := CD
          have hbw : b < wr.drew.heap.size := Nat.lt_of_lt_of_le hr4.out.2 CD.size
          clear C CD hr2
          cases hfb : fromB ks xs (keysOf H 61) n k
          · rw [hfb, Bool.false_or] at hsucc
            go_wp2_with fail
            refine wp_region_held_drew (S := fun w' => SealAt w' b2 (off2 + k * 7) s ∧ w'.cell? ⟨b, off + j, none⟩ = some (.int .i64 n)) (by kernel_rfl) r0 (fun hS => ?_)
            refine take1 0 46 (.bool false) rfl rfl (by kernel_rfl) (by kernel_rfl) (by kernel_rfl) (by rfl) (fun _ _ _ h => h) hS (fun w' hS' => ?_) ?_
            · (go_simp) <;> (intro hx9; omega)
            simp only [Act.put, List.setIfInBounds_toArray, List.set_cons_zero, List.set_cons_succ]
            refine take1 1 47 (.bool false) rfl rfl (by kernel_rfl) (by kernel_rfl) (by kernel_rfl) (by rfl) (fun _ _ _ h => h) hS (fun w' hS' => ?_) ?_
            · (go_simp) <;> (intro hx9; omega)
            simp only [Act.put, List.setIfInBounds_toArray, List.set_cons_zero, List.set_cons_succ]
            refine take1 2 48 (Value.slice (some ⟨b2, off2, none⟩) xs.length c2) rfl rfl (by kernel_rfl) (by kernel_rfl) (by kernel_rfl) (by rfl) (fun _ _ _ h => h) hS (fun w' hS' => ?_) ?_
            · (go_simp) <;> (intro hx9; omega)
            simp only [Act.put, List.setIfInBounds_toArray, List.set_cons_zero, List.set_cons_succ]
            refine take1 3 49 (.int .i64 k) rfl rfl (by kernel_rfl) (by kernel_rfl) (by kernel_rfl) (by rfl) (fun _ _ _ h => h) hS (fun w' hS' => ?_) ?_
            · (go_simp) <;> (intro hx9; omega)
            simp only [Act.put, List.setIfInBounds_toArray, List.set_cons_zero, List.set_cons_succ]
            refine take1 4 50 (.pointer (some ⟨b2, off2 + k * 7, none⟩)) rfl rfl (by kernel_rfl) (by kernel_rfl) (by kernel_rfl) (by rfl) (fun _ _ _ h => h) hS (fun w' hS' => ?_) ?_
            · (go_simp) <;> (intro hx9; omega)
            simp only [Act.put, List.setIfInBounds_toArray, List.set_cons_zero, List.set_cons_succ]
            refine take1 5 51 (Value.agg #[.int .i64 s.k, .int .i64 s.t, .int .i64 s.a, .int .i64 s.b, .int .i64 s.c, .int .i64 s.d, .int .i64 s.e]) rfl rfl (by kernel_rfl) (by kernel_rfl) (by kernel_rfl) (by rfl) (fun _ _ _ h => h) hS (fun w' hS' => ?_) ?_
            · obtain ⟨c0, c1', c2', c3, c4, c5, c6⟩ := hS'.1
              (go_simp) <;> (intro hx9; omega)
            simp only [Act.put, List.setIfInBounds_toArray, List.set_cons_zero, List.set_cons_succ]
            refine take1 7 53 (Value.slice (some ⟨b, off, none⟩) (keysOf H 61).length ca) rfl rfl (by kernel_rfl) (by kernel_rfl) (by kernel_rfl) (by rfl) (fun _ _ _ h => h) hS (fun w' hS' => ?_) ?_
            · (go_simp) <;> (intro hx9; omega)
            simp only [Act.put, List.setIfInBounds_toArray, List.set_cons_zero, List.set_cons_succ]
            refine take1 8 54 (.int .i64 j) rfl rfl (by kernel_rfl) (by kernel_rfl) (by kernel_rfl) (by rfl) (fun _ _ _ h => h) hS (fun w' hS' => ?_) ?_
            · (go_simp) <;> (intro hx9; omega)
            simp only [Act.put, List.setIfInBounds_toArray, List.set_cons_zero, List.set_cons_succ]
            refine take1 9 55 (.pointer (some ⟨b, off + j, none⟩)) rfl rfl (by kernel_rfl) (by kernel_rfl) (by kernel_rfl) (by rfl) (fun _ _ _ h => h) hS (fun w' hS' => ?_) ?_
            · (go_simp) <;> (intro hx9; omega)
            simp only [Act.put, List.setIfInBounds_toArray, List.set_cons_zero, List.set_cons_succ]
            refine take1 10 56 (.int .i64 n) rfl rfl (by kernel_rfl) (by kernel_rfl) (by kernel_rfl) (by rfl) (fun _ _ _ h => h) hS (fun w' hS' => ?_) ?_
            · have c0 := hS'.2
              (go_simp) <;> (intro hx9; omega)
            simp only [Act.put, List.setIfInBounds_toArray, List.set_cons_zero, List.set_cons_succ]
            refine wpAnyH_ready (rs := [6]) (by kernel_rfl) (by simp) ?_
            refine AllReadyH.cons rfl (fun K hK => ?_) AllReadyH.nil
            go_simp
            refine (implH_any _ _ _ _ _ _ _ _).mono ?_
            rintro r w5 ⟨rfl, hb5⟩
            have hinn : Go.Proofs.Ythgglnjjbpjonaa.hK s.k s.t s.a s.b s.c s.d s.e = s.inn := rfl
            rw [hinn]
            have S5 : SealAt w5 b2 (off2 + k * 7) s ∧ w5.cell? ⟨b, off + j, none⟩ = some (.int .i64 n) := ⟨hS.1.later hb5 hl2, ((bcell hb5).1 _ _ hbw).trans hS.2⟩
            have H5 : Hid (Below w4.heap.size w4 w5) := HC.out.trans (hb5.mono HC.out.size)
            clear hb5 hinn
            by_cases hin : s.inn = n
            · rw [hin]
              have hsucc2 : fromB ks xs (keysOf H 61) n (k + 1) = decide (s.k ∈ keysOf H 61) := by rw [hsucc, decide_eq_true hin, Bool.true_and]
              clear hsucc
              refine hK.out _ _ S5 (fun hS => ?_)
              clear hK K S5
              refine take1 11 57 (.bool true) rfl rfl (by kernel_rfl) (by kernel_rfl) (by kernel_rfl) (by rfl) (fun _ _ _ h => h) hS (fun w' hS' => ?_) ?_
              · (go_simp) <;> (intro hx9; omega)
              simp only [Act.put, List.setIfInBounds_toArray, List.set_cons_zero, List.set_cons_succ]
              refine take1 12 58 (.bool true) rfl rfl (by kernel_rfl) (by kernel_rfl) (by kernel_rfl) (by rfl) (fun _ _ _ h => h) hS (fun w' hS' => ?_) ?_
              · (go_simp) <;> (intro hx9; omega)
              simp only [Act.put, List.setIfInBounds_toArray, List.set_cons_zero, List.set_cons_succ]
              refine take1 13 59 (Value.slice (some ⟨b, off, none⟩) (keysOf H 61).length ca) rfl rfl (by kernel_rfl) (by kernel_rfl) (by kernel_rfl) (by rfl) (fun _ _ _ h => h) hS (fun w' hS' => ?_) ?_
              · (go_simp) <;> (intro hx9; omega)
              simp only [Act.put, List.setIfInBounds_toArray, List.set_cons_zero, List.set_cons_succ]
              refine take1 14 60 (Value.slice (some ⟨b2, off2, none⟩) xs.length c2) rfl rfl (by kernel_rfl) (by kernel_rfl) (by kernel_rfl) (by rfl) (fun _ _ _ h => h) hS (fun w' hS' => ?_) ?_
              · (go_simp) <;> (intro hx9; omega)
              simp only [Act.put, List.setIfInBounds_toArray, List.set_cons_zero, List.set_cons_succ]
              refine take1 15 61 (.int .i64 k) rfl rfl (by kernel_rfl) (by kernel_rfl) (by kernel_rfl) (by rfl) (fun _ _ _ h => h) hS (fun w' hS' => ?_) ?_
              · (go_simp) <;> (intro hx9; omega)
              simp only [Act.put, List.setIfInBounds_toArray, List.set_cons_zero, List.set_cons_succ]
              refine take1 16 62 (.pointer (some ⟨b2, off2 + k * 7, none⟩)) rfl rfl (by kernel_rfl) (by kernel_rfl) (by kernel_rfl) (by rfl) (fun _ _ _ h => h) hS (fun w' hS' => ?_) ?_
              · (go_simp) <;> (intro hx9; omega)
              simp only [Act.put, List.setIfInBounds_toArray, List.set_cons_zero, List.set_cons_succ]
              refine take1 17 63 (.pointer (some ⟨b2, off2 + k * 7, none⟩)) rfl rfl (by kernel_rfl) (by kernel_rfl) (by kernel_rfl) (by rfl) (fun _ _ _ h => h) hS (fun w' hS' => ?_) ?_
              · (go_simp) <;> (intro hx9; omega)
              simp only [Act.put, List.setIfInBounds_toArray, List.set_cons_zero, List.set_cons_succ]
              refine take1 18 64 (.int .i64 s.k) rfl rfl (by kernel_rfl) (by kernel_rfl) (by kernel_rfl) (by rfl) (fun _ _ _ h => h) hS (fun w' hS' => ?_) ?_
              · have c0 := hS'.1.c0
                (go_simp) <;> (intro hx9; omega)
              simp only [Act.put, List.setIfInBounds_toArray, List.set_cons_zero, List.set_cons_succ]
              refine wpAnyH_ready (rs := [19]) (by kernel_rfl) (by simp) ?_
              refine AllReadyH.cons rfl (fun K hK => ?_) AllReadyH.nil
              go_simp
              refine (lbHas_any (some ⟨b, off, none⟩) ca (keysOf H 61) s.k w5 (I4.out.later H5.out) (by omega)).mono ?_
              rintro r w' ⟨rfl, hw⟩
              rw [hw]
              clear hw w'
              obtain ⟨bb, hbb⟩ : ∃ bb, bb = decide (s.k ∈ keysOf H 61) := ⟨_, rfl⟩
              rw [← hbb] at hsucc2 ⊢
              refine hK.out _ _ hS (fun hS => ?_)
              clear hK K hbb
              refine take1 20 66 (.bool bb) rfl rfl (by kernel_rfl) (by kernel_rfl) (by kernel_rfl) (by rfl) (fun _ _ _ h => h) hS (fun w' hS' => ?_) ?_
              · (go_simp) <;> (intro hx9; omega)
              simp only [Act.put, List.setIfInBounds_toArray, List.set_cons_zero, List.set_cons_succ]
              refine take1 21 67 (.bool bb) rfl rfl (by kernel_rfl) (by kernel_rfl) (by kernel_rfl) (by rfl) (fun _ _ _ h => h) hS (fun w' hS' => ?_) ?_
              · (go_simp) <;> (intro hx9; omega)
              simp only [Act.put, List.setIfInBounds_toArray, List.set_cons_zero, List.set_cons_succ]
              refine take1 22 7 (.bool bb) rfl rfl (by kernel_rfl) (by kernel_rfl) (by kernel_rfl) (by rfl) (fun _ _ _ h => h) hS (fun w' hS' => ?_) ?_
              · (go_simp) <;> (intro hx9; omega)
              simp only [Act.put, List.setIfInBounds_toArray, List.set_cons_zero, List.set_cons_succ]
              refine wpAnyH_done (by kernel_rfl) ?_ _
              clear hS
              go_wp2_with fail
              go_roundw
              case rel => exact ⟨k + 1, by omega, by go_num, by rw [hsucc2], H5⟩
              case measure => simp [intOf]; omega
            · have hsucc2 : fromB ks xs (keysOf H 61) n (k + 1) = false := by rw [hsucc, decide_eq_false hin, Bool.false_and]
              clear hsucc
              refine hK.out _ _ S5 (fun hS => ?_)
              clear hK K S5
              refine take1 11 57 (.bool false) rfl rfl (by kernel_rfl) (by kernel_rfl) (by kernel_rfl) (by rfl) (fun _ _ _ h => h) hS (fun w' hS' => ?_) ?_
              · (go_simp) <;> (intro hx9; omega)
              simp only [Act.put, List.setIfInBounds_toArray, List.set_cons_zero, List.set_cons_succ]
              refine take1 12 58 (.bool false) rfl rfl (by kernel_rfl) (by kernel_rfl) (by kernel_rfl) (by rfl) (fun _ _ _ h => h) hS (fun w' hS' => ?_) ?_
              · (go_simp) <;> (intro hx9; omega)
              simp only [Act.put, List.setIfInBounds_toArray, List.set_cons_zero, List.set_cons_succ]
              refine skip1 13 59 rfl rfl (by kernel_rfl) (by kernel_rfl) (by kernel_rfl) (by rfl) (fun _ _ _ h => h) hS ?_
              simp only [Act.put, List.setIfInBounds_toArray, List.set_cons_zero, List.set_cons_succ]
              refine skip1 14 60 rfl rfl (by kernel_rfl) (by kernel_rfl) (by kernel_rfl) (by rfl) (fun _ _ _ h => h) hS ?_
              simp only [Act.put, List.setIfInBounds_toArray, List.set_cons_zero, List.set_cons_succ]
              refine skip1 15 61 rfl rfl (by kernel_rfl) (by kernel_rfl) (by kernel_rfl) (by rfl) (fun _ _ _ h => h) hS ?_
              simp only [Act.put, List.setIfInBounds_toArray, List.set_cons_zero, List.set_cons_succ]
              refine skip1 16 62 rfl rfl (by kernel_rfl) (by kernel_rfl) (by kernel_rfl) (by rfl) (fun _ _ _ h => h) hS ?_
              simp only [Act.put, List.setIfInBounds_toArray, List.set_cons_zero, List.set_cons_succ]
              refine skip1 17 63 rfl rfl (by kernel_rfl) (by kernel_rfl) (by kernel_rfl) (by rfl) (fun _ _ _ h => h) hS ?_
              simp only [Act.put, List.setIfInBounds_toArray, List.set_cons_zero, List.set_cons_succ]
              refine skip1 18 64 rfl rfl (by kernel_rfl) (by kernel_rfl) (by kernel_rfl) (by rfl) (fun _ _ _ h => h) hS ?_
              simp only [Act.put, List.setIfInBounds_toArray, List.set_cons_zero, List.set_cons_succ]
              refine skip1 19 65 rfl rfl (by kernel_rfl) (by kernel_rfl) (by kernel_rfl) (by rfl) (fun _ _ _ h => h) hS ?_
              simp only [Act.put, List.setIfInBounds_toArray, List.set_cons_zero, List.set_cons_succ]
              refine take1 20 66 (.bool false) rfl rfl (by kernel_rfl) (by kernel_rfl) (by kernel_rfl) (by rfl) (fun _ _ _ h => h) hS (fun w' hS' => ?_) ?_
              · (go_simp) <;> (intro hx9; omega)
              simp only [Act.put, List.setIfInBounds_toArray, List.set_cons_zero, List.set_cons_succ]
              refine take1 21 67 (.bool false) rfl rfl (by kernel_rfl) (by kernel_rfl) (by kernel_rfl) (by rfl) (fun _ _ _ h => h) hS (fun w' hS' => ?_) ?_
              · (go_simp) <;> (intro hx9; omega)
              simp only [Act.put, List.setIfInBounds_toArray, List.set_cons_zero, List.set_cons_succ]
              refine take1 22 7 (.bool false) rfl rfl (by kernel_rfl) (by kernel_rfl) (by kernel_rfl) (by rfl) (fun _ _ _ h => h) hS (fun w' hS' => ?_) ?_
              · (go_simp) <;> (intro hx9; omega)
              simp only [Act.put, List.setIfInBounds_toArray, List.set_cons_zero, List.set_cons_succ]
              refine wpAnyH_done (by kernel_rfl) ?_ _
              clear hS
              go_wp2_with fail
              go_roundw
              case rel => exact ⟨k + 1, by omega, by go_num, by rw [hsucc2], H5⟩
              case measure => simp [intOf]; omega
          · rw [hfb, Bool.true_or] at hsucc
            go_wp2_with fail
            refine wp_region_held_drew (S := fun _ => True) (by kernel_rfl) trivial (fun hS => ?_)
            refine take1 0 46 (.bool true) rfl rfl (by kernel_rfl) (by kernel_rfl) (by kernel_rfl) (by rfl) (fun _ _ _ h => h) hS (fun w' hS' => ?_) ?_
            · (go_simp) <;> (intro hx9; omega)
            simp only [Act.put, List.setIfInBounds_toArray, List.set_cons_zero, List.set_cons_succ]
            refine take1 1 47 (.bool true) rfl rfl (by kernel_rfl) (by kernel_rfl) (by kernel_rfl) (by rfl) (fun _ _ _ h => h) hS (fun w' hS' => ?_) ?_
            · (go_simp) <;> (intro hx9; omega)
            simp only [Act.put, List.setIfInBounds_toArray, List.set_cons_zero, List.set_cons_succ]
            refine skip1 2 48 rfl rfl (by kernel_rfl) (by kernel_rfl) (by kernel_rfl) (by rfl) (fun _ _ _ h => h) hS ?_
            simp only [Act.put, List.setIfInBounds_toArray, List.set_cons_zero, List.set_cons_succ]
            refine skip1 3 49 rfl rfl (by kernel_rfl) (by kernel_rfl) (by kernel_rfl) (by rfl) (fun _ _ _ h => h) hS ?_
            simp only [Act.put, List.setIfInBounds_toArray, List.set_cons_zero, List.set_cons_succ]
            refine skip1 4 50 rfl rfl (by kernel_rfl) (by kernel_rfl) (by kernel_rfl) (by rfl) (fun _ _ _ h => h) hS ?_
            simp only [Act.put, List.setIfInBounds_toArray, List.set_cons_zero, List.set_cons_succ]
            refine skip1 5 51 rfl rfl (by kernel_rfl) (by kernel_rfl) (by kernel_rfl) (by rfl) (fun _ _ _ h => h) hS ?_
            simp only [Act.put, List.setIfInBounds_toArray, List.set_cons_zero, List.set_cons_succ]
            refine skip1 6 52 rfl rfl (by kernel_rfl) (by kernel_rfl) (by kernel_rfl) (by rfl) (fun _ _ _ h => h) hS ?_
            simp only [Act.put, List.setIfInBounds_toArray, List.set_cons_zero, List.set_cons_succ]
            refine skip1 7 53 rfl rfl (by kernel_rfl) (by kernel_rfl) (by kernel_rfl) (by rfl) (fun _ _ _ h => h) hS ?_
            simp only [Act.put, List.setIfInBounds_toArray, List.set_cons_zero, List.set_cons_succ]
            refine skip1 8 54 rfl rfl (by kernel_rfl) (by kernel_rfl) (by kernel_rfl) (by rfl) (fun _ _ _ h => h) hS ?_
            simp only [Act.put, List.setIfInBounds_toArray, List.set_cons_zero, List.set_cons_succ]
            refine skip1 9 55 rfl rfl (by kernel_rfl) (by kernel_rfl) (by kernel_rfl) (by rfl) (fun _ _ _ h => h) hS ?_
            simp only [Act.put, List.setIfInBounds_toArray, List.set_cons_zero, List.set_cons_succ]
            refine skip1 10 56 rfl rfl (by kernel_rfl) (by kernel_rfl) (by kernel_rfl) (by rfl) (fun _ _ _ h => h) hS ?_
            simp only [Act.put, List.setIfInBounds_toArray, List.set_cons_zero, List.set_cons_succ]
            refine skip1 11 57 rfl rfl (by kernel_rfl) (by kernel_rfl) (by kernel_rfl) (by rfl) (fun _ _ _ h => h) hS ?_
            simp only [Act.put, List.setIfInBounds_toArray, List.set_cons_zero, List.set_cons_succ]
            refine skip1 12 58 rfl rfl (by kernel_rfl) (by kernel_rfl) (by kernel_rfl) (by rfl) (fun _ _ _ h => h) hS ?_
            simp only [Act.put, List.setIfInBounds_toArray, List.set_cons_zero, List.set_cons_succ]
            refine skip1 13 59 rfl rfl (by kernel_rfl) (by kernel_rfl) (by kernel_rfl) (by rfl) (fun _ _ _ h => h) hS ?_
            simp only [Act.put, List.setIfInBounds_toArray, List.set_cons_zero, List.set_cons_succ]
            refine skip1 14 60 rfl rfl (by kernel_rfl) (by kernel_rfl) (by kernel_rfl) (by rfl) (fun _ _ _ h => h) hS ?_
            simp only [Act.put, List.setIfInBounds_toArray, List.set_cons_zero, List.set_cons_succ]
            refine skip1 15 61 rfl rfl (by kernel_rfl) (by kernel_rfl) (by kernel_rfl) (by rfl) (fun _ _ _ h => h) hS ?_
            simp only [Act.put, List.setIfInBounds_toArray, List.set_cons_zero, List.set_cons_succ]
            refine skip1 16 62 rfl rfl (by kernel_rfl) (by kernel_rfl) (by kernel_rfl) (by rfl) (fun _ _ _ h => h) hS ?_
            simp only [Act.put, List.setIfInBounds_toArray, List.set_cons_zero, List.set_cons_succ]
            refine skip1 17 63 rfl rfl (by kernel_rfl) (by kernel_rfl) (by kernel_rfl) (by rfl) (fun _ _ _ h => h) hS ?_
            simp only [Act.put, List.setIfInBounds_toArray, List.set_cons_zero, List.set_cons_succ]
            refine skip1 18 64 rfl rfl (by kernel_rfl) (by kernel_rfl) (by kernel_rfl) (by rfl) (fun _ _ _ h => h) hS ?_
            simp only [Act.put, List.setIfInBounds_toArray, List.set_cons_zero, List.set_cons_succ]
            refine skip1 19 65 rfl rfl (by kernel_rfl) (by kernel_rfl) (by kernel_rfl) (by rfl) (fun _ _ _ h => h) hS ?_
            simp only [Act.put, List.setIfInBounds_toArray, List.set_cons_zero, List.set_cons_succ]
            refine skip1 20 66 rfl rfl (by kernel_rfl) (by kernel_rfl) (by kernel_rfl) (by rfl) (fun _ _ _ h => h) hS ?_
            simp only [Act.put, List.setIfInBounds_toArray, List.set_cons_zero, List.set_cons_succ]
            refine take1 21 67 (.bool true) rfl rfl (by kernel_rfl) (by kernel_rfl) (by kernel_rfl) (by rfl) (fun _ _ _ h => h) hS (fun w' hS' => ?_) ?_
            · (go_simp) <;> (intro hx9; omega)
            simp only [Act.put, List.setIfInBounds_toArray, List.set_cons_zero, List.set_cons_succ]
            refine take1 22 7 (.bool true) rfl rfl (by kernel_rfl) (by kernel_rfl) (by kernel_rfl) (by rfl) (fun _ _ _ h => h) hS (fun w' hS' => ?_) ?_
            · (go_simp) <;> (intro hx9; omega)
            simp only [Act.put, List.setIfInBounds_toArray, List.set_cons_zero, List.set_cons_succ]
            refine wpAnyH_done (by kernel_rfl) ?_ _
            clear hS r0
            go_wp2_with fail
            go_roundw
            case rel => exact ⟨k + 1, by omega, by go_num, by rw [hsucc], HC⟩
            case measure => simp [intOf]; omega
        · obtain rfl : k = xs.length := by omega
          rw [fromB_all HR.out (List.mem_of_getElem? hn)]
          go_wp2_with fail
          go_roundw
          case rel => exact ⟨j + 1, by omega, by go_num, C⟩
          case measure => simp [intOf]; omega
    · obtain rfl : j = (keysOf H 61).length := by omega
      go_wp2_with fail
      go_loopw [9] (fun i wi => ∃ (k : Nat), k ≤ xs.length ∧ i = .int .i64 k ∧ Hid (Below w4.heap.size w4 wi)) (fun i _ => xs.length - (intOf i).toNat)
      case atStart => exact ⟨0, Nat.zero_le _, rfl, C⟩
      case round =>
        clear C
        obtain ⟨k, hk, rfl, C⟩ := hrel
        by_cases hlt2 : k < xs.length
        · obtain ⟨s, hs⟩ : ∃ s, xs[k]? = some s := ⟨xs[k], List.getElem?_eq_getElem hlt2⟩
          rcases (D4.out.later C.out).seals with hz | ⟨b2, off2, rfl, hl2, hr2⟩
          · simp [hz] at hlt2
          have hS := hr2 k s hs
          obtain ⟨c0, c1', c2', c3, c4, c5, c6⟩ := id hS
          clear hr2
          go_wp2_with fail
          refine (implH_any _ _ _ _ _ _ _ _).mono ?_
          rintro r w5 ⟨rfl, hb5⟩
          have hinn : Go.Proofs.Ythgglnjjbpjonaa.hK s.k s.t s.a s.b s.c s.d s.e = s.inn := rfl
          rw [hinn]
          have d0 := (hS.later hb5 hl2).c0
          have H5 : Hid (Below w4.heap.size w4 w5) := C.out.trans (hb5.mono C.out.size)
          have IA : Hid (IRow w5 aa (keysOf H 61)) := I4.out.later H5.out
          clear C hS c0 c1' c2' c3 c4 c5 c6 hb5 hinn
          by_cases hin : s.inn = 0
          · rw [hin]
            go_wp2_with fail
            go_roundw
            case rel => exact ⟨k + 1, by omega, by go_num, H5⟩
            case measure => simp [intOf]; omega
          · have hpos : 0 < s.inn := by rcases s.inn_cases with q | q <;> omega
            go_wp2_with fail
            refine (lbHas_any aa ca (keysOf H 61) s.k w5 IA.out (by omega)).mono ?_
            rintro r w' ⟨rfl, hw⟩
            rw [hw]
            clear hw w'
            by_cases hsk : s.k ∈ keysOf H 61
            · rw [decide_eq_true hsk]
              have hsi : s.inn ∈ keysOf H 61 := HR.out.mem.2 (.read (List.mem_of_getElem? hs) (HR.out.mem.1 hsk) hin)
              go_wp2_with fail
              refine (lbHas_any aa ca (keysOf H 61) s.inn w5 IA.out (by omega)).mono ?_
              rintro r w' ⟨rfl, hw⟩
              rw [hw, decide_eq_true hsi]
              clear hw w'
              go_wp2_with fail
              go_roundw
              case rel => exact ⟨k + 1, by omega, by go_num, H5⟩
              case measure => simp [intOf]; omega
            · rw [decide_eq_false hsk]
              go_wp2_with fail
              go_roundw
              case rel => exact ⟨k + 1, by omega, by go_num, H5⟩
              case measure => simp [intOf]; omega
        · obtain rfl : k = xs.length := by omega
          go_wp2_with fail
          go_ret
          exact ⟨rfl, (D4.out.later C.out).below⟩

end Go.Proofs.Ythgglnjjbpjonaa
