/-
  The law 'who has more can come to no less', walked at every two lists of bytes: it returns true, and nothing that was in memory is turned.
-/
import Derived.Test.YthgglnjjbpjonaaKnowKeysS
import Derived.Test.YthgglnjjbpjonaaKnowKeysI
import Derived.Test.YthgglnjjbpjonaaDrawKnowKeys
import Derived.Test.YthgglnjjbpjonaaIntLb
import Derived.Test.YthgglnjjbpjonaaKAppW
import Derived.Test.YthgglnjjbpjonaaKSkip
namespace Go.Proofs.Ythgglnjjbpjonaa
open Go.RowKit
attribute [local go_sem ↓] Go.wp_at_zero Go.wp_at_succ

set_option maxRecDepth 100000 in
set_option maxHeartbeats 1000000 in
theorem knowMore_long (a b : Option Addr) (len cap len2 cap2 : Nat) (w : World) (h : 1048576 < (len : Int) ∨ 1048576 < (len2 : Int)) :
    Calls Try.prog 4 #[.slice a len cap, .slice b len2 cap2] w fun r w' => r = .returned (.bool true) ∧ Below w.heap.size w w' := by
  by_cases h1 : 1048576 < (len : Int)
  · clear h
    go_enter Try.func4, Try.ntmps4
    go_wp2_with fail
    go_ret
    exact ⟨rfl, Below.refl _ _⟩
  · have h2 : 1048576 < (len2 : Int) := h.resolve_left h1
    clear h
    go_enter Try.func4, Try.ntmps4
    go_wp2_with fail
    go_ret
    exact ⟨rfl, Below.refl _ _⟩

set_option maxRecDepth 100000 in
set_option maxHeartbeats 8000000 in
theorem knowMore_short (a b : Option Addr) (len cap len2 cap2 : Nat) (w : World) (h : (len : Int) ≤ 1048576) (h' : (len2 : Int) ≤ 1048576) (hc : Code w a len cap) (hc2 : Code w b len2 cap2) :
    Calls Try.prog 4 #[.slice a len cap, .slice b len2 cap2] w fun r w' => r = .returned (.bool true) ∧ Below w.heap.size w w' := by
  go_enter Try.func4, Try.ntmps4
  go_wp2_with fail
  refine (drawKeys_any a len cap w hc).mono ?_
  rintro r w0 ⟨a1, c1, ks, a2, c2, xs, rfl, d0⟩
  have D0 : Hid (Drawn w a1 ks a2 xs w0) := d0
  have HC : Hid (Code w0 b len2 cap2) := hc2.below d0.below
  clear d0 hc hc2
  have f1 := D0.out.few1
  have f2 := D0.out.few2
  go_wp2_with fail
  refine (drawKeys_any b len2 cap2 w0 HC.out).mono ?_
  rintro r w1 ⟨a3, c3, ks2, a4, c4, xs2, rfl, e1⟩
  have D1 : Hid (Drawn w a1 ks a2 xs w1) := D0.out.later e1.below
  have E1 : Hid (Drawn w0 a3 ks2 a4 xs2 w1) := e1
  clear D0 HC e1
  have f3 := E1.out.few1
  have f4 := E1.out.few2
  go_wp2_with fail
  refine (implKeys_any a1 a2 c1 c2 ks xs w1 D1.out.keys D1.out.seals (by omega) (by omega)).mono ?_
  rintro r w2 ⟨⟨v2, H, rfl, hR, o2⟩, b2⟩
  obtain ⟨aa, ca, rfl, i2⟩ := o2.row
  have D2 : Hid (Drawn w a1 ks a2 xs w2) := D1.out.later b2
  have E2 : Hid (Drawn w0 a3 ks2 a4 xs2 w2) := E1.out.later b2
  have I2 : Hid (IRow w2 aa (keysOf H 61)) := i2
  have HR : Hid (Right ks xs H) := hR
  have hkl := keysOf_len H 61
  clear D1 E1 b2 o2 i2 hR
  go_wp2_with fail
  refine (specKeys_any a1 a2 c1 c2 ks xs w2 D2.out.keys D2.out.seals (by omega) (by omega)).mono ?_
  rintro r w3 ⟨⟨v3, H', rfl, hR', o3⟩, b3⟩
  obtain rfl : H = H' := HR.out.one hR' (fun _ => Iff.rfl)
  obtain ⟨az, cz, rfl, i3⟩ := o3.row
  have D3 : Hid (Drawn w a1 ks a2 xs w3) := D2.out.later b3
  have E3 : Hid (Drawn w0 a3 ks2 a4 xs2 w3) := E2.out.later b3
  have I3 : Hid (IRow w3 aa (keysOf H 61)) := I2.out.later b3
  clear D2 E2 I2 b3 o3 hR'
  go_wp2_with fail
  refine (lbInts_same aa az ca cz (keysOf H 61) w3 I3.out i3 (by omega)).mono ?_
  rintro r w4 ⟨rfl, b4⟩
  have D4 : Hid (Drawn w a1 ks a2 xs w4) := D3.out.later b4
  have E4 : Hid (Drawn w0 a3 ks2 a4 xs2 w4) := E3.out.later b4
  have I4 : Hid (IRow w4 aa (keysOf H 61)) := I3.out.later b4
  clear D3 E3 I3 b4 i3
  -- more keys, more seals
  have O5 : Hid (OwnI (w4.alloc (.cells #[] 3)) w4.heap.size (.slice (some ⟨w4.heap.size, 0, none⟩) 0 0) []) := OwnI.zero _ _ rfl (Nat.le_refl _)
  have B5 : Hid (Below w4.heap.size w4 (w4.alloc (.cells #[] 3))) := Below.alloc_ _ _
  go_wp2_with (first
    | (at_builtin; refine wpList_app_ints _ rfl _ _ rfl w4.heap.size _ [] rfl O5.out a1 ks c1 rfl (D4.out.keys.later B5.out) (by simp; omega) (by simp) ?_; intro b6 c6 w6 o6 g6; have B6 : Hid (Below w4.heap.size w4 w6) := B5.out.grown g6 (by simp) O5.out.lo; have O6 : Hid (OwnI w6 w4.heap.size (.slice b6 ([] ++ ks).length c6) ([] ++ ks)) := o6; clear o6 g6 O5 B5; simp only [List.nil_append] at O6)
    | (at_builtin; refine wpList_app_ints _ rfl _ _ rfl w4.heap.size _ ks rfl O6.out a3 ks2 c3 rfl (E4.out.keys.later B6.out) (by omega) B6.out.size ?_; intro b7 c7 w7 o7 g7; have B7 : Hid (Below w4.heap.size w4 w7) := B6.out.grown g7 B6.out.size O6.out.lo; have O7 : Hid (OwnI w7 w4.heap.size (.slice b7 (ks ++ ks2).length c7) (ks ++ ks2)) := o7; clear o7 g7 O6 B6; have P7 : Hid (OwnS (w7.alloc (.cells #[] 40)) w7.heap.size (.slice (some ⟨w7.heap.size, 0, none⟩) 0 0) []) := OwnS.zero _ (Nat.le_refl _); have C7 : Hid (Below w7.heap.size w7 (w7.alloc (.cells #[] 40))) := Below.alloc_ _ _)
    | (at_builtin; refine wpList_app_seals _ rfl _ _ rfl w7.heap.size _ [] rfl P7.out a2 xs c2 rfl ((D4.out.seals.later B7.out).later C7.out) (by simp; omega) (by simp) ?_; intro b8 c8 w8 o8 g8; have C8 : Hid (Below w7.heap.size w7 w8) := C7.out.grown g8 (by simp) P7.out.lo; have O8 : Hid (OwnS w8 w7.heap.size (.slice b8 ([] ++ xs).length c8) ([] ++ xs)) := o8; clear o8 g8 P7 C7; simp only [List.nil_append] at O8)
    | (at_builtin; refine wpList_app_seals _ rfl _ _ rfl w7.heap.size _ xs rfl O8.out a4 xs2 c4 rfl ((E4.out.seals.later B7.out).later C8.out) (by omega) C8.out.size ?_; intro b9 c9 w9 o9 g9; have C9 : Hid (Below w7.heap.size w7 w9) := C8.out.grown g9 C8.out.size O8.out.lo; have O9 : Hid (OwnS w9 w7.heap.size (.slice b9 (xs ++ xs2).length c9) (xs ++ xs2)) := o9; clear o9 g9 O8 C8)
    | (go_at_call 11; have q10 := implKeys_any b7 b9 c7 c9 (ks ++ ks2) (xs ++ xs2) w9 (OwnI.rowAt (O7.out.later C9.out)) (OwnS.rowAt O9.out) (by simp; omega) (by simp; omega); rw [List.length_append, List.length_append] at q10; refine q10.mono ?_; rintro r w10 ⟨⟨v10, H2, rfl, hR2, o10⟩, b10⟩)
    | go_in)
  obtain ⟨ab, cb2, rfl, i10⟩ := o10.row
  have bb : Below w4.heap.size w4 w10 := (B7.out.trans (C9.out.mono B7.out.size)).trans (b10.mono (Nat.le_trans B7.out.size C9.out.size))
  have D10 : Hid (Drawn w a1 ks a2 xs w10) := D4.out.later bb
  have IA : Hid (IRow w10 aa (keysOf H 61)) := I4.out.later bb
  have IBB : Hid (IRow w10 ab (keysOf H2 61)) := i10
  have hsub : ∀ n ∈ keysOf H 61, n ∈ keysOf H2 61 := fun n hn => hR2.mem.2 ((HR.out.mem.1 hn).mono (fun _ h => List.mem_append_left _ h) (fun _ h => List.mem_append_left _ h))
  have HS2 : Hid (∀ n ∈ keysOf H 61, n ∈ keysOf H2 61) := hsub
  have hkl2 := keysOf_len H2 61
  clear q10 o10 i10 b10 bb D4 E4 I4 B7 O7 C9 O9 hR2 hsub
  go_wp2_with fail
  go_loopw [11] (fun i wr => ∃ (j : Nat), j ≤ (keysOf H 61).length ∧ i = .int .i64 j ∧ Hid (Below w10.heap.size w10 wr)) (fun i _ => (keysOf H 61).length - (intOf i).toNat)
  case atStart => exact ⟨0, Nat.zero_le _, rfl, Below.refl _ _⟩
  case round =>
    obtain ⟨j, hj, rfl, C⟩ := hrel
    by_cases hlt : j < (keysOf H 61).length
    · obtain ⟨n, hn⟩ : ∃ n, (keysOf H 61)[j]? = some n := ⟨(keysOf H 61)[j], List.getElem?_eq_getElem hlt⟩
      have hmem : n ∈ keysOf H2 61 := HS2.out n (List.mem_of_getElem? hn)
      have IB : Hid (IRow wr ab (keysOf H2 61)) := IBB.out.later C.out
      have hbd : Below wr.heap.size wr wr.drew := (Below.refl _ _).drew
      rcases IA.out.later C.out with hz | ⟨b, off, rfl, hl, hr⟩
      · simp [hz] at hlt
      have r0 : wr.drew.cell? ⟨b, off + j, none⟩ = some (.int .i64 n) := hr j n hn
      have C2 : Hid (Below w10.heap.size w10 wr.drew) := C.out.drew
      cases j with
      | zero =>
        clear hr
        simp only [Nat.add_zero] at r0
        simp only [Int.natCast_zero] at *
        go_wp2_with fail
        refine wp_region_held_drew (S := fun w' => w'.cell? ⟨b, off, none⟩ = some (.int .i64 n) ∧ True) (by kernel_rfl) ⟨r0, trivial⟩ (fun hS => ?_)
        refine take1 0 57 (.slice ab (keysOf H2 61).length cb2) rfl rfl (by kernel_rfl) (by kernel_rfl) (by kernel_rfl) (by rfl) (fun _ _ _ h => h) hS (fun w' hS' => ?_) ?_
        · (go_simp) <;> (intro hx9; omega)
        simp only [Act.put, List.setIfInBounds_toArray, List.set_cons_zero, List.set_cons_succ]
        refine take1 1 58 (.slice (some ⟨b, off, none⟩) (keysOf H 61).length ca) rfl rfl (by kernel_rfl) (by kernel_rfl) (by kernel_rfl) (by rfl) (fun _ _ _ h => h) hS (fun w' hS' => ?_) ?_
        · (go_simp) <;> (intro hx9; omega)
        simp only [Act.put, List.setIfInBounds_toArray, List.set_cons_zero, List.set_cons_succ]
        refine take1 2 59 (.int .i64 0) rfl rfl (by kernel_rfl) (by kernel_rfl) (by kernel_rfl) (by rfl) (fun _ _ _ h => h) hS (fun w' hS' => ?_) ?_
        · (go_simp) <;> (intro hx9; omega)
        simp only [Act.put, List.setIfInBounds_toArray, List.set_cons_zero, List.set_cons_succ]
        refine take1 3 60 (.pointer (some ⟨b, off, none⟩)) rfl rfl (by kernel_rfl) (by kernel_rfl) (by kernel_rfl) (by rfl) (fun _ _ _ h => h) hS (fun w' hS' => ?_) ?_
        · (go_simp) <;> (intro hx9; omega)
        simp only [Act.put, List.setIfInBounds_toArray, List.set_cons_zero, List.set_cons_succ]
        refine take1 4 61 (.int .i64 n) rfl rfl (by kernel_rfl) (by kernel_rfl) (by kernel_rfl) (by rfl) (fun _ _ _ h => h) hS (fun w' hS' => ?_) ?_
        · have c0 := hS'.1
          (go_simp) <;> (intro hx9; omega)
        simp only [Act.put, List.setIfInBounds_toArray, List.set_cons_zero, List.set_cons_succ]
        refine wpAnyH_ready (rs := [5]) (by kernel_rfl) (by simp) ?_
        refine AllReadyH.cons rfl (fun K hK => ?_) AllReadyH.nil
        go_simp
        refine (lbHas_any ab cb2 (keysOf H2 61) n wr.drew (IB.out.later hbd) (by omega)).mono ?_
        rintro r w' ⟨rfl, hw⟩
        rw [hw]
        rw [decide_eq_true hmem]
        refine hK.out _ _ hS (fun hS => ?_)
        clear hK K hw w'
        refine take1 6 63 (.bool false) rfl rfl (by kernel_rfl) (by kernel_rfl) (by kernel_rfl) (by rfl) (fun _ _ _ h => h) hS (fun w' hS' => ?_) ?_
        · (go_simp) <;> (intro hx9; omega)
        simp only [Act.put, List.setIfInBounds_toArray, List.set_cons_zero, List.set_cons_succ]
        refine take1 7 64 (.bool false) rfl rfl (by kernel_rfl) (by kernel_rfl) (by kernel_rfl) (by rfl) (fun _ _ _ h => h) hS (fun w' hS' => ?_) ?_
        · (go_simp) <;> (intro hx9; omega)
        simp only [Act.put, List.setIfInBounds_toArray, List.set_cons_zero, List.set_cons_succ]
        refine take1 8 65 (.int .i64 0) rfl rfl (by kernel_rfl) (by kernel_rfl) (by kernel_rfl) (by rfl) (fun _ _ _ h => h) hS (fun w' hS' => ?_) ?_
        · (go_simp) <;> (intro hx9; omega)
        simp only [Act.put, List.setIfInBounds_toArray, List.set_cons_zero, List.set_cons_succ]
        refine take1 9 66 (.bool false) rfl rfl (by kernel_rfl) (by kernel_rfl) (by kernel_rfl) (by rfl) (fun _ _ _ h => h) hS (fun w' hS' => ?_) ?_
        · (go_simp) <;> (intro hx9; omega)
        simp only [Act.put, List.setIfInBounds_toArray, List.set_cons_zero, List.set_cons_succ]
        refine take1 10 67 (.bool false) rfl rfl (by kernel_rfl) (by kernel_rfl) (by kernel_rfl) (by rfl) (fun _ _ _ h => h) hS (fun w' hS' => ?_) ?_
        · (go_simp) <;> (intro hx9; omega)
        simp only [Act.put, List.setIfInBounds_toArray, List.set_cons_zero, List.set_cons_succ]
        refine skip1 11 68 rfl rfl (by kernel_rfl) (by kernel_rfl) (by kernel_rfl) (by rfl) (fun _ _ _ h => h) hS ?_
        simp only [Act.put, List.setIfInBounds_toArray, List.set_cons_zero, List.set_cons_succ]
        refine skip1 12 69 rfl rfl (by kernel_rfl) (by kernel_rfl) (by kernel_rfl) (by rfl) (fun _ _ _ h => h) hS ?_
        simp only [Act.put, List.setIfInBounds_toArray, List.set_cons_zero, List.set_cons_succ]
        refine skip1 13 70 rfl rfl (by kernel_rfl) (by kernel_rfl) (by kernel_rfl) (by rfl) (fun _ _ _ h => h) hS ?_
        simp only [Act.put, List.setIfInBounds_toArray, List.set_cons_zero, List.set_cons_succ]
        refine skip1 14 71 rfl rfl (by kernel_rfl) (by kernel_rfl) (by kernel_rfl) (by rfl) (fun _ _ _ h => h) hS ?_
        simp only [Act.put, List.setIfInBounds_toArray, List.set_cons_zero, List.set_cons_succ]
        refine skip1 15 72 rfl rfl (by kernel_rfl) (by kernel_rfl) (by kernel_rfl) (by rfl) (fun _ _ _ h => h) hS ?_
        simp only [Act.put, List.setIfInBounds_toArray, List.set_cons_zero, List.set_cons_succ]
        refine skip1 16 73 rfl rfl (by kernel_rfl) (by kernel_rfl) (by kernel_rfl) (by rfl) (fun _ _ _ h => h) hS ?_
        simp only [Act.put, List.setIfInBounds_toArray, List.set_cons_zero, List.set_cons_succ]
        refine skip1 17 74 rfl rfl (by kernel_rfl) (by kernel_rfl) (by kernel_rfl) (by rfl) (fun _ _ _ h => h) hS ?_
        simp only [Act.put, List.setIfInBounds_toArray, List.set_cons_zero, List.set_cons_succ]
        refine skip1 18 75 rfl rfl (by kernel_rfl) (by kernel_rfl) (by kernel_rfl) (by rfl) (fun _ _ _ h => h) hS ?_
        simp only [Act.put, List.setIfInBounds_toArray, List.set_cons_zero, List.set_cons_succ]
        refine skip1 19 76 rfl rfl (by kernel_rfl) (by kernel_rfl) (by kernel_rfl) (by rfl) (fun _ _ _ h => h) hS ?_
        simp only [Act.put, List.setIfInBounds_toArray, List.set_cons_zero, List.set_cons_succ]
        refine skip1 20 77 rfl rfl (by kernel_rfl) (by kernel_rfl) (by kernel_rfl) (by rfl) (fun _ _ _ h => h) hS ?_
        simp only [Act.put, List.setIfInBounds_toArray, List.set_cons_zero, List.set_cons_succ]
        refine take1 21 78 (.bool false) rfl rfl (by kernel_rfl) (by kernel_rfl) (by kernel_rfl) (by rfl) (fun _ _ _ h => h) hS (fun w' hS' => ?_) ?_
        · (go_simp) <;> (intro hx9; omega)
        simp only [Act.put, List.setIfInBounds_toArray, List.set_cons_zero, List.set_cons_succ]
        refine take1 22 79 (.bool false) rfl rfl (by kernel_rfl) (by kernel_rfl) (by kernel_rfl) (by rfl) (fun _ _ _ h => h) hS (fun w' hS' => ?_) ?_
        · (go_simp) <;> (intro hx9; omega)
        simp only [Act.put, List.setIfInBounds_toArray, List.set_cons_zero, List.set_cons_succ]
        refine wpAnyH_done (by kernel_rfl) ?_ _
        clear hS r0
        go_wp2_with fail
        go_roundw
        case rel => exact ⟨1, by omega, by go_num, C2⟩
        case measure => simp [intOf]; omega
      | succ j =>
        obtain ⟨m, hm⟩ : ∃ m, (keysOf H 61)[j]? = some m := ⟨(keysOf H 61)[j], List.getElem?_eq_getElem (by omega)⟩
        have r1 : wr.drew.cell? ⟨b, off + j, none⟩ = some (.int .i64 m) := hr j m hm
        have hmn : m < n := by
          have hs := List.pairwise_iff_getElem.1 (keysOf_sorted H 61) j (j + 1) (by omega) hlt (by omega)
          rw [(List.getElem?_eq_some_iff.1 hm).2, (List.getElem?_eq_some_iff.1 hn).2] at hs
          exact hs
        have hge : ¬ n ≤ m := by omega
        have hcast : ((j + 1 : Nat) : Int) = (j : Int) + 1 := by omega
        have hpos : (0 : Int) < (j : Int) + 1 := by omega
        have hsub : (j : Int) + 1 - 1 = j := by omega
        have hwj : IntKind.i64.wrap (j : Int) = j := wrapM (by omega) (by omega)
        clear hr
        rw [hcast]
        go_wp2_with fail
        refine wp_region_held_drew (S := fun w' => w'.cell? ⟨b, off + (j + 1), none⟩ = some (.int .i64 n) ∧ w'.cell? ⟨b, off + j, none⟩ = some (.int .i64 m)) (by kernel_rfl) ⟨r0, r1⟩ (fun hS => ?_)
        refine take1 0 57 (.slice ab (keysOf H2 61).length cb2) rfl rfl (by kernel_rfl) (by kernel_rfl) (by kernel_rfl) (by rfl) (fun _ _ _ h => h) hS (fun w' hS' => ?_) ?_
        · (go_simp) <;> (intro hx9; omega)
        simp only [Act.put, List.setIfInBounds_toArray, List.set_cons_zero, List.set_cons_succ]
        refine take1 1 58 (Value.slice (some ⟨b, off, none⟩) (keysOf H 61).length ca) rfl rfl (by kernel_rfl) (by kernel_rfl) (by kernel_rfl) (by rfl) (fun _ _ _ h => h) hS (fun w' hS' => ?_) ?_
        · (go_simp) <;> (intro hx9; omega)
        simp only [Act.put, List.setIfInBounds_toArray, List.set_cons_zero, List.set_cons_succ]
        refine take1 2 59 (.int .i64 ((j : Int) + 1)) rfl rfl (by kernel_rfl) (by kernel_rfl) (by kernel_rfl) (by rfl) (fun _ _ _ h => h) hS (fun w' hS' => ?_) ?_
        · (go_simp) <;> (intro hx9; omega)
        simp only [Act.put, List.setIfInBounds_toArray, List.set_cons_zero, List.set_cons_succ]
        refine take1 3 60 (.pointer (some ⟨b, off + (j + 1), none⟩)) rfl rfl (by kernel_rfl) (by kernel_rfl) (by kernel_rfl) (by rfl) (fun _ _ _ h => h) hS (fun w' hS' => ?_) ?_
        · (go_simp) <;> (intro hx9; omega)
        simp only [Act.put, List.setIfInBounds_toArray, List.set_cons_zero, List.set_cons_succ]
        refine take1 4 61 (.int .i64 n) rfl rfl (by kernel_rfl) (by kernel_rfl) (by kernel_rfl) (by rfl) (fun _ _ _ h => h) hS (fun w' hS' => ?_) ?_
        · have c0 := hS'.1
          (go_simp) <;> (intro hx9; omega)
        simp only [Act.put, List.setIfInBounds_toArray, List.set_cons_zero, List.set_cons_succ]
        refine wpAnyH_ready (rs := [5]) (by kernel_rfl) (by simp) ?_
        refine AllReadyH.cons rfl (fun K hK => ?_) AllReadyH.nil
        go_simp
        refine (lbHas_any ab cb2 (keysOf H2 61) n wr.drew (IB.out.later hbd) (by omega)).mono ?_
        rintro r w' ⟨rfl, hw⟩
        rw [hw]
        rw [decide_eq_true hmem]
        refine hK.out _ _ hS (fun hS => ?_)
        clear hK K hw w'
        refine take1 6 63 (.bool false) rfl rfl (by kernel_rfl) (by kernel_rfl) (by kernel_rfl) (by rfl) (fun _ _ _ h => h) hS (fun w' hS' => ?_) ?_
        · (go_simp) <;> (intro hx9; omega)
        simp only [Act.put, List.setIfInBounds_toArray, List.set_cons_zero, List.set_cons_succ]
        refine take1 7 64 (.bool false) rfl rfl (by kernel_rfl) (by kernel_rfl) (by kernel_rfl) (by rfl) (fun _ _ _ h => h) hS (fun w' hS' => ?_) ?_
        · (go_simp) <;> (intro hx9; omega)
        simp only [Act.put, List.setIfInBounds_toArray, List.set_cons_zero, List.set_cons_succ]
        refine take1 8 65 (.int .i64 ((j : Int) + 1)) rfl rfl (by kernel_rfl) (by kernel_rfl) (by kernel_rfl) (by rfl) (fun _ _ _ h => h) hS (fun w' hS' => ?_) ?_
        · (go_simp) <;> (intro hx9; omega)
        simp only [Act.put, List.setIfInBounds_toArray, List.set_cons_zero, List.set_cons_succ]
        refine take1 9 66 (.bool true) rfl rfl (by kernel_rfl) (by kernel_rfl) (by kernel_rfl) (by rfl) (fun _ _ _ h => h) hS (fun w' hS' => ?_) ?_
        · (go_simp) <;> (intro hx9; omega)
        simp only [Act.put, List.setIfInBounds_toArray, List.set_cons_zero, List.set_cons_succ]
        refine take1 10 67 (.bool true) rfl rfl (by kernel_rfl) (by kernel_rfl) (by kernel_rfl) (by rfl) (fun _ _ _ h => h) hS (fun w' hS' => ?_) ?_
        · (go_simp) <;> (intro hx9; omega)
        simp only [Act.put, List.setIfInBounds_toArray, List.set_cons_zero, List.set_cons_succ]
        refine take1 11 68 (Value.slice (some ⟨b, off, none⟩) (keysOf H 61).length ca) rfl rfl (by kernel_rfl) (by kernel_rfl) (by kernel_rfl) (by rfl) (fun _ _ _ h => h) hS (fun w' hS' => ?_) ?_
        · (go_simp) <;> (intro hx9; omega)
        simp only [Act.put, List.setIfInBounds_toArray, List.set_cons_zero, List.set_cons_succ]
        refine take1 12 69 (.int .i64 ((j : Int) + 1)) rfl rfl (by kernel_rfl) (by kernel_rfl) (by kernel_rfl) (by rfl) (fun _ _ _ h => h) hS (fun w' hS' => ?_) ?_
        · (go_simp) <;> (intro hx9; omega)
        simp only [Act.put, List.setIfInBounds_toArray, List.set_cons_zero, List.set_cons_succ]
        refine take1 13 70 (.int .i64 j) rfl rfl (by kernel_rfl) (by kernel_rfl) (by kernel_rfl) (by rfl) (fun _ _ _ h => h) hS (fun w' hS' => ?_) ?_
        · (go_simp) <;> (intro hx9; omega)
        simp only [Act.put, List.setIfInBounds_toArray, List.set_cons_zero, List.set_cons_succ]
        refine take1 14 71 (.pointer (some ⟨b, off + j, none⟩)) rfl rfl (by kernel_rfl) (by kernel_rfl) (by kernel_rfl) (by rfl) (fun _ _ _ h => h) hS (fun w' hS' => ?_) ?_
        · (go_simp) <;> (intro hx9; omega)
        simp only [Act.put, List.setIfInBounds_toArray, List.set_cons_zero, List.set_cons_succ]
        refine take1 15 72 (.int .i64 m) rfl rfl (by kernel_rfl) (by kernel_rfl) (by kernel_rfl) (by rfl) (fun _ _ _ h => h) hS (fun w' hS' => ?_) ?_
        · have c0 := hS'.2
          (go_simp) <;> (intro hx9; omega)
        simp only [Act.put, List.setIfInBounds_toArray, List.set_cons_zero, List.set_cons_succ]
        refine take1 16 73 (Value.slice (some ⟨b, off, none⟩) (keysOf H 61).length ca) rfl rfl (by kernel_rfl) (by kernel_rfl) (by kernel_rfl) (by rfl) (fun _ _ _ h => h) hS (fun w' hS' => ?_) ?_
        · (go_simp) <;> (intro hx9; omega)
        simp only [Act.put, List.setIfInBounds_toArray, List.set_cons_zero, List.set_cons_succ]
        refine take1 17 74 (.int .i64 ((j : Int) + 1)) rfl rfl (by kernel_rfl) (by kernel_rfl) (by kernel_rfl) (by rfl) (fun _ _ _ h => h) hS (fun w' hS' => ?_) ?_
        · (go_simp) <;> (intro hx9; omega)
        simp only [Act.put, List.setIfInBounds_toArray, List.set_cons_zero, List.set_cons_succ]
        refine take1 18 75 (.pointer (some ⟨b, off + (j + 1), none⟩)) rfl rfl (by kernel_rfl) (by kernel_rfl) (by kernel_rfl) (by rfl) (fun _ _ _ h => h) hS (fun w' hS' => ?_) ?_
        · (go_simp) <;> (intro hx9; omega)
        simp only [Act.put, List.setIfInBounds_toArray, List.set_cons_zero, List.set_cons_succ]
        refine take1 19 76 (.int .i64 n) rfl rfl (by kernel_rfl) (by kernel_rfl) (by kernel_rfl) (by rfl) (fun _ _ _ h => h) hS (fun w' hS' => ?_) ?_
        · have c0 := hS'.1
          (go_simp) <;> (intro hx9; omega)
        simp only [Act.put, List.setIfInBounds_toArray, List.set_cons_zero, List.set_cons_succ]
        refine take1 20 77 (.bool false) rfl rfl (by kernel_rfl) (by kernel_rfl) (by kernel_rfl) (by rfl) (fun _ _ _ h => h) hS (fun w' hS' => ?_) ?_
        · (go_simp) <;> (intro hx9; omega)
        simp only [Act.put, List.setIfInBounds_toArray, List.set_cons_zero, List.set_cons_succ]
        refine take1 21 78 (.bool false) rfl rfl (by kernel_rfl) (by kernel_rfl) (by kernel_rfl) (by rfl) (fun _ _ _ h => h) hS (fun w' hS' => ?_) ?_
        · (go_simp) <;> (intro hx9; omega)
        simp only [Act.put, List.setIfInBounds_toArray, List.set_cons_zero, List.set_cons_succ]
        refine take1 22 79 (.bool false) rfl rfl (by kernel_rfl) (by kernel_rfl) (by kernel_rfl) (by rfl) (fun _ _ _ h => h) hS (fun w' hS' => ?_) ?_
        · (go_simp) <;> (intro hx9; omega)
        simp only [Act.put, List.setIfInBounds_toArray, List.set_cons_zero, List.set_cons_succ]
        refine wpAnyH_done (by kernel_rfl) ?_ _
        clear hS r0 r1
        go_wp2_with fail
        go_roundw
        case rel => exact ⟨j + 1 + 1, by omega, by go_num, C2⟩
        case measure => simp [intOf]; omega
    · obtain rfl : j = (keysOf H 61).length := by omega
      have D11 : Hid (Drawn w a1 ks a2 xs wr) := D10.out.later C.out
      have IC : Hid (IRow wr aa (keysOf H 61)) := IA.out.later C.out
      clear C D10 IA IBB
      go_wp2_with fail
      go_loopw [12] (fun i wi => ∃ (j : Nat), j ≤ ks.length ∧ i = .int .i64 j ∧ Hid (wi = wr)) (fun i _ => ks.length - (intOf i).toNat)
      case atStart => exact ⟨0, Nat.zero_le _, rfl, rfl⟩
      case round =>
        obtain ⟨j, hj, rfl, C⟩ := hrel
        have hw := C.out
        subst hw
        by_cases hlt : j < ks.length
        · obtain ⟨n, hn⟩ : ∃ n, ks[j]? = some n := ⟨ks[j], List.getElem?_eq_getElem hlt⟩
          rcases D11.out.keys with hz | ⟨b, off, rfl, hl, hr⟩
          · simp [hz] at hlt
          have c0 := hr j n hn
          clear hr C
          by_cases h1 : 1 ≤ n
          · by_cases h2 : n ≤ 60
            · have hin : n ∈ keysOf H 61 := HR.out.mem.2 (.had (List.mem_of_getElem? hn) h1 h2)
              go_wp2_with (go_at_call 19; refine (lbHas_any aa ca (keysOf H 61) n _ IC.out (by omega)).mono ?_; rintro r w' ⟨rfl, hw⟩; rw [hw, decide_eq_true hin]; clear hw w')
              go_roundw
              case rel => exact ⟨j + 1, by omega, by go_num, by first | rfl | trivial⟩
              case measure => simp [intOf]; omega
            · go_wp2_with fail
              go_roundw
              case rel => exact ⟨j + 1, by omega, by go_num, by first | rfl | trivial⟩
              case measure => simp [intOf]; omega
          · go_wp2_with fail
            go_roundw
            case rel => exact ⟨j + 1, by omega, by go_num, by first | rfl | trivial⟩
            case measure => simp [intOf]; omega
        · obtain rfl : j = ks.length := by omega
          go_wp2_with fail
          go_ret
          exact ⟨rfl, D11.out.below⟩

end Go.Proofs.Ythgglnjjbpjonaa
