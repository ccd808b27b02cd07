/-
  The law 'what one can come to one may as well have', walked at every two lists of bytes: it returns true, and nothing that was in memory is turned.
-/
import Derived.Test.YtadjphljohdieaaKnowKeysS
import Derived.Test.YtadjphljohdieaaKnowReadS
import Derived.Test.YtadjphljohdieaaDrawKnowKeys
import Derived.Test.YtadjphljohdieaaIntLb
import Derived.Test.YtadjphljohdieaaKSkip
import Derived.Test.YtadjphljohdieaaKAppW
import Derived.Deep.DeepCutAuto
import Derived.Deep.CutBlock
namespace Go.Proofs.Ytadjphljohdieaa
open Go.RowKit
attribute [local go_sem ↓] Go.wp_at_zero Go.wp_at_succ

set_option maxRecDepth 100000 in
set_option maxHeartbeats 1000000 in
theorem knowStep_long (a b : Option Addr) (len cap len2 cap2 : Nat) (w : World) (h : 1048576 < (len : Int) ∨ 1048576 < (len2 : Int)) :
    Calls Try.prog 4 #[.slice a len cap, .slice b len2 cap2] w fun r w' => r = .returned (.bool true) ∧ Below w.heap.size w w' := by
  by_cases h1 : 1048576 < (len : Int)
  · clear h
    go_enter Try.func4, Try.ntmps4
    go_wp2_with fail
    go_ret
    exact ⟨rfl, Below.refl _ _⟩
  · have h2 : 1048576 < (len2 : Int) := h.resolve_left h1
    clear h
    go_enter Try.func4, Try.ntmps4
    go_wp2_with fail
    go_ret
    exact ⟨rfl, Below.refl _ _⟩

theorem Come.reads {ks : List Int} {xs : List Sl} {H : List Bool} {m : Nat} (z : Int) : Come ks (xs ++ readOf H xs m) z ↔ Come ks xs z :=
  ⟨Come.back (fun _ hm => Or.inl hm) (fun s hs => by
      rcases List.mem_append.1 hs with h | h
      · exact Or.inl h
      · exact Or.inl (List.mem_of_mem_take (List.mem_filter.1 h).1)),
   Come.mono (fun _ h => h) (fun _ h => List.mem_append_left _ h)⟩
theorem IRow.grown {w w' : World} {a : Option Addr} {ks : List Int} {row : Option Nat} (h : IRow w a ks) (hg : w.grownBy w' row) (hne : ∀ b off, a = some ⟨b, off, none⟩ → some b ≠ row) : IRow w' a ks := by
  rcases h with h | ⟨b, off, rfl, hl, h⟩
  · exact Or.inl h
  · refine Or.inr ⟨b, off, rfl, Nat.lt_of_lt_of_le hl hg.size, fun i m hm => ?_⟩
    have := h i m hm
    have e := hg.block b hl (hne b off rfl)
    unfold World.cell? at this ⊢
    rw [e]; exact this
theorem irow_one (w : World) (n : Int) : IRow (w.alloc (.cells #[.int .i64 n] 3)) (some ⟨w.heap.size, 0, none⟩) [n] := by
  refine Or.inr ⟨w.heap.size, 0, rfl, by simp, fun i m hm => ?_⟩
  obtain ⟨rfl, rfl⟩ : i = 0 ∧ n = m := by
    cases i with
    | zero => exact ⟨rfl, by simpa using hm⟩
    | succ i => simp at hm
  rw [cell_of_row _ _ _ _ _ _ (heap_alloc_new _ _)]
  rfl
theorem OwnI.blk {w : World} {base q c : Nat} {n : Nat} {zs : List Int} (h : OwnI w base (.slice (some ⟨q, 0, none⟩) n c) zs) : q < w.heap.size := (World.ownsRow.lt h q rfl).2
/-- What one can come to one may as well have. -/
theorem Come.plus {ks : List Int} {xs : List Sl} {n : Int} (h : Come ks xs n) (z : Int) : Come (ks ++ [n]) xs z ↔ Come ks xs z :=
  ⟨Come.back (fun m hm => by
      rcases List.mem_append.1 hm with hm | hm
      · exact Or.inl hm
      · rw [List.mem_singleton.1 hm]; exact Or.inr h) (fun _ h => Or.inl h),
   Come.mono (fun _ h => List.mem_append_left _ h) (fun _ h => h)⟩

set_option maxRecDepth 100000 in
set_option maxHeartbeats 8000000 in
theorem knowStep_short (a bb : Option Addr) (len cap len2 cap2 : Nat) (w : World) (h : (len : Int) ≤ 1048576) (h' : (len2 : Int) ≤ 1048576) (hc : Code w a len cap) (_ : Code w bb len2 cap2) :
    Calls Try.prog 4 #[.slice a len cap, .slice bb len2 cap2] w fun r w' => r = .returned (.bool true) ∧ Below w.heap.size w w' := by
  obtain ⟨i0, hi, hz0, hz1, hz2⟩ := info_parts infoInt
  go_enter Try.func4, Try.ntmps4
  go_wp2_with fail
  refine (drawKeys_any a len cap w hc).mono ?_
  rintro r w1 ⟨a1, c1, ks, a2, c2, xs, rfl, d1⟩
  have D1 : Hid (Drawn w a1 ks a2 xs w1) := d1
  clear d1 hc
  have f1 := D1.out.few1
  have f2 := D1.out.few2
  go_wp2_with fail
  refine (implKeys_any a1 a2 c1 c2 ks xs w1 D1.out.keys D1.out.seals (by omega) (by omega)).mono ?_
  rintro r w2 ⟨⟨v2, H, rfl, hR, o2⟩, b2⟩
  obtain ⟨aa, ca, rfl, i2⟩ := o2.row
  have D2 : Hid (Drawn w a1 ks a2 xs w2) := D1.out.later b2
  have I2 : Hid (IRow w2 aa (keysOf H 61)) := i2
  have HR : Hid (Right ks xs H) := hR
  have hkl := keysOf_len H 61
  clear D1 b2 o2 i2 hR
  go_wp2_with fail
  refine (specKeys_any a1 a2 c1 c2 ks xs w2 D2.out.keys D2.out.seals (by omega) (by omega)).mono ?_
  rintro r w3 ⟨⟨v3, H', rfl, hR', o3⟩, b3⟩
  obtain rfl : H = H' := HR.out.one hR' (fun _ => Iff.rfl)
  obtain ⟨az, cz, rfl, i3⟩ := o3.row
  have D3 : Hid (Drawn w a1 ks a2 xs w3) := D2.out.later b3
  have I3 : Hid (IRow w3 aa (keysOf H 61)) := I2.out.later b3
  clear D2 I2 b3 o3 hR'
  go_wp2_with fail
  refine (lbInts_same aa az ca cz (keysOf H 61) w3 I3.out i3 (by omega)).mono ?_
  rintro r w4 ⟨rfl, b4⟩
  have D4 : Hid (Drawn w a1 ks a2 xs w4) := D3.out.later b4
  have I4 : Hid (IRow w4 aa (keysOf H 61)) := I3.out.later b4
  clear D3 I3 b4 i3
  by_cases hz : (keysOf H 61).length = 0
  · have hzb : ((keysOf H 61).length : Int) = 0 := by omega
    go_wp2_with fail
    refine (specKeys_any a1 a2 c1 c2 ks xs w4 D4.out.keys D4.out.seals (by omega) (by omega)).mono ?_
    rintro r w5 ⟨⟨v5, H', rfl, hR', o5⟩, b5⟩
    obtain rfl : H = H' := HR.out.one hR' (fun _ => Iff.rfl)
    obtain ⟨ay, cy, rfl, i5⟩ := o5.row
    have D5 : Hid (Drawn w a1 ks a2 xs w5) := D4.out.later b5
    have I5 : Hid (IRow w5 aa (keysOf H 61)) := I4.out.later b5
    clear D4 I4 b5 o5 hR'
    go_wp2_with fail
    refine (lbInts_same aa ay ca cy [] w5 (Or.inl rfl) (Or.inl rfl) (by simp)).mono ?_
    rintro r w6 ⟨rfl, b6⟩
    have D6 : Hid (Drawn w a1 ks a2 xs w6) := D5.out.later b6
    clear D5 I5 b6 i5
    go_wp2_with fail
    go_ret
    exact ⟨rfl, D6.out.below⟩
  · have hzb : ¬ ((keysOf H 61).length : Int) = 0 := by omega
    obtain ⟨m, hm⟩ : ∃ m : Nat, m = len2 % (keysOf H 61).length := ⟨_, rfl⟩
    have hml : m < (keysOf H 61).length := by rw [hm]; exact Nat.mod_lt _ (by omega)
    obtain ⟨n, hn⟩ : ∃ n, (keysOf H 61)[m]? = some n := ⟨(keysOf H 61)[m], List.getElem?_eq_getElem hml⟩
    rcases id I4.out with hz' | ⟨b, off, rfl, hl, hr⟩
    · simp [hz'] at hml
    have r0 : w4.drew.cell? ⟨b, off + m, none⟩ = some (.int .i64 n) := hr m n hn
    have r4 : Hid (w4.cell? ⟨b, off + m, none⟩ = some (.int .i64 n) ∧ b < w4.heap.size) := ⟨hr m n hn, hl⟩
    have hmi : Int.tmod (len2 : Int) ((keysOf H 61).length : Int) = m := by rw [hm]; exact (Int.ofNat_tmod _ _).symm
    clear hr hm
    go_upto_region 7 with fail
    go_cut [8] (fun v8 wc => ∃ (ab : Option Addr) (cb : Nat), v8 = .slice ab (keysOf H 61).length cb ∧ Hid (IRow wc ab (keysOf H 61) ∧ Below w4.heap.size w4 wc))
    case first =>
      refine wp_region_held_drew (S := fun w' => w'.cell? ⟨b, off + m, none⟩ = some (.int .i64 n)) (by kernel_rfl) r0 (fun hS => ?_)
      clear r0
      obtain ⟨Z, hZ⟩ : ∃ Z, Z = w4.heap.size := ⟨_, rfl⟩
      have HZ : Hid (Z = w4.heap.size) := hZ
      clear hZ
      refine take1 1 43 (.slice a1 ks.length c1) rfl rfl (by kernel_rfl) (by kernel_rfl) (by kernel_rfl) (by rfl) (fun _ _ _ h => h) hS (fun w' hS' => ?_) ?_
      · (go_simp) <;> (intro hx9; omega)
      simp only [Act.put, List.setIfInBounds_toArray, List.set_cons_zero, List.set_cons_succ]
      refine take1 3 45 (.slice (some ⟨b, off, none⟩) (keysOf H 61).length ca) rfl rfl (by kernel_rfl) (by kernel_rfl) (by kernel_rfl) (by rfl) (fun _ _ _ h => h) hS (fun w' hS' => ?_) ?_
      · (go_simp) <;> (intro hx9; omega)
      simp only [Act.put, List.setIfInBounds_toArray, List.set_cons_zero, List.set_cons_succ]
      refine take1 4 46 (.slice bb len2 cap2) rfl rfl (by kernel_rfl) (by kernel_rfl) (by kernel_rfl) (by rfl) (fun _ _ _ h => h) hS (fun w' hS' => ?_) ?_
      · (go_simp) <;> (intro hx9; omega)
      simp only [Act.put, List.setIfInBounds_toArray, List.set_cons_zero, List.set_cons_succ]
      refine take1 5 47 (.int .i64 len2) rfl rfl (by kernel_rfl) (by kernel_rfl) (by kernel_rfl) (by rfl) (fun _ _ _ h => h) hS (fun w' hS' => ?_) ?_
      · (go_simp) <;> (intro hx9; omega)
      simp only [Act.put, List.setIfInBounds_toArray, List.set_cons_zero, List.set_cons_succ]
      refine take1 6 48 (.slice (some ⟨b, off, none⟩) (keysOf H 61).length ca) rfl rfl (by kernel_rfl) (by kernel_rfl) (by kernel_rfl) (by rfl) (fun _ _ _ h => h) hS (fun w' hS' => ?_) ?_
      · (go_simp) <;> (intro hx9; omega)
      simp only [Act.put, List.setIfInBounds_toArray, List.set_cons_zero, List.set_cons_succ]
      refine take1 7 49 (.int .i64 (keysOf H 61).length) rfl rfl (by kernel_rfl) (by kernel_rfl) (by kernel_rfl) (by rfl) (fun _ _ _ h => h) hS (fun w' hS' => ?_) ?_
      · (go_simp) <;> (intro hx9; omega)
      simp only [Act.put, List.setIfInBounds_toArray, List.set_cons_zero, List.set_cons_succ]
      refine take1 8 50 (.int .i64 m) rfl rfl (by kernel_rfl) (by kernel_rfl) (by kernel_rfl) (by rfl) (fun _ _ _ h => h) hS (fun w' hS' => ?_) ?_
      · (go_simp) <;> (intro hx9; omega)
      simp only [Act.put, List.setIfInBounds_toArray, List.set_cons_zero, List.set_cons_succ]
      refine take1 9 51 (.pointer (some ⟨b, off + m, none⟩)) rfl rfl (by kernel_rfl) (by kernel_rfl) (by kernel_rfl) (by rfl) (fun _ _ _ h => h) hS (fun w' hS' => ?_) ?_
      · (go_simp) <;> (intro hx9; omega)
      simp only [Act.put, List.setIfInBounds_toArray, List.set_cons_zero, List.set_cons_succ]
      refine take1 10 52 (.int .i64 n) rfl rfl (by kernel_rfl) (by kernel_rfl) (by kernel_rfl) (by rfl) (fun _ _ _ h => h) hS (fun w' hS' => ?_) ?_
      · have c0 := hS'
        (go_simp) <;> (intro hx9; omega)
      simp only [Act.put, List.setIfInBounds_toArray, List.set_cons_zero, List.set_cons_succ]
      refine take1 13 55 (.slice a2 xs.length c2) rfl rfl (by kernel_rfl) (by kernel_rfl) (by kernel_rfl) (by rfl) (fun _ _ _ h => h) hS (fun w' hS' => ?_) ?_
      · (go_simp) <;> (intro hx9; omega)
      simp only [Act.put, List.setIfInBounds_toArray, List.set_cons_zero, List.set_cons_succ]
      refine wpAnyH_ready (rs := [0, 11]) (by kernel_rfl) (by simp) ?_
      refine AllReadyH.cons rfl (fun K hK => ?_) (AllReadyH.cons rfl (fun K hK => ?_) AllReadyH.nil)
      · go_simp
        have B5 : Hid (Below w4.heap.size w4 (w4.alloc (.cells #[] 3)).drew) := (Below.alloc_ _ _).drew
        have O5 : Hid (OwnI (w4.alloc (.cells #[] 3)).drew Z (.slice (some ⟨w4.heap.size, 0, none⟩) 0 0) []) := OwnI.zero w4 _ rfl (Nat.le_of_eq HZ.out)
        obtain ⟨q, hq⟩ : ∃ q, q = w4.heap.size := ⟨_, rfl⟩
        rw [← hq] at O5 ⊢
        clear hq
        generalize hW5 : (w4.alloc (.cells #[] 3)).drew = w5 at B5 O5 ⊢
        clear hW5
        refine hK.out _ _ (((bcell B5.out).1 _ _ r4.out.2).trans r4.out.1) (fun hS => ?_)
        clear hK K
        refine wpAnyH_ready (rs := [2, 11]) (by kernel_rfl) (by simp) ?_
        refine AllReadyH.cons rfl (fun K hK => ?_) (AllReadyH.cons rfl (fun K hK => ?_) AllReadyH.nil)
        · rw [if_pos (by rfl)]
          refine wp_app_ints _ _ rfl Z _ [] rfl O5.out a1 ks c1 rfl (D4.out.keys.later B5.out) (by simp; omega) (by rw [HZ.out]; exact B5.out.size) ?_
          intro b6 c6 w6 o6 g6
          rw [List.nil_append] at o6 ⊢
          have B6 : Hid (Below w4.heap.size w4 w6) := B5.out.grown g6 B5.out.size (by rw [← HZ.out]; exact O5.out.lo)
          have O6 : Hid (OwnI w6 Z (.slice b6 ks.length c6) ks) := o6
          clear o6 g6
          refine hK.out _ _ (((bcell B6.out).1 _ _ r4.out.2).trans r4.out.1) (fun hS => ?_)
          clear hK K
          refine wpAnyH_ready (rs := [11]) (by kernel_rfl) (by simp) ?_
          refine AllReadyH.cons rfl (fun K hK => ?_) AllReadyH.nil
          go_simp
          have B7 : Hid (Below w4.heap.size w4 (w6.alloc (.cells #[.int .i64 n] 3))) := B6.out.trans ((Below.alloc_ _ _).mono B6.out.size)
          have O7 : Hid (OwnI (w6.alloc (.cells #[.int .i64 n] 3)) Z (.slice b6 ks.length c6) ks) := O6.out.later (Below.alloc_ _ _)
          have R7 : Hid (IRow (w6.alloc (.cells #[.int .i64 n] 3)) (some ⟨w6.heap.size, 0, none⟩) [n] ∧ w6.heap.size < ((w6.alloc (.cells #[.int .i64 n] 3))).heap.size) := ⟨irow_one w6 n, by simp⟩
          obtain ⟨p, hp⟩ : ∃ p, p = w6.heap.size := ⟨_, rfl⟩
          rw [← hp] at R7 ⊢
          clear hp
          generalize hW7 : (w6.alloc (.cells #[.int .i64 n] 3)) = w7 at B7 O7 R7 ⊢
          clear hW7
          refine hK.out _ _ (((bcell B7.out).1 _ _ r4.out.2).trans r4.out.1) (fun hS => ?_)
          clear hK K
          refine wpAnyH_ready (rs := [12]) (by kernel_rfl) (by simp) ?_
          refine AllReadyH.cons rfl (fun K hK => ?_) AllReadyH.nil
          rw [if_pos (by rfl)]
          refine wp_app_ints _ _ rfl Z _ ks rfl O7.out (some ⟨p, 0, none⟩) [n] 1 rfl R7.out.1 (by simp; omega) (by rw [HZ.out]; exact B7.out.size) ?_
          intro b8 c8 w8 o8 g8
          have B8 : Hid (Below w4.heap.size w4 w8) := B7.out.grown g8 B7.out.size (by rw [← HZ.out]; exact O7.out.lo)
          have O8 : Hid (OwnI w8 Z (.slice b8 (ks ++ [n]).length c8) (ks ++ [n])) := o8
          clear o8 g8
          refine hK.out _ _ (((bcell B8.out).1 _ _ r4.out.2).trans r4.out.1) (fun hS => ?_)
          clear hK K
          refine wpAnyH_ready (rs := [14]) (by kernel_rfl) (by simp) ?_
          refine AllReadyH.cons rfl (fun K hK => ?_) AllReadyH.nil
          go_simp
          have q10 := implKeys_any b8 a2 c8 c2 (ks ++ [n]) xs w8 (OwnI.rowAt O8.out) (D4.out.later B8.out).seals (by simp; omega) (by omega)
          rw [List.length_append, List.length_singleton] at q10
          refine q10.mono ?_
          rintro r w10 ⟨⟨v10, H2, rfl, hR2, o10⟩, b10⟩
          obtain rfl : H2 = H := hR2.one HR.out (fun z => Come.plus (HR.out.mem.1 (List.mem_of_getElem? hn)) z)
          obtain ⟨ab, cb, rfl, i10⟩ := o10.row
          have B10 : Hid (Below w4.heap.size w4 w10) := B8.out.trans (b10.mono B8.out.size)
          have I10 : Hid (IRow w10 ab (keysOf H2 61)) := i10
          clear q10 b10 o10 i10 hR2
          refine hK.out _ _ (((bcell B10.out).1 _ _ r4.out.2).trans r4.out.1) (fun hS => ?_)
          clear hK K
          refine take1 15 8 (.slice ab (keysOf H2 61).length cb) rfl rfl (by kernel_rfl) (by kernel_rfl) (by kernel_rfl) (by rfl) (fun _ _ _ h => h) hS (fun w' hS' => ?_) ?_
          · (go_simp) <;> (intro hx9; omega)
          simp only [Act.put, List.setIfInBounds_toArray, List.set_cons_zero, List.set_cons_succ]
          refine wpAnyH_done (by kernel_rfl) ?_ _
          clear hS
          go_wp2_with fail
          go_meet
          case rel => exact ⟨ab, cb, rfl, I10.out, B10.out⟩
        · go_simp
          have B6 : Hid (Below w4.heap.size w4 (w5.alloc (.cells #[.int .i64 n] 3))) := B5.out.trans ((Below.alloc_ _ _).mono B5.out.size)
          have O6 : Hid (OwnI (w5.alloc (.cells #[.int .i64 n] 3)) Z (.slice (some ⟨q, 0, none⟩) 0 0) []) := O5.out.later (Below.alloc_ _ _)
          have R6 : Hid (IRow (w5.alloc (.cells #[.int .i64 n] 3)) (some ⟨w5.heap.size, 0, none⟩) [n] ∧ w5.heap.size < ((w5.alloc (.cells #[.int .i64 n] 3))).heap.size) := ⟨irow_one w5 n, by simp⟩
          obtain ⟨p, hp⟩ : ∃ p, p = w5.heap.size := ⟨_, rfl⟩
          rw [← hp] at R6 ⊢
          have hpq : some p ≠ some q := fun e => by injection e with e; have := O5.out.blk; omega
          clear hp
          generalize hW6 : (w5.alloc (.cells #[.int .i64 n] 3)) = w6 at B6 O6 R6 ⊢
          clear hW6
          refine hK.out _ _ (((bcell B6.out).1 _ _ r4.out.2).trans r4.out.1) (fun hS => ?_)
          clear hK K
          refine wpAnyH_ready (rs := [2]) (by kernel_rfl) (by simp) ?_
          refine AllReadyH.cons rfl (fun K hK => ?_) AllReadyH.nil
          rw [if_pos (by rfl)]
          refine wp_app_ints _ _ rfl Z _ [] rfl O6.out a1 ks c1 rfl (D4.out.keys.later B6.out) (by simp; omega) (by rw [HZ.out]; exact B6.out.size) ?_
          intro b6 c6 w7 o6 g6
          rw [List.nil_append] at o6 ⊢
          have B7 : Hid (Below w4.heap.size w4 w7) := B6.out.grown g6 B6.out.size (by rw [← HZ.out]; exact O6.out.lo)
          have O7 : Hid (OwnI w7 Z (.slice b6 ks.length c6) ks) := o6
          have R7 : Hid (IRow w7 (some ⟨p, 0, none⟩) [n] ∧ p < w7.heap.size) := ⟨R6.out.1.grown g6 (fun b' o' e => by injection e with e; injection e with e1 e2; rw [← e1]; exact hpq), Nat.lt_of_lt_of_le R6.out.2 g6.size⟩
          clear o6 g6
          refine hK.out _ _ (((bcell B7.out).1 _ _ r4.out.2).trans r4.out.1) (fun hS => ?_)
          clear hK K
          refine wpAnyH_ready (rs := [12]) (by kernel_rfl) (by simp) ?_
          refine AllReadyH.cons rfl (fun K hK => ?_) AllReadyH.nil
          rw [if_pos (by rfl)]
          refine wp_app_ints _ _ rfl Z _ ks rfl O7.out (some ⟨p, 0, none⟩) [n] 1 rfl R7.out.1 (by simp; omega) (by rw [HZ.out]; exact B7.out.size) ?_
          intro b8 c8 w8 o8 g8
          have B8 : Hid (Below w4.heap.size w4 w8) := B7.out.grown g8 B7.out.size (by rw [← HZ.out]; exact O7.out.lo)
          have O8 : Hid (OwnI w8 Z (.slice b8 (ks ++ [n]).length c8) (ks ++ [n])) := o8
          clear o8 g8
          refine hK.out _ _ (((bcell B8.out).1 _ _ r4.out.2).trans r4.out.1) (fun hS => ?_)
          clear hK K
          refine wpAnyH_ready (rs := [14]) (by kernel_rfl) (by simp) ?_
          refine AllReadyH.cons rfl (fun K hK => ?_) AllReadyH.nil
          go_simp
          have q10 := implKeys_any b8 a2 c8 c2 (ks ++ [n]) xs w8 (OwnI.rowAt O8.out) (D4.out.later B8.out).seals (by simp; omega) (by omega)
          rw [List.length_append, List.length_singleton] at q10
          refine q10.mono ?_
          rintro r w10 ⟨⟨v10, H2, rfl, hR2, o10⟩, b10⟩
          obtain rfl : H2 = H := hR2.one HR.out (fun z => Come.plus (HR.out.mem.1 (List.mem_of_getElem? hn)) z)
          obtain ⟨ab, cb, rfl, i10⟩ := o10.row
          have B10 : Hid (Below w4.heap.size w4 w10) := B8.out.trans (b10.mono B8.out.size)
          have I10 : Hid (IRow w10 ab (keysOf H2 61)) := i10
          clear q10 b10 o10 i10 hR2
          refine hK.out _ _ (((bcell B10.out).1 _ _ r4.out.2).trans r4.out.1) (fun hS => ?_)
          clear hK K
          refine take1 15 8 (.slice ab (keysOf H2 61).length cb) rfl rfl (by kernel_rfl) (by kernel_rfl) (by kernel_rfl) (by rfl) (fun _ _ _ h => h) hS (fun w' hS' => ?_) ?_
          · (go_simp) <;> (intro hx9; omega)
          simp only [Act.put, List.setIfInBounds_toArray, List.set_cons_zero, List.set_cons_succ]
          refine wpAnyH_done (by kernel_rfl) ?_ _
          clear hS
          go_wp2_with fail
          go_meet
          case rel => exact ⟨ab, cb, rfl, I10.out, B10.out⟩
      · go_simp
        have B5 : Hid (Below w4.heap.size w4 (w4.alloc (.cells #[.int .i64 n] 3)).drew) := (Below.alloc_ _ _).drew
        have R5 : Hid (IRow (w4.alloc (.cells #[.int .i64 n] 3)).drew (some ⟨w4.heap.size, 0, none⟩) [n] ∧ w4.heap.size < ((w4.alloc (.cells #[.int .i64 n] 3)).drew).heap.size) := ⟨irow_one w4 n, by simp⟩
        obtain ⟨p, hp⟩ : ∃ p, p = w4.heap.size := ⟨_, rfl⟩
        rw [← hp] at R5 ⊢
        clear hp
        generalize hW5 : (w4.alloc (.cells #[.int .i64 n] 3)).drew = w5 at B5 R5 ⊢
        clear hW5
        refine hK.out _ _ (((bcell B5.out).1 _ _ r4.out.2).trans r4.out.1) (fun hS => ?_)
        clear hK K
        refine wpAnyH_ready (rs := [0]) (by kernel_rfl) (by simp) ?_
        refine AllReadyH.cons rfl (fun K hK => ?_) AllReadyH.nil
        go_simp
        have B6 : Hid (Below w4.heap.size w4 (w5.alloc (.cells #[] 3))) := B5.out.trans ((Below.alloc_ _ _).mono B5.out.size)
        have O6 : Hid (OwnI (w5.alloc (.cells #[] 3)) Z (.slice (some ⟨w5.heap.size, 0, none⟩) 0 0) []) := OwnI.zero w5 _ rfl (by rw [HZ.out]; exact B5.out.size)
        have R6 : Hid (IRow (w5.alloc (.cells #[] 3)) (some ⟨p, 0, none⟩) [n] ∧ p < ((w5.alloc (.cells #[] 3))).heap.size) := ⟨R5.out.1.later (Below.alloc_ _ _), Nat.lt_of_lt_of_le R5.out.2 (by simp)⟩
        obtain ⟨q, hq⟩ : ∃ q, q = w5.heap.size := ⟨_, rfl⟩
        rw [← hq] at O6 ⊢
        have hpq : some p ≠ some q := fun e => by injection e with e; have := R5.out.2; omega
        clear hq
        generalize hW6 : (w5.alloc (.cells #[] 3)) = w6 at B6 O6 R6 ⊢
        clear hW6
        refine hK.out _ _ (((bcell B6.out).1 _ _ r4.out.2).trans r4.out.1) (fun hS => ?_)
        clear hK K
        refine wpAnyH_ready (rs := [2]) (by kernel_rfl) (by simp) ?_
        refine AllReadyH.cons rfl (fun K hK => ?_) AllReadyH.nil
        rw [if_pos (by rfl)]
        refine wp_app_ints _ _ rfl Z _ [] rfl O6.out a1 ks c1 rfl (D4.out.keys.later B6.out) (by simp; omega) (by rw [HZ.out]; exact B6.out.size) ?_
        intro b6 c6 w7 o6 g6
        rw [List.nil_append] at o6 ⊢
        have B7 : Hid (Below w4.heap.size w4 w7) := B6.out.grown g6 B6.out.size (by rw [← HZ.out]; exact O6.out.lo)
        have O7 : Hid (OwnI w7 Z (.slice b6 ks.length c6) ks) := o6
        have R7 : Hid (IRow w7 (some ⟨p, 0, none⟩) [n] ∧ p < w7.heap.size) := ⟨R6.out.1.grown g6 (fun b' o' e => by injection e with e; injection e with e1 e2; rw [← e1]; exact hpq), Nat.lt_of_lt_of_le R6.out.2 g6.size⟩
        clear o6 g6
        refine hK.out _ _ (((bcell B7.out).1 _ _ r4.out.2).trans r4.out.1) (fun hS => ?_)
        clear hK K
        refine wpAnyH_ready (rs := [12]) (by kernel_rfl) (by simp) ?_
        refine AllReadyH.cons rfl (fun K hK => ?_) AllReadyH.nil
        rw [if_pos (by rfl)]
        refine wp_app_ints _ _ rfl Z _ ks rfl O7.out (some ⟨p, 0, none⟩) [n] 1 rfl R7.out.1 (by simp; omega) (by rw [HZ.out]; exact B7.out.size) ?_
        intro b8 c8 w8 o8 g8
        have B8 : Hid (Below w4.heap.size w4 w8) := B7.out.grown g8 B7.out.size (by rw [← HZ.out]; exact O7.out.lo)
        have O8 : Hid (OwnI w8 Z (.slice b8 (ks ++ [n]).length c8) (ks ++ [n])) := o8
        clear o8 g8
        refine hK.out _ _ (((bcell B8.out).1 _ _ r4.out.2).trans r4.out.1) (fun hS => ?_)
        clear hK K
        refine wpAnyH_ready (rs := [14]) (by kernel_rfl) (by simp) ?_
        refine AllReadyH.cons rfl (fun K hK => ?_) AllReadyH.nil
        go_simp
        have q10 := implKeys_any b8 a2 c8 c2 (ks ++ [n]) xs w8 (OwnI.rowAt O8.out) (D4.out.later B8.out).seals (by simp; omega) (by omega)
        rw [List.length_append, List.length_singleton] at q10
        refine q10.mono ?_
        rintro r w10 ⟨⟨v10, H2, rfl, hR2, o10⟩, b10⟩
        obtain rfl : H2 = H := hR2.one HR.out (fun z => Come.plus (HR.out.mem.1 (List.mem_of_getElem? hn)) z)
        obtain ⟨ab, cb, rfl, i10⟩ := o10.row
        have B10 : Hid (Below w4.heap.size w4 w10) := B8.out.trans (b10.mono B8.out.size)
        have I10 : Hid (IRow w10 ab (keysOf H2 61)) := i10
        clear q10 b10 o10 i10 hR2
        refine hK.out _ _ (((bcell B10.out).1 _ _ r4.out.2).trans r4.out.1) (fun hS => ?_)
        clear hK K
        refine take1 15 8 (.slice ab (keysOf H2 61).length cb) rfl rfl (by kernel_rfl) (by kernel_rfl) (by kernel_rfl) (by rfl) (fun _ _ _ h => h) hS (fun w' hS' => ?_) ?_
        · (go_simp) <;> (intro hx9; omega)
        simp only [Act.put, List.setIfInBounds_toArray, List.set_cons_zero, List.set_cons_succ]
        refine wpAnyH_done (by kernel_rfl) ?_ _
        clear hS
        go_wp2_with fail
        go_meet
        case rel => exact ⟨ab, cb, rfl, I10.out, B10.out⟩
    case rest =>
      obtain ⟨ab, cb, rfl, HH⟩ := hcut
      have D5 : Hid (Drawn w a1 ks a2 xs wc) := D4.out.later HH.out.2
      have I5 : Hid (IRow wc (some ⟨b, off, none⟩) (keysOf H 61)) := I4.out.later HH.out.2
      have J5 : Hid (IRow wc ab (keysOf H 61)) := HH.out.1
      clear D4 I4 HH r0 r4 hmi
      have P5 : Hid (OwnS (wc.alloc (.cells #[] 41)) wc.heap.size (.slice (some ⟨wc.heap.size, 0, none⟩) 0 0) []) := OwnS.zero _ (Nat.le_refl _)
      have C5 : Hid (Below wc.heap.size wc (wc.alloc (.cells #[] 41))) := Below.alloc_ _ _
      go_wp2_with (first
        | (at_builtin; refine wpList_app_seals _ rfl _ _ rfl wc.heap.size _ [] rfl P5.out a2 xs c2 rfl (D5.out.seals.later C5.out) (by simp; omega) (by simp) ?_; intro b6 c6 w6 o6 g6; have C6 : Hid (Below wc.heap.size wc w6) := C5.out.grown g6 (by simp) P5.out.lo; have O6 : Hid (OwnS w6 wc.heap.size (.slice b6 ([] ++ xs).length c6) ([] ++ xs)) := o6; clear o6 g6 P5 C5; simp only [List.nil_append] at O6)
        | (go_at_call 12; refine (implRead_any a1 a2 c1 c2 ks xs w6 (D5.out.keys.later C6.out) (D5.out.seals.later C6.out) (by omega) (by omega)).mono ?_; rintro r w7 ⟨⟨v7, H7, rfl, hR7, o7⟩, b7⟩; obtain rfl : H7 = H := hR7.one HR.out (fun _ => Iff.rfl); obtain ⟨a7, c7, rfl, r7⟩ := o7.row; have C7 : Hid (Below wc.heap.size wc w7) := C6.out.trans (b7.mono C6.out.size); have O7 : Hid (OwnS w7 wc.heap.size (.slice b6 xs.length c6) xs) := O6.out.later b7; have R7 : Hid (SRow w7 a7 (readOf H7 xs xs.length)) := r7; have hrl := readOf_len H7 xs xs.length; clear o7 r7 b7 hR7 C6 O6)
        | (at_builtin; refine wpList_app_seals _ rfl _ _ rfl wc.heap.size _ xs rfl O7.out a7 (readOf H7 xs xs.length) c7 rfl R7.out (by omega) C7.out.size ?_; intro b8 c8 w8 o8 g8; have C8 : Hid (Below wc.heap.size wc w8) := C7.out.grown g8 C7.out.size O7.out.lo; have O8 : Hid (OwnS w8 wc.heap.size (.slice b8 (xs ++ readOf H7 xs xs.length).length c8) (xs ++ readOf H7 xs xs.length)) := o8; clear o8 g8 O7 R7 C7)
        | (go_at_call 19; have q9 := implKeys_any a1 b8 c1 c8 ks (xs ++ readOf H7 xs xs.length) w8 (D5.out.keys.later C8.out) (OwnS.rowAt O8.out) (by omega) (by simp; omega); rw [List.length_append] at q9; refine q9.mono ?_; rintro r w9 ⟨⟨v9, H9, rfl, hR9, o9⟩, b9⟩; obtain rfl : H9 = H7 := hR9.one HR.out (fun z => Come.reads z); obtain ⟨a9, c9, rfl, i9⟩ := o9.row; have bb9 : Below wc.heap.size wc w9 := C8.out.trans (b9.mono C8.out.size); have D9 : Hid (Drawn w a1 ks a2 xs w9) := D5.out.later bb9; have I9 : Hid (IRow w9 (some ⟨b, off, none⟩) (keysOf H9 61)) := I5.out.later bb9; have J9 : Hid (IRow w9 ab (keysOf H9 61)) := J5.out.later bb9; have K9 : Hid (IRow w9 a9 (keysOf H9 61)) := i9; clear q9 o9 i9 b9 bb9 hR9 D5 I5 J5 C8 O8)
        | (go_at_call 20; refine (lbInts_same (some ⟨b, off, none⟩) ab ca cb (keysOf H9 61) w9 I9.out J9.out (by omega)).mono ?_; rintro r w10 ⟨rfl, b10⟩; have D10 : Hid (Drawn w a1 ks a2 xs w10) := D9.out.later b10; have I10 : Hid (IRow w10 (some ⟨b, off, none⟩) (keysOf H9 61)) := I9.out.later b10; have K10 : Hid (IRow w10 a9 (keysOf H9 61)) := K9.out.later b10; clear D9 I9 J9 K9 b10)
        | (go_at_call 20; refine (lbInts_same (some ⟨b, off, none⟩) a9 ca c9 (keysOf H9 61) w10 I10.out K10.out (by omega)).mono ?_; rintro r w11 ⟨rfl, b11⟩; have D11 : Hid (Drawn w a1 ks a2 xs w11) := D10.out.later b11; clear D10 I10 K10 b11)
        | go_in)
      go_ret
      exact ⟨rfl, D11.out.below⟩

end Go.Proofs.Ytadjphljohdieaa

