/-
  The ring filled, gone round once, and listed.
-/
import Derived.Test.YtghajmfjekfdpaaDoorKdcJ
namespace Go.Proofs.YtghajmfjekfdpaaDoor
open Go.RowKit
attribute [local go_sem ↓] Go.wp_at_zero Go.wp_at_succ

theorem zeroRing (w : World) : (zeroValue 125).run Tryd.prog w = .ok (.agg (Array.replicate 142 (.int .i64 0))) w := by kernel_rfl
theorem SealAt.same {w w' : World} {b o : Nat} {s : Sl} (d : SealAt w b o s) (e : w'.heap[b]? = w.heap[b]?) : SealAt w' b o s := by
  have hc : ∀ o, w'.cell? ⟨b, o, none⟩ = w.cell? ⟨b, o, none⟩ := fun o => World.cell?_of_block (a := ⟨b, o, none⟩) e
  exact ⟨(hc _).trans d.c0, (hc _).trans d.c1, (hc _).trans d.c2, (hc _).trans d.c3, (hc _).trans d.c4, (hc _).trans d.c5, (hc _).trans d.c6⟩
/-- One more is remembered. -/
def remB (now : Int) (xs : List Sl) (s : Sl) : Bool := freshB s.b now && !inS s xs && !(xs.length == 20)
/-- What is remembered then. -/
def remL (now : Int) (xs : List Sl) (s : Sl) : List Sl := if remB now xs s then xs ++ [s] else xs
theorem grown_below {W w w' : World} {R : Nat} (h : Below W.heap.size W w) (g : w.grownBy w' (some R)) (hR : W.heap.size ≤ R) : Below W.heap.size W w' :=
  h.grown g h.size (fun k hk => by simp at hk; omega)
theorem below_grown {w w' : World} (hb : Below w.heap.size w w') (row : Option Nat) : w.grownBy w' row := ⟨hb.os, hb.tape, hb.output, hb.size, fun k hk _ => hb.block k hk⟩

set_option maxHeartbeats 4000000 in
set_option maxRecDepth 100000 in
theorem ringOf_any (a : Option Addr) (cap : Nat) (xs : List Sl) (w : World) (h : SRow w a xs) (hx : xs.length ≤ 20) :
    Calls Tryd.prog 67 #[.slice a xs.length cap] w fun r w' => r = .returned (.pointer (some ⟨w.heap.size, 0, none⟩)) ∧ Ring w' w.heap.size 0 xs ∧ Below w.heap.size w w' := by
  go_enter Tryd.func67, Tryd.ntmps67
  go_wp2_with fail
  try (rw [zeroRing]; go_wp2_with fail)
  go_loopw [10] (fun i wr => ∃ (j : Nat), j ≤ xs.length ∧ i = .int .i64 j ∧ Hid (Ring wr w.heap.size 0 (xs.take j) ∧ Below w.heap.size w wr)) (fun i _ => xs.length - (intOf i).toNat)
  case atStart =>
    refine ⟨0, Nat.zero_le _, rfl, ⟨⟨_, heap_alloc_new _ _, by first | rfl | simp⟩, by omega, by simp, by rw [cell_of_row _ _ _ _ _ _ (heap_alloc_new _ _)]; rfl, by rw [cell_of_row _ _ _ _ _ _ (heap_alloc_new _ _)]; rfl, fun i s hs => by simp at hs⟩, Below.alloc_ _ _⟩
  case round =>
    obtain ⟨j, hj, rfl, C⟩ := hrel
    by_cases hlt : j < xs.length
    · obtain ⟨s, hs⟩ : ∃ s, xs[j]? = some s := ⟨xs[j], List.getElem?_eq_getElem hlt⟩
      rcases h.later C.out.2 with hz | ⟨b, off, rfl, hlb, hat⟩
      · simp [hz] at hlt
      obtain ⟨c0, c1, c2, c3, c4, c5, c6⟩ := hat j s hs
      have HS : Hid (xs[j]? = some s) := hs
      clear hat hs h
      go_wp2_with fail
      obtain ⟨F1, F2, F3⟩ := freshS wr s
      refine (push_any w.heap.size 0 (xs.take j) s _ (C.out.1.later F1) (by simp; omega)).mono ?_
      rintro r w2 ⟨rfl, r2, g2⟩
      have C2 : Hid (Ring w2 w.heap.size 0 (xs.take (j + 1)) ∧ Below w.heap.size w w2) := by
        refine ⟨?_, grown_below (C.out.2.trans (F1.mono C.out.2.size)) g2 (Nat.le_refl _)⟩
        rw [List.take_add_one, HS.out]
        exact r2
      clear C F1 F2 F3 r2 g2 c0 c1 c2 c3 c4 c5 c6
      go_wp2_with fail
      go_roundw
      case rel => exact ⟨j + 1, by omega, by go_num, C2⟩
      case measure => simp [intOf]; omega
    · obtain rfl : j = xs.length := by omega
      go_wp2_with fail
      go_ret
      refine ⟨rfl, ?_, C.out.2⟩
      have := C.out.1
      rwa [List.take_length] at this

set_option maxHeartbeats 4000000 in
set_option maxRecDepth 100000 in
theorem forget_any (R f : Nat) (now : Int) (xs : List Sl) (w : World) (h : Ring w R f xs) (hn : 0 ≤ now ∧ now ≤ 100) (ha : ∀ s ∈ xs, 0 ≤ s.b ∧ s.b ≤ 100) :
    Calls Tryd.prog 68 #[.pointer (some ⟨R, 0, none⟩), .int .i64 now] w fun r w' => r = .returned (.tuple #[]) ∧ (∃ f', Ring w' R f' (keep now xs)) ∧ w.grownBy w' (some R) := by
  go_enter Tryd.func68, Tryd.ntmps68
  have e1 := h.count
  have hxl := h.len
  have T0 : Hid (Ring w R f xs) := h
  clear h
  go_wp2_with fail
  go_loopw [9] (fun i wr => ∃ (j f' : Nat), j ≤ xs.length ∧ i = .int .i64 j ∧ Hid (Ring wr R f' (xs.drop j ++ keep now (xs.take j)) ∧ w.grownBy wr (some R))) (fun i _ => xs.length - (intOf i).toNat)
  case atStart => exact ⟨0, f, Nat.zero_le _, rfl, by simpa [keep] using T0.out, below_grown (Below.refl _ _) _⟩
  case round =>
    obtain ⟨j, f', hj, rfl, C⟩ := hrel
    clear T0 e1
    by_cases hlt : j < xs.length
    · obtain ⟨s, hs⟩ : ∃ s, xs[j]? = some s := ⟨xs[j], List.getElem?_eq_getElem hlt⟩
      have hd : xs.drop j = s :: xs.drop (j + 1) := by
        obtain ⟨h1, h2⟩ := List.getElem?_eq_some_iff.1 hs
        rw [List.drop_eq_getElem_cons h1, h2]
      have hk := keep_take (now := now) hs
      have hb := ha s (List.mem_of_getElem? hs)
      have C2 : Hid (Ring wr R f' (s :: (xs.drop (j + 1) ++ keep now (xs.take j))) ∧ w.grownBy wr (some R)) := by
        have := C.out
        rwa [hd] at this
      have HK : Hid (keep now (xs.take (j + 1)) = keep now (xs.take j) ++ (if freshB s.b now then [s] else [])) := hk
      clear hd hk C ha hs
      go_wp2_with fail
      refine (pop_any R f' _ s wr C2.out.1).mono ?_
      rintro r w2 ⟨rfl, r2, g2⟩
      have C3 : Hid (Ring w2 R ((f' + 1) % 20) (xs.drop (j + 1) ++ keep now (xs.take j)) ∧ w.grownBy w2 (some R)) := ⟨r2, C2.out.2.trans g2⟩
      clear C2 r2 g2
      go_wp2_with fail
      obtain ⟨F1, F2, F3⟩ := freshS w2 s
      have hpos : w2.heap.size < (w2.alloc (.cells #[.int .i64 s.k, .int .i64 s.t, .int .i64 s.a, .int .i64 s.b, .int .i64 s.c, .int .i64 s.d, .int .i64 s.e] 64)).heap.size := F3
      refine (isFresh_any s now _ ⟨hb.1, by omega⟩ hn).mono ?_
      rintro r w4 ⟨rfl, b4⟩
      have b24 := F1.trans (b4.mono F1.size)
      have C4 : Hid (Ring w4 R ((f' + 1) % 20) (xs.drop (j + 1) ++ keep now (xs.take j)) ∧ w.grownBy w4 (some R)) := ⟨C3.out.1.later b24, C3.out.2.trans (below_grown b24 _)⟩
      obtain ⟨c0, c1, c2, c3, c4, c5, c6⟩ := F2.later b4 F3
      simp only [Nat.zero_add] at c1 c2 c3 c4 c5 c6
      clear C3 F1 F2 F3 b4 b24 hpos
      cases hfr : freshB s.b now
      · go_wp2_with fail
        go_roundw
        case rel =>
          refine ⟨j + 1, (f' + 1) % 20, by omega, by go_num, ?_⟩
          have := HK.out
          rw [hfr] at this
          rw [this]
          simpa using C4
        case measure => simp [intOf]; omega
      · have hlen : (xs.drop (j + 1) ++ keep now (xs.take j)).length < 20 := by
          have h1 := keep_len now (xs.take j)
          rw [List.length_take] at h1
          rw [List.length_append, List.length_drop]
          omega
        go_wp2_with fail
        refine (push_any R _ _ s _ C4.out.1 hlen).mono ?_
        rintro r w5 ⟨rfl, r5, g5⟩
        have C5 : Hid (Ring w5 R ((f' + 1) % 20) (xs.drop (j + 1) ++ keep now (xs.take (j + 1))) ∧ w.grownBy w5 (some R)) := by
          refine ⟨?_, C4.out.2.trans g5⟩
          have := HK.out
          rw [hfr] at this
          rw [this]
          simpa using r5
        clear C4 r5 g5 c0 c1 c2 c3 c4 c5 c6
        go_wp2_with fail
        go_roundw
        case rel => exact ⟨j + 1, _, by omega, by go_num, C5⟩
        case measure => simp [intOf]; omega
    · obtain rfl : j = xs.length := by omega
      go_wp2_with fail
      refine bodyPost_end (v := .tuple #[]) (by simp [results, Tryd.results68, go_sem]) rfl ⟨rfl, ⟨f', ?_⟩, C.out.2⟩
      have := C.out.1
      rw [List.take_length, List.drop_length, List.nil_append] at this
      exact this

set_option maxHeartbeats 4000000 in
set_option maxRecDepth 100000 in
theorem list_any (R f : Nat) (xs : List Sl) (w : World) (h : Ring w R f xs) :
    Calls Tryd.prog 70 #[.pointer (some ⟨R, 0, none⟩)] w fun r w' => (∃ v, r = .returned v ∧ OwnS w' w.heap.size v xs) ∧ Below w.heap.size w w' := by
  obtain ⟨i0, hi, hz0, hz1, hz2⟩ := info_parts infoSealM
  go_enter Tryd.func70, Tryd.ntmps70
  have e1 := h.count
  have hxl := h.len
  have T0 : Hid (Ring w R f xs) := h
  have hRw := h.lt
  clear h
  go_wp2_with fail
  rw [run_makeSlice w 29 64 i0 _ Tryd.underlying29 hi hz0 .i64 .i64 0 xs.length (by omega) (by omega) (by rw [hz1]; omega) (by rw [hz2]; omega) (by omega)]
  rw [hz1]
  simp only [Int.toNat_natCast, Int.toNat_zero]
  obtain ⟨W1, hW1⟩ : ∃ W1, W1 = w.alloc (.cells (madeCells (Value.agg #[.int .i64 0, .int .i64 0, .int .i64 0, .int .i64 0, .int .i64 0, .int .i64 0, .int .i64 0]).cells (xs.length * 7)) 64) := ⟨_, rfl⟩
  rw [← hW1]
  have T1 : Hid (Ring W1 R f xs ∧ Below w.heap.size w W1 ∧ OwnS W1 w.heap.size (.slice (some ⟨w.heap.size, 0, none⟩) 0 xs.length) []) := by
    subst hW1
    refine ⟨T0.out.later (Below.alloc_ _ _), Below.alloc_ _ _, rfl, Or.inr ⟨w.heap.size, xs.length, _, rfl, Nat.le_refl _, heap_alloc_new _ _, Nat.zero_le _, by unfold maxLen; omega, by simp [madeCells], rfl⟩⟩
  have e1' : W1.cell? ⟨R, 141, none⟩ = some (.int .i64 xs.length) := T1.out.1.count
  clear hW1 T0 e1
  go_wp2_with fail
  go_loopw [3, 14] (fun v i wr => ∃ (j : Nat), j ≤ xs.length ∧ i = .int .i64 j ∧ Hid (Ring wr R f xs ∧ Below w.heap.size w wr ∧ OwnS wr w.heap.size v (xs.take j))) (fun _ i _ => xs.length - (intOf i).toNat)
  case atStart => exact ⟨0, Nat.zero_le _, rfl, T1⟩
  case round =>
    obtain ⟨j, hj, rfl, C⟩ := hrel
    clear T1 e1'
    by_cases hlt : j < xs.length
    · obtain ⟨s, hs⟩ : ∃ s, xs[j]? = some s := ⟨xs[j], List.getElem?_eq_getElem hlt⟩
      obtain ⟨J, hJ⟩ : ∃ J, J = (f + j) % 20 := ⟨_, rfl⟩
      have hJ20 : J < 20 := by omega
      have HJ : Hid (J = (f + j) % 20) := hJ
      have hf := C.out.1.hf
      have HLT := C.out.1.lt
      have HAT : Hid (SealAt wr R (J * 7) s) := by have := C.out.1.seals j s hs; rwa [← hJ] at this
      have HS : Hid (xs[j]? = some s) := hs
      clear hJ hs
      have HR := C
      clear C
      go_wp2_with fail
      refine wp_region_held_drew (S := fun w' => wr.grownBy w' u3.ownBlock) (by kernel_rfl) (below_grown (Below.refl _ _).drew _) (fun hS => ?_)
      have hD : Below wr.heap.size wr wr.drew := (Below.refl _ _).drew
      have hne : some R ≠ u3.ownBlock := fun e => by have := OwnS.lo HR.out.2.2 R e.symm; omega
      generalize wr.drew = W4 at hS hD ⊢
      refine take1 0 17 (u3) rfl rfl (by kernel_rfl) (by kernel_rfl) (by kernel_rfl) (by rfl) (fun _ _ _ h => h) hS (fun w' hS' => ?_) ?_
      · (go_simp) <;> (intro hx9; omega)
      simp only [Act.put, List.setIfInBounds_toArray, List.set_cons_zero, List.set_cons_succ]
      refine take1 1 18 (Value.pointer (some ⟨R, 0, none⟩)) rfl rfl (by kernel_rfl) (by kernel_rfl) (by kernel_rfl) (by rfl) (fun _ _ _ h => h) hS (fun w' hS' => ?_) ?_
      · (go_simp) <;> (intro hx9; omega)
      simp only [Act.put, List.setIfInBounds_toArray, List.set_cons_zero, List.set_cons_succ]
      refine take1 2 19 (Value.pointer (some ⟨R, 0, none⟩)) rfl rfl (by kernel_rfl) (by kernel_rfl) (by kernel_rfl) (by rfl) (fun _ _ _ h => h) hS (fun w' hS' => ?_) ?_
      · (go_simp) <;> (intro hx9; omega)
      simp only [Act.put, List.setIfInBounds_toArray, List.set_cons_zero, List.set_cons_succ]
      refine take1 3 20 (Value.pointer (some ⟨R, 0, none⟩)) rfl rfl (by kernel_rfl) (by kernel_rfl) (by kernel_rfl) (by rfl) (fun _ _ _ h => h) hS (fun w' hS' => ?_) ?_
      · (go_simp) <;> (intro hx9; omega)
      simp only [Act.put, List.setIfInBounds_toArray, List.set_cons_zero, List.set_cons_succ]
      refine take1 4 21 (Value.pointer (some ⟨R, 140, none⟩)) rfl rfl (by kernel_rfl) (by kernel_rfl) (by kernel_rfl) (by rfl) (fun _ _ _ h => h) hS (fun w' hS' => ?_) ?_
      · (go_simp) <;> (intro hx9; omega)
      simp only [Act.put, List.setIfInBounds_toArray, List.set_cons_zero, List.set_cons_succ]
      refine take1 5 22 (.int .i64 (f : Int)) rfl rfl (by kernel_rfl) (by kernel_rfl) (by kernel_rfl) (by rfl) (fun _ _ _ h => h) hS (fun w' hS' => ?_) ?_
      · have e0 := (HR.out.1.same (hS'.block R HLT hne)).first
        (go_simp) <;> (intro hx9; omega)
      simp only [Act.put, List.setIfInBounds_toArray, List.set_cons_zero, List.set_cons_succ]
      refine take1 6 23 (.int .i64 (j : Int)) rfl rfl (by kernel_rfl) (by kernel_rfl) (by kernel_rfl) (by rfl) (fun _ _ _ h => h) hS (fun w' hS' => ?_) ?_
      · (go_simp) <;> (intro hx9; omega)
      simp only [Act.put, List.setIfInBounds_toArray, List.set_cons_zero, List.set_cons_succ]
      refine take1 7 24 (.int .i64 ((f : Int) + j)) rfl rfl (by kernel_rfl) (by kernel_rfl) (by kernel_rfl) (by rfl) (fun _ _ _ h => h) hS (fun w' hS' => ?_) ?_
      · have hw9 : IntKind.i64.wrap ((f : Int) + (j : Int)) = (f : Int) + j := wrapM (by omega) (by omega)
        (go_simp) <;> (intro hx9; omega)
      simp only [Act.put, List.setIfInBounds_toArray, List.set_cons_zero, List.set_cons_succ]
      refine take1 8 25 (.int .i64 (J : Int)) rfl rfl (by kernel_rfl) (by kernel_rfl) (by kernel_rfl) (by rfl) (fun _ _ _ h => h) hS (fun w' hS' => ?_) ?_
      · have hw9 : ((f : Int) + j).tmod 20 = (J : Int) := by rw [HJ.out, Int.tmod_eq_emod_of_nonneg (by omega)]; omega
        (go_simp) <;> (intro hx9; omega)
      simp only [Act.put, List.setIfInBounds_toArray, List.set_cons_zero, List.set_cons_succ]
      refine take1 9 26 (Value.pointer (some ⟨R, 0, none⟩)) rfl rfl (by kernel_rfl) (by kernel_rfl) (by kernel_rfl) (by rfl) (fun _ _ _ h => h) hS (fun w' hS' => ?_) ?_
      · (go_simp) <;> (intro hx9; omega)
      simp only [Act.put, List.setIfInBounds_toArray, List.set_cons_zero, List.set_cons_succ]
      refine take1 10 27 (Value.pointer (some ⟨R, 0, none⟩)) rfl rfl (by kernel_rfl) (by kernel_rfl) (by kernel_rfl) (by rfl) (fun _ _ _ h => h) hS (fun w' hS' => ?_) ?_
      · (go_simp) <;> (intro hx9; omega)
      simp only [Act.put, List.setIfInBounds_toArray, List.set_cons_zero, List.set_cons_succ]
      refine take1 11 28 (Value.pointer (some ⟨R, J * 7, none⟩)) rfl rfl (by kernel_rfl) (by kernel_rfl) (by kernel_rfl) (by rfl) (fun _ _ _ h => h) hS (fun w' hS' => ?_) ?_
      · (go_simp) <;> (intro hx9; omega)
      simp only [Act.put, List.setIfInBounds_toArray, List.set_cons_zero, List.set_cons_succ]
      refine take1 12 29 (Value.agg #[.int .i64 s.k, .int .i64 s.t, .int .i64 s.a, .int .i64 s.b, .int .i64 s.c, .int .i64 s.d, .int .i64 s.e]) rfl rfl (by kernel_rfl) (by kernel_rfl) (by kernel_rfl) (by rfl) (fun _ _ _ h => h) hS (fun w' hS' => ?_) ?_
      · obtain ⟨c0, c1, c2, c3, c4, c5, c6⟩ := HAT.out.same (hS'.block R HLT hne)
        (go_simp) <;> (intro hx9; omega)
      simp only [Act.put, List.setIfInBounds_toArray, List.set_cons_zero, List.set_cons_succ]
      refine wpAnyH_ready (rs := [13]) (by kernel_rfl) (by simp) ?_
      refine AllReadyH.cons rfl (fun K hK => ?_) AllReadyH.nil
      go_simp
      obtain ⟨F1, F2, F3⟩ := freshS W4 s
      have S5 : wr.grownBy (W4.alloc (.cells #[.int .i64 s.k, .int .i64 s.t, .int .i64 s.a, .int .i64 s.b, .int .i64 s.c, .int .i64 s.d, .int .i64 s.e] 64)) u3.ownBlock := hS.trans (World.grownBy_alloc _ _ _)
      have O5 : Hid (OwnS (W4.alloc (.cells #[.int .i64 s.k, .int .i64 s.t, .int .i64 s.a, .int .i64 s.b, .int .i64 s.c, .int .i64 s.d, .int .i64 s.e] 64)) w.heap.size u3 (xs.take j)) := OwnS.later (OwnS.later HR.out.2.2 hD) F1
      have A5 : Hid (SRow (W4.alloc (.cells #[.int .i64 s.k, .int .i64 s.t, .int .i64 s.a, .int .i64 s.b, .int .i64 s.c, .int .i64 s.d, .int .i64 s.e] 64)) (some ⟨W4.heap.size, 0, none⟩) [s]) := Or.inr ⟨_, _, rfl, F3, fun i u hu => by
        match i, hu with
        | 0, hu => simp at hu; subst hu; exact F2⟩
      generalize (W4.alloc (.cells #[.int .i64 s.k, .int .i64 s.t, .int .i64 s.a, .int .i64 s.b, .int .i64 s.c, .int .i64 s.d, .int .i64 s.e] 64)) = W5 at S5 O5 A5 ⊢
      clear F1 F2 F3
      refine hK.out _ _ S5 (fun hS => ?_)
      clear hK K S5
      refine wpAnyH_ready (rs := [14]) (by kernel_rfl) (by simp) ?_
      refine AllReadyH.cons rfl (fun K hK => ?_) AllReadyH.nil
      rw [if_pos (by rfl)]
      refine wp_app_seals _ _ rfl w.heap.size _ (xs.take j) rfl O5.out (some ⟨W4.heap.size, 0, none⟩) [s] 1 rfl A5.out (by simp; omega) (Nat.le_trans HR.out.2.1.size hS.size) ?_
      intro b8 c8 w8 o8 g8
      have hzz : (xs.take j ++ [s]).length = j + 1 := by simp; omega
      rw [hzz] at o8 ⊢
      have g8' : W5.grownBy w8 u3.ownBlock := g8
      have S8 : wr.grownBy w8 u3.ownBlock := hS.trans g8'
      have C8 : Hid (Ring w8 R f xs ∧ Below w.heap.size w w8 ∧ OwnS w8 w.heap.size (.slice b8 (j + 1) c8) (xs.take (j + 1))) := by
        refine ⟨HR.out.1.same (S8.block R HLT hne), HR.out.2.1.grown S8 HR.out.2.1.size (fun k hk => OwnS.lo HR.out.2.2 k hk), ?_⟩
        rw [List.take_add_one, HS.out]
        exact o8
      clear hzz g8 g8' o8 O5 A5
      refine hK.out _ _ S8 (fun hS => ?_)
      clear hK K S8
      refine take1 15 3 (.slice b8 (j + 1) c8) rfl rfl (by kernel_rfl) (by kernel_rfl) (by kernel_rfl) (by rfl) (fun _ _ _ h => h) hS (fun w' hS' => ?_) ?_
      · (go_simp) <;> (intro hx9; omega)
      simp only [Act.put, List.setIfInBounds_toArray]
      refine wpAnyH_done (by kernel_rfl) ?_ _
      clear hS hD HAT HJ HR HS
      go_wp2_with fail
      go_roundw
      case rel => exact ⟨j + 1, by omega, by go_num, C8⟩
      case measure => simp [intOf]; omega
    · obtain rfl : j = xs.length := by omega
      go_wp2_with fail
      go_ret
      refine ⟨⟨_, rfl, ?_⟩, C.out.2.1⟩
      have := C.out.2.2
      rwa [List.take_length] at this

set_option maxHeartbeats 4000000 in
set_option maxRecDepth 100000 in
theorem remember_any (R f : Nat) (now : Int) (xs : List Sl) (s : Sl) (w : World) (h : Ring w R f xs) (hn : 0 ≤ now ∧ now ≤ 100) (hb : 0 ≤ s.b ∧ s.b ≤ 100) :
    Calls Tryd.prog 69 #[.pointer (some ⟨R, 0, none⟩), .agg #[.int .i64 s.k, .int .i64 s.t, .int .i64 s.a, .int .i64 s.b, .int .i64 s.c, .int .i64 s.d, .int .i64 s.e], .int .i64 now] w fun r w' => r = .returned (.bool (remB now xs s)) ∧ Ring w' R f (remL now xs s) ∧ w.grownBy w' (some R) := by
  go_enter Tryd.func69, Tryd.ntmps69
  have HR : Hid (Ring w R f xs) := h
  clear h
  go_wp2_with fail
  obtain ⟨F1, F2, F3⟩ := freshS w s
  have hxl := HR.out.len
  generalize (w.alloc (.cells #[.int .i64 s.k, .int .i64 s.t, .int .i64 s.a, .int .i64 s.b, .int .i64 s.c, .int .i64 s.d, .int .i64 s.e] 64)) = W3 at F1 F2 F3 ⊢
  have HLT := F3
  have HAT : Hid (SealAt W3 w.heap.size 0 s) := F2
  have HG : Hid (w.grownBy W3 (some R)) := below_grown F1 _
  replace HR : Hid (Ring W3 R f xs) := HR.out.later F1
  clear F1 F2 F3
  refine wp_region_held_drew (S := fun w' => Below W3.heap.size W3 w') (by kernel_rfl) (Below.refl _ _).drew (fun hS => ?_)
  generalize W3.drew = W4 at hS ⊢
  cases hfr : freshB s.b now
  ·
    refine take1 0 7 (Value.agg #[.int .i64 s.k, .int .i64 s.t, .int .i64 s.a, .int .i64 s.b, .int .i64 s.c, .int .i64 s.d, .int .i64 s.e]) rfl rfl (by kernel_rfl) (by kernel_rfl) (by kernel_rfl) (by rfl) (fun _ _ _ h => h) hS (fun w' hS' => ?_) ?_
    · obtain ⟨c0, c1, c2, c3, c4, c5, c6⟩ := HAT.out.later hS' HLT
      simp only [Nat.zero_add] at c1 c2 c3 c4 c5 c6
      (go_simp) <;> (intro hx9; omega)
    simp only [Act.put, List.setIfInBounds_toArray, List.set_cons_zero, List.set_cons_succ]
    refine take1 1 8 (.int .i64 now) rfl rfl (by kernel_rfl) (by kernel_rfl) (by kernel_rfl) (by rfl) (fun _ _ _ h => h) hS (fun w' hS' => ?_) ?_
    · (go_simp) <;> (intro hx9; omega)
    simp only [Act.put, List.setIfInBounds_toArray, List.set_cons_zero, List.set_cons_succ]
    refine wpAnyH_ready (rs := [2]) (by kernel_rfl) (by simp) ?_
    refine AllReadyH.cons rfl (fun K hK => ?_) AllReadyH.nil
    go_simp
    refine (isFresh_any s now _ ⟨hb.1, by omega⟩ hn).mono ?_
    rintro r w5 ⟨rfl, b5⟩
    rw [hfr]
    have S5 : Below W3.heap.size W3 w5 := hS.trans (b5.mono hS.size)
    refine hK.out _ _ S5 (fun hS => ?_)
    clear hK K b5 S5
    refine take1 3 10 (.bool true) rfl rfl (by kernel_rfl) (by kernel_rfl) (by kernel_rfl) (by rfl) (fun _ _ _ h => h) hS (fun w' hS' => ?_) ?_
    · (go_simp) <;> (intro hx9; omega)
    simp only [Act.put, List.setIfInBounds_toArray, List.set_cons_zero, List.set_cons_succ]
    refine take1 4 11 (.bool true) rfl rfl (by kernel_rfl) (by kernel_rfl) (by kernel_rfl) (by rfl) (fun _ _ _ h => h) hS (fun w' hS' => ?_) ?_
    · (go_simp) <;> (intro hx9; omega)
    simp only [Act.put, List.setIfInBounds_toArray, List.set_cons_zero, List.set_cons_succ]
    refine skip1 5 12 rfl rfl (by kernel_rfl) (by kernel_rfl) (by kernel_rfl) (by rfl) (fun _ _ _ h => h) hS ?_
    simp only [Act.put, List.setIfInBounds_toArray, List.set_cons_zero, List.set_cons_succ]
    refine skip1 6 13 rfl rfl (by kernel_rfl) (by kernel_rfl) (by kernel_rfl) (by rfl) (fun _ _ _ h => h) hS ?_
    simp only [Act.put, List.setIfInBounds_toArray, List.set_cons_zero, List.set_cons_succ]
    refine skip1 7 14 rfl rfl (by kernel_rfl) (by kernel_rfl) (by kernel_rfl) (by rfl) (fun _ _ _ h => h) hS ?_
    simp only [Act.put, List.setIfInBounds_toArray, List.set_cons_zero, List.set_cons_succ]
    refine skip1 8 15 rfl rfl (by kernel_rfl) (by kernel_rfl) (by kernel_rfl) (by rfl) (fun _ _ _ h => h) hS ?_
    simp only [Act.put, List.setIfInBounds_toArray, List.set_cons_zero, List.set_cons_succ]
    refine take1 9 16 (.bool true) rfl rfl (by kernel_rfl) (by kernel_rfl) (by kernel_rfl) (by rfl) (fun _ _ _ h => h) hS (fun w' hS' => ?_) ?_
    · (go_simp) <;> (intro hx9; omega)
    simp only [Act.put, List.setIfInBounds_toArray, List.set_cons_zero, List.set_cons_succ]
    refine take1 10 17 (.bool true) rfl rfl (by kernel_rfl) (by kernel_rfl) (by kernel_rfl) (by rfl) (fun _ _ _ h => h) hS (fun w' hS' => ?_) ?_
    · (go_simp) <;> (intro hx9; omega)
    simp only [Act.put, List.setIfInBounds_toArray, List.set_cons_zero, List.set_cons_succ]
    refine skip1 11 18 rfl rfl (by kernel_rfl) (by kernel_rfl) (by kernel_rfl) (by rfl) (fun _ _ _ h => h) hS ?_
    simp only [Act.put, List.setIfInBounds_toArray, List.set_cons_zero, List.set_cons_succ]
    refine skip1 12 19 rfl rfl (by kernel_rfl) (by kernel_rfl) (by kernel_rfl) (by rfl) (fun _ _ _ h => h) hS ?_
    simp only [Act.put, List.setIfInBounds_toArray, List.set_cons_zero, List.set_cons_succ]
    refine skip1 13 20 rfl rfl (by kernel_rfl) (by kernel_rfl) (by kernel_rfl) (by rfl) (fun _ _ _ h => h) hS ?_
    simp only [Act.put, List.setIfInBounds_toArray, List.set_cons_zero, List.set_cons_succ]
    refine skip1 14 21 rfl rfl (by kernel_rfl) (by kernel_rfl) (by kernel_rfl) (by rfl) (fun _ _ _ h => h) hS ?_
    simp only [Act.put, List.setIfInBounds_toArray, List.set_cons_zero, List.set_cons_succ]
    refine skip1 15 22 rfl rfl (by kernel_rfl) (by kernel_rfl) (by kernel_rfl) (by rfl) (fun _ _ _ h => h) hS ?_
    simp only [Act.put, List.setIfInBounds_toArray, List.set_cons_zero, List.set_cons_succ]
    refine take1 16 23 (.bool true) rfl rfl (by kernel_rfl) (by kernel_rfl) (by kernel_rfl) (by rfl) (fun _ _ _ h => h) hS (fun w' hS' => ?_) ?_
    · (go_simp) <;> (intro hx9; omega)
    simp only [Act.put, List.setIfInBounds_toArray, List.set_cons_zero, List.set_cons_succ]
    refine wpAnyH_done (by kernel_rfl) ?_ _
    have HE : Hid (Ring w5 R f xs ∧ w.grownBy w5 (some R)) := ⟨HR.out.later hS, HG.out.trans (below_grown hS _)⟩
    clear hS HR HG HAT
    go_wp2_with fail
    go_ret
    refine ⟨ret_bool (by simp [remB, hfr]), ?_, HE.out.2⟩
    rw [show remL now xs s = xs by simp [remL, remB, hfr]]
    exact HE.out.1
  · cases hin : inS s xs
    · by_cases hfull : xs.length = 20
      · have HF : Hid (xs.length = 20) := hfull
        clear hfull
        refine take1 0 7 (Value.agg #[.int .i64 s.k, .int .i64 s.t, .int .i64 s.a, .int .i64 s.b, .int .i64 s.c, .int .i64 s.d, .int .i64 s.e]) rfl rfl (by kernel_rfl) (by kernel_rfl) (by kernel_rfl) (by rfl) (fun _ _ _ h => h) hS (fun w' hS' => ?_) ?_
        · obtain ⟨c0, c1, c2, c3, c4, c5, c6⟩ := HAT.out.later hS' HLT
          simp only [Nat.zero_add] at c1 c2 c3 c4 c5 c6
          (go_simp) <;> (intro hx9; omega)
        simp only [Act.put, List.setIfInBounds_toArray, List.set_cons_zero, List.set_cons_succ]
        refine take1 1 8 (.int .i64 now) rfl rfl (by kernel_rfl) (by kernel_rfl) (by kernel_rfl) (by rfl) (fun _ _ _ h => h) hS (fun w' hS' => ?_) ?_
        · (go_simp) <;> (intro hx9; omega)
        simp only [Act.put, List.setIfInBounds_toArray, List.set_cons_zero, List.set_cons_succ]
        refine wpAnyH_ready (rs := [2]) (by kernel_rfl) (by simp) ?_
        refine AllReadyH.cons rfl (fun K hK => ?_) AllReadyH.nil
        go_simp
        refine (isFresh_any s now _ ⟨hb.1, by omega⟩ hn).mono ?_
        rintro r w5 ⟨rfl, b5⟩
        rw [hfr]
        have S5 : Below W3.heap.size W3 w5 := hS.trans (b5.mono hS.size)
        refine hK.out _ _ S5 (fun hS => ?_)
        clear hK K b5 S5
        refine take1 3 10 (.bool false) rfl rfl (by kernel_rfl) (by kernel_rfl) (by kernel_rfl) (by rfl) (fun _ _ _ h => h) hS (fun w' hS' => ?_) ?_
        · (go_simp) <;> (intro hx9; omega)
        simp only [Act.put, List.setIfInBounds_toArray, List.set_cons_zero, List.set_cons_succ]
        refine take1 4 11 (.bool false) rfl rfl (by kernel_rfl) (by kernel_rfl) (by kernel_rfl) (by rfl) (fun _ _ _ h => h) hS (fun w' hS' => ?_) ?_
        · (go_simp) <;> (intro hx9; omega)
        simp only [Act.put, List.setIfInBounds_toArray, List.set_cons_zero, List.set_cons_succ]
        refine take1 5 12 (Value.pointer (some ⟨R, 0, none⟩)) rfl rfl (by kernel_rfl) (by kernel_rfl) (by kernel_rfl) (by rfl) (fun _ _ _ h => h) hS (fun w' hS' => ?_) ?_
        · (go_simp) <;> (intro hx9; omega)
        simp only [Act.put, List.setIfInBounds_toArray, List.set_cons_zero, List.set_cons_succ]
        refine take1 7 14 (Value.agg #[.int .i64 s.k, .int .i64 s.t, .int .i64 s.a, .int .i64 s.b, .int .i64 s.c, .int .i64 s.d, .int .i64 s.e]) rfl rfl (by kernel_rfl) (by kernel_rfl) (by kernel_rfl) (by rfl) (fun _ _ _ h => h) hS (fun w' hS' => ?_) ?_
        · obtain ⟨c0, c1, c2, c3, c4, c5, c6⟩ := HAT.out.later hS' HLT
          simp only [Nat.zero_add] at c1 c2 c3 c4 c5 c6
          (go_simp) <;> (intro hx9; omega)
        simp only [Act.put, List.setIfInBounds_toArray, List.set_cons_zero, List.set_cons_succ]
        refine wpAnyH_ready (rs := [6]) (by kernel_rfl) (by simp) ?_
        refine AllReadyH.cons rfl (fun K hK => ?_) AllReadyH.nil
        go_simp
        refine (list_any R f xs _ (HR.out.later hS)).mono ?_
        rintro r w6 ⟨⟨v6, rfl, o6⟩, b6⟩
        obtain ⟨a6, c6, rfl, r6⟩ := o6.row
        have O6 : Hid (SRow w6 a6 xs) := r6
        have S6 : Below W3.heap.size W3 w6 := hS.trans (b6.mono hS.size)
        clear o6 r6
        refine hK.out _ _ S6 (fun hS => ?_)
        clear hK K b6 S6
        refine wpAnyH_ready (rs := [8]) (by kernel_rfl) (by simp) ?_
        refine AllReadyH.cons rfl (fun K hK => ?_) AllReadyH.nil
        go_simp
        refine (hasSeal_any a6 c6 xs s _ O6.out (by omega)).mono ?_
        rintro r w7 ⟨rfl, b7⟩
        rw [hin]
        have S7 : Below W3.heap.size W3 w7 := hS.trans (b7.mono hS.size)
        refine hK.out _ _ S7 (fun hS => ?_)
        clear hK K b7 S7
        refine take1 9 16 (.bool false) rfl rfl (by kernel_rfl) (by kernel_rfl) (by kernel_rfl) (by rfl) (fun _ _ _ h => h) hS (fun w' hS' => ?_) ?_
        · (go_simp) <;> (intro hx9; omega)
        simp only [Act.put, List.setIfInBounds_toArray, List.set_cons_zero, List.set_cons_succ]
        refine take1 10 17 (.bool false) rfl rfl (by kernel_rfl) (by kernel_rfl) (by kernel_rfl) (by rfl) (fun _ _ _ h => h) hS (fun w' hS' => ?_) ?_
        · (go_simp) <;> (intro hx9; omega)
        simp only [Act.put, List.setIfInBounds_toArray, List.set_cons_zero, List.set_cons_succ]
        refine take1 11 18 (Value.pointer (some ⟨R, 0, none⟩)) rfl rfl (by kernel_rfl) (by kernel_rfl) (by kernel_rfl) (by rfl) (fun _ _ _ h => h) hS (fun w' hS' => ?_) ?_
        · (go_simp) <;> (intro hx9; omega)
        simp only [Act.put, List.setIfInBounds_toArray, List.set_cons_zero, List.set_cons_succ]
        refine take1 12 19 (Value.pointer (some ⟨R, 0, none⟩)) rfl rfl (by kernel_rfl) (by kernel_rfl) (by kernel_rfl) (by rfl) (fun _ _ _ h => h) hS (fun w' hS' => ?_) ?_
        · (go_simp) <;> (intro hx9; omega)
        simp only [Act.put, List.setIfInBounds_toArray, List.set_cons_zero, List.set_cons_succ]
        refine take1 13 20 (Value.pointer (some ⟨R, 141, none⟩)) rfl rfl (by kernel_rfl) (by kernel_rfl) (by kernel_rfl) (by rfl) (fun _ _ _ h => h) hS (fun w' hS' => ?_) ?_
        · (go_simp) <;> (intro hx9; omega)
        simp only [Act.put, List.setIfInBounds_toArray, List.set_cons_zero, List.set_cons_succ]
        refine take1 14 21 (.int .i64 (xs.length : Int)) rfl rfl (by kernel_rfl) (by kernel_rfl) (by kernel_rfl) (by rfl) (fun _ _ _ h => h) hS (fun w' hS' => ?_) ?_
        · have e1 := (HR.out.later hS').count
          (go_simp) <;> (intro hx9; omega)
        simp only [Act.put, List.setIfInBounds_toArray, List.set_cons_zero, List.set_cons_succ]
        refine take1 15 22 (.bool true) rfl rfl (by kernel_rfl) (by kernel_rfl) (by kernel_rfl) (by rfl) (fun _ _ _ h => h) hS (fun w' hS' => ?_) ?_
        · have hfi : (xs.length : Int) = 20 := by have := HF.out; omega
          (go_simp) <;> (intro hx9; omega)
        simp only [Act.put, List.setIfInBounds_toArray, List.set_cons_zero, List.set_cons_succ]
        refine take1 16 23 (.bool true) rfl rfl (by kernel_rfl) (by kernel_rfl) (by kernel_rfl) (by rfl) (fun _ _ _ h => h) hS (fun w' hS' => ?_) ?_
        · (go_simp) <;> (intro hx9; omega)
        simp only [Act.put, List.setIfInBounds_toArray, List.set_cons_zero, List.set_cons_succ]
        refine wpAnyH_done (by kernel_rfl) ?_ _
        have HE : Hid (Ring w7 R f xs ∧ w.grownBy w7 (some R)) := ⟨HR.out.later hS, HG.out.trans (below_grown hS _)⟩
        clear hS HR HG HAT
        go_wp2_with fail
        go_ret
        refine ⟨ret_bool (by simp [remB, HF.out]), ?_, HE.out.2⟩
        rw [show remL now xs s = xs by simp [remL, remB, HF.out]]
        exact HE.out.1
      ·
        refine take1 0 7 (Value.agg #[.int .i64 s.k, .int .i64 s.t, .int .i64 s.a, .int .i64 s.b, .int .i64 s.c, .int .i64 s.d, .int .i64 s.e]) rfl rfl (by kernel_rfl) (by kernel_rfl) (by kernel_rfl) (by rfl) (fun _ _ _ h => h) hS (fun w' hS' => ?_) ?_
        · obtain ⟨c0, c1, c2, c3, c4, c5, c6⟩ := HAT.out.later hS' HLT
          simp only [Nat.zero_add] at c1 c2 c3 c4 c5 c6
          (go_simp) <;> (intro hx9; omega)
        simp only [Act.put, List.setIfInBounds_toArray, List.set_cons_zero, List.set_cons_succ]
        refine take1 1 8 (.int .i64 now) rfl rfl (by kernel_rfl) (by kernel_rfl) (by kernel_rfl) (by rfl) (fun _ _ _ h => h) hS (fun w' hS' => ?_) ?_
        · (go_simp) <;> (intro hx9; omega)
        simp only [Act.put, List.setIfInBounds_toArray, List.set_cons_zero, List.set_cons_succ]
        refine wpAnyH_ready (rs := [2]) (by kernel_rfl) (by simp) ?_
        refine AllReadyH.cons rfl (fun K hK => ?_) AllReadyH.nil
        go_simp
        refine (isFresh_any s now _ ⟨hb.1, by omega⟩ hn).mono ?_
        rintro r w5 ⟨rfl, b5⟩
        rw [hfr]
        have S5 : Below W3.heap.size W3 w5 := hS.trans (b5.mono hS.size)
        refine hK.out _ _ S5 (fun hS => ?_)
        clear hK K b5 S5
        refine take1 3 10 (.bool false) rfl rfl (by kernel_rfl) (by kernel_rfl) (by kernel_rfl) (by rfl) (fun _ _ _ h => h) hS (fun w' hS' => ?_) ?_
        · (go_simp) <;> (intro hx9; omega)
        simp only [Act.put, List.setIfInBounds_toArray, List.set_cons_zero, List.set_cons_succ]
        refine take1 4 11 (.bool false) rfl rfl (by kernel_rfl) (by kernel_rfl) (by kernel_rfl) (by rfl) (fun _ _ _ h => h) hS (fun w' hS' => ?_) ?_
        · (go_simp) <;> (intro hx9; omega)
        simp only [Act.put, List.setIfInBounds_toArray, List.set_cons_zero, List.set_cons_succ]
        refine take1 5 12 (Value.pointer (some ⟨R, 0, none⟩)) rfl rfl (by kernel_rfl) (by kernel_rfl) (by kernel_rfl) (by rfl) (fun _ _ _ h => h) hS (fun w' hS' => ?_) ?_
        · (go_simp) <;> (intro hx9; omega)
        simp only [Act.put, List.setIfInBounds_toArray, List.set_cons_zero, List.set_cons_succ]
        refine take1 7 14 (Value.agg #[.int .i64 s.k, .int .i64 s.t, .int .i64 s.a, .int .i64 s.b, .int .i64 s.c, .int .i64 s.d, .int .i64 s.e]) rfl rfl (by kernel_rfl) (by kernel_rfl) (by kernel_rfl) (by rfl) (fun _ _ _ h => h) hS (fun w' hS' => ?_) ?_
        · obtain ⟨c0, c1, c2, c3, c4, c5, c6⟩ := HAT.out.later hS' HLT
          simp only [Nat.zero_add] at c1 c2 c3 c4 c5 c6
          (go_simp) <;> (intro hx9; omega)
        simp only [Act.put, List.setIfInBounds_toArray, List.set_cons_zero, List.set_cons_succ]
        refine wpAnyH_ready (rs := [6]) (by kernel_rfl) (by simp) ?_
        refine AllReadyH.cons rfl (fun K hK => ?_) AllReadyH.nil
        go_simp
        refine (list_any R f xs _ (HR.out.later hS)).mono ?_
        rintro r w6 ⟨⟨v6, rfl, o6⟩, b6⟩
        obtain ⟨a6, c6, rfl, r6⟩ := o6.row
        have O6 : Hid (SRow w6 a6 xs) := r6
        have S6 : Below W3.heap.size W3 w6 := hS.trans (b6.mono hS.size)
        clear o6 r6
        refine hK.out _ _ S6 (fun hS => ?_)
        clear hK K b6 S6
        refine wpAnyH_ready (rs := [8]) (by kernel_rfl) (by simp) ?_
        refine AllReadyH.cons rfl (fun K hK => ?_) AllReadyH.nil
        go_simp
        refine (hasSeal_any a6 c6 xs s _ O6.out (by omega)).mono ?_
        rintro r w7 ⟨rfl, b7⟩
        rw [hin]
        have S7 : Below W3.heap.size W3 w7 := hS.trans (b7.mono hS.size)
        refine hK.out _ _ S7 (fun hS => ?_)
        clear hK K b7 S7
        refine take1 9 16 (.bool false) rfl rfl (by kernel_rfl) (by kernel_rfl) (by kernel_rfl) (by rfl) (fun _ _ _ h => h) hS (fun w' hS' => ?_) ?_
        · (go_simp) <;> (intro hx9; omega)
        simp only [Act.put, List.setIfInBounds_toArray, List.set_cons_zero, List.set_cons_succ]
        refine take1 10 17 (.bool false) rfl rfl (by kernel_rfl) (by kernel_rfl) (by kernel_rfl) (by rfl) (fun _ _ _ h => h) hS (fun w' hS' => ?_) ?_
        · (go_simp) <;> (intro hx9; omega)
        simp only [Act.put, List.setIfInBounds_toArray, List.set_cons_zero, List.set_cons_succ]
        refine take1 11 18 (Value.pointer (some ⟨R, 0, none⟩)) rfl rfl (by kernel_rfl) (by kernel_rfl) (by kernel_rfl) (by rfl) (fun _ _ _ h => h) hS (fun w' hS' => ?_) ?_
        · (go_simp) <;> (intro hx9; omega)
        simp only [Act.put, List.setIfInBounds_toArray, List.set_cons_zero, List.set_cons_succ]
        refine take1 12 19 (Value.pointer (some ⟨R, 0, none⟩)) rfl rfl (by kernel_rfl) (by kernel_rfl) (by kernel_rfl) (by rfl) (fun _ _ _ h => h) hS (fun w' hS' => ?_) ?_
        · (go_simp) <;> (intro hx9; omega)
        simp only [Act.put, List.setIfInBounds_toArray, List.set_cons_zero, List.set_cons_succ]
        refine take1 13 20 (Value.pointer (some ⟨R, 141, none⟩)) rfl rfl (by kernel_rfl) (by kernel_rfl) (by kernel_rfl) (by rfl) (fun _ _ _ h => h) hS (fun w' hS' => ?_) ?_
        · (go_simp) <;> (intro hx9; omega)
        simp only [Act.put, List.setIfInBounds_toArray, List.set_cons_zero, List.set_cons_succ]
        refine take1 14 21 (.int .i64 (xs.length : Int)) rfl rfl (by kernel_rfl) (by kernel_rfl) (by kernel_rfl) (by rfl) (fun _ _ _ h => h) hS (fun w' hS' => ?_) ?_
        · have e1 := (HR.out.later hS').count
          (go_simp) <;> (intro hx9; omega)
        simp only [Act.put, List.setIfInBounds_toArray, List.set_cons_zero, List.set_cons_succ]
        refine take1 15 22 (.bool false) rfl rfl (by kernel_rfl) (by kernel_rfl) (by kernel_rfl) (by rfl) (fun _ _ _ h => h) hS (fun w' hS' => ?_) ?_
        · have hfi : ¬ ((xs.length : Int) = 20) := by omega
          (go_simp) <;> (intro hx9; omega)
        simp only [Act.put, List.setIfInBounds_toArray, List.set_cons_zero, List.set_cons_succ]
        refine take1 16 23 (.bool false) rfl rfl (by kernel_rfl) (by kernel_rfl) (by kernel_rfl) (by rfl) (fun _ _ _ h => h) hS (fun w' hS' => ?_) ?_
        · (go_simp) <;> (intro hx9; omega)
        simp only [Act.put, List.setIfInBounds_toArray, List.set_cons_zero, List.set_cons_succ]
        refine wpAnyH_done (by kernel_rfl) ?_ _
        have HE : Hid (Ring w7 R f xs ∧ w.grownBy w7 (some R)) := ⟨HR.out.later hS, HG.out.trans (below_grown hS _)⟩
        obtain ⟨c0, c1, c2, c3, c4, c5, c6⟩ := HAT.out.later hS HLT
        simp only [Nat.zero_add] at c1 c2 c3 c4 c5 c6
        clear hS HR HG HAT
        go_wp2_with fail
        refine (push_any R f xs s _ HE.out.1 (by omega)).mono ?_
        rintro r w8 ⟨rfl, r8, g8⟩
        have H8 : Hid (Ring w8 R f (xs ++ [s]) ∧ w.grownBy w8 (some R)) := ⟨r8, HE.out.2.trans g8⟩
        clear r8 g8 HE c0 c1 c2 c3 c4 c5 c6
        go_wp2_with fail
        go_ret
        refine ⟨ret_bool (by simp [remB, hfr, hin, hfull]), ?_, H8.out.2⟩
        rw [show remL now xs s = xs ++ [s] by simp [remL, remB, hfr, hin, hfull]]
        exact H8.out.1
    ·
      refine take1 0 7 (Value.agg #[.int .i64 s.k, .int .i64 s.t, .int .i64 s.a, .int .i64 s.b, .int .i64 s.c, .int .i64 s.d, .int .i64 s.e]) rfl rfl (by kernel_rfl) (by kernel_rfl) (by kernel_rfl) (by rfl) (fun _ _ _ h => h) hS (fun w' hS' => ?_) ?_
      · obtain ⟨c0, c1, c2, c3, c4, c5, c6⟩ := HAT.out.later hS' HLT
        simp only [Nat.zero_add] at c1 c2 c3 c4 c5 c6
        (go_simp) <;> (intro hx9; omega)
      simp only [Act.put, List.setIfInBounds_toArray, List.set_cons_zero, List.set_cons_succ]
      refine take1 1 8 (.int .i64 now) rfl rfl (by kernel_rfl) (by kernel_rfl) (by kernel_rfl) (by rfl) (fun _ _ _ h => h) hS (fun w' hS' => ?_) ?_
      · (go_simp) <;> (intro hx9; omega)
      simp only [Act.put, List.setIfInBounds_toArray, List.set_cons_zero, List.set_cons_succ]
      refine wpAnyH_ready (rs := [2]) (by kernel_rfl) (by simp) ?_
      refine AllReadyH.cons rfl (fun K hK => ?_) AllReadyH.nil
      go_simp
      refine (isFresh_any s now _ ⟨hb.1, by omega⟩ hn).mono ?_
      rintro r w5 ⟨rfl, b5⟩
      rw [hfr]
      have S5 : Below W3.heap.size W3 w5 := hS.trans (b5.mono hS.size)
      refine hK.out _ _ S5 (fun hS => ?_)
      clear hK K b5 S5
      refine take1 3 10 (.bool false) rfl rfl (by kernel_rfl) (by kernel_rfl) (by kernel_rfl) (by rfl) (fun _ _ _ h => h) hS (fun w' hS' => ?_) ?_
      · (go_simp) <;> (intro hx9; omega)
      simp only [Act.put, List.setIfInBounds_toArray, List.set_cons_zero, List.set_cons_succ]
      refine take1 4 11 (.bool false) rfl rfl (by kernel_rfl) (by kernel_rfl) (by kernel_rfl) (by rfl) (fun _ _ _ h => h) hS (fun w' hS' => ?_) ?_
      · (go_simp) <;> (intro hx9; omega)
      simp only [Act.put, List.setIfInBounds_toArray, List.set_cons_zero, List.set_cons_succ]
      refine take1 5 12 (Value.pointer (some ⟨R, 0, none⟩)) rfl rfl (by kernel_rfl) (by kernel_rfl) (by kernel_rfl) (by rfl) (fun _ _ _ h => h) hS (fun w' hS' => ?_) ?_
      · (go_simp) <;> (intro hx9; omega)
      simp only [Act.put, List.setIfInBounds_toArray, List.set_cons_zero, List.set_cons_succ]
      refine take1 7 14 (Value.agg #[.int .i64 s.k, .int .i64 s.t, .int .i64 s.a, .int .i64 s.b, .int .i64 s.c, .int .i64 s.d, .int .i64 s.e]) rfl rfl (by kernel_rfl) (by kernel_rfl) (by kernel_rfl) (by rfl) (fun _ _ _ h => h) hS (fun w' hS' => ?_) ?_
      · obtain ⟨c0, c1, c2, c3, c4, c5, c6⟩ := HAT.out.later hS' HLT
        simp only [Nat.zero_add] at c1 c2 c3 c4 c5 c6
        (go_simp) <;> (intro hx9; omega)
      simp only [Act.put, List.setIfInBounds_toArray, List.set_cons_zero, List.set_cons_succ]
      refine wpAnyH_ready (rs := [6]) (by kernel_rfl) (by simp) ?_
      refine AllReadyH.cons rfl (fun K hK => ?_) AllReadyH.nil
      go_simp
      refine (list_any R f xs _ (HR.out.later hS)).mono ?_
      rintro r w6 ⟨⟨v6, rfl, o6⟩, b6⟩
      obtain ⟨a6, c6, rfl, r6⟩ := o6.row
      have O6 : Hid (SRow w6 a6 xs) := r6
      have S6 : Below W3.heap.size W3 w6 := hS.trans (b6.mono hS.size)
      clear o6 r6
      refine hK.out _ _ S6 (fun hS => ?_)
      clear hK K b6 S6
      refine wpAnyH_ready (rs := [8]) (by kernel_rfl) (by simp) ?_
      refine AllReadyH.cons rfl (fun K hK => ?_) AllReadyH.nil
      go_simp
      refine (hasSeal_any a6 c6 xs s _ O6.out (by omega)).mono ?_
      rintro r w7 ⟨rfl, b7⟩
      rw [hin]
      have S7 : Below W3.heap.size W3 w7 := hS.trans (b7.mono hS.size)
      refine hK.out _ _ S7 (fun hS => ?_)
      clear hK K b7 S7
      refine take1 9 16 (.bool true) rfl rfl (by kernel_rfl) (by kernel_rfl) (by kernel_rfl) (by rfl) (fun _ _ _ h => h) hS (fun w' hS' => ?_) ?_
      · (go_simp) <;> (intro hx9; omega)
      simp only [Act.put, List.setIfInBounds_toArray, List.set_cons_zero, List.set_cons_succ]
      refine take1 10 17 (.bool true) rfl rfl (by kernel_rfl) (by kernel_rfl) (by kernel_rfl) (by rfl) (fun _ _ _ h => h) hS (fun w' hS' => ?_) ?_
      · (go_simp) <;> (intro hx9; omega)
      simp only [Act.put, List.setIfInBounds_toArray, List.set_cons_zero, List.set_cons_succ]
      refine skip1 11 18 rfl rfl (by kernel_rfl) (by kernel_rfl) (by kernel_rfl) (by rfl) (fun _ _ _ h => h) hS ?_
      simp only [Act.put, List.setIfInBounds_toArray, List.set_cons_zero, List.set_cons_succ]
      refine skip1 12 19 rfl rfl (by kernel_rfl) (by kernel_rfl) (by kernel_rfl) (by rfl) (fun _ _ _ h => h) hS ?_
      simp only [Act.put, List.setIfInBounds_toArray, List.set_cons_zero, List.set_cons_succ]
      refine skip1 13 20 rfl rfl (by kernel_rfl) (by kernel_rfl) (by kernel_rfl) (by rfl) (fun _ _ _ h => h) hS ?_
      simp only [Act.put, List.setIfInBounds_toArray, List.set_cons_zero, List.set_cons_succ]
      refine skip1 14 21 rfl rfl (by kernel_rfl) (by kernel_rfl) (by kernel_rfl) (by rfl) (fun _ _ _ h => h) hS ?_
      simp only [Act.put, List.setIfInBounds_toArray, List.set_cons_zero, List.set_cons_succ]
      refine skip1 15 22 rfl rfl (by kernel_rfl) (by kernel_rfl) (by kernel_rfl) (by rfl) (fun _ _ _ h => h) hS ?_
      simp only [Act.put, List.setIfInBounds_toArray, List.set_cons_zero, List.set_cons_succ]
      refine take1 16 23 (.bool true) rfl rfl (by kernel_rfl) (by kernel_rfl) (by kernel_rfl) (by rfl) (fun _ _ _ h => h) hS (fun w' hS' => ?_) ?_
      · (go_simp) <;> (intro hx9; omega)
      simp only [Act.put, List.setIfInBounds_toArray, List.set_cons_zero, List.set_cons_succ]
      refine wpAnyH_done (by kernel_rfl) ?_ _
      have HE : Hid (Ring w7 R f xs ∧ w.grownBy w7 (some R)) := ⟨HR.out.later hS, HG.out.trans (below_grown hS _)⟩
      clear hS HR HG HAT
      go_wp2_with fail
      go_ret
      refine ⟨ret_bool (by simp [remB, hin]), ?_, HE.out.2⟩
      rw [show remL now xs s = xs by simp [remL, remB, hin]]
      exact HE.out.1

end Go.Proofs.YtghajmfjekfdpaaDoor
