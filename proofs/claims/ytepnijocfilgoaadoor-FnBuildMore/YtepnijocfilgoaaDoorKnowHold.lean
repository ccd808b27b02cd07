/-
  The program's holdersByKey: a map from each key to the seals with that key, and a key in them; nothing that was in memory is turned.
-/
import Derived.Test.YtepnijocfilgoaaDoorKnowMap
import Derived.Test.YtepnijocfilgoaaDoorSealSame
namespace Go.Proofs.YtepnijocfilgoaaDoor
open Go.RowKit Go.Maps
attribute [local go_sem ↓] Go.wp_at_zero Go.wp_at_succ

/-- A look into a map, whose answer is known. -/
theorem wp_look {w : World} {o : Oper} {a : Act} {K : Act → World → Prop} {Q : Exit → Act → World → Prop} (d : Nat) (hd : o.dst = some d) (m x : Operand) (ho : o.op = .lookup 80 m x false) (b : Nat) (key v : Value)
    (hm : a.eval m = .map (some b)) (hx : a.eval x = key) (hrun : (Instr.lookup 80 (.map (some b)) key false).run Tryd.prog w = .ok v w) (h : K (a.put (some d) v) w) : o.wp Tryd.prog a w K Q := by
  unfold Oper.wp
  simp [execOp, ho, hm, hx, hrun, Result.andThen]
  rw [← hd] at h
  exact h
/-- A store into a map, whose world is known. -/
theorem wp_update {w w2 : World} {o : Oper} {a : Act} {K : Act → World → Prop} {Q : Exit → Act → World → Prop} (hd : o.dst = none) (m x y : Operand) (ho : o.op = .mapUpdate 80 m x y) (b : Nat) (key v : Value)
    (hm : a.eval m = .map (some b)) (hx : a.eval x = key) (hy : a.eval y = v) (hrun : (Instr.mapUpdate 80 (.map (some b)) key v).run Tryd.prog w = .ok () w2) (h : K (a.put none undef) w2) : o.wp Tryd.prog a w K Q := by
  unfold Oper.wp
  simp [execOp, ho, hm, hx, hy, hrun, Result.andThen]
  rw [← hd] at h
  exact h
theorem SealAt.grown {w w' : World} {b o : Nat} {s : Sl} {row : Option Nat} (h : SealAt w b o s) (hg : w.grownBy w' row) (hb : b < w.heap.size) (hne : some b ≠ row) : SealAt w' b o s := by
  have e := hg.block b hb hne
  have hc : ∀ q, w'.cell? ⟨b, q, none⟩ = w.cell? ⟨b, q, none⟩ := fun q => World.cell?_of_block (a := ⟨b, q, none⟩) e
  exact ⟨(hc _).trans h.c0, (hc _).trans h.c1, (hc _).trans h.c2, (hc _).trans h.c3, (hc _).trans h.c4, (hc _).trans h.c5, (hc _).trans h.c6⟩

set_option maxRecDepth 100000 in
set_option maxHeartbeats 2000000 in
theorem holders_any (a : Option Addr) (cap : Nat) (xs : List Sl) (w : World) (h : SRow w a xs) (hx : xs.length ≤ 1999999) :
    Calls Tryd.prog 53 #[.slice a xs.length cap] w fun r w' => r = .returned (.map (some w.heap.size)) ∧ ∃ f D, Gm w xs xs.length f D w' := by
  have hmm := @run_makeMap Tryd.prog
  go_enter Tryd.func53, Tryd.ntmps53
  go_wp2_with fail
  have T0 : Hid (Gm w xs 0 (fun _ => .slice none 0 0) (.map []) (w.alloc (.map #[] 0))) := Gm.new w xs
  go_loopw [9] (fun i wr => ∃ (j : Nat) (f : Int → Value) (D : DataW Value), j ≤ xs.length ∧ i = .int .i64 j ∧ Hid (Gm w xs j f D wr)) (fun i _ => xs.length - (intOf i).toNat)
  case atStart => exact ⟨0, _, _, Nat.zero_le _, rfl, T0⟩
  case round =>
    obtain ⟨j, f, D, hj, rfl, C⟩ := hrel
    clear T0
    by_cases hlt : j < xs.length
    · obtain ⟨s, hs⟩ : ∃ s, xs[j]? = some s := ⟨xs[j], List.getElem?_eq_getElem hlt⟩
      rcases h with h | ⟨b, off, rfl, hl, h⟩
      · simp [h] at hlt
      obtain ⟨c0, c1, c2, c3, c4, c5, c6⟩ := (h j s hs).later C.out.below hl
      clear h
      go_wp2_with fail
      refine (implH_any _ _ _ _ _ _ _ _).mono ?_
      rintro r w2 ⟨rfl, hb2⟩
      have hbs : wr.heap.size < w2.heap.size := by have := hb2.size; simp at this; omega
      have SA : SealAt w2 wr.heap.size 0 s := by
        obtain ⟨hc, _⟩ := bcell hb2
        refine ⟨?_, ?_, ?_, ?_, ?_, ?_, ?_⟩ <;> (rw [hc _ _ (by simp)]; go_simp)
      have HA : Hid (SealAt w2 wr.heap.size 0 s) := SA
      have GG : Hid (Gm w xs j f D w2) := C.out.later ((Below.alloc_ _ _).trans (hb2.mono (by simp)))
      have hfb : some wr.heap.size ≠ (f s.k).ownBlock := fun e => by
        have := ((C.out.own s.k).lt _ e.symm).2
        omega
      have hww := C.out.lt
      clear C c0 c1 c2 c3 c4 c5 c6 hb2
      by_cases hin : s.inn = 0
      · have e0 : hK s.k s.t s.a s.b s.c s.d s.e = 0 := hin
        rw [e0]
        clear SA
        go_wp2_with fail
        go_roundw
        case rel => exact ⟨j + 1, f, D, by omega, by go_num, GG.out.skip hs hin⟩
        case measure => simp [intOf]; omega
      · obtain ⟨k1, k2⟩ := s.key_of_inn hin
        have hne : ¬ hK s.k s.t s.a s.b s.c s.d s.e = 0 := hin
        have HD : Hid (SealAt w2.drew wr.heap.size 0 s) := HA.out.later (Below.refl _ _).drew hbs
        have GD : Hid (Gm w xs j f D w2.drew) := GG.out.later (Below.refl _ _).drew
        clear SA
        go_wp2_with fail
        refine wp_region_held_drew (S := fun w' => SealAt w' wr.heap.size 0 s) (by kernel_rfl) HD.out (fun hS => ?_)
        refine take1 0 16 (.map (some w.heap.size)) rfl rfl (by kernel_rfl) (by kernel_rfl) (by kernel_rfl) (by rfl) (fun _ _ _ h => h) hS (fun w' hS' => ?_) ?_
        · go_simp
        simp only [Act.put, List.setIfInBounds_toArray, List.set_cons_zero, List.set_cons_succ]
        refine take1 1 17 (.pointer (some ⟨wr.heap.size, 0, none⟩)) rfl rfl (by kernel_rfl) (by kernel_rfl) (by kernel_rfl) (by rfl) (fun _ _ _ h => h) hS (fun w' hS' => ?_) ?_
        · go_simp
        simp only [Act.put, List.setIfInBounds_toArray, List.set_cons_zero, List.set_cons_succ]
        refine take1 2 18 (.int .i64 s.k) rfl rfl (by kernel_rfl) (by kernel_rfl) (by kernel_rfl) (by rfl) (fun _ _ _ h => h) hS (fun w' hS' => ?_) ?_
        · have c0 := hS'.c0
          go_simp
        simp only [Act.put, List.setIfInBounds_toArray, List.set_cons_zero, List.set_cons_succ]
        refine take1 3 19 (.map (some w.heap.size)) rfl rfl (by kernel_rfl) (by kernel_rfl) (by kernel_rfl) (by rfl) (fun _ _ _ h => h) hS (fun w' hS' => ?_) ?_
        · go_simp
        simp only [Act.put, List.setIfInBounds_toArray, List.set_cons_zero, List.set_cons_succ]
        refine take1 4 20 (.pointer (some ⟨wr.heap.size, 0, none⟩)) rfl rfl (by kernel_rfl) (by kernel_rfl) (by kernel_rfl) (by rfl) (fun _ _ _ h => h) hS (fun w' hS' => ?_) ?_
        · go_simp
        simp only [Act.put, List.setIfInBounds_toArray, List.set_cons_zero, List.set_cons_succ]
        refine take1 5 21 (.int .i64 s.k) rfl rfl (by kernel_rfl) (by kernel_rfl) (by kernel_rfl) (by rfl) (fun _ _ _ h => h) hS (fun w' hS' => ?_) ?_
        · have c0 := hS'.c0
          go_simp
        simp only [Act.put, List.setIfInBounds_toArray, List.set_cons_zero, List.set_cons_succ]
        refine take1 7 23 (Value.agg #[.int .i64 s.k, .int .i64 s.t, .int .i64 s.a, .int .i64 s.b, .int .i64 s.c, .int .i64 s.d, .int .i64 s.e]) rfl rfl (by kernel_rfl) (by kernel_rfl) (by kernel_rfl) (by rfl) (fun _ _ _ h => h) hS (fun w' hS' => ?_) ?_
        · obtain ⟨c0, c1, c2, c3, c4, c5, c6⟩ := hS'
          go_simp
        simp only [Act.put, List.setIfInBounds_toArray, List.set_cons_zero, List.set_cons_succ]
        refine wpAnyH_ready (rs := [6, 8]) (by kernel_rfl) (by simp) ?_
        refine AllReadyH.cons rfl (fun K hK => ?_) (AllReadyH.cons rfl (fun K hK => ?_) AllReadyH.nil)
        · rw [if_pos (by rfl)]
          refine wp_look 22 rfl _ _ rfl w.heap.size _ _ rfl rfl (GD.out.at k1 k2) ?_
          refine hK.out _ _ hS (fun hS => ?_)
          clear hK K
          simp only [Act.put, List.setIfInBounds_toArray, List.set_cons_zero, List.set_cons_succ]
          refine wpAnyH_ready (rs := [8]) (by kernel_rfl) (by simp) ?_
          refine AllReadyH.cons rfl (fun K hK => ?_) AllReadyH.nil
          go_simp
          refine hK.out _ _ (hS.later (Below.alloc_ _ _) hbs) (fun hS => ?_)
          clear hK K
          refine wpAnyH_ready (rs := [9]) (by kernel_rfl) (by simp) ?_
          refine AllReadyH.cons rfl (fun K hK => ?_) AllReadyH.nil
          rw [if_pos (by rfl)]
          refine app_seal_at 25 rfl _ _ rfl (w.heap.size + 1) _ (grp xs j s.k) s rfl ((GD.out.own s.k).alloc _) w2.heap.size rfl ⟨by go_simp, by go_simp, by go_simp, by go_simp, by go_simp, by go_simp, by go_simp⟩ (by have := grp_len xs j s.k; omega) (by have := GG.out.lt; simp; omega) ?_
          intro g' cap' w3 hown' hgrow hloc
          have hl' : (Value.slice (some ⟨g', 0, none⟩) ((grp xs j s.k).length + 1) cap').ownBlock = (f s.k).ownBlock ∨ (Value.slice (some ⟨g', 0, none⟩) ((grp xs j s.k).length + 1) cap').ownBlock = some (w2.drew.alloc (.cells s.cs.toArray 45)).heap.size := by
            rcases hloc with q | q
            · exact Or.inl q
            · exact Or.inr (by subst q; rfl)
          obtain ⟨w4, f', D', hrun, G4, hg4⟩ := GD.out.put (o := .cells s.cs.toArray 45) hs hin (by omega) hown' hgrow hl'
          have S3 : SealAt w3 wr.heap.size 0 s := hS.grown hgrow (by simp; omega) hfb
          have S4 : SealAt w4 wr.heap.size 0 s := S3.grown hg4 (by have := hgrow.size; simp at this; omega) (by simp; omega)
          have HG : Hid (Gm w xs (j + 1) f' D' w4) := G4
          clear G4 hg4 hl' hloc hown' hgrow GD GG HD HA
          refine hK.out _ _ S3 (fun hS => ?_)
          clear hK K
          simp only [Act.put, List.setIfInBounds_toArray, List.set_cons_zero, List.set_cons_succ]
          refine wpAnyH_ready (rs := [10]) (by kernel_rfl) (by simp) ?_
          refine AllReadyH.cons rfl (fun K hK => ?_) AllReadyH.nil
          rw [if_pos (by rfl)]
          refine wp_update rfl _ _ _ rfl w.heap.size _ _ rfl rfl rfl hrun ?_
          refine hK.out _ _ S4 (fun _ => ?_)
          clear hK K hS S3 S4 hrun
          refine wpAnyH_done (by kernel_rfl) ?_ _
          go_wp2_with fail
          go_roundw
          case rel => exact ⟨j + 1, f', D', by omega, by go_num, HG⟩
          case measure => simp [intOf]; omega
        · go_simp
          refine hK.out _ _ (hS.later (Below.alloc_ _ _) hbs) (fun hS => ?_)
          clear hK K
          refine wpAnyH_ready (rs := [6]) (by kernel_rfl) (by simp) ?_
          refine AllReadyH.cons rfl (fun K hK => ?_) AllReadyH.nil
          rw [if_pos (by rfl)]
          refine wp_look 22 rfl _ _ rfl w.heap.size _ _ rfl rfl ((GD.out.later (Below.alloc_ _ _)).at k1 k2) ?_
          refine hK.out _ _ hS (fun hS => ?_)
          clear hK K
          simp only [Act.put, List.setIfInBounds_toArray, List.set_cons_zero, List.set_cons_succ]
          refine wpAnyH_ready (rs := [9]) (by kernel_rfl) (by simp) ?_
          refine AllReadyH.cons rfl (fun K hK => ?_) AllReadyH.nil
          rw [if_pos (by rfl)]
          refine app_seal_at 25 rfl _ _ rfl (w.heap.size + 1) _ (grp xs j s.k) s rfl ((GD.out.own s.k).alloc _) w2.heap.size rfl ⟨by go_simp, by go_simp, by go_simp, by go_simp, by go_simp, by go_simp, by go_simp⟩ (by have := grp_len xs j s.k; omega) (by have := GG.out.lt; simp; omega) ?_
          intro g' cap' w3 hown' hgrow hloc
          have hl' : (Value.slice (some ⟨g', 0, none⟩) ((grp xs j s.k).length + 1) cap').ownBlock = (f s.k).ownBlock ∨ (Value.slice (some ⟨g', 0, none⟩) ((grp xs j s.k).length + 1) cap').ownBlock = some (w2.drew.alloc (.cells s.cs.toArray 45)).heap.size := by
            rcases hloc with q | q
            · exact Or.inl q
            · exact Or.inr (by subst q; rfl)
          obtain ⟨w4, f', D', hrun, G4, hg4⟩ := GD.out.put (o := .cells s.cs.toArray 45) hs hin (by omega) hown' hgrow hl'
          have S3 : SealAt w3 wr.heap.size 0 s := hS.grown hgrow (by simp; omega) hfb
          have S4 : SealAt w4 wr.heap.size 0 s := S3.grown hg4 (by have := hgrow.size; simp at this; omega) (by simp; omega)
          have HG : Hid (Gm w xs (j + 1) f' D' w4) := G4
          clear G4 hg4 hl' hloc hown' hgrow GD GG HD HA
          refine hK.out _ _ S3 (fun hS => ?_)
          clear hK K
          simp only [Act.put, List.setIfInBounds_toArray, List.set_cons_zero, List.set_cons_succ]
          refine wpAnyH_ready (rs := [10]) (by kernel_rfl) (by simp) ?_
          refine AllReadyH.cons rfl (fun K hK => ?_) AllReadyH.nil
          rw [if_pos (by rfl)]
          refine wp_update rfl _ _ _ rfl w.heap.size _ _ rfl rfl rfl hrun ?_
          refine hK.out _ _ S4 (fun _ => ?_)
          clear hK K hS S3 S4 hrun
          refine wpAnyH_done (by kernel_rfl) ?_ _
          go_wp2_with fail
          go_roundw
          case rel => exact ⟨j + 1, f', D', by omega, by go_num, HG⟩
          case measure => simp [intOf]; omega
    · obtain rfl : j = xs.length := by omega
      go_wp2_with fail
      go_ret
      exact ⟨rfl, f, D, C.out⟩

end Go.Proofs.YtepnijocfilgoaaDoor
