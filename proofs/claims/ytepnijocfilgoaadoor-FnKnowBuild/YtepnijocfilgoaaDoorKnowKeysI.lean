/-
  The program's KnowKeys: the keys that one can come to, ascending, in a row of its own; nothing that was in memory is turned.
-/
import Derived.Test.YtepnijocfilgoaaDoorKnowComes
namespace Go.Proofs.YtepnijocfilgoaaDoor
open Go.RowKit

/-- On the way through the 61 truth values, by value. -/
structure Ki (W : World) (H : List Bool) (j : Nat) (v : Value) (w : World) : Prop where
  own : OwnI w W.heap.size v (keysOf H j)
  below : Below W.heap.size W w
theorem Ki.step {W : World} {H : List Bool} {j : Nat} {v v' : Value} {w w1 : World} {o : Obj} (h : Ki W H j v w) (hb : H.getD j false = true)
    (ho : w1.ownsRow W.heap.size 3 1 v' ((keysOf H j).length + 1) ((keysOf H j).map (Value.int .i64) ++ [.int .i64 j])) (hg : (w.alloc o).grownBy w1 v.ownBlock) : Ki W H (j + 1) v' w1 := by
  have hal := (World.grownBy_alloc w o v.ownBlock).trans hg
  refine ⟨?_, h.below.grown hal h.below.size (fun k hk => (World.ownsRow.lt h.own k hk).1)⟩
  rw [keysOf_succ, hb]
  simpa [OwnI] using ho

set_option maxRecDepth 100000 in
set_option maxHeartbeats 4000000 in
theorem implKeys_any (a1 a2 : Option Addr) (c1 c2 : Nat) (ks : List Int) (xs : List Sl) (w : World) (h1 : IRow w a1 ks) (h2 : SRow w a2 xs) (hk : ks.length ≤ 2000000) (hx : xs.length ≤ 1999999) :
    Calls Tryd.prog 20 #[.slice a1 ks.length c1, .slice a2 xs.length c2] w fun r w' => (∃ v H, r = .returned v ∧ Right ks xs H ∧ OwnI w' w.heap.size v (keysOf H 61)) ∧ Below w.heap.size w w' := by
  obtain ⟨i0, hi, hz0, hz1, hz2⟩ := info_parts infoInt
  go_enter Tryd.func20, Tryd.ntmps20
  go_wp2_with fail
  refine (comesTo_any a1 a2 c1 c2 ks xs w h1 h2 hk hx).mono ?_
  rintro r w2 ⟨⟨H, rfl, hR⟩, hb2⟩
  have hl := hR.len
  obtain ⟨W3, hW3⟩ : ∃ W3, W3 = w2.alloc (.cells #[.bool false, .bool false, .bool false, .bool false, .bool false, .bool false, .bool false, .bool false, .bool false, .bool false, .bool false, .bool false, .bool false, .bool false, .bool false, .bool false, .bool false, .bool false, .bool false, .bool false, .bool false, .bool false, .bool false, .bool false, .bool false, .bool false, .bool false, .bool false, .bool false, .bool false, .bool false, .bool false, .bool false, .bool false, .bool false, .bool false, .bool false, .bool false, .bool false, .bool false, .bool false, .bool false, .bool false, .bool false, .bool false, .bool false, .bool false, .bool false, .bool false, .bool false, .bool false, .bool false, .bool false, .bool false, .bool false, .bool false, .bool false, .bool false, .bool false, .bool false, .bool false] 57) := ⟨_, rfl⟩
  have B3 : Hid (Below w.heap.size w W3) := hW3 ▸ hb2.alloc hb2.size _
  have R3 : Bits W3 w2.heap.size (List.replicate 61 false) := hW3 ▸ bits_new _ _ _ zeros61
  have TH : Hid (W3.there w2.heap.size 0 (bl H).toArray.size) := R3.there hl
  have hsz := hb2.size
  clear h1 h2 hb2 R3
  go_wp2_with (first
    | (refine wpList_store_mid rfl 57 _ _ rfl w2.heap.size 0 (bl H).toArray rfl rfl (by rw [hW3] at TH; exact TH.out) (infoArr' hl) (all_oneCell_toArray (bl_one H)) ?_; rw [← hW3]; clear hW3)
    | (refine wpList_load_mid rfl 57 _ rfl w2.heap.size 0 rfl (bl H) _ (World.rangeAt_setCells_same _ _ _ _ TH.out) Tryd.underlying57 rfl (infoArr' hl) ?_)
    | go_in)
  have T0 : Hid (Ki w H 0 (.slice none 0 0) (W3.setCells w2.heap.size 0 (bl H))) := ⟨World.ownsRow_nil _ _ _ _, below_setCells _ _ B3.out hsz⟩
  go_loopw [6, 13] (fun v i wr => ∃ (j : Nat), j ≤ 61 ∧ i = .int .i64 j ∧ Hid (Ki w H j v wr)) (fun _ i _ => 61 - (intOf i).toNat)
  case atStart => exact ⟨0, Nat.zero_le _, rfl, T0⟩
  case round =>
    obtain ⟨j, hj, rfl, C⟩ := hrel
    clear T0 TH
    have hbs := C.out.below.size
    by_cases hlt : j < 61
    · have hix := run_idx H hl j hlt
      have hj' : (j : Int) < 61 := by omega
      cases hb : H.getD j false
      · rw [hb] at hix
        go_wp2_with fail
        go_roundw
        case rel =>
          refine ⟨j + 1, by omega, by go_num, ?_, C.out.below⟩
          rw [keysOf_succ, hb]
          simpa using C.out.own
        case measure => simp [intOf]; omega
      · rw [hb] at hix
        have hlen := keysOf_len H j
        go_wp2_with (first
          | (at_builtin; refine wpList_append_own_at _ rfl _ _ 22 rfl w.heap.size 3 i0 (.int .i64 0) 1 8 Tryd.underlying22 hi hz0 hz1 hz2 rfl (by decide) _ _ _ rfl (C.out.own.alloc _) ⟨wr.heap.size, 0, none⟩ 1 1 [.int .i64 j] rfl rfl (cell_one_new _ _ _) (ints_one .i64 j) (by unfold maxLen; omega) (by omega) (by simp; omega) ?_; intro v' w1 hown' hgrow hnil hloc)
          | go_in)
        go_roundw
        case rel => exact ⟨j + 1, by omega, by go_num, C.out.step hb hown' hgrow⟩
        case measure => simp [intOf]; omega
    · obtain rfl : j = 61 := by omega
      go_wp2_with fail
      go_ret
      exact ⟨⟨_, H, rfl, hR, C.out.own⟩, C.out.below⟩

end Go.Proofs.YtepnijocfilgoaaDoor
