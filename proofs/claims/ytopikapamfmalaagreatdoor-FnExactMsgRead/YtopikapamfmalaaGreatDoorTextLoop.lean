/-
  The program's SealText of a seal that is ok: its word, and its six numbers, joined by blanks; nothing that was in memory is turned.
-/
import Derived.Test.YtopikapamfmalaaGreatDoorTextImpl
namespace Go.Proofs.YtopikapamfmalaaGreatDoor
open Go.RowKit

theorem join7 (bk c : Nat) (nm : ByteArray) (k a b c' d e : Int) (w : World) (hcells : ∀ (j : Nat) x, (wordsOf nm k a b c' d e)[j]? = some x → w.cell? ⟨bk, 0 + j, none⟩ = some (.string x)) (hbk : bk < w.heap.size) (hcap : 7 ≤ c)
    (hlen : (Lib.join ((wordsOf nm k a b c' d e).map (·.data.toList)) [32]).length ≤ 140737488355328) :
    Calls Tryz.prog 64 #[.slice (some ⟨bk, 0, none⟩) 7 c, .string ⟨#[32]⟩] w fun r w' => r = .returned (.string ⟨(Lib.join ((wordsOf nm k a b c' d e).map (·.data.toList)) [32]).toArray⟩) ∧ Below w.heap.size w w' :=
  Tryz.strings_Join bk 0 c (wordsOf nm k a b c' d e) ⟨#[32]⟩ w hcells hbk (by simp [wordsOf]) hcap hlen

set_option maxHeartbeats 400000 in
set_option maxRecDepth 100000 in
theorem implText_ok (k t a b c d e : Int) (iv : Value) (nm : ByteArray) (w : World) (hn : nm.size ≤ 10)
    (b0 : 0 ≤ k) (b1 : k < 1000) (b2 : 0 ≤ a) (b3 : a < 1000) (b4 : 0 ≤ b) (b5 : b < 1000) (b6 : 0 ≤ c) (b7 : c < 1000) (b8 : 0 ≤ d) (b9 : d < 1000) (c0 : 0 ≤ e) (c1 : e < 1000)
    (htab : Lib.TabIs Tryz.prog w "internal/strconv.uint64pow10" .u64 Lib.pow10Tab)
    (hO : Hid (∀ w : World, Calls Tryz.prog 62 #[.agg #[.int .i64 k, .int .i64 t, .int .i64 a, .int .i64 b, .int .i64 c, .int .i64 d, .int .i64 e]] w fun r w' => r = .returned (.tuple #[iv, .bool true]) ∧ Below w.heap.size w w'))
    (hW : Hid (∀ w : World, Calls Tryz.prog 63 #[iv] w fun r w' => r = .returned (.string nm) ∧ Below w.heap.size w w')) :
    Calls Tryz.prog 37 #[.agg #[.int .i64 k, .int .i64 t, .int .i64 a, .int .i64 b, .int .i64 c, .int .i64 d, .int .i64 e]] w fun r w' => r = .returned (.string ⟨(Lib.join ((wordsOf nm k a b c d e).map (·.data.toList)) [32]).toArray⟩) ∧ Below w.heap.size w w' := by
  have HT : Hid (Lib.TabIs Tryz.prog w "internal/strconv.uint64pow10" .u64 Lib.pow10Tab) := htab
  have HN : Hid (∀ j : Nat, j < 6 → 0 ≤ numOf k a b c d e j ∧ numOf k a b c d e j < 1000) := num_bounds b0 b1 b2 b3 b4 b5 b6 b7 b8 b9 c0 c1
  have HL : Hid ((Lib.join ((wordsOf nm k a b c d e).map (·.data.toList)) [32]).length ≤ 140737488355328) := join_len nm k a b c d e hn b0 b1 b2 b3 b4 b5 b6 b7 b8 b9 c0 c1
  clear htab b0 b1 b2 b3 b4 b5 b6 b7 b8 b9 c0 c1 hn
  obtain ⟨i0, hi, hz0, hz1, hz2⟩ := info_parts infoString
  have HI : Hid (Tryz.prog.info? 9 = some i0 ∧ i0.zero = some (.string ⟨#[]⟩) ∧ i0.size = 1 ∧ i0.bytes = 16) := ⟨hi, hz0, hz1, hz2⟩
  clear hi hz0 hz1 hz2
  go_enter Tryz.func37, Tryz.ntmps37
  go_wp2_with fail
  refine (hO.out _).mono ?_
  rintro r1 w1 ⟨rfl, hb1⟩
  obtain ⟨hc1, hf1⟩ := bcell hb1
  have hB1 : Below w.heap.size w w1 := ((Below.refl _ _).alloc (Nat.le_refl _) _).trans (hb1.mono (by simp))
  have hz1 : w.heap.size < w1.heap.size := by have := hb1.size; simp at this; omega
  go_wp2_with fail
  refine (hW.out _).mono ?_
  rintro r2 w2 ⟨rfl, hb2⟩
  obtain ⟨hc2, hf2⟩ := bcell hb2
  have hz2 : w.heap.size < w2.heap.size := by have := hb2.size; omega
  have hB2 : Below w.heap.size w w2 := hB1.trans (hb2.mono (by omega))
  go_wp2_with fail
  have hB3 : Below w.heap.size w (w2.alloc (Obj.cells #[Value.string nm] 9)) := hB2.alloc (by omega) _
  have hown0 : (w2.alloc (Obj.cells #[Value.string nm] 9)).ownsRow w.heap.size 9 1 (.slice (some ⟨w2.heap.size, 0, none⟩) 1 1) (0 + 1) (((wordsOf nm k a b c d e).take (0 + 1)).map Value.string) :=
    ⟨rfl, Or.inr ⟨w2.heap.size, 1, #[Value.string nm], rfl, by omega, heap_alloc_new w2 _, Nat.le_refl _, by decide, rfl, rfl⟩⟩
  clear hb1 hc1 hf1 hB1 hz1 hb2 hc2 hf2 hB2 hO hW
  go_loopw [5, 7, 31] (fun ws _ i wr => ∃ j : Nat, j ≤ 6 ∧ i = .int .i64 j ∧ wr.ownsRow w.heap.size 9 1 ws (j + 1) (((wordsOf nm k a b c d e).take (j + 1)).map Value.string) ∧ Below w.heap.size w wr) (fun _ _ i _ => 6 - (intOf i).toNat)
  case atStart => exact ⟨0, by omega, rfl, hown0, hB3⟩
  case round =>
    clear hown0 hB3 hz2
    obtain ⟨j, hj, rfl, hown, hB⟩ := hrel
    by_cases hlt : j < 6
    · have hx := index_any k a b c d e j hlt
      have HS : Hid (((wordsOf nm k a b c d e).take (j + 1 + 1)).map Value.string = ((wordsOf nm k a b c d e).take (j + 1)).map Value.string ++ [.string (decB (numOf k a b c d e j))]) := words_step nm k a b c d e j hlt
      obtain ⟨m0, m1⟩ := HN.out j hlt
      go_wp2_with fail
      refine (itoa_any _ m0 m1 _ (Joins.tab_stays gPow HT.out hB (Nat.le_refl _))).mono ?_
      rintro r4 w4 ⟨rfl, hb4⟩
      have hB4 : Below w.heap.size w w4 := hB.trans (hb4.mono hB.size)
      have hown4 := own_later hb4 hown
      generalize decB (numOf k a b c d e j) = s at HS
      go_wp2_with (at_builtin; refine wpList_append_own _ rfl _ _ 35 rfl w.heap.size 9 i0 (.string ⟨#[]⟩) 1 16 Tryz.underlying35 HI.out.1 HI.out.2.1 HI.out.2.2.1 HI.out.2.2.2 rfl (by decide) _ _ _ rfl (hown4.alloc _) ⟨w4.heap.size, 0, none⟩ 1 1 [.string s] rfl rfl ?c1 ?c2 ?c3 ?c4 ?c5 ?_)
      case c1 =>
        intro j u hj
        match j, hj with
        | 0, hj => simp at hj; subst hj; simp [Addr.add]
      case c2 => intro u hu; simp at hu; subst hu; rfl
      case c3 => unfold maxLen; omega
      case c4 => omega
      case c5 => have := hB4.size; simp; omega
      intro v' w5 hown5 hgrow _
      have hB5 : Below w.heap.size w w5 := (hB4.alloc hB4.size _).grown hgrow (by have := hB4.size; simp; omega) (fun k hk => own_block hown4 k hk)
      have hown6 : w5.ownsRow w.heap.size 9 1 v' (j + 1 + 1) (((wordsOf nm k a b c d e).take (j + 1 + 1)).map Value.string) := by rw [HS.out, List.map_take]; exact hown5
      clear hown5 hgrow hown4 hown hB hB4 hb4 hx
      go_wp2
      go_roundw
      case rel => exact ⟨j + 1, by omega, by go_num, hown6, hB5⟩
      case measure => simp [intOf]; omega
    · obtain rfl : j = 6 := by omega
      obtain ⟨g, cap, rfl, hg, hcap, hcells⟩ := own_open hown
      have hB' := hB
      clear hown
      go_wp2_with (go_at_call 64; refine (join7 g cap nm k a b c d e _ hcells hg hcap HL.out).mono ?_; rintro r4 w4 ⟨rfl, hb4⟩)
      go_ret
      exact ⟨rfl, hB'.trans (hb4.mono hB'.size)⟩

end Go.Proofs.YtopikapamfmalaaGreatDoor
