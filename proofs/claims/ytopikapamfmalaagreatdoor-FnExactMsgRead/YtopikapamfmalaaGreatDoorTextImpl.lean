/-
  Pieces of the program's SealText: its word of a kind; the library's Itoa at a number from 0 to 999; what a row of texts of one's own is good for.
-/
import Derived.Test.YtopikapamfmalaaGreatDoorSealOkd
import Derived.Test.YtopikapamfmalaaGreatDoorShelf
import Derived.Test.YtopikapamfmalaaGreatDoorTextDec
import Derived.Lib.SmallJoins
import Derived.Lib.AppendIntMem
namespace Go.Proofs.YtopikapamfmalaaGreatDoor
open Go.RowKit

set_option maxHeartbeats 400000 in
theorem sealWord1_any (v : Value) (w : World) :
    Calls Tryz.prog 63 #[.iface 132 v] w fun r w' => r = .returned (.string ⟨#[116, 105, 99, 107, 101, 116]⟩) ∧ Below w.heap.size w w' := by
  have q1 := asr11
  go_enter Tryz.func63, Tryz.ntmps63
  go_wp2
  go_ret
  exact ⟨rfl, Below.refl _ _⟩

set_option maxHeartbeats 400000 in
theorem sealWord2_any (v : Value) (w : World) :
    Calls Tryz.prog 63 #[.iface 134 v] w fun r w' => r = .returned (.string ⟨#[112, 97, 114, 116]⟩) ∧ Below w.heap.size w w' := by
  have q1 := asr21
  have q2 := asr22
  go_enter Tryz.func63, Tryz.ntmps63
  go_wp2
  go_ret
  exact ⟨rfl, Below.refl _ _⟩

set_option maxHeartbeats 400000 in
theorem sealWord3_any (v : Value) (w : World) :
    Calls Tryz.prog 63 #[.iface 136 v] w fun r w' => r = .returned (.string ⟨#[97, 117, 116, 104]⟩) ∧ Below w.heap.size w w' := by
  have q1 := asr31
  have q2 := asr32
  have q3 := asr33
  go_enter Tryz.func63, Tryz.ntmps63
  go_wp2
  go_ret
  exact ⟨rfl, Below.refl _ _⟩

set_option maxHeartbeats 400000 in
theorem sealWord4_any (v : Value) (w : World) :
    Calls Tryz.prog 63 #[.iface 138 v] w fun r w' => r = .returned (.string ⟨#[98, 97, 99, 107]⟩) ∧ Below w.heap.size w w' := by
  have q1 := asr41
  have q2 := asr42
  have q3 := asr43
  have q4 := asr44
  go_enter Tryz.func63, Tryz.ntmps63
  go_wp2
  go_ret
  exact ⟨rfl, Below.refl _ _⟩

theorem gPow : Tryz.prog.globalNamed "internal/strconv.uint64pow10" = some 5 := by kernel_rfl

/-- The library's Itoa, from 0 to 999: the digits; its table stays. -/
theorem itoa_any (n : Int) (h0 : 0 ≤ n) (h9 : n < 1000) (w : World) (htab : Lib.TabIs Tryz.prog w "internal/strconv.uint64pow10" .u64 Lib.pow10Tab) :
    Calls Tryz.prog 36 #[.int .i64 n] w fun e w' => e = .returned (.string (decB n)) ∧ Below w.heap.size w w' := by
  refine (Tryz.strconv_Itoa n (by omega) (by omega) w htab).mono ?_
  rintro e w' ⟨rfl, k, os, rfl⟩
  refine ⟨?_, Lib.below_grow _ w (Nat.le_refl _) k os⟩
  have h : Lib.itoa n = Lib.decDigits n.toNat := by unfold Lib.itoa; rw [if_neg (by omega)]
  rw [h]; rfl

/-- A row of one's own stays so while nothing that was there is turned. -/
theorem own_later {w w' : World} {B e size n : Nat} {v : Value} {xs : List Value} (hb : Below w.heap.size w w') (h : w.ownsRow B e size v n xs) : w'.ownsRow B e size v n xs := by
  obtain ⟨hl, h⟩ := h
  refine ⟨hl, ?_⟩
  rcases h with h | ⟨g, cap, cur, hv, hg, hh, h1, h2, h3, h4⟩
  · exact Or.inl h
  · have hlt : g < w.heap.size := (Array.getElem?_eq_some_iff.1 hh).1
    exact Or.inr ⟨g, cap, cur, hv, hg, by rw [hb.block g hlt]; exact hh, h1, h2, h3, h4⟩

theorem infoString : (Tryz.prog.info? 9).map (fun i => (i.zero, i.size, i.bytes)) = some (some (.string ⟨#[]⟩), 1, 16) := by kernel_rfl

/-- The words of a seal's text. -/
def wordsOf (nm : ByteArray) (k a b c d e : Int) : List ByteArray := [nm, decB k, decB a, decB b, decB c, decB d, decB e]
/-- Its numbers, by their places. -/
def numOf (k a b c d e : Int) (j : Nat) : Int := [k, a, b, c, d, e].getD j 0
theorem index_any (k a b c d e : Int) (j : Nat) (hj : j < 6) (w : World) :
    (Instr.index 105 (.agg #[.int .i64 k, .int .i64 a, .int .i64 b, .int .i64 c, .int .i64 d, .int .i64 e]) (.int .i64 (j : Int))).run Tryz.prog w = .ok (.int .i64 (numOf k a b c d e j)) w := by
  obtain rfl | rfl | rfl | rfl | rfl | rfl : j = 0 ∨ j = 1 ∨ j = 2 ∨ j = 3 ∨ j = 4 ∨ j = 5 := by omega
  · kernel_rfl
  · kernel_rfl
  · kernel_rfl
  · kernel_rfl
  · kernel_rfl
  · kernel_rfl
theorem words_step (nm : ByteArray) (k a b c d e : Int) (j : Nat) (hj : j < 6) :
    ((wordsOf nm k a b c d e).take (j + 1 + 1)).map Value.string = ((wordsOf nm k a b c d e).take (j + 1)).map Value.string ++ [.string (decB (numOf k a b c d e j))] := by
  match j, hj with
  | 0, _ => rfl
  | 1, _ => rfl
  | 2, _ => rfl
  | 3, _ => rfl
  | 4, _ => rfl
  | 5, _ => rfl
theorem num_bounds {k a b c d e : Int} (b0 : 0 ≤ k) (b1 : k < 1000) (b2 : 0 ≤ a) (b3 : a < 1000) (b4 : 0 ≤ b) (b5 : b < 1000) (b6 : 0 ≤ c) (b7 : c < 1000) (b8 : 0 ≤ d) (b9 : d < 1000) (c0 : 0 ≤ e) (c1 : e < 1000) (j : Nat) (hj : j < 6) :
    0 ≤ numOf k a b c d e j ∧ numOf k a b c d e j < 1000 := by
  match j, hj with
  | 0, _ => exact ⟨b0, b1⟩
  | 1, _ => exact ⟨b2, b3⟩
  | 2, _ => exact ⟨b4, b5⟩
  | 3, _ => exact ⟨b6, b7⟩
  | 4, _ => exact ⟨b8, b9⟩
  | 5, _ => exact ⟨c0, c1⟩
theorem own_block {w : World} {B e size n : Nat} {v : Value} {xs : List Value} (h : w.ownsRow B e size v n xs) (k : Nat) (hk : v.ownBlock = some k) : B ≤ k := by
  rcases h.2 with ⟨rfl, _⟩ | ⟨g, cap, cur, rfl, hg, _⟩
  · simp [Value.ownBlock] at hk
  · simp [Value.ownBlock] at hk; omega
/-- A row of texts of one's own, laid open: where it lies, and what each of its cells holds. -/
theorem own_open {w : World} {B e : Nat} {v : Value} {n : Nat} {xs : List ByteArray} (h : w.ownsRow B e 1 v (n + 1) (xs.map Value.string)) :
    ∃ g cap, v = .slice (some ⟨g, 0, none⟩) (n + 1) cap ∧ g < w.heap.size ∧ n + 1 ≤ cap ∧ ∀ (j : Nat) x, xs[j]? = some x → w.cell? ⟨g, 0 + j, none⟩ = some (.string x) := by
  obtain ⟨hl, h⟩ := h
  rcases h with ⟨_, h0⟩ | ⟨g, cap, cur, rfl, _, hh, h1, _, _, h4⟩
  · omega
  · refine ⟨g, cap, rfl, (Array.getElem?_eq_some_iff.1 hh).1, h1, fun j x hj => ?_⟩
    have hjl : j < n + 1 := by
      have := (List.getElem?_eq_some_iff.1 hj).1
      simp at hl; omega
    have e1 : cur.toList[j]? = some (.string x) := by
      have e2 : (cur.toList.take ((n + 1) * 1))[j]? = some (.string x) := by rw [h4]; simp [hj]
      rw [List.getElem?_take] at e2
      simpa [hjl] using e2
    simp [World.cell?, hh]
    simpa using e1
theorem join_len (nm : ByteArray) (k a b c d e : Int) (hn : nm.size ≤ 10)
    (b0 : 0 ≤ k) (b1 : k < 1000) (b2 : 0 ≤ a) (b3 : a < 1000) (b4 : 0 ≤ b) (b5 : b < 1000) (b6 : 0 ≤ c) (b7 : c < 1000) (b8 : 0 ≤ d) (b9 : d < 1000) (c0 : 0 ≤ e) (c1 : e < 1000) :
    (Lib.join ((wordsOf nm k a b c d e).map (·.data.toList)) [32]).length ≤ 140737488355328 := by
  have s0 := decB_size b0 b1
  have s1 := decB_size b2 b3
  have s2 := decB_size b4 b5
  have s3 := decB_size b6 b7
  have s4 := decB_size b8 b9
  have s5 := decB_size c0 c1
  simp [wordsOf, Lib.join, List.intercalate]
  omega

end Go.Proofs.YtopikapamfmalaaGreatDoor
