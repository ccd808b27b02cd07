/-
  SealText, the specification's and the program's, for every seal: one and the same text; empty, if the seal is not ok; nothing that was in memory is turned. The program's needs the library's table of tens where it starts.
-/
import Derived.Test.YtopikapamfmalaaGreatDoorTextWord
import Derived.Test.YtopikapamfmalaaGreatDoorTextLoop
namespace Go.Proofs.YtopikapamfmalaaGreatDoor
open Go.RowKit

/-- The word of a kind. -/
def nameB (t : Int) : ByteArray := if t = 1 then ⟨#[116, 105, 99, 107, 101, 116]⟩ else if t = 2 then ⟨#[112, 97, 114, 116]⟩ else if t = 3 then ⟨#[97, 117, 116, 104]⟩ else ⟨#[98, 97, 99, 107]⟩
/-- A seal's text. -/
def textB (k t a b c d e : Int) : ByteArray := if okB k t a b c d e then ⟨(Lib.join ((wordsOf (nameB t) k a b c d e).map (·.data.toList)) [32]).toArray⟩ else ⟨#[]⟩

theorem in_bounds {n lo hi : Int} (h : inB n lo hi = true) : lo ≤ n ∧ n ≤ hi := by simpa [inB] using h
theorem ok_kinds {k t a b c d e : Int} (h : okB k t a b c d e = true) : t = 1 ∨ t = 2 ∨ t = 3 ∨ t = 4 := by
  unfold okB at h
  by_cases h1 : t = 1
  · exact Or.inl h1
  by_cases h2 : t = 2
  · exact Or.inr (Or.inl h2)
  by_cases h3 : t = 3
  · exact Or.inr (Or.inr (Or.inl h3))
  by_cases h4 : t = 4
  · exact Or.inr (Or.inr (Or.inr h4))
  simp [h1, h2, h3, h4] at h
/-- What is in a seal that is ok is from 0 to 100. -/
theorem ok_bounds {k t a b c d e : Int} (h : okB k t a b c d e = true) : (0 ≤ k ∧ k ≤ 100) ∧ (0 ≤ a ∧ a ≤ 100) ∧ (0 ≤ b ∧ b ≤ 100) ∧ (0 ≤ c ∧ c ≤ 100) ∧ (0 ≤ d ∧ d ≤ 100) ∧ (0 ≤ e ∧ e ≤ 100) := by
  rcases ok_kinds h with rfl | rfl | rfl | rfl
  · simp [okB, ok1, inB] at h; omega
  · simp [okB, ok2, inB] at h; omega
  · simp [okB, ok3, inB] at h; omega
  · simp [okB, ok4, inB] at h; omega

/-- The sum of a word and six texts, a blank between, is their join. -/
theorem sum_join (n x0 x1 x2 x3 x4 x5 : ByteArray) : ((((((((((((n ++ ⟨#[32]⟩) ++ x0) ++ ⟨#[32]⟩) ++ x1) ++ ⟨#[32]⟩) ++ x2) ++ ⟨#[32]⟩) ++ x3) ++ ⟨#[32]⟩) ++ x4) ++ ⟨#[32]⟩) ++ x5) = ⟨(Lib.join ([n, x0, x1, x2, x3, x4, x5].map (·.data.toList)) [32]).toArray⟩ := by
  apply ByteArray.ext
  apply Array.toList_inj.1
  simp [ByteArray.data_append, Lib.join, List.intercalate]

theorem specTextL1 (k a b c d e : Int) (w : World) (hok : okB k 1 a b c d e = true) (n x0 x1 x2 x3 x4 x5 : ByteArray) (hn : n = ⟨#[116, 105, 99, 107, 101, 116]⟩) (s0 : x0.size ≤ 3) (s1 : x1.size ≤ 3) (s2 : x2.size ≤ 3) (s3 : x3.size ≤ 3) (s4 : x4.size ≤ 3) (s5 : x5.size ≤ 3)
    (y0 : Hid (∀ w : World, Calls Tryz.prog 46 #[.int .i64 k] w fun e w' => e = .returned (.string x0) ∧ Below w.heap.size w w')) (y1 : Hid (∀ w : World, Calls Tryz.prog 46 #[.int .i64 a] w fun e w' => e = .returned (.string x1) ∧ Below w.heap.size w w')) (y2 : Hid (∀ w : World, Calls Tryz.prog 46 #[.int .i64 b] w fun e w' => e = .returned (.string x2) ∧ Below w.heap.size w w')) (y3 : Hid (∀ w : World, Calls Tryz.prog 46 #[.int .i64 c] w fun e w' => e = .returned (.string x3) ∧ Below w.heap.size w w')) (y4 : Hid (∀ w : World, Calls Tryz.prog 46 #[.int .i64 d] w fun e w' => e = .returned (.string x4) ∧ Below w.heap.size w w')) (y5 : Hid (∀ w : World, Calls Tryz.prog 46 #[.int .i64 e] w fun e w' => e = .returned (.string x5) ∧ Below w.heap.size w w')) :
    Calls Tryz.prog 41 #[.agg #[.int .i64 k, .int .i64 1, .int .i64 a, .int .i64 b, .int .i64 c, .int .i64 d, .int .i64 e]] w fun r w' => r = .returned (.string ⟨(Lib.join ([n, x0, x1, x2, x3, x4, x5].map (·.data.toList)) [32]).toArray⟩) ∧ Below w.heap.size w w' := by
  rw [← sum_join]
  have sn : n.size = 6 := by rw [hn]; rfl
  have sp : (ByteArray.mk #[32]).size = 1 := rfl
  have hz : ∀ (u v : ByteArray) (w : World), u.size + v.size ≤ 1000 → (Op.stringOp .add u v).run Tryz.prog w = .ok (.string (u ++ v)) w := fun u v w h => run_string_add_sum w u v (by omega)
  have h2 := specText1 k a b c d e w hok x0 x1 x2 x3 x4 x5 (n ++ ⟨#[32]⟩) ((n ++ ⟨#[32]⟩) ++ x0) (((n ++ ⟨#[32]⟩) ++ x0) ++ ⟨#[32]⟩) ((((n ++ ⟨#[32]⟩) ++ x0) ++ ⟨#[32]⟩) ++ x1) (((((n ++ ⟨#[32]⟩) ++ x0) ++ ⟨#[32]⟩) ++ x1) ++ ⟨#[32]⟩) ((((((n ++ ⟨#[32]⟩) ++ x0) ++ ⟨#[32]⟩) ++ x1) ++ ⟨#[32]⟩) ++ x2) (((((((n ++ ⟨#[32]⟩) ++ x0) ++ ⟨#[32]⟩) ++ x1) ++ ⟨#[32]⟩) ++ x2) ++ ⟨#[32]⟩) ((((((((n ++ ⟨#[32]⟩) ++ x0) ++ ⟨#[32]⟩) ++ x1) ++ ⟨#[32]⟩) ++ x2) ++ ⟨#[32]⟩) ++ x3) (((((((((n ++ ⟨#[32]⟩) ++ x0) ++ ⟨#[32]⟩) ++ x1) ++ ⟨#[32]⟩) ++ x2) ++ ⟨#[32]⟩) ++ x3) ++ ⟨#[32]⟩) ((((((((((n ++ ⟨#[32]⟩) ++ x0) ++ ⟨#[32]⟩) ++ x1) ++ ⟨#[32]⟩) ++ x2) ++ ⟨#[32]⟩) ++ x3) ++ ⟨#[32]⟩) ++ x4) (((((((((((n ++ ⟨#[32]⟩) ++ x0) ++ ⟨#[32]⟩) ++ x1) ++ ⟨#[32]⟩) ++ x2) ++ ⟨#[32]⟩) ++ x3) ++ ⟨#[32]⟩) ++ x4) ++ ⟨#[32]⟩) ((((((((((((n ++ ⟨#[32]⟩) ++ x0) ++ ⟨#[32]⟩) ++ x1) ++ ⟨#[32]⟩) ++ x2) ++ ⟨#[32]⟩) ++ x3) ++ ⟨#[32]⟩) ++ x4) ++ ⟨#[32]⟩) ++ x5) y0 y1 y2 y3 y4 y5
  clear y0 y1 y2 y3 y4 y5
  refine h2 ?_ ?_ ?_ ?_ ?_ ?_ ?_ ?_ ?_ ?_ ?_ ?_
  · intro w; rw [← hn]; exact hz _ _ w (by rw [sn, sp]; omega)
  all_goals exact fun w => hz _ _ w (by simp only [ByteArray.size_append, sn, sp]; omega)

theorem specTextOk1 (k a b c d e : Int) (w : World) (hok : okB k 1 a b c d e = true) :
    Calls Tryz.prog 41 #[.agg #[.int .i64 k, .int .i64 1, .int .i64 a, .int .i64 b, .int .i64 c, .int .i64 d, .int .i64 e]] w fun r w' => r = .returned (.string (textB k 1 a b c d e)) ∧ Below w.heap.size w w' := by
  obtain ⟨⟨k0, k1⟩, ⟨a0, a1⟩, ⟨b0, b1⟩, ⟨c0, c1⟩, ⟨d0, d1⟩, ⟨e0, e1⟩⟩ := ok_bounds hok
  have hx : textB k 1 a b c d e = ⟨(Lib.join ([nameB 1, decB k, decB a, decB b, decB c, decB d, decB e].map (·.data.toList)) [32]).toArray⟩ := by unfold textB; rw [if_pos hok]; rfl
  rw [hx]
  exact specTextL1 k a b c d e w hok (nameB 1) _ _ _ _ _ _ rfl (decB_size k0 (by omega)) (decB_size a0 (by omega)) (decB_size b0 (by omega)) (decB_size c0 (by omega)) (decB_size d0 (by omega)) (decB_size e0 (by omega)) (fun w => l6Dec_any k k0 (by omega) w) (fun w => l6Dec_any a a0 (by omega) w) (fun w => l6Dec_any b b0 (by omega) w) (fun w => l6Dec_any c c0 (by omega) w) (fun w => l6Dec_any d d0 (by omega) w) (fun w => l6Dec_any e e0 (by omega) w)

theorem specTextL2 (k a b c d e : Int) (w : World) (hok : okB k 2 a b c d e = true) (n x0 x1 x2 x3 x4 x5 : ByteArray) (hn : n = ⟨#[112, 97, 114, 116]⟩) (s0 : x0.size ≤ 3) (s1 : x1.size ≤ 3) (s2 : x2.size ≤ 3) (s3 : x3.size ≤ 3) (s4 : x4.size ≤ 3) (s5 : x5.size ≤ 3)
    (y0 : Hid (∀ w : World, Calls Tryz.prog 46 #[.int .i64 k] w fun e w' => e = .returned (.string x0) ∧ Below w.heap.size w w')) (y1 : Hid (∀ w : World, Calls Tryz.prog 46 #[.int .i64 a] w fun e w' => e = .returned (.string x1) ∧ Below w.heap.size w w')) (y2 : Hid (∀ w : World, Calls Tryz.prog 46 #[.int .i64 b] w fun e w' => e = .returned (.string x2) ∧ Below w.heap.size w w')) (y3 : Hid (∀ w : World, Calls Tryz.prog 46 #[.int .i64 c] w fun e w' => e = .returned (.string x3) ∧ Below w.heap.size w w')) (y4 : Hid (∀ w : World, Calls Tryz.prog 46 #[.int .i64 d] w fun e w' => e = .returned (.string x4) ∧ Below w.heap.size w w')) (y5 : Hid (∀ w : World, Calls Tryz.prog 46 #[.int .i64 e] w fun e w' => e = .returned (.string x5) ∧ Below w.heap.size w w')) :
    Calls Tryz.prog 41 #[.agg #[.int .i64 k, .int .i64 2, .int .i64 a, .int .i64 b, .int .i64 c, .int .i64 d, .int .i64 e]] w fun r w' => r = .returned (.string ⟨(Lib.join ([n, x0, x1, x2, x3, x4, x5].map (·.data.toList)) [32]).toArray⟩) ∧ Below w.heap.size w w' := by
  rw [← sum_join]
  have sn : n.size = 4 := by rw [hn]; rfl
  have sp : (ByteArray.mk #[32]).size = 1 := rfl
  have hz : ∀ (u v : ByteArray) (w : World), u.size + v.size ≤ 1000 → (Op.stringOp .add u v).run Tryz.prog w = .ok (.string (u ++ v)) w := fun u v w h => run_string_add_sum w u v (by omega)
  have h2 := specText2 k a b c d e w hok x0 x1 x2 x3 x4 x5 (n ++ ⟨#[32]⟩) ((n ++ ⟨#[32]⟩) ++ x0) (((n ++ ⟨#[32]⟩) ++ x0) ++ ⟨#[32]⟩) ((((n ++ ⟨#[32]⟩) ++ x0) ++ ⟨#[32]⟩) ++ x1) (((((n ++ ⟨#[32]⟩) ++ x0) ++ ⟨#[32]⟩) ++ x1) ++ ⟨#[32]⟩) ((((((n ++ ⟨#[32]⟩) ++ x0) ++ ⟨#[32]⟩) ++ x1) ++ ⟨#[32]⟩) ++ x2) (((((((n ++ ⟨#[32]⟩) ++ x0) ++ ⟨#[32]⟩) ++ x1) ++ ⟨#[32]⟩) ++ x2) ++ ⟨#[32]⟩) ((((((((n ++ ⟨#[32]⟩) ++ x0) ++ ⟨#[32]⟩) ++ x1) ++ ⟨#[32]⟩) ++ x2) ++ ⟨#[32]⟩) ++ x3) (((((((((n ++ ⟨#[32]⟩) ++ x0) ++ ⟨#[32]⟩) ++ x1) ++ ⟨#[32]⟩) ++ x2) ++ ⟨#[32]⟩) ++ x3) ++ ⟨#[32]⟩) ((((((((((n ++ ⟨#[32]⟩) ++ x0) ++ ⟨#[32]⟩) ++ x1) ++ ⟨#[32]⟩) ++ x2) ++ ⟨#[32]⟩) ++ x3) ++ ⟨#[32]⟩) ++ x4) (((((((((((n ++ ⟨#[32]⟩) ++ x0) ++ ⟨#[32]⟩) ++ x1) ++ ⟨#[32]⟩) ++ x2) ++ ⟨#[32]⟩) ++ x3) ++ ⟨#[32]⟩) ++ x4) ++ ⟨#[32]⟩) ((((((((((((n ++ ⟨#[32]⟩) ++ x0) ++ ⟨#[32]⟩) ++ x1) ++ ⟨#[32]⟩) ++ x2) ++ ⟨#[32]⟩) ++ x3) ++ ⟨#[32]⟩) ++ x4) ++ ⟨#[32]⟩) ++ x5) y0 y1 y2 y3 y4 y5
  clear y0 y1 y2 y3 y4 y5
  refine h2 ?_ ?_ ?_ ?_ ?_ ?_ ?_ ?_ ?_ ?_ ?_ ?_
  · intro w; rw [← hn]; exact hz _ _ w (by rw [sn, sp]; omega)
  all_goals exact fun w => hz _ _ w (by simp only [ByteArray.size_append, sn, sp]; omega)

theorem specTextOk2 (k a b c d e : Int) (w : World) (hok : okB k 2 a b c d e = true) :
    Calls Tryz.prog 41 #[.agg #[.int .i64 k, .int .i64 2, .int .i64 a, .int .i64 b, .int .i64 c, .int .i64 d, .int .i64 e]] w fun r w' => r = .returned (.string (textB k 2 a b c d e)) ∧ Below w.heap.size w w' := by
  obtain ⟨⟨k0, k1⟩, ⟨a0, a1⟩, ⟨b0, b1⟩, ⟨c0, c1⟩, ⟨d0, d1⟩, ⟨e0, e1⟩⟩ := ok_bounds hok
  have hx : textB k 2 a b c d e = ⟨(Lib.join ([nameB 2, decB k, decB a, decB b, decB c, decB d, decB e].map (·.data.toList)) [32]).toArray⟩ := by unfold textB; rw [if_pos hok]; rfl
  rw [hx]
  exact specTextL2 k a b c d e w hok (nameB 2) _ _ _ _ _ _ rfl (decB_size k0 (by omega)) (decB_size a0 (by omega)) (decB_size b0 (by omega)) (decB_size c0 (by omega)) (decB_size d0 (by omega)) (decB_size e0 (by omega)) (fun w => l6Dec_any k k0 (by omega) w) (fun w => l6Dec_any a a0 (by omega) w) (fun w => l6Dec_any b b0 (by omega) w) (fun w => l6Dec_any c c0 (by omega) w) (fun w => l6Dec_any d d0 (by omega) w) (fun w => l6Dec_any e e0 (by omega) w)

theorem specTextL3 (k a b c d e : Int) (w : World) (hok : okB k 3 a b c d e = true) (n x0 x1 x2 x3 x4 x5 : ByteArray) (hn : n = ⟨#[97, 117, 116, 104]⟩) (s0 : x0.size ≤ 3) (s1 : x1.size ≤ 3) (s2 : x2.size ≤ 3) (s3 : x3.size ≤ 3) (s4 : x4.size ≤ 3) (s5 : x5.size ≤ 3)
    (y0 : Hid (∀ w : World, Calls Tryz.prog 46 #[.int .i64 k] w fun e w' => e = .returned (.string x0) ∧ Below w.heap.size w w')) (y1 : Hid (∀ w : World, Calls Tryz.prog 46 #[.int .i64 a] w fun e w' => e = .returned (.string x1) ∧ Below w.heap.size w w')) (y2 : Hid (∀ w : World, Calls Tryz.prog 46 #[.int .i64 b] w fun e w' => e = .returned (.string x2) ∧ Below w.heap.size w w')) (y3 : Hid (∀ w : World, Calls Tryz.prog 46 #[.int .i64 c] w fun e w' => e = .returned (.string x3) ∧ Below w.heap.size w w')) (y4 : Hid (∀ w : World, Calls Tryz.prog 46 #[.int .i64 d] w fun e w' => e = .returned (.string x4) ∧ Below w.heap.size w w')) (y5 : Hid (∀ w : World, Calls Tryz.prog 46 #[.int .i64 e] w fun e w' => e = .returned (.string x5) ∧ Below w.heap.size w w')) :
    Calls Tryz.prog 41 #[.agg #[.int .i64 k, .int .i64 3, .int .i64 a, .int .i64 b, .int .i64 c, .int .i64 d, .int .i64 e]] w fun r w' => r = .returned (.string ⟨(Lib.join ([n, x0, x1, x2, x3, x4, x5].map (·.data.toList)) [32]).toArray⟩) ∧ Below w.heap.size w w' := by
  rw [← sum_join]
  have sn : n.size = 4 := by rw [hn]; rfl
  have sp : (ByteArray.mk #[32]).size = 1 := rfl
  have hz : ∀ (u v : ByteArray) (w : World), u.size + v.size ≤ 1000 → (Op.stringOp .add u v).run Tryz.prog w = .ok (.string (u ++ v)) w := fun u v w h => run_string_add_sum w u v (by omega)
  have h2 := specText3 k a b c d e w hok x0 x1 x2 x3 x4 x5 (n ++ ⟨#[32]⟩) ((n ++ ⟨#[32]⟩) ++ x0) (((n ++ ⟨#[32]⟩) ++ x0) ++ ⟨#[32]⟩) ((((n ++ ⟨#[32]⟩) ++ x0) ++ ⟨#[32]⟩) ++ x1) (((((n ++ ⟨#[32]⟩) ++ x0) ++ ⟨#[32]⟩) ++ x1) ++ ⟨#[32]⟩) ((((((n ++ ⟨#[32]⟩) ++ x0) ++ ⟨#[32]⟩) ++ x1) ++ ⟨#[32]⟩) ++ x2) (((((((n ++ ⟨#[32]⟩) ++ x0) ++ ⟨#[32]⟩) ++ x1) ++ ⟨#[32]⟩) ++ x2) ++ ⟨#[32]⟩) ((((((((n ++ ⟨#[32]⟩) ++ x0) ++ ⟨#[32]⟩) ++ x1) ++ ⟨#[32]⟩) ++ x2) ++ ⟨#[32]⟩) ++ x3) (((((((((n ++ ⟨#[32]⟩) ++ x0) ++ ⟨#[32]⟩) ++ x1) ++ ⟨#[32]⟩) ++ x2) ++ ⟨#[32]⟩) ++ x3) ++ ⟨#[32]⟩) ((((((((((n ++ ⟨#[32]⟩) ++ x0) ++ ⟨#[32]⟩) ++ x1) ++ ⟨#[32]⟩) ++ x2) ++ ⟨#[32]⟩) ++ x3) ++ ⟨#[32]⟩) ++ x4) (((((((((((n ++ ⟨#[32]⟩) ++ x0) ++ ⟨#[32]⟩) ++ x1) ++ ⟨#[32]⟩) ++ x2) ++ ⟨#[32]⟩) ++ x3) ++ ⟨#[32]⟩) ++ x4) ++ ⟨#[32]⟩) ((((((((((((n ++ ⟨#[32]⟩) ++ x0) ++ ⟨#[32]⟩) ++ x1) ++ ⟨#[32]⟩) ++ x2) ++ ⟨#[32]⟩) ++ x3) ++ ⟨#[32]⟩) ++ x4) ++ ⟨#[32]⟩) ++ x5) y0 y1 y2 y3 y4 y5
  clear y0 y1 y2 y3 y4 y5
  refine h2 ?_ ?_ ?_ ?_ ?_ ?_ ?_ ?_ ?_ ?_ ?_ ?_
  · intro w; rw [← hn]; exact hz _ _ w (by rw [sn, sp]; omega)
  all_goals exact fun w => hz _ _ w (by simp only [ByteArray.size_append, sn, sp]; omega)

theorem specTextOk3 (k a b c d e : Int) (w : World) (hok : okB k 3 a b c d e = true) :
    Calls Tryz.prog 41 #[.agg #[.int .i64 k, .int .i64 3, .int .i64 a, .int .i64 b, .int .i64 c, .int .i64 d, .int .i64 e]] w fun r w' => r = .returned (.string (textB k 3 a b c d e)) ∧ Below w.heap.size w w' := by
  obtain ⟨⟨k0, k1⟩, ⟨a0, a1⟩, ⟨b0, b1⟩, ⟨c0, c1⟩, ⟨d0, d1⟩, ⟨e0, e1⟩⟩ := ok_bounds hok
  have hx : textB k 3 a b c d e = ⟨(Lib.join ([nameB 3, decB k, decB a, decB b, decB c, decB d, decB e].map (·.data.toList)) [32]).toArray⟩ := by unfold textB; rw [if_pos hok]; rfl
  rw [hx]
  exact specTextL3 k a b c d e w hok (nameB 3) _ _ _ _ _ _ rfl (decB_size k0 (by omega)) (decB_size a0 (by omega)) (decB_size b0 (by omega)) (decB_size c0 (by omega)) (decB_size d0 (by omega)) (decB_size e0 (by omega)) (fun w => l6Dec_any k k0 (by omega) w) (fun w => l6Dec_any a a0 (by omega) w) (fun w => l6Dec_any b b0 (by omega) w) (fun w => l6Dec_any c c0 (by omega) w) (fun w => l6Dec_any d d0 (by omega) w) (fun w => l6Dec_any e e0 (by omega) w)

theorem specTextL4 (k a b c d e : Int) (w : World) (hok : okB k 4 a b c d e = true) (n x0 x1 x2 x3 x4 x5 : ByteArray) (hn : n = ⟨#[98, 97, 99, 107]⟩) (s0 : x0.size ≤ 3) (s1 : x1.size ≤ 3) (s2 : x2.size ≤ 3) (s3 : x3.size ≤ 3) (s4 : x4.size ≤ 3) (s5 : x5.size ≤ 3)
    (y0 : Hid (∀ w : World, Calls Tryz.prog 46 #[.int .i64 k] w fun e w' => e = .returned (.string x0) ∧ Below w.heap.size w w')) (y1 : Hid (∀ w : World, Calls Tryz.prog 46 #[.int .i64 a] w fun e w' => e = .returned (.string x1) ∧ Below w.heap.size w w')) (y2 : Hid (∀ w : World, Calls Tryz.prog 46 #[.int .i64 b] w fun e w' => e = .returned (.string x2) ∧ Below w.heap.size w w')) (y3 : Hid (∀ w : World, Calls Tryz.prog 46 #[.int .i64 c] w fun e w' => e = .returned (.string x3) ∧ Below w.heap.size w w')) (y4 : Hid (∀ w : World, Calls Tryz.prog 46 #[.int .i64 d] w fun e w' => e = .returned (.string x4) ∧ Below w.heap.size w w')) (y5 : Hid (∀ w : World, Calls Tryz.prog 46 #[.int .i64 e] w fun e w' => e = .returned (.string x5) ∧ Below w.heap.size w w')) :
    Calls Tryz.prog 41 #[.agg #[.int .i64 k, .int .i64 4, .int .i64 a, .int .i64 b, .int .i64 c, .int .i64 d, .int .i64 e]] w fun r w' => r = .returned (.string ⟨(Lib.join ([n, x0, x1, x2, x3, x4, x5].map (·.data.toList)) [32]).toArray⟩) ∧ Below w.heap.size w w' := by
  rw [← sum_join]
  have sn : n.size = 4 := by rw [hn]; rfl
  have sp : (ByteArray.mk #[32]).size = 1 := rfl
  have hz : ∀ (u v : ByteArray) (w : World), u.size + v.size ≤ 1000 → (Op.stringOp .add u v).run Tryz.prog w = .ok (.string (u ++ v)) w := fun u v w h => run_string_add_sum w u v (by omega)
  have h2 := specText4 k a b c d e w hok x0 x1 x2 x3 x4 x5 (n ++ ⟨#[32]⟩) ((n ++ ⟨#[32]⟩) ++ x0) (((n ++ ⟨#[32]⟩) ++ x0) ++ ⟨#[32]⟩) ((((n ++ ⟨#[32]⟩) ++ x0) ++ ⟨#[32]⟩) ++ x1) (((((n ++ ⟨#[32]⟩) ++ x0) ++ ⟨#[32]⟩) ++ x1) ++ ⟨#[32]⟩) ((((((n ++ ⟨#[32]⟩) ++ x0) ++ ⟨#[32]⟩) ++ x1) ++ ⟨#[32]⟩) ++ x2) (((((((n ++ ⟨#[32]⟩) ++ x0) ++ ⟨#[32]⟩) ++ x1) ++ ⟨#[32]⟩) ++ x2) ++ ⟨#[32]⟩) ((((((((n ++ ⟨#[32]⟩) ++ x0) ++ ⟨#[32]⟩) ++ x1) ++ ⟨#[32]⟩) ++ x2) ++ ⟨#[32]⟩) ++ x3) (((((((((n ++ ⟨#[32]⟩) ++ x0) ++ ⟨#[32]⟩) ++ x1) ++ ⟨#[32]⟩) ++ x2) ++ ⟨#[32]⟩) ++ x3) ++ ⟨#[32]⟩) ((((((((((n ++ ⟨#[32]⟩) ++ x0) ++ ⟨#[32]⟩) ++ x1) ++ ⟨#[32]⟩) ++ x2) ++ ⟨#[32]⟩) ++ x3) ++ ⟨#[32]⟩) ++ x4) (((((((((((n ++ ⟨#[32]⟩) ++ x0) ++ ⟨#[32]⟩) ++ x1) ++ ⟨#[32]⟩) ++ x2) ++ ⟨#[32]⟩) ++ x3) ++ ⟨#[32]⟩) ++ x4) ++ ⟨#[32]⟩) ((((((((((((n ++ ⟨#[32]⟩) ++ x0) ++ ⟨#[32]⟩) ++ x1) ++ ⟨#[32]⟩) ++ x2) ++ ⟨#[32]⟩) ++ x3) ++ ⟨#[32]⟩) ++ x4) ++ ⟨#[32]⟩) ++ x5) y0 y1 y2 y3 y4 y5
  clear y0 y1 y2 y3 y4 y5
  refine h2 ?_ ?_ ?_ ?_ ?_ ?_ ?_ ?_ ?_ ?_ ?_ ?_
  · intro w; rw [← hn]; exact hz _ _ w (by rw [sn, sp]; omega)
  all_goals exact fun w => hz _ _ w (by simp only [ByteArray.size_append, sn, sp]; omega)

theorem specTextOk4 (k a b c d e : Int) (w : World) (hok : okB k 4 a b c d e = true) :
    Calls Tryz.prog 41 #[.agg #[.int .i64 k, .int .i64 4, .int .i64 a, .int .i64 b, .int .i64 c, .int .i64 d, .int .i64 e]] w fun r w' => r = .returned (.string (textB k 4 a b c d e)) ∧ Below w.heap.size w w' := by
  obtain ⟨⟨k0, k1⟩, ⟨a0, a1⟩, ⟨b0, b1⟩, ⟨c0, c1⟩, ⟨d0, d1⟩, ⟨e0, e1⟩⟩ := ok_bounds hok
  have hx : textB k 4 a b c d e = ⟨(Lib.join ([nameB 4, decB k, decB a, decB b, decB c, decB d, decB e].map (·.data.toList)) [32]).toArray⟩ := by unfold textB; rw [if_pos hok]; rfl
  rw [hx]
  exact specTextL4 k a b c d e w hok (nameB 4) _ _ _ _ _ _ rfl (decB_size k0 (by omega)) (decB_size a0 (by omega)) (decB_size b0 (by omega)) (decB_size c0 (by omega)) (decB_size d0 (by omega)) (decB_size e0 (by omega)) (fun w => l6Dec_any k k0 (by omega) w) (fun w => l6Dec_any a a0 (by omega) w) (fun w => l6Dec_any b b0 (by omega) w) (fun w => l6Dec_any c c0 (by omega) w) (fun w => l6Dec_any d d0 (by omega) w) (fun w => l6Dec_any e e0 (by omega) w)

set_option maxHeartbeats 400000 in
theorem specTextNot (k t a b c d e : Int) (w : World) (h : okB k t a b c d e = false) :
    Calls Tryz.prog 41 #[.agg #[.int .i64 k, .int .i64 t, .int .i64 a, .int .i64 b, .int .i64 c, .int .i64 d, .int .i64 e]] w fun r w' => r = .returned (.string ⟨#[]⟩) ∧ Below w.heap.size w w' := by
  go_enter Tryz.func41, Tryz.ntmps41
  go_wp2_with (go_at_call 65; refine (specOk_any _ _ _ _ _ _ _ _).mono ?_; rintro r1 w1 ⟨rfl, hb1⟩)
  go_ret
  exact ⟨rfl, ((Below.refl _ _).alloc (Nat.le_refl _) _).trans (hb1.mono (by simp))⟩

/-- The specification's SealText, whatever the seal. -/
theorem specText_any (k t a b c d e : Int) (w : World) :
    Calls Tryz.prog 41 #[.agg #[.int .i64 k, .int .i64 t, .int .i64 a, .int .i64 b, .int .i64 c, .int .i64 d, .int .i64 e]] w fun r w' => r = .returned (.string (textB k t a b c d e)) ∧ Below w.heap.size w w' := by
  cases h : okB k t a b c d e
  · have hx : textB k t a b c d e = ⟨#[]⟩ := by unfold textB; rw [h]; rfl
    rw [hx]
    exact specTextNot k t a b c d e w h
  · rcases ok_kinds h with rfl | rfl | rfl | rfl
    · exact specTextOk1 k a b c d e w h
    · exact specTextOk2 k a b c d e w h
    · exact specTextOk3 k a b c d e w h
    · exact specTextOk4 k a b c d e w h

/-- A seal that is not ok is nothing, and false. -/
theorem okSealedNot (k t a b c d e : Int) (w : World) (h : okB k t a b c d e = false) :
    Calls Tryz.prog 62 #[.agg #[.int .i64 k, .int .i64 t, .int .i64 a, .int .i64 b, .int .i64 c, .int .i64 d, .int .i64 e]] w fun r w' => r = .returned (.tuple #[.nilIface, .bool false]) ∧ Below w.heap.size w w' := by
  cases ho : odd t c d e
  · rcases not_odd ho with rfl | ⟨rfl, rfl⟩ | ⟨rfl, rfl, rfl⟩ | ⟨rfl, rfl, rfl, rfl⟩
    · have hk : ok1 k a b c d e = false := by simpa [okB] using h
      simpa [hk] using okSealed1_any k a b c d e w
    · have hk : ok2 k a b c d 0 = false := by simpa [okB] using h
      simpa [hk] using okSealed2_any k a b c d w
    · have hk : ok3 k a b c 0 0 = false := by simpa [okB] using h
      simpa [hk] using okSealed3_any k a b c w
    · have hk : ok4 k a b 0 0 0 = false := by simpa [okB] using h
      simpa [hk] using okSealed4_any k a b w
  · exact okSealed0_any k t a b c d e w ho

set_option maxHeartbeats 400000 in
theorem implTextNot (k t a b c d e : Int) (w : World) (h : okB k t a b c d e = false) :
    Calls Tryz.prog 37 #[.agg #[.int .i64 k, .int .i64 t, .int .i64 a, .int .i64 b, .int .i64 c, .int .i64 d, .int .i64 e]] w fun r w' => r = .returned (.string ⟨#[]⟩) ∧ Below w.heap.size w w' := by
  go_enter Tryz.func37, Tryz.ntmps37
  go_wp2_with (go_at_call 62; refine (okSealedNot _ _ _ _ _ _ _ _ h).mono ?_; rintro r1 w1 ⟨rfl, hb1⟩)
  go_ret
  exact ⟨rfl, ((Below.refl _ _).alloc (Nat.le_refl _) _).trans (hb1.mono (by simp))⟩

/-- The program's SealText, whatever the seal. -/
theorem implText_any (k t a b c d e : Int) (w : World) (htab : Lib.TabIs Tryz.prog w "internal/strconv.uint64pow10" .u64 Lib.pow10Tab) :
    Calls Tryz.prog 37 #[.agg #[.int .i64 k, .int .i64 t, .int .i64 a, .int .i64 b, .int .i64 c, .int .i64 d, .int .i64 e]] w fun r w' => r = .returned (.string (textB k t a b c d e)) ∧ Below w.heap.size w w' := by
  cases h : okB k t a b c d e
  · have hx : textB k t a b c d e = ⟨#[]⟩ := by unfold textB; rw [h]; rfl
    rw [hx]
    exact implTextNot k t a b c d e w h
  · obtain ⟨⟨k0, k1⟩, ⟨a0, a1⟩, ⟨b0, b1⟩, ⟨c0, c1⟩, ⟨d0, d1⟩, ⟨e0, e1⟩⟩ := ok_bounds h
    have hx : textB k t a b c d e = ⟨(Lib.join ((wordsOf (nameB t) k a b c d e).map (·.data.toList)) [32]).toArray⟩ := by unfold textB; rw [if_pos h]
    rw [hx]
    have ho : odd t c d e = false := by
      cases ho : odd t c d e
      · rfl
      · rw [odd_not_ok k a b ho] at h; exact absurd h (by simp)
    rcases not_odd ho with rfl | ⟨rfl, rfl⟩ | ⟨rfl, rfl, rfl⟩ | ⟨rfl, rfl, rfl, rfl⟩
    · have hk : ok1 k a b c d e = true := by simpa [okB] using h
      exact implText_ok k 1 a b c d e _ _ w (by decide) k0 (by omega) a0 (by omega) b0 (by omega) c0 (by omega) d0 (by omega) e0 (by omega) htab (fun w => by simpa [hk] using okSealed1_any k a b c d e w) (fun w => sealWord1_any _ w)
    · have hk : ok2 k a b c d 0 = true := by simpa [okB] using h
      exact implText_ok k 2 a b c d 0 _ _ w (by decide) k0 (by omega) a0 (by omega) b0 (by omega) c0 (by omega) d0 (by omega) e0 (by omega) htab (fun w => by simpa [hk] using okSealed2_any k a b c d w) (fun w => sealWord2_any _ w)
    · have hk : ok3 k a b c 0 0 = true := by simpa [okB] using h
      exact implText_ok k 3 a b c 0 0 _ _ w (by decide) k0 (by omega) a0 (by omega) b0 (by omega) c0 (by omega) d0 (by omega) e0 (by omega) htab (fun w => by simpa [hk] using okSealed3_any k a b c w) (fun w => sealWord3_any _ w)
    · have hk : ok4 k a b 0 0 0 = true := by simpa [okB] using h
      exact implText_ok k 4 a b 0 0 0 _ _ w (by decide) k0 (by omega) a0 (by omega) b0 (by omega) c0 (by omega) d0 (by omega) e0 (by omega) htab (fun w => by simpa [hk] using okSealed4_any k a b w) (fun w => sealWord4_any _ w)

end Go.Proofs.YtopikapamfmalaaGreatDoor
