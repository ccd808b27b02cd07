/-
  Of texts and seals: the text of a seal that is ok, cut at blanks in either way, is its word and its numbers, and each of them is read back.
-/
import Derived.Test.YtopikapamfmalaaGreatDoorSpecCut
import Derived.Test.YtopikapamfmalaaGreatDoorCutMath
namespace Go.Proofs.YtopikapamfmalaaGreatDoor
open Go.RowKit

theorem index_at : ∀ (l r : List UInt8), (32 : UInt8) ∉ l → Lib.indexByte (l ++ 32 :: r) 32 = l.length
  | [], r, _ => by simp [Lib.indexByte]
  | a :: l, r, h => by
    have h1 : ¬ (a == 32) = true := fun e => h (by rw [beq_iff_eq.1 e]; simp)
    have ih := index_at l r (fun e => h (List.mem_cons_of_mem _ e))
    rw [List.cons_append, Lib.indexByte, if_neg h1, ih, if_neg (by simp)]
    simp
theorem index_no : ∀ (l : List UInt8), (32 : UInt8) ∉ l → Lib.indexByte l 32 = -1
  | [], _ => by simp [Lib.indexByte]
  | a :: l, h => by
    have h1 : ¬ (a == 32) = true := fun e => h (by rw [beq_iff_eq.1 e]; simp)
    rw [Lib.indexByte, if_neg h1, index_no l (fun e => h (List.mem_cons_of_mem _ e))]; rfl
theorem split_at (k : Nat) (l r : List UInt8) (h : (32 : UInt8) ∉ l) : Lib.splitK [32] 0 (k + 1) (l ++ 32 :: r) = l :: Lib.splitK [32] 0 k r := by
  rw [Lib.splitK, Lib.index_one, index_at l r h, if_neg (by simp)]
  simp
theorem split_no (k : Nat) (l : List UInt8) (h : (32 : UInt8) ∉ l) : Lib.splitK [32] 0 (k + 1) l = [l] := by
  rw [Lib.splitK, Lib.index_one, index_no l h]; rfl

theorem step_word {p : UInt8} : ∀ (l : List UInt8) (acc : List ByteArray) (x : ByteArray), p ∉ l → l.foldl (cutStep p) (acc ++ [x]) = acc ++ [x ++ ⟨l.toArray⟩]
  | [], acc, x, _ => by
    have e : x ++ (⟨([] : List UInt8).toArray⟩ : ByteArray) = x := by apply ByteArray.ext; simp
    rw [e]; rfl
  | a :: l, acc, x, h => by
    have h1 : ¬ a = p := fun e => h (by rw [e]; simp)
    have e : cutStep p (acc ++ [x]) a = acc ++ [x ++ ⟨#[a]⟩] := by rw [cutStep, if_neg h1]; simp
    rw [List.foldl_cons, e, step_word l acc (x ++ ⟨#[a]⟩) (fun e => h (List.mem_cons_of_mem _ e))]
    congr 2
    apply ByteArray.ext
    simp
theorem cutStep_at {p : UInt8} (l r : List UInt8) (acc : List ByteArray) (h : p ∉ l) : (l ++ p :: r).foldl (cutStep p) (acc ++ [⟨#[]⟩]) = r.foldl (cutStep p) ((acc ++ [⟨l.toArray⟩]) ++ [⟨#[]⟩]) := by
  have e : (⟨#[]⟩ : ByteArray) ++ ⟨l.toArray⟩ = ⟨l.toArray⟩ := by apply ByteArray.ext; simp
  rw [List.foldl_append, step_word l acc ⟨#[]⟩ h, List.foldl_cons, e, cutStep, if_pos rfl]
theorem cut_no {p : UInt8} (l : List UInt8) (acc : List ByteArray) (h : p ∉ l) : l.foldl (cutStep p) (acc ++ [⟨#[]⟩]) = acc ++ [⟨l.toArray⟩] := by
  have e : (⟨#[]⟩ : ByteArray) ++ ⟨l.toArray⟩ = ⟨l.toArray⟩ := by apply ByteArray.ext; simp
  rw [step_word l acc ⟨#[]⟩ h, e]

/-- The text of a seal that is ok, cut by the specification. -/
theorem cut_text {k t a b c d e : Int} (h : okB k t a b c d e = true) : cutL 32 (textB k t a b c d e).data.toList = [nameB t, decB k, decB a, decB b, decB c, decB d, decB e] := by
  obtain ⟨⟨k0, k1⟩, ⟨a0, a1⟩, ⟨b0, b1⟩, ⟨c0, c1⟩, ⟨d0, d1⟩, ⟨e0, e1⟩⟩ := ok_bounds h
  rw [text_list h, cutL, show [(⟨#[]⟩ : ByteArray)] = [] ++ [⟨#[]⟩] from rfl]
  rw [cutStep_at _ _ _ (name_blank t), cutStep_at _ _ _ (digL_blank k0 (by omega)), cutStep_at _ _ _ (digL_blank a0 (by omega)), cutStep_at _ _ _ (digL_blank b0 (by omega)), cutStep_at _ _ _ (digL_blank c0 (by omega)), cutStep_at _ _ _ (digL_blank d0 (by omega)), cut_no _ _ (digL_blank e0 (by omega))]
  rfl
theorem text_60 {k t a b c d e : Int} (h : okB k t a b c d e = true) : (textB k t a b c d e).size ≤ 60 ∧ 7 ≤ (textB k t a b c d e).size := by
  obtain ⟨⟨k0, k1⟩, ⟨a0, a1⟩, ⟨b0, b1⟩, ⟨c0, c1⟩, ⟨d0, d1⟩, ⟨e0, e1⟩⟩ := ok_bounds h
  have hl := congrArg List.length (text_list h)
  have L : ∀ {n : Int}, 0 ≤ n → n < 1000 → (digL n).length ≤ 3 := fun {n} p q => by have := decB_size p q; simpa [decB, digL, ByteArray.size] using this
  have l1 := L k0 (by omega)
  have l2 := L a0 (by omega)
  have l3 := L b0 (by omega)
  have l4 := L c0 (by omega)
  have l5 := L d0 (by omega)
  have l6 := L e0 (by omega)
  have ln : 1 ≤ (nameB t).data.toList.length ∧ (nameB t).data.toList.length ≤ 6 := by rcases ok_kinds h with rfl | rfl | rfl | rfl <;> decide
  have es : (textB k t a b c d e).data.toList.length = (textB k t a b c d e).size := by rw [Array.length_toList]; rfl
  rw [es] at hl
  simp only [List.length_append, List.length_cons] at hl
  omega

/-- The text of a seal that is ok, cut by the program. -/
theorem pieces_text {k t a b c d e : Int} (h : okB k t a b c d e = true) : pieces (textB k t a b c d e) = [nameB t, decB k, decB a, decB b, decB c, decB d, decB e] := by
  obtain ⟨⟨k0, k1⟩, ⟨a0, a1⟩, ⟨b0, b1⟩, ⟨c0, c1⟩, ⟨d0, d1⟩, ⟨e0, e1⟩⟩ := ok_bounds h
  have hm : (pieces (textB k t a b c d e)).map (·.data.toList) = ([nameB t, decB k, decB a, decB b, decB c, decB d, decB e] : List ByteArray).map (·.data.toList) := by
    have hs : min 8 ((textB k t a b c d e).size + 1) - 1 = 7 := by have := (text_60 h).2; omega
    rw [pieces, hs, Lib.splitB_data, text_list h]
    show Lib.splitK [32] 0 7 _ = _
    rw [split_at _ _ _ (name_blank t), split_at _ _ _ (digL_blank k0 (by omega)), split_at _ _ _ (digL_blank a0 (by omega)), split_at _ _ _ (digL_blank b0 (by omega)), split_at _ _ _ (digL_blank c0 (by omega)), split_at _ _ _ (digL_blank d0 (by omega)), split_no _ _ (digL_blank e0 (by omega))]
    rfl
  exact (List.map_inj_right (fun x y hxy => ByteArray.ext (Array.toList_inj.1 hxy))).1 hm
def isOk (n : Int) : Lib.NumEnd Int → Bool
  | .ok v => v == n
  | _ => false
theorem dec_back_nat : ∀ n : Fin 1000, decI ⟨(Lib.decDigits n.1).toArray⟩ = n.1 ∧ isOk n.1 (Lib.atoiAll (Lib.decDigits n.1)) = true := by decide +kernel
theorem dec_back {n : Int} (h0 : 0 ≤ n) (h1 : n < 1000) : decI (decB n) = n := by
  have := (dec_back_nat ⟨n.toNat, by omega⟩).1
  simp only at this
  rw [decB, this]; omega
theorem atoi_back {n : Int} (h0 : 0 ≤ n) (h1 : n < 1000) : Lib.atoiAll (decB n).data.toList = .ok n := by
  have h := (dec_back_nat ⟨n.toNat, by omega⟩).2
  have e : (decB n).data.toList = Lib.decDigits n.toNat := rfl
  rw [e]
  simp only at h
  cases hc : Lib.atoiAll (Lib.decDigits n.toNat) with
  | ok v => rw [hc] at h; have hv : v = ((n.toNat : Nat) : Int) := beq_iff_eq.1 h; rw [hv]; congr 1; omega
  | «syntax» => rw [hc] at h; cases h
  | range => rw [hc] at h; cases h
theorem kind_back {t : Int} (h : t = 1 ∨ t = 2 ∨ t = 3 ∨ t = 4) : kindI (nameB t) = t := by
  rcases h with rfl | rfl | rfl | rfl <;> simp [kindI, nameB, ByteArray.toList_eq]
/-- A seal that is ok is read back. -/
theorem par_of {k t a b c d e : Int} (h : okB k t a b c d e = true) : Par (textB k t a b c d e) k t a b c d e := by
  obtain ⟨⟨k0, k1⟩, ⟨a0, a1⟩, ⟨b0, b1⟩, ⟨c0, c1⟩, ⟨d0, d1⟩, ⟨e0, e1⟩⟩ := ok_bounds h
  exact ⟨_, _, _, _, _, _, _, pieces_text h, kind_back (ok_kinds h), atoi_back k0 (by omega), atoi_back a0 (by omega), atoi_back b0 (by omega), atoi_back c0 (by omega), atoi_back d0 (by omega), atoi_back e0 (by omega), h, rfl⟩
end Go.Proofs.YtopikapamfmalaaGreatDoor
