/-
  The text of a word, as plain mathematics: a line of its four numbers, and one of each seal. Nothing of the program is walked here.
-/
import Derived.Test.YtopikapamfmalaaGreatDoorMsgOk
import Derived.Test.YtopikapamfmalaaGreatDoorOneMath
namespace Go.Proofs.YtopikapamfmalaaGreatDoor

/-- A seal's text. -/
def Sl.text (s : Sl) : ByteArray := textB s.k s.t s.a s.b s.c s.d s.e
/-- Bytes as a text. -/
def tB (l : List UInt8) : ByteArray := ⟨l.toArray⟩
/-- A word's first line. -/
def headL (m n k f : Int) : List UInt8 := digL m ++ 32 :: (digL n ++ 32 :: (digL k ++ 32 :: (digL f ++ [10])))
/-- The lines of seals behind it. -/
def linesL (l : List UInt8) (xs : List Sl) : List UInt8 := xs.foldl (fun o s => o ++ (s.text.data.toList ++ [10])) l
/-- A word's text; none, if it is not in form. -/
def msgT (m n k f : Int) (xs : List Sl) : ByteArray := if msgB m n k f xs then tB (linesL (headL m n k f) xs) else ⟨#[]⟩

theorem tB_list (l : List UInt8) : (tB l).data.toList = l := rfl
theorem tB_size (l : List UInt8) : (tB l).size = l.length := rfl
theorem tB_add (l : List UInt8) (x : ByteArray) : tB l ++ x = tB (l ++ x.data.toList) := by
  apply ByteArray.ext; apply Array.toList_inj.1; simp [tB]
theorem decB_tB (n : Int) : decB n = tB (digL n) := rfl
theorem linesL_next {l : List UInt8} {xs : List Sl} {j : Nat} {s : Sl} (h : xs[j]? = some s) : linesL l (xs.take (j + 1)) = linesL l (xs.take j) ++ (s.text.data.toList ++ [10]) := by
  rw [List.take_add_one, h, linesL, List.foldl_append]; rfl
theorem dig_len {n : Int} (h0 : 0 ≤ n) (h1 : n < 1000) : (digL n).length ≤ 3 := by have := decB_size h0 h1; simpa [decB, digL, ByteArray.size] using this
theorem text_le (s : Sl) : s.text.size ≤ 100 := by
  cases h : okB s.k s.t s.a s.b s.c s.d s.e
  · have e : s.text.data.toList = [] := text_empty.2 h
    have : s.text.data.toList.length = s.text.size := by rw [Array.length_toList]; rfl
    rw [← this, e]; simp
  · exact (text_size h).1
theorem lines_len : ∀ (xs : List Sl) (l : List UInt8), (linesL l xs).length ≤ l.length + 101 * xs.length
  | [], l => by simp [linesL]
  | s :: xs, l => by
    have h := lines_len xs (l ++ (s.text.data.toList ++ [10]))
    have e : s.text.data.toList.length = s.text.size := by rw [Array.length_toList]; rfl
    have := text_le s
    simp only [linesL, List.foldl_cons, List.length_append, List.length_cons, List.length_nil] at h ⊢
    omega
theorem msg_seals {m n k f : Int} {xs : List Sl} (h : msgB m n k f xs = true) : xs.length ≤ 2 ∧ ∀ s ∈ xs, s.ok = true := by
  have sl : ∀ {q : Int}, q ≤ 2 → slB xs q = true → xs.length ≤ 2 ∧ ∀ s ∈ xs, s.ok = true := by
    intro q hq hs
    simp only [slB, Bool.and_eq_true, List.all_eq_true, decide_eq_true_eq] at hs
    exact ⟨by omega, hs.1⟩
  unfold msgB at h
  split at h
  · simp only [Bool.and_eq_true] at h; exact sl (by omega) h.2
  split at h
  · simp only [Bool.and_eq_true] at h; exact sl (by omega) h.2
  split at h
  · simp only [Bool.and_eq_true] at h; exact sl (by omega) h.2
  split at h
  · simp only [Bool.and_eq_true] at h; exact sl (by omega) h.2
  split at h
  · simp only [Bool.and_eq_true] at h; exact sl (by omega) h.2
  split at h
  · simp only [Bool.and_eq_true] at h; exact sl (by omega) h.2
  · cases h
theorem msg_bounds {m n k f : Int} {xs : List Sl} (h : msgB m n k f xs = true) : (1 ≤ m ∧ m ≤ 6) ∧ (0 ≤ n ∧ n ≤ 3) ∧ (0 ≤ k ∧ k ≤ 5) ∧ (0 ≤ f ∧ f ≤ 60) := by
  unfold msgB at h
  split at h
  · simp [inB] at h; omega
  split at h
  · simp [inB] at h; omega
  split at h
  · simp [inB] at h; omega
  split at h
  · simp [inB] at h; omega
  split at h
  · simp [inB] at h; omega
  split at h
  · simp [inB] at h; omega
  · cases h
theorem head_len {m n k f : Int} {xs : List Sl} (h : msgB m n k f xs = true) : (headL m n k f).length ≤ 16 := by
  obtain ⟨⟨m0, m1⟩, ⟨n0, n1⟩, ⟨k0, k1⟩, f0, f1⟩ := msg_bounds h
  have e1 := dig_len (n := m) (by omega) (by omega)
  have e2 := dig_len (n := n) (by omega) (by omega)
  have e3 := dig_len (n := k) (by omega) (by omega)
  have e4 := dig_len (n := f) (by omega) (by omega)
  simp only [headL, List.length_append, List.length_cons, List.length_nil]
  omega
theorem lines_take_len {m n k f : Int} {xs : List Sl} (h : msgB m n k f xs = true) (j : Nat) : (linesL (headL m n k f) (xs.take j)).length ≤ 300 := by
  have h1 := lines_len (xs.take j) (headL m n k f)
  have h2 := head_len h
  have h3 := (msg_seals h).1
  have h4 : (xs.take j).length ≤ xs.length := by rw [List.length_take]; omega
  omega

end Go.Proofs.YtopikapamfmalaaGreatDoor
