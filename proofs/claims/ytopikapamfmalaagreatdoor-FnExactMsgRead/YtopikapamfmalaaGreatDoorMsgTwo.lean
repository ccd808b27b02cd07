/-
  MsgRead of the program and of the specification answer alike: a word whose text it is, or none.
-/
import Derived.Test.YtopikapamfmalaaGreatDoorSpecMsg
namespace Go.Proofs.YtopikapamfmalaaGreatDoor
open Go.RowKit

theorem lines_most : ∀ (xs : List Sl) (l : List UInt8), (∀ s ∈ xs, s.ok = true) → (linesL l xs).length ≤ l.length + 61 * xs.length
  | [], l, _ => by simp [linesL]
  | s :: xs, l, hok => by
    have h := lines_most xs (l ++ (s.text.data.toList ++ [10])) (fun u hu => hok u (List.mem_cons_of_mem _ hu))
    have e : s.text.data.toList.length = s.text.size := by rw [Array.length_toList]; rfl
    have : s.text.size ≤ 60 := (text_60 (hok s List.mem_cons_self)).1
    simp only [linesL, List.foldl_cons, List.length_append, List.length_cons, List.length_nil] at h ⊢
    omega
theorem msgT_most (m n k f : Int) (xs : List Sl) : (msgT m n k f xs).size ≤ 200 := by
  unfold msgT
  split
  · rename_i h
    obtain ⟨h2, hok⟩ := msg_seals h
    have h1 := lines_most xs (headL m n k f) hok
    have h3 := head_len h
    rw [tB_size]
    omega
  · exact Nat.zero_le _

/-- What MsgRead of the specification answers, and that of the program. -/
def SpecR (s : ByteArray) (m n k f : Int) (xs : List Sl) (b : Bool) : Prop := ∀ w, Calls Tryz.prog 5 #[.string s] w fun r w' => (∃ a cap, r = .returned (.tuple #[.agg #[.int .i64 m, .int .i64 n, .int .i64 k, .int .i64 f, .slice a xs.length cap], .bool b]) ∧ SRow w' a xs) ∧ Below w.heap.size w w'
def Mem6 (p1 p2 p3 : Option Addr) (w : World) : Prop := Lb w ∧ Er p1 p2 p3 w ∧ Forms w ∧ w.cell? ⟨1, 0, none⟩ = some (.iface 113 (.agg #[.pointer (some ⟨13, 43, none⟩)]))
theorem Mem6.later {p1 p2 p3 : Option Addr} {w w' : World} (h : Mem6 p1 p2 p3 w) (hb : Below w.heap.size w w') : Mem6 p1 p2 p3 w' :=
  ⟨h.1.below hb, h.2.1.below hb, h.2.2.1.later hb, (hb.cell (p := ⟨_, 0, none⟩) (block_lt_of_cell h.2.2.2)).trans h.2.2.2⟩
def ImplR (s : ByteArray) (m n k f : Int) (xs : List Sl) (b : Bool) : Prop := ∀ (w : World) (p1 p2 p3 : Option Addr), Mem6 p1 p2 p3 w → Calls Tryz.prog 6 #[.string s] w fun r w' => (∃ a cap, r = .returned (.tuple #[.agg #[.int .i64 m, .int .i64 n, .int .i64 k, .int .i64 f, .slice a xs.length cap], .bool b]) ∧ OwnS w' w.heap.size (.slice a xs.length cap) xs) ∧ Below w.heap.size w w'

theorem read_two (s : ByteArray) : ∃ (m n k f : Int) (xs : List Sl) (b : Bool), xs.length ≤ 2 ∧ (b = true → msgB m n k f xs = true ∧ msgT m n k f xs = s) ∧ SpecR s m n k f xs b ∧ ImplR s m n k f xs b := by
  by_cases hw : ∃ m n k f xs, msgB m n k f xs = true ∧ msgT m n k f xs = s
  · obtain ⟨m, n, k, f, xs, hm, rfl⟩ := hw
    refine ⟨m, n, k, f, xs, true, (msg_seals hm).1, fun _ => ⟨hm, rfl⟩, fun w => ?_, fun w p1 p2 p3 ⟨hl, he, hF, hg⟩ => ?_⟩
    · refine (specMR_any _ w).mono ?_
      rintro r w' ⟨⟨m', n', k', f', a, cap, ys, _, h1, h2, h3, h4⟩ | ⟨hno, _⟩, hb⟩
      · obtain ⟨rfl, rfl, rfl, rfl, rfl⟩ := msgT_inj h1 hm h2
        exact ⟨⟨a, cap, h3, h4⟩, hb⟩
      · exact absurd rfl (hno (msgT_most _ _ _ _ _) _ _ _ _ _ hm)
    · refine (implMR_any _ p1 p2 p3 w hl he hF hg).mono ?_
      rintro r w' ⟨⟨_, m', n', k', f', a, cap, ys, _, h1, h2, h3, h4⟩ | ⟨hno, _⟩, hb⟩
      · obtain ⟨rfl, rfl, rfl, rfl, rfl⟩ := msgT_inj h1 hm h2
        exact ⟨⟨a, cap, h3, h4⟩, hb⟩
      · have hwd := wrd_of hm (msgT_most _ _ _ _ _)
        rcases hno (msgT_most _ _ _ _ _) with h | ⟨m', n', k', f', ys, h, hn⟩
        · exact absurd hwd (h _ _ _ _ _)
        · obtain ⟨rfl, rfl, rfl, rfl, rfl⟩ := wrd_one h hwd
          exact absurd ⟨hm, rfl⟩ hn
  · refine ⟨0, 0, 0, 0, [], false, by simp, (fun e => by cases e), fun w => ?_, fun w p1 p2 p3 ⟨hl, he, hF, hg⟩ => ?_⟩
    · refine (specMR_any _ w).mono ?_
      rintro r w' ⟨⟨m', n', k', f', a, cap, ys, _, h1, h2, h3, h4⟩ | ⟨_, h⟩, hb⟩
      · exact absurd ⟨_, _, _, _, _, h1, h2⟩ hw
      · exact ⟨⟨none, 0, h, Or.inl rfl⟩, hb⟩
    · refine (implMR_any _ p1 p2 p3 w hl he hF hg).mono ?_
      rintro r w' ⟨⟨_, m', n', k', f', a, cap, ys, _, h1, h2, h3, h4⟩ | ⟨_, h⟩, hb⟩
      · exact absurd ⟨_, _, _, _, _, h1, h2⟩ hw
      · exact ⟨⟨none, 0, h, rfl, Or.inl ⟨rfl, rfl⟩⟩, hb⟩

end Go.Proofs.YtopikapamfmalaaGreatDoor
