/-
  What SealRead takes of Go's library: the cutting of a text at blanks, and the reading of a number; nothing that was in memory is turned.
-/
import Derived.Test.YtopikapamfmalaaGreatDoorTextAny
import Derived.WalkSmall
namespace Go.Proofs.YtopikapamfmalaaGreatDoor
open Go.RowKit

theorem gSyn : Tryz.prog.globalNamed "strconv.ErrSyntax" = some 7 := by kernel_rfl
theorem gRng : Tryz.prog.globalNamed "strconv.ErrRange" = some 8 := by kernel_rfl

/-- What of the library's own variables a call needs. -/
structure Lb (w : World) : Prop where
  tab : Lib.TabIs Tryz.prog w "internal/strconv.uint64pow10" .u64 Lib.pow10Tab
  mx : ∃ m : Int, w.cell? ⟨6, 0, none⟩ = some (.int .i64 m)
  syn : ∃ tp p, w.var? Tryz.prog "strconv.ErrSyntax" = some #[.iface tp p]
  rng : ∃ tp p, w.var? Tryz.prog "strconv.ErrRange" = some #[.iface tp p]

theorem var_lt {w : World} {n : String} {g : Nat} {cs : Array Value} (hg : Tryz.prog.globalNamed n = some g) (hv : w.var? Tryz.prog n = some cs) : g < w.heap.size := by
  unfold World.var? at hv
  simp only [hg, Option.bind_some] at hv
  rcases Nat.lt_or_ge g w.heap.size with h | h
  · exact h
  · rw [Array.getElem?_eq_none h] at hv; simp at hv
theorem Lb.below {w w' : World} (h : Lb w) (hb : Below w.heap.size w w') : Lb w' := by
  obtain ⟨m, hm⟩ := h.mx
  obtain ⟨t1, p1, h1⟩ := h.syn
  obtain ⟨t2, p2, h2⟩ := h.rng
  exact ⟨Joins.tab_stays gPow h.tab hb (Nat.le_refl _), ⟨m, cell_later hb hm⟩, ⟨t1, p1, var?_below hb gSyn (var_lt gSyn h1) h1⟩, ⟨t2, p2, var?_below hb gRng (var_lt gRng h2) h2⟩⟩

/-- The library's Atoi: a number, or an error. -/
theorem atoi_any (s : ByteArray) (hs : s.size ≤ 2000000) (w : World) (h : Lb w) :
    Calls Tryz.prog 69 #[.string s] w fun e w' => ((∃ v, Lib.atoiAll s.data.toList = .ok v ∧ e = .returned (.tuple #[.int .i64 v, .nilIface])) ∨ (∃ v N, (∀ u, Lib.atoiAll s.data.toList ≠ .ok u) ∧ e = .returned (.tuple #[.int .i64 v, .iface 156 (.pointer (some ⟨N, 0, none⟩))]))) ∧ Below w.heap.size w w' := by
  cases hc : Lib.atoiAll s.data.toList with
  | ok v =>
    refine (Tryz.strconv_Atoi_ok s (by omega) v hc w).mono ?_
    rintro e w' ⟨rfl, hw⟩
    refine ⟨Or.inl ⟨v, rfl, rfl⟩, ?_⟩
    rcases hw with rfl | ⟨t, rfl⟩
    · exact Below.refl _ _
    · exact Lib.bytesWorld_below _ _ _
  | «syntax» =>
    obtain ⟨tp, p, hv⟩ := h.syn
    refine (Tryz.strconv_Atoi_syntax_var s (by omega) hc tp p w hv).mono ?_
    rintro e w' ⟨N, rfl, _, _, hb⟩
    exact ⟨Or.inr ⟨_, N, (fun u e => by cases e), rfl⟩, hb⟩
  | range =>
    obtain ⟨tp, p, hv⟩ := h.rng
    refine (Tryz.strconv_Atoi_range_var s (by omega) hc tp p w hv).mono ?_
    rintro e w' ⟨N, rfl, _, _, hb⟩
    exact ⟨Or.inr ⟨_, N, (fun u e => by cases e), rfl⟩, hb⟩

/-- The pieces of a text that is cut at blanks, eight at most. -/
def pieces (s : ByteArray) : List ByteArray := Lib.splitB ⟨#[32]⟩ 0 (min 8 (s.size + 1) - 1) s

theorem splitB_le (sep : ByteArray) : ∀ (k : Nat) (s : ByteArray), (Lib.splitB sep 0 k s).length ≤ k + 1
  | 0, s => by simp [Lib.splitB]
  | k + 1, s => by
    unfold Lib.splitB
    split
    · simp
    · have := splitB_le sep k (s.extract ((Lib.indexB s sep).toNat + sep.size) s.size)
      simp; omega
theorem splitB_size (sep : ByteArray) : ∀ (k : Nat) (s x : ByteArray), x ∈ Lib.splitB sep 0 k s → x.size ≤ s.size
  | 0, s, x, h => by simp [Lib.splitB] at h; rw [h]; exact Nat.le_refl _
  | k + 1, s, x, h => by
    unfold Lib.splitB at h
    split at h
    · simp at h; rw [h]; exact Nat.le_refl _
    · rcases List.mem_cons.1 h with rfl | h
      · simp [ByteArray.size_extract]; omega
      · have := splitB_size sep k _ x h
        simp [ByteArray.size_extract] at this; omega

/-- The library's SplitN at a blank, and eight: the pieces, in a row of their own. -/
theorem split_any (s : ByteArray) (hs : s.size ≤ 2000000) (w : World) (h : Lb w) :
    Calls Tryz.prog 86 #[.string s, .string ⟨#[32]⟩, .int .i64 8] w fun e w' => ∃ cap, e = .returned (.slice (some ⟨w.heap.size, 0, none⟩) (pieces s).length cap) ∧ (pieces s).length ≤ cap ∧ Below w.heap.size w w' ∧ w.heap.size < w'.heap.size ∧
      ∀ (j : Nat) x, (pieces s)[j]? = some x → w'.cell? ⟨w.heap.size, j, none⟩ = some (.string x) := by
  obtain ⟨m, hm⟩ := h.mx
  have L := Tryz.laysM147
  refine (Any.strings_SplitN { L with } L.i9 s ⟨#[32]⟩ 8 m w (by omega) hm (by decide) (by omega) (by omega)).mono ?_
  rintro e w' ⟨rfl, rfl⟩
  have hl : (pieces s).length ≤ min 8 (s.size + 1) := by
    have := splitB_le ⟨#[32]⟩ (min 8 (s.size + 1) - 1) s
    unfold pieces; omega
  refine ⟨_, rfl, hl, (Below.refl _ _).alloc (Nat.le_refl _) _, by simp, fun j x hj => ?_⟩
  have hjl : j < (pieces s).length := (List.getElem?_eq_some_iff.1 hj).1
  have e1 : (Lib.cellsOf (pieces s) (min 8 (s.size + 1)))[j]? = some (.string x) := by
    unfold Lib.cellsOf
    simp only [List.getElem?_toArray]
    rw [List.getElem?_append_left (by simpa using hjl)]
    simp [hj]
  have e2 := heap_alloc_new w (.cells (Lib.cellsOf (Lib.splitB ⟨#[32]⟩ 0 (min 8 (s.size + 1) - 1) s) (min 8 (s.size + 1))) (Tryz.laysM147_ren.t 9))
  simp only [World.cell?, e2]
  exact e1

end Go.Proofs.YtopikapamfmalaaGreatDoor
