/-
  Two that differ are both taken, one behind the other: plain mathematics.
-/
import Derived.Test.YtnaoopkahcadmaaKdcMath2
namespace Go.Proofs.Ytnaoopkahcadmaa

theorem diff7 {o s : Sl} (h : ¬ o = s) : (¬ o.k = s.k) ∨ (o.k = s.k ∧ ¬ o.t = s.t) ∨ (o.k = s.k ∧ o.t = s.t ∧ ¬ o.a = s.a) ∨ (o.k = s.k ∧ o.t = s.t ∧ o.a = s.a ∧ ¬ o.b = s.b) ∨ (o.k = s.k ∧ o.t = s.t ∧ o.a = s.a ∧ o.b = s.b ∧ ¬ o.c = s.c) ∨ (o.k = s.k ∧ o.t = s.t ∧ o.a = s.a ∧ o.b = s.b ∧ o.c = s.c ∧ ¬ o.d = s.d) ∨ (o.k = s.k ∧ o.t = s.t ∧ o.a = s.a ∧ o.b = s.b ∧ o.c = s.c ∧ o.d = s.d ∧ ¬ o.e = s.e) := by
  by_cases h1 : o.k = s.k
  · by_cases h2 : o.t = s.t
    · by_cases h3 : o.a = s.a
      · by_cases h4 : o.b = s.b
        · by_cases h5 : o.c = s.c
          · by_cases h6 : o.d = s.d
            · exact Or.inr (Or.inr (Or.inr (Or.inr (Or.inr (Or.inr ⟨h1, h2, h3, h4, h5, h6, fun h7 => h (sl_eq ⟨h1, h2, h3, h4, h5, h6, h7⟩)⟩)))))
            · exact Or.inr (Or.inr (Or.inr (Or.inr (Or.inr (Or.inl ⟨h1, h2, h3, h4, h5, h6⟩)))))
          · exact Or.inr (Or.inr (Or.inr (Or.inr (Or.inl ⟨h1, h2, h3, h4, h5⟩))))
        · exact Or.inr (Or.inr (Or.inr (Or.inl ⟨h1, h2, h3, h4⟩)))
      · exact Or.inr (Or.inr (Or.inl ⟨h1, h2, h3⟩))
    · exact Or.inr (Or.inl ⟨h1, h2⟩)
  · exact Or.inl h1
theorem cw_two {now : Int} {xs : List Sl} {s o : Sl} (h1 : cwB now xs s = true) (h2 : cwB now xs o = true) (hne : ¬ o = s) (hl : ¬ (cwL now xs s).length = 20) : cwB now (cwL now xs s) o = true ∧ cwL now (cwL now xs s) o = cwL now xs s ++ [o] := by
  obtain ⟨p1, p2, p3, p4, p5, p6, p7⟩ := cwB_parts h1
  obtain ⟨q1, q2, q3, q4, q5, q6, q7⟩ := cwB_parts h2
  obtain ⟨r1, r2, r3, r4⟩ := takes_parts p5
  obtain ⟨t1, t2, t3, t4⟩ := takes_parts q5
  rw [p6] at hl ⊢
  have hk : keep now (keep now xs ++ [s]) = keep now xs ++ [s] := by
    rw [keep, List.filter_eq_self]
    intro u hu
    rcases List.mem_append.1 hu with q | q
    · have := mem_keep.1 q
      exact freshB_iff.2 this.2
    · rw [List.mem_singleton.1 q]
      exact freshB_iff.2 ⟨r1, r2⟩
  have hni : inS o (keep now xs ++ [s]) = false := inS_false fun hm => by
    rcases List.mem_append.1 hm with q | q
    · exact t3 q
    · exact hne (List.mem_singleton.1 q)
  have ht : takes now (keep now xs ++ [s]) o = true := by
    unfold takes
    rw [hk, hni, freshB_iff.2 ⟨t1, t2⟩]
    simpa using hl
  have hq : askB now (keep now xs ++ [s]) o = true := by
    unfold askB
    rw [p7, q2, inB_is.2 ⟨p3, p4⟩]
    rfl
  refine ⟨by rw [cwB, hq, ht]; rfl, ?_⟩
  rw [cwL, hq, if_pos rfl, withL, ht, if_pos rfl, hk]
theorem cw_lens {now : Int} {xs : List Sl} {s o : Sl} (h1 : cwB now xs s = true) (h2 : cwB now xs o = true) : (cwL now xs s).length = (cwL now xs o).length := by
  obtain ⟨_, _, _, _, _, p6, _⟩ := cwB_parts h1
  obtain ⟨_, _, _, _, _, q6, _⟩ := cwB_parts h2
  rw [p6, q6]
  simp
theorem cw_mem {now : Int} {xs : List Sl} {s : Sl} (h1 : cwB now xs s = true) : s ∈ cwL now xs s := by
  obtain ⟨_, _, _, _, _, p6, _⟩ := cwB_parts h1
  rw [p6]
  simp

end Go.Proofs.Ytnaoopkahcadmaa
