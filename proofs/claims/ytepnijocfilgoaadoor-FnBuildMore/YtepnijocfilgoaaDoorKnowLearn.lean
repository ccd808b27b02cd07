/-
  The program's learn and next: what one has, and the keys that wait; nothing else that was in memory is turned.
-/
import Derived.Test.YtepnijocfilgoaaDoorKnowQueue
namespace Go.Proofs.YtepnijocfilgoaaDoor
open Go.RowKit

/-- What one has, and the keys that wait, in a block. -/
structure Who (w : World) (B : Nat) (H : List Bool) (v : Value) (q : List Int) : Prop where
  bits : Bits w B H
  cell : w.cell? ⟨B, 61, none⟩ = some v
  que : QRow w B v q
theorem Who.lt {w : World} {B : Nat} {H : List Bool} {v : Value} {q : List Int} (h : Who w B H v q) : B < w.heap.size := h.bits.lt
theorem Who.later {w w' : World} {B : Nat} {H : List Bool} {v : Value} {q : List Int} (h : Who w B H v q) (hb : Below w.heap.size w w') : Who w' B H v q :=
  ⟨h.bits.later hb, ((bcell hb).1 _ _ h.lt).trans h.cell, h.que.later hb⟩

/-- One number more behind a queue, for the walk. -/
theorem wpList_append_q (w : World) {ops : Array Oper} {rest : List Oper} {o : Oper} {a : Act} {Q : Exit → Act → World → Prop} (hgd : o.guard = none) (s x : Operand)
    (ho : o.op = .call { callee := .builtin .append, args := #[s, x], argTypes := #[22, 22] }) (B : Nat) (v : Value) (q : List Int) (hs : a.eval s = v) (h : QRow w B v q) (hq : q.length ≤ 1000) (hB : B < w.heap.size)
    (bk : Nat) (n : Int) (hx : a.eval x = .slice (some ⟨bk, 0, none⟩) 1 1) (hc : w.cell? ⟨bk, 0, none⟩ = some (.int .i64 n))
    (hK : ∀ b c w', QRow w' B (.slice b (q.length + 1) c) (q ++ [n]) → Below (B + 1) w w' → wpList Tryd.prog ops Q rest (a.put o.dst (.slice b (q.length + 1) c)) w') : wpList Tryd.prog ops Q (o :: rest) a w := by
  refine wpList_plain hgd fun K hK' => ?_
  obtain ⟨v', w', hr, h1, h2⟩ := run_append_q (B := B) o.type h hq hB bk n hc
  obtain ⟨b, c, e⟩ := h1.len
  rw [List.length_append, List.length_singleton] at e
  subst e
  unfold Oper.wp execOp
  simp only [ho, resolve, invoke, builtin, Sem.run_bind, Sem.run_pure, Result.andThen_ok, List.map_toArray, List.map_cons, List.map_nil, hs, hx, hr]
  exact hK' _ _ (hK b c w' h1 h2)

set_option maxRecDepth 100000 in
set_option maxHeartbeats 1000000 in
theorem learn_no (B : Nat) (key : Int) (w : World) (h : key < 1 ∨ 60 < key) :
    Calls Tryd.prog 54 #[.pointer (some ⟨B, 0, none⟩), .int .i64 key] w fun r w' => r = .returned (.tuple #[]) ∧ w' = w := by
  by_cases h1 : key < 1
  · go_enter Tryd.func54, Tryd.ntmps54
    go_wp2_with fail
    refine bodyPost_ret (results_none rfl _ _ _) rfl ?_
    exact ⟨rfl, rfl⟩
  · have h2 : 60 < key := by omega
    go_enter Tryd.func54, Tryd.ntmps54
    go_wp2_with fail
    refine bodyPost_ret (results_none rfl _ _ _) rfl ?_
    exact ⟨rfl, rfl⟩

set_option maxRecDepth 100000 in
set_option maxHeartbeats 1000000 in
theorem learn_had (B n : Nat) (w : World) (h1 : 1 ≤ n) (h2 : n ≤ 60) (hc : w.cell? ⟨B, n, none⟩ = some (.bool true)) :
    Calls Tryd.prog 54 #[.pointer (some ⟨B, 0, none⟩), .int .i64 n] w fun r w' => r = .returned (.tuple #[]) ∧ w' = w := by
  have g1 : ¬ (n : Int) < 1 := by omega
  have g2 : ¬ (60 : Int) < n := by omega
  go_enter Tryd.func54, Tryd.ntmps54
  go_wp2_with fail
  refine bodyPost_ret (results_none rfl _ _ _) rfl ?_
  exact ⟨rfl, rfl⟩

set_option maxRecDepth 100000 in
set_option maxHeartbeats 1000000 in
theorem learn_new (B n : Nat) (H : List Bool) (v : Value) (q : List Int) (w : World) (hw : Who w B H v q) (hq : q.length ≤ 1000) (h1 : 1 ≤ n) (h2 : n ≤ 60) (hn : H.getD n false = false) :
    Calls Tryd.prog 54 #[.pointer (some ⟨B, 0, none⟩), .int .i64 n] w fun r w' => r = .returned (.tuple #[]) ∧ (∃ v', Who w' B (H.set n true) v' (q ++ [(n : Int)])) ∧ Below B w w' := by
  have g1 : ¬ (n : Int) < 1 := by omega
  have g2 : ¬ (60 : Int) < n := by omega
  have hlt := hw.lt
  have d0 := hw.bits.cell n (by omega)
  rw [hn] at d0
  have f0 := hw.bits.free n
  have f1 := hw.bits.free 61
  have dq := hw.cell
  have HW : Hid (Who w B H v q) := hw
  have QW : Hid (QRow (w.setCell ⟨B, n, none⟩ (.bool true)) B v q) := hw.que.set
  have hn61 : n ≠ 61 := by omega
  have dq' : ∀ o, ((w.setCell ⟨B, n, none⟩ (.bool true)).alloc o).cell? ⟨B, 61, none⟩ = some v := fun o => by
    rw [World.cell?_alloc_lt _ _ _ (by simpa using hlt), cell_else (Or.inr hn61)]
    exact dq
  have fq' : ∀ o, ((w.setCell ⟨B, n, none⟩ (.bool true)).alloc o).frozen? ⟨B, 61, none⟩ = false := fun o => (((hw.bits.put (n := n) (by omega)).later (Below.alloc_ _ o)).free 61)
  clear hw
  go_enter Tryd.func54, Tryd.ntmps54
  go_wp2_with (first
    | (at_builtin; refine wpList_append_q _ rfl _ _ rfl B v q rfl (QW.out.later (Below.alloc_ _ _)) hq (by simp; omega) w.heap.size n rfl (by go_simp) ?_; intro b' c' w1 hq1 hb1; have e1 := (hb1.cell (p := ⟨B, 61, none⟩) (by simp)).trans (dq' _); have e2 : w1.frozen? ⟨B, 61, none⟩ = false := (World.frozen?_of_block (a := ⟨B, 61, none⟩) (hb1.block B (by omega))).trans (fq' _))
    | go_in)
  refine bodyPost_end (results_none rfl _ _ _) rfl ?_
  have B1 : Bits w1 B (H.set n true) := ((HW.out.bits.put (by omega)).later (Below.alloc_ _ _)).same (hb1.block B (by omega))
  refine ⟨rfl, ⟨_, B1.other (Or.inr (Nat.le_refl _)), cell_same ⟨_, e1⟩, hq1.set⟩, ?_⟩
  exact (((((Below.refl B w).setCell (p := ⟨B, n, none⟩) (Nat.le_refl _) _).alloc (by simp; omega) _).trans (hb1.mono (by omega))).setCell (p := ⟨B, 61, none⟩) (Nat.le_refl _) _)

/-- What comes of a key that is learnt. -/
def Lr (key : Int) (H : List Bool) (q : List Int) (H' : List Bool) (q' : List Int) : Prop :=
  (¬ (1 ≤ key ∧ key ≤ 60) ∧ H' = H ∧ q' = q) ∨ ((1 ≤ key ∧ key ≤ 60) ∧ H.getD key.toNat false = true ∧ H' = H ∧ q' = q) ∨ ((1 ≤ key ∧ key ≤ 60) ∧ H.getD key.toNat false = false ∧ H' = H.set key.toNat true ∧ q' = q ++ [key])
theorem Lr.keep {key : Int} {H H' : List Bool} {q q' : List Int} (h : Lr key H q H' q') (hl : H.length = 61) {n : Nat} (hn : H.getD n false = true) : H'.getD n false = true := by
  rcases h with ⟨_, rfl, _⟩ | ⟨_, _, rfl, _⟩ | ⟨h1, _, rfl, _⟩
  · exact hn
  · exact hn
  · rw [set_getD _ _ _ (by omega)]
    split
    · rfl
    · exact hn
theorem Lr.got {key : Int} {H H' : List Bool} {q q' : List Int} (h : Lr key H q H' q') (hl : H.length = 61) (h1 : 1 ≤ key) (h2 : key ≤ 60) : H'.getD key.toNat false = true := by
  rcases h with ⟨h0, _⟩ | ⟨_, h3, rfl, _⟩ | ⟨_, _, rfl, _⟩
  · exact absurd ⟨h1, h2⟩ h0
  · exact h3
  · rw [set_getD _ _ _ (by omega), if_pos rfl]
theorem Lr.only {key : Int} {H H' : List Bool} {q q' : List Int} (h : Lr key H q H' q') (hl : H.length = 61) {n : Nat} (hn : H'.getD n false = true) : H.getD n false = true ∨ (key = n ∧ 1 ≤ key ∧ key ≤ 60) := by
  rcases h with ⟨_, rfl, _⟩ | ⟨_, _, rfl, _⟩ | ⟨h1, _, rfl, _⟩
  · exact Or.inl hn
  · exact Or.inl hn
  · rw [set_getD _ _ _ (by omega)] at hn
    split at hn
    · right; omega
    · exact Or.inl hn
theorem Lr.wait {key : Int} {H H' : List Bool} {q q' : List Int} (h : Lr key H q H' q') {n : Int} (hn : n ∈ q) : n ∈ q' := by
  rcases h with ⟨_, _, rfl⟩ | ⟨_, _, _, rfl⟩ | ⟨_, _, _, rfl⟩
  · exact hn
  · exact hn
  · exact List.mem_append_left _ hn
theorem Lr.memc {key : Int} {H H' : List Bool} {q q' : List Int} (h : Lr key H q H' q') {n : Int} (hn : n ∈ q') : n ∈ q ∨ (1 ≤ n ∧ n ≤ 60 ∧ key = n) := by
  rcases h with ⟨_, _, rfl⟩ | ⟨_, _, _, rfl⟩ | ⟨h1, _, _, rfl⟩
  · exact Or.inl hn
  · exact Or.inl hn
  · rcases List.mem_append.1 hn with h | h
    · exact Or.inl h
    · simp at h
      subst h
      exact Or.inr ⟨h1.1, h1.2, rfl⟩
theorem Lr.new {key : Int} {H H' : List Bool} {q q' : List Int} (h : Lr key H q H' q') (hl : H.length = 61) {n : Nat} (hn : H'.getD n false = true) : H.getD n false = true ∨ (n : Int) ∈ q' := by
  rcases h with ⟨_, rfl, _⟩ | ⟨_, _, rfl, _⟩ | ⟨h1, _, rfl, rfl⟩
  · exact Or.inl hn
  · exact Or.inl hn
  · rw [set_getD _ _ _ (by omega)] at hn
    split at hn
    · right
      rename_i e
      refine List.mem_append_right _ ?_
      have : (n : Int) = key := by omega
      simp [this]
    · exact Or.inl hn
theorem Lr.cost {key : Int} {H H' : List Bool} {q q' : List Int} (h : Lr key H q H' q') (hl : H.length = 61) : 2 * H'.count false + q'.length ≤ 2 * H.count false + q.length := by
  rcases h with ⟨_, rfl, rfl⟩ | ⟨_, _, rfl, rfl⟩ | ⟨h1, h2, rfl, rfl⟩
  · exact Nat.le_refl _
  · exact Nat.le_refl _
  · have := count_set H key.toNat (by omega) h2
    rw [List.length_append, List.length_singleton]
    omega

theorem learn_any (B : Nat) (key : Int) (H : List Bool) (v : Value) (q : List Int) (w : World) (hw : Who w B H v q) (hq : q.length ≤ 1000) :
    Calls Tryd.prog 54 #[.pointer (some ⟨B, 0, none⟩), .int .i64 key] w fun r w' => r = .returned (.tuple #[]) ∧ (∃ H' v' q', Who w' B H' v' q' ∧ Lr key H q H' q') ∧ Below B w w' := by
  by_cases h : 1 ≤ key ∧ key ≤ 60
  · obtain ⟨n, rfl⟩ : ∃ n : Nat, key = n := ⟨key.toNat, by omega⟩
    cases hn : H.getD n false
    · refine (learn_new B n H v q w hw hq (by omega) (by omega) hn).mono ?_
      rintro r w' ⟨rfl, ⟨v', h1⟩, h2⟩
      exact ⟨rfl, ⟨_, v', _, h1, Or.inr (Or.inr ⟨h, by simpa using hn, by simp, rfl⟩)⟩, h2⟩
    · have d0 := hw.bits.cell n (by omega)
      rw [hn] at d0
      refine (learn_had B n w (by omega) (by omega) d0).mono ?_
      rintro r w' ⟨rfl, rfl⟩
      exact ⟨rfl, ⟨H, v, q, hw, Or.inr (Or.inl ⟨h, by simpa using hn, rfl, rfl⟩)⟩, Below.refl _ _⟩
  · refine (learn_no B key w (by omega)).mono ?_
    rintro r w' ⟨rfl, rfl⟩
    exact ⟨rfl, ⟨H, v, q, hw, Or.inl ⟨h, rfl, rfl⟩⟩, Below.refl _ _⟩

set_option maxRecDepth 100000 in
set_option maxHeartbeats 1000000 in
theorem next_any (B : Nat) (n : Int) (H : List Bool) (v : Value) (q : List Int) (w : World) (hw : Who w B H v (n :: q)) (hq : q.length ≤ 1000) :
    Calls Tryd.prog 55 #[.pointer (some ⟨B, 0, none⟩)] w fun r w' => r = .returned (.int .i64 n) ∧ (∃ v', Who w' B H v' q) ∧ Below B w w' := by
  obtain ⟨g, off, cap, rfl, hc, hcell, hq1, hq0⟩ := hw.que.first
  have dq := hw.cell
  have fq := hw.bits.free 61
  have HW : Hid (Bits w B H) := hw.bits
  clear hw
  by_cases h1 : cap = 1
  · have HQ : Hid (QRow w B (.slice (some ⟨g, off, none⟩) 0 0) q) := hq0 h1
    subst h1
    obtain rfl : q = [] := List.length_eq_zero_iff.1 (by omega)
    clear hq1 hq0
    go_enter Tryd.func55, Tryd.ntmps55
    go_wp2_with fail
    go_ret
    exact ⟨rfl, ⟨_, HW.out.other (Or.inr (Nat.le_refl _)), cell_same ⟨_, dq⟩, HQ.out.set⟩, (Below.refl B w).setCell (p := ⟨B, 61, none⟩) (Nat.le_refl _) _⟩
  · have HQ : Hid (QRow w B (.slice (some ⟨g, off + 1, none⟩) q.length (cap - 1)) q) := hq1
    clear hq1 hq0
    go_enter Tryd.func55, Tryd.ntmps55
    go_wp2_with fail
    go_ret
    exact ⟨rfl, ⟨_, HW.out.other (Or.inr (Nat.le_refl _)), cell_same ⟨_, dq⟩, HQ.out.set⟩, (Below.refl B w).setCell (p := ⟨B, 61, none⟩) (Nat.le_refl _) _⟩

end Go.Proofs.YtepnijocfilgoaaDoor
