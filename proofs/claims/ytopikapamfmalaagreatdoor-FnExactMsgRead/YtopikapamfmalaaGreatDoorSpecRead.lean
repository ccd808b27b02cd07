/-
  The specification's SealRead, whatever the text: a seal that is ok and whose text this is, and true; or nothing, and false; nothing that was in memory is turned.
-/
import Derived.Test.YtopikapamfmalaaGreatDoorReadMath
import Derived.Test.YtopikapamfmalaaGreatDoorTextWord
namespace Go.Proofs.YtopikapamfmalaaGreatDoor
open Go.RowKit
attribute [local go_sem ↓] Go.wp_at_zero Go.wp_at_succ

/-- The kind, when the first names have been looked at. -/
def kindU (j : Nat) (q : ByteArray) : Int :=
  if 4 < j ∧ q.toList = [98, 97, 99, 107] then 4 else if 3 < j ∧ q.toList = [97, 117, 116, 104] then 3 else if 2 < j ∧ q.toList = [112, 97, 114, 116] then 2 else if 1 < j ∧ q.toList = [116, 105, 99, 107, 101, 116] then 1 else 0
theorem kindU_all (q : ByteArray) : kindU 5 q = kindI q := by
  unfold kindU kindI
  by_cases h1 : q.toList = [116, 105, 99, 107, 101, 116]
  · simp [h1]
  by_cases h2 : q.toList = [112, 97, 114, 116]
  · simp [h2]
  by_cases h3 : q.toList = [97, 117, 116, 104]
  · simp [h3]
  by_cases h4 : q.toList = [98, 97, 99, 107]
  · simp [h4]
  · simp [h1, h2, h3, h4]

/-- No seal that is ok has this text. -/
def NoSeal (s : ByteArray) : Prop := ∀ k t a b c d e, okB k t a b c d e = true → ¬ textB k t a b c d e = s
theorem no_long {s : ByteArray} (h : 60 < s.size) : NoSeal s := fun k t a b c d e ho hs => by
  have := (text_60 ho).1; rw [hs] at this; omega
theorem no_len {s : ByteArray} (h : ¬ (cutL 32 s.data.toList).length = 7) : NoSeal s := fun k t a b c d e ho hs => h (by rw [← hs, cut_text ho]; rfl)
theorem no_text {s : ByteArray} {q0 q1 q2 q3 q4 q5 q6 X : ByteArray} (hq : cutL 32 s.data.toList = [q0, q1, q2, q3, q4, q5, q6]) (hX : X = textB (decI q1) (kindI q0) (decI q2) (decI q3) (decI q4) (decI q5) (decI q6)) (hx : (X.toList == s.toList) = false) : NoSeal s := fun k t a b c d e ho hs => by
  obtain ⟨⟨k0, k1⟩, ⟨a0, a1⟩, ⟨b0, b1⟩, ⟨c0, c1⟩, ⟨d0, d1⟩, ⟨e0, e1⟩⟩ := ok_bounds ho
  rw [← hs, cut_text ho] at hq
  simp only [List.cons.injEq, and_true] at hq
  obtain ⟨rfl, rfl, rfl, rfl, rfl, rfl, rfl⟩ := hq
  rw [dec_back k0 (by omega), dec_back a0 (by omega), dec_back b0 (by omega), dec_back c0 (by omega), dec_back d0 (by omega), dec_back e0 (by omega), kind_back (ok_kinds ho), hs] at hX
  rw [hX] at hx
  simp at hx
theorem yes_text {s : ByteArray} {q0 q1 q2 q3 q4 q5 q6 X : ByteArray} (hq : cutL 32 s.data.toList = [q0, q1, q2, q3, q4, q5, q6]) (hX : X = textB (decI q1) (kindI q0) (decI q2) (decI q3) (decI q4) (decI q5) (decI q6)) (hx : (X.toList == s.toList) = true) :
    okB (decI q1) (kindI q0) (decI q2) (decI q3) (decI q4) (decI q5) (decI q6) = true ∧ textB (decI q1) (kindI q0) (decI q2) (decI q3) (decI q4) (decI q5) (decI q6) = s := by
  have h := beq_iff_eq.1 hx
  rw [ByteArray.toList_eq, ByteArray.toList_eq] at h
  have e : X = s := ByteArray.ext (Array.toList_inj.1 h)
  refine ⟨?_, by rw [← hX, e]⟩
  cases ho : okB (decI q1) (kindI q0) (decI q2) (decI q3) (decI q4) (decI q5) (decI q6)
  · have h0 := text_empty.2 ho
    rw [← hX, e] at h0
    rw [h0] at hq
    simp [cutL] at hq
  · rfl

theorem spec_text {X : ByteArray} {x0 t x1 x2 x3 x4 x5 : Int} (hX : X = textB x0 t x1 x2 x3 x4 x5) {w : World} :
    Calls Tryz.prog 41 #[.agg #[.int .i64 x0, .int .i64 t, .int .i64 x1, .int .i64 x2, .int .i64 x3, .int .i64 x4, .int .i64 x5]] w fun r w' => r = .returned (.string X) ∧ Below w.heap.size w w' := by
  rw [hX]; exact specText_any x0 t x1 x2 x3 x4 x5 w

/-- On the way: the seal so far and the names, each in a block of its own; the first word; the answer's block. -/
structure Sr (W : World) (g bs bn : Nat) (q0 : ByteArray) (k t a b c d e : Int) (w : World) : Prop where
  below : Below W.heap.size W w
  res : w.heap[W.heap.size]? = some (.cells #[.int .i64 0, .int .i64 0, .int .i64 0, .int .i64 0, .int .i64 0, .int .i64 0, .int .i64 0] 39 (0, 0))
  word : w.cell? ⟨g, 0, none⟩ = some (.string q0)
  names : w.heap[bn]? = some (.cells #[.string ⟨#[]⟩, .string ⟨#[116, 105, 99, 107, 101, 116]⟩, .string ⟨#[112, 97, 114, 116]⟩, .string ⟨#[97, 117, 116, 104]⟩, .string ⟨#[98, 97, 99, 107]⟩] 9 (0, 0))
  sealed : w.heap[bs]? = some (.cells #[.int .i64 k, .int .i64 t, .int .i64 a, .int .i64 b, .int .i64 c, .int .i64 d, .int .i64 e] 39 (0, 0))
  above : W.heap.size < bs ∧ g < bs ∧ bs < bn
theorem Sr.drew {W : World} {g bs bn : Nat} {q0 : ByteArray} {k t a b c d e : Int} {w : World} (h : Sr W g bs bn q0 k t a b c d e w) : Sr W g bs bn q0 k t a b c d e w.drew :=
  ⟨h.below.drew, h.res, h.word, h.names, h.sealed, h.above⟩
theorem Sr.kind {W : World} {g bs bn : Nat} {q0 : ByteArray} {k t a b c d e : Int} {w : World} (h : Sr W g bs bn q0 k t a b c d e w) (t' : Int) : Sr W g bs bn q0 k t' a b c d e (w.setCell ⟨bs, 1, none⟩ (.int .i64 t')) := by
  obtain ⟨a1, a2, a3⟩ := h.above
  refine ⟨h.below.setCell (Nat.le_of_lt a1) _, (Below.heap_setCell w _ _ _ (by simp; omega)).trans h.res, ?_, (Below.heap_setCell w _ _ _ (by simp; omega)).trans h.names, ?_, h.above⟩
  · have hh : (w.setCell ⟨bs, 1, none⟩ (.int .i64 t')).heap[g]? = w.heap[g]? := Below.heap_setCell w _ _ _ (by simp; omega)
    exact (World.cell?_of_block hh).trans h.word
  · rw [heap_set h.sealed]; simp
theorem Sr.start {W w2 : World} {g : Nat} {q0 : ByteArray} {k a b c d e : Int} (hb : Below W.heap.size W w2) (hz : w2.heap[W.heap.size]? = some (.cells #[.int .i64 0, .int .i64 0, .int .i64 0, .int .i64 0, .int .i64 0, .int .i64 0, .int .i64 0] 39 (0, 0))) (hq : w2.cell? ⟨g, 0, none⟩ = some (.string q0)) (hg : g < w2.heap.size) (hl : W.heap.size < w2.heap.size) :
    Sr W g w2.heap.size (w2.heap.size + 1) q0 k 0 a b c d e (((w2.alloc (.cells #[.int .i64 k, .int .i64 0, .int .i64 a, .int .i64 b, .int .i64 c, .int .i64 d, .int .i64 e] 39)).drew).alloc (.cells #[.string ⟨#[]⟩, .string ⟨#[116, 105, 99, 107, 101, 116]⟩, .string ⟨#[112, 97, 114, 116]⟩, .string ⟨#[97, 117, 116, 104]⟩, .string ⟨#[98, 97, 99, 107]⟩] 9)) := by
  obtain ⟨o1, ho1⟩ : ∃ o, o = Obj.cells #[.int .i64 k, .int .i64 0, .int .i64 a, .int .i64 b, .int .i64 c, .int .i64 d, .int .i64 e] 39 (0, 0) := ⟨_, rfl⟩
  obtain ⟨o2, ho2⟩ : ∃ o, o = Obj.cells #[.string ⟨#[]⟩, .string ⟨#[116, 105, 99, 107, 101, 116]⟩, .string ⟨#[112, 97, 114, 116]⟩, .string ⟨#[97, 117, 116, 104]⟩, .string ⟨#[98, 97, 99, 107]⟩] 9 (0, 0) := ⟨_, rfl⟩
  have s1 : ((w2.alloc o1).drew).heap.size = w2.heap.size + 1 := by show (w2.alloc o1).heap.size = _; simp
  have b1 : Below w2.heap.size w2 (((w2.alloc o1).drew).alloc o2) := (((Below.refl _ _).alloc (Nat.le_refl _) o1).drew).alloc (by rw [s1]; omega) o2
  refine ⟨?_, ?_, ?_, ?_, ?_, hl, hg, by omega⟩
  · rw [← ho1, ← ho2]; exact hb.trans (b1.mono (by omega))
  · rw [← ho1, ← ho2, b1.block _ hl]; exact hz
  · rw [← ho1, ← ho2]; exact cell_later b1 hq
  · rw [← ho1, ← ho2]
    have h := heap_alloc_new ((w2.alloc o1).drew) o2
    rw [s1] at h; exact h
  · rw [← ho1, ← ho2, Below.heap_alloc _ _ _ (by rw [s1]; omega)]; exact heap_alloc_new w2 o1
theorem Sr.name {W : World} {g bs bn : Nat} {q0 : ByteArray} {k t a b c d e : Int} {w : World} (h : Sr W g bs bn q0 k t a b c d e w) {j : Nat} (h1 : 1 ≤ j) (h5 : j < 5) :
    ∃ nm : ByteArray, w.cell? ⟨bn, j, none⟩ = some (.string nm) ∧ kindU (j + 1) q0 = if (nm.toList == q0.toList) = true then (j : Int) else kindU j q0 := by
  have hn := h.names
  obtain rfl | rfl | rfl | rfl : j = 1 ∨ j = 2 ∨ j = 3 ∨ j = 4 := by omega
  · refine ⟨⟨#[116, 105, 99, 107, 101, 116]⟩, by simp [World.cell?, hn], ?_⟩
    have el : (⟨#[116, 105, 99, 107, 101, 116]⟩ : ByteArray).toList = [116, 105, 99, 107, 101, 116] := by rw [ByteArray.toList_eq]
    rw [el]
    by_cases hq : q0.toList = [116, 105, 99, 107, 101, 116]
    · simp [kindU, hq]
    · have hf : ([116, 105, 99, 107, 101, 116] == q0.toList) = false := beq_eq_false_iff_ne.2 fun h => hq h.symm
      rw [hf]; simp [kindU, hq]
  · refine ⟨⟨#[112, 97, 114, 116]⟩, by simp [World.cell?, hn], ?_⟩
    have el : (⟨#[112, 97, 114, 116]⟩ : ByteArray).toList = [112, 97, 114, 116] := by rw [ByteArray.toList_eq]
    rw [el]
    by_cases hq : q0.toList = [112, 97, 114, 116]
    · simp [kindU, hq]
    · have hf : ([112, 97, 114, 116] == q0.toList) = false := beq_eq_false_iff_ne.2 fun h => hq h.symm
      rw [hf]; simp [kindU, hq]
  · refine ⟨⟨#[97, 117, 116, 104]⟩, by simp [World.cell?, hn], ?_⟩
    have el : (⟨#[97, 117, 116, 104]⟩ : ByteArray).toList = [97, 117, 116, 104] := by rw [ByteArray.toList_eq]
    rw [el]
    by_cases hq : q0.toList = [97, 117, 116, 104]
    · simp [kindU, hq]
    · have hf : ([97, 117, 116, 104] == q0.toList) = false := beq_eq_false_iff_ne.2 fun h => hq h.symm
      rw [hf]; simp [kindU, hq]
  · refine ⟨⟨#[98, 97, 99, 107]⟩, by simp [World.cell?, hn], ?_⟩
    have el : (⟨#[98, 97, 99, 107]⟩ : ByteArray).toList = [98, 97, 99, 107] := by rw [ByteArray.toList_eq]
    rw [el]
    by_cases hq : q0.toList = [98, 97, 99, 107]
    · simp [kindU, hq]
    · have hf : ([98, 97, 99, 107] == q0.toList) = false := beq_eq_false_iff_ne.2 fun h => hq h.symm
      rw [hf]; simp [kindU, hq]

set_option maxHeartbeats 1000000 in
set_option maxRecDepth 100000 in
theorem specRead_any (s : ByteArray) (hs : s.size ≤ 2000000) (w : World) :
    Calls Tryz.prog 16 #[.string s] w fun r w' => (∃ (k t a b c d e : Int) (ok : Bool), r = .returned (.tuple #[.agg #[.int .i64 k, .int .i64 t, .int .i64 a, .int .i64 b, .int .i64 c, .int .i64 d, .int .i64 e], .bool ok]) ∧ (ok = true → okB k t a b c d e = true ∧ textB k t a b c d e = s) ∧ (ok = false → k = 0 ∧ t = 0 ∧ a = 0 ∧ b = 0 ∧ c = 0 ∧ d = 0 ∧ e = 0 ∧ NoSeal s)) ∧ Below w.heap.size w w' := by
  by_cases h60 : s.size ≤ 60
  · go_enter Tryz.func16, Tryz.ntmps16
    go_wp2_with fail
    refine (l1Cut_any 32 s (by omega) _).mono ?_
    rintro r2 w2 ⟨⟨g, cap, rfl, hg, hw⟩, b2⟩
    have hsz : (w.alloc (.cells #[.int .i64 0, .int .i64 0, .int .i64 0, .int .i64 0, .int .i64 0, .int .i64 0, .int .i64 0] 39)).heap.size = w.heap.size + 1 := by simp
    rw [hsz] at hg b2
    have B2 : Hid (Below w.heap.size w w2 ∧ w2.heap[w.heap.size]? = some (.cells #[.int .i64 0, .int .i64 0, .int .i64 0, .int .i64 0, .int .i64 0, .int .i64 0, .int .i64 0] 39 (0, 0))) := ⟨((Below.refl _ _).alloc (Nat.le_refl _) _).trans (b2.mono (by omega)), (b2.block _ (by omega)).trans (heap_alloc_new w _)⟩
    have hz2 : w.heap.size < w2.heap.size := by have := b2.size; omega
    clear b2 hsz
    by_cases hn : (cutL 32 s.data.toList).length = 7
    · obtain ⟨q0, q1, q2, q3, q4, q5, q6, hq⟩ := list7 hn
      have hbd := (cutL_bounds (p := 32) s.size s (Nat.le_refl _)).2.2
      rw [List.take_of_length_le (by simp)] at hbd
      have z1 : q1.size ≤ 60 := Nat.le_trans (hbd q1 (by rw [hq]; simp)) h60
      have z2 : q2.size ≤ 60 := Nat.le_trans (hbd q2 (by rw [hq]; simp)) h60
      have z3 : q3.size ≤ 60 := Nat.le_trans (hbd q3 (by rw [hq]; simp)) h60
      have z4 : q4.size ≤ 60 := Nat.le_trans (hbd q4 (by rw [hq]; simp)) h60
      have z5 : q5.size ≤ 60 := Nat.le_trans (hbd q5 (by rw [hq]; simp)) h60
      have z6 : q6.size ≤ 60 := Nat.le_trans (hbd q6 (by rw [hq]; simp)) h60
      have Sz : Hid (q1.size ≤ 60 ∧ q2.size ≤ 60 ∧ q3.size ≤ 60 ∧ q4.size ≤ 60 ∧ q5.size ≤ 60 ∧ q6.size ≤ 60) := ⟨z1, z2, z3, z4, z5, z6⟩
      have c0 := hw 0 q0 (by rw [hq]; rfl)
      have c1 := hw 1 q1 (by rw [hq]; rfl)
      have c2 := hw 2 q2 (by rw [hq]; rfl)
      have c3 := hw 3 q3 (by rw [hq]; rfl)
      have c4 := hw 4 q4 (by rw [hq]; rfl)
      have c5 := hw 5 q5 (by rw [hq]; rfl)
      have c6 := hw 6 q6 (by rw [hq]; rfl)
      have HQ : Hid (cutL 32 s.data.toList = [q0, q1, q2, q3, q4, q5, q6]) := hq
      have HW : Hid (w2.cell? ⟨g, 0, none⟩ = some (.string q0) ∧ w2.cell? ⟨g, 1, none⟩ = some (.string q1) ∧ w2.cell? ⟨g, 2, none⟩ = some (.string q2) ∧ w2.cell? ⟨g, 3, none⟩ = some (.string q3) ∧ w2.cell? ⟨g, 4, none⟩ = some (.string q4) ∧ w2.cell? ⟨g, 5, none⟩ = some (.string q5) ∧ w2.cell? ⟨g, 6, none⟩ = some (.string q6)) := ⟨c0, c1, c2, c3, c4, c5, c6⟩
      rw [hn]
      clear hbd z1 z2 z3 z4 z5 z6 c0 c1 c2 c3 c4 c5 c6 hw hq hn
      have hgl : g < w2.heap.size := block_lt_of_cell HW.out.1
      go_wp2_with fail
      refine wp_region_held_drew (S := fun w' => w'.cell? ⟨g, 0, none⟩ = some (.string q0) ∧ w'.cell? ⟨g, 1, none⟩ = some (.string q1) ∧ w'.cell? ⟨g, 2, none⟩ = some (.string q2) ∧ w'.cell? ⟨g, 3, none⟩ = some (.string q3) ∧ w'.cell? ⟨g, 4, none⟩ = some (.string q4) ∧ w'.cell? ⟨g, 5, none⟩ = some (.string q5) ∧ w'.cell? ⟨g, 6, none⟩ = some (.string q6)) (by kernel_rfl) HW.out (fun hS => ?_)
      refine take1 0 18 (.slice (some ⟨g, 0, none⟩) 7 cap) rfl rfl (by kernel_rfl) (by kernel_rfl) (by kernel_rfl) (by rfl) (fun _ _ _ h => h) hS (fun w' hS' => ?_) ?_
      · obtain ⟨e0, e1, e2, e3, e4, e5, e6⟩ := hS'; go_simp
      simp only [Act.put, List.setIfInBounds_toArray, List.set_cons_zero, List.set_cons_succ]
      refine take1 1 19 (.pointer (some ⟨g, 1, none⟩)) rfl rfl (by kernel_rfl) (by kernel_rfl) (by kernel_rfl) (by rfl) (fun _ _ _ h => h) hS (fun w' hS' => ?_) ?_
      · obtain ⟨e0, e1, e2, e3, e4, e5, e6⟩ := hS'; go_simp
      simp only [Act.put, List.setIfInBounds_toArray, List.set_cons_zero, List.set_cons_succ]
      refine take1 2 20 (.string q1) rfl rfl (by kernel_rfl) (by kernel_rfl) (by kernel_rfl) (by rfl) (fun _ _ _ h => h) hS (fun w' hS' => ?_) ?_
      · obtain ⟨e0, e1, e2, e3, e4, e5, e6⟩ := hS'; go_simp
      simp only [Act.put, List.setIfInBounds_toArray, List.set_cons_zero, List.set_cons_succ]
      refine take1 4 22 (.slice (some ⟨g, 0, none⟩) 7 cap) rfl rfl (by kernel_rfl) (by kernel_rfl) (by kernel_rfl) (by rfl) (fun _ _ _ h => h) hS (fun w' hS' => ?_) ?_
      · obtain ⟨e0, e1, e2, e3, e4, e5, e6⟩ := hS'; go_simp
      simp only [Act.put, List.setIfInBounds_toArray, List.set_cons_zero, List.set_cons_succ]
      refine take1 5 23 (.pointer (some ⟨g, 2, none⟩)) rfl rfl (by kernel_rfl) (by kernel_rfl) (by kernel_rfl) (by rfl) (fun _ _ _ h => h) hS (fun w' hS' => ?_) ?_
      · obtain ⟨e0, e1, e2, e3, e4, e5, e6⟩ := hS'; go_simp
      simp only [Act.put, List.setIfInBounds_toArray, List.set_cons_zero, List.set_cons_succ]
      refine take1 6 24 (.string q2) rfl rfl (by kernel_rfl) (by kernel_rfl) (by kernel_rfl) (by rfl) (fun _ _ _ h => h) hS (fun w' hS' => ?_) ?_
      · obtain ⟨e0, e1, e2, e3, e4, e5, e6⟩ := hS'; go_simp
      simp only [Act.put, List.setIfInBounds_toArray, List.set_cons_zero, List.set_cons_succ]
      refine take1 8 26 (.slice (some ⟨g, 0, none⟩) 7 cap) rfl rfl (by kernel_rfl) (by kernel_rfl) (by kernel_rfl) (by rfl) (fun _ _ _ h => h) hS (fun w' hS' => ?_) ?_
      · obtain ⟨e0, e1, e2, e3, e4, e5, e6⟩ := hS'; go_simp
      simp only [Act.put, List.setIfInBounds_toArray, List.set_cons_zero, List.set_cons_succ]
      refine take1 9 27 (.pointer (some ⟨g, 3, none⟩)) rfl rfl (by kernel_rfl) (by kernel_rfl) (by kernel_rfl) (by rfl) (fun _ _ _ h => h) hS (fun w' hS' => ?_) ?_
      · obtain ⟨e0, e1, e2, e3, e4, e5, e6⟩ := hS'; go_simp
      simp only [Act.put, List.setIfInBounds_toArray, List.set_cons_zero, List.set_cons_succ]
      refine take1 10 28 (.string q3) rfl rfl (by kernel_rfl) (by kernel_rfl) (by kernel_rfl) (by rfl) (fun _ _ _ h => h) hS (fun w' hS' => ?_) ?_
      · obtain ⟨e0, e1, e2, e3, e4, e5, e6⟩ := hS'; go_simp
      simp only [Act.put, List.setIfInBounds_toArray, List.set_cons_zero, List.set_cons_succ]
      refine take1 12 30 (.slice (some ⟨g, 0, none⟩) 7 cap) rfl rfl (by kernel_rfl) (by kernel_rfl) (by kernel_rfl) (by rfl) (fun _ _ _ h => h) hS (fun w' hS' => ?_) ?_
      · obtain ⟨e0, e1, e2, e3, e4, e5, e6⟩ := hS'; go_simp
      simp only [Act.put, List.setIfInBounds_toArray, List.set_cons_zero, List.set_cons_succ]
      refine take1 13 31 (.pointer (some ⟨g, 4, none⟩)) rfl rfl (by kernel_rfl) (by kernel_rfl) (by kernel_rfl) (by rfl) (fun _ _ _ h => h) hS (fun w' hS' => ?_) ?_
      · obtain ⟨e0, e1, e2, e3, e4, e5, e6⟩ := hS'; go_simp
      simp only [Act.put, List.setIfInBounds_toArray, List.set_cons_zero, List.set_cons_succ]
      refine take1 14 32 (.string q4) rfl rfl (by kernel_rfl) (by kernel_rfl) (by kernel_rfl) (by rfl) (fun _ _ _ h => h) hS (fun w' hS' => ?_) ?_
      · obtain ⟨e0, e1, e2, e3, e4, e5, e6⟩ := hS'; go_simp
      simp only [Act.put, List.setIfInBounds_toArray, List.set_cons_zero, List.set_cons_succ]
      refine take1 16 34 (.slice (some ⟨g, 0, none⟩) 7 cap) rfl rfl (by kernel_rfl) (by kernel_rfl) (by kernel_rfl) (by rfl) (fun _ _ _ h => h) hS (fun w' hS' => ?_) ?_
      · obtain ⟨e0, e1, e2, e3, e4, e5, e6⟩ := hS'; go_simp
      simp only [Act.put, List.setIfInBounds_toArray, List.set_cons_zero, List.set_cons_succ]
      refine take1 17 35 (.pointer (some ⟨g, 5, none⟩)) rfl rfl (by kernel_rfl) (by kernel_rfl) (by kernel_rfl) (by rfl) (fun _ _ _ h => h) hS (fun w' hS' => ?_) ?_
      · obtain ⟨e0, e1, e2, e3, e4, e5, e6⟩ := hS'; go_simp
      simp only [Act.put, List.setIfInBounds_toArray, List.set_cons_zero, List.set_cons_succ]
      refine take1 18 36 (.string q5) rfl rfl (by kernel_rfl) (by kernel_rfl) (by kernel_rfl) (by rfl) (fun _ _ _ h => h) hS (fun w' hS' => ?_) ?_
      · obtain ⟨e0, e1, e2, e3, e4, e5, e6⟩ := hS'; go_simp
      simp only [Act.put, List.setIfInBounds_toArray, List.set_cons_zero, List.set_cons_succ]
      refine take1 20 38 (.slice (some ⟨g, 0, none⟩) 7 cap) rfl rfl (by kernel_rfl) (by kernel_rfl) (by kernel_rfl) (by rfl) (fun _ _ _ h => h) hS (fun w' hS' => ?_) ?_
      · obtain ⟨e0, e1, e2, e3, e4, e5, e6⟩ := hS'; go_simp
      simp only [Act.put, List.setIfInBounds_toArray, List.set_cons_zero, List.set_cons_succ]
      refine take1 21 39 (.pointer (some ⟨g, 6, none⟩)) rfl rfl (by kernel_rfl) (by kernel_rfl) (by kernel_rfl) (by rfl) (fun _ _ _ h => h) hS (fun w' hS' => ?_) ?_
      · obtain ⟨e0, e1, e2, e3, e4, e5, e6⟩ := hS'; go_simp
      simp only [Act.put, List.setIfInBounds_toArray, List.set_cons_zero, List.set_cons_succ]
      refine take1 22 40 (.string q6) rfl rfl (by kernel_rfl) (by kernel_rfl) (by kernel_rfl) (by rfl) (fun _ _ _ h => h) hS (fun w' hS' => ?_) ?_
      · obtain ⟨e0, e1, e2, e3, e4, e5, e6⟩ := hS'; go_simp
      simp only [Act.put, List.setIfInBounds_toArray, List.set_cons_zero, List.set_cons_succ]
      have HS2 : Hid (∀ o, ((w2.alloc o).drew).cell? ⟨g, 0, none⟩ = some (.string q0) ∧ ((w2.alloc o).drew).cell? ⟨g, 1, none⟩ = some (.string q1) ∧ ((w2.alloc o).drew).cell? ⟨g, 2, none⟩ = some (.string q2) ∧ ((w2.alloc o).drew).cell? ⟨g, 3, none⟩ = some (.string q3) ∧ ((w2.alloc o).drew).cell? ⟨g, 4, none⟩ = some (.string q4) ∧ ((w2.alloc o).drew).cell? ⟨g, 5, none⟩ = some (.string q5) ∧ ((w2.alloc o).drew).cell? ⟨g, 6, none⟩ = some (.string q6)) := fun o => by
        have hb : Below w2.drew.heap.size w2.drew ((w2.alloc o).drew) := (Below.refl _ _).alloc (Nat.le_refl _) o
        obtain ⟨e0, e1, e2, e3, e4, e5, e6⟩ := hS
        exact ⟨cell_later hb e0, cell_later hb e1, cell_later hb e2, cell_later hb e3, cell_later hb e4, cell_later hb e5, cell_later hb e6⟩
      refine wpAnyH_ready (rs := [3, 25]) (by kernel_rfl) (by simp) ?_
      refine AllReadyH.cons rfl (fun K hK => ?_) (AllReadyH.cons rfl (fun K hK => ?_) AllReadyH.nil)
      · -- the call first
        go_simp
        refine (l1Dec_any q1 _ (by have := Sz.out.1; omega)).mono ?_
        rintro r w' ⟨rfl, rfl⟩
        refine hK.out _ _ hS (fun _ => ?_)
        clear hK K
        refine wpAnyH_ready (rs := [7, 25]) (by kernel_rfl) (by simp) ?_
        refine AllReadyH.cons rfl (fun K hK => ?_) (AllReadyH.cons rfl (fun K hK => ?_) AllReadyH.nil)
        · -- the call first
          go_simp
          refine (l1Dec_any q2 _ (by have := Sz.out.2.1; omega)).mono ?_
          rintro r w' ⟨rfl, rfl⟩
          refine hK.out _ _ hS (fun _ => ?_)
          clear hK K
          refine wpAnyH_ready (rs := [11, 25]) (by kernel_rfl) (by simp) ?_
          refine AllReadyH.cons rfl (fun K hK => ?_) (AllReadyH.cons rfl (fun K hK => ?_) AllReadyH.nil)
          · -- the call first
            go_simp
            refine (l1Dec_any q3 _ (by have := Sz.out.2.2.1; omega)).mono ?_
            rintro r w' ⟨rfl, rfl⟩
            refine hK.out _ _ hS (fun _ => ?_)
            clear hK K
            refine wpAnyH_ready (rs := [15, 25]) (by kernel_rfl) (by simp) ?_
            refine AllReadyH.cons rfl (fun K hK => ?_) (AllReadyH.cons rfl (fun K hK => ?_) AllReadyH.nil)
            · -- the call first
              go_simp
              refine (l1Dec_any q4 _ (by have := Sz.out.2.2.2.1; omega)).mono ?_
              rintro r w' ⟨rfl, rfl⟩
              refine hK.out _ _ hS (fun _ => ?_)
              clear hK K
              refine wpAnyH_ready (rs := [19, 25]) (by kernel_rfl) (by simp) ?_
              refine AllReadyH.cons rfl (fun K hK => ?_) (AllReadyH.cons rfl (fun K hK => ?_) AllReadyH.nil)
              · -- the call first
                go_simp
                refine (l1Dec_any q5 _ (by have := Sz.out.2.2.2.2.1; omega)).mono ?_
                rintro r w' ⟨rfl, rfl⟩
                refine hK.out _ _ hS (fun _ => ?_)
                clear hK K
                refine wpAnyH_ready (rs := [23, 25]) (by kernel_rfl) (by simp) ?_
                refine AllReadyH.cons rfl (fun K hK => ?_) (AllReadyH.cons rfl (fun K hK => ?_) AllReadyH.nil)
                · -- the call first
                  go_simp
                  refine (l1Dec_any q6 _ (by have := Sz.out.2.2.2.2.2; omega)).mono ?_
                  rintro r w' ⟨rfl, rfl⟩
                  refine hK.out _ _ hS (fun _ => ?_)
                  clear hK K
                  refine take1 24 42 (.agg #[.int .i64 (decI q1), .int .i64 0, .int .i64 (decI q2), .int .i64 (decI q3), .int .i64 (decI q4), .int .i64 (decI q5), .int .i64 (decI q6)]) rfl rfl (by kernel_rfl) (by kernel_rfl) (by kernel_rfl) (by rfl) (fun _ _ _ h => h) hS (fun w' hS' => ?_) ?_
                  · obtain ⟨e0, e1, e2, e3, e4, e5, e6⟩ := hS'; go_simp
                  simp only [Act.put, List.setIfInBounds_toArray, List.set_cons_zero, List.set_cons_succ]
                  refine wpAnyH_ready (rs := [25]) (by kernel_rfl) (by simp) ?_
                  refine AllReadyH.cons rfl (fun K hK => ?_) AllReadyH.nil
                  go_simp
                  refine hK.out _ _ (HS2.out _) (fun _ => ?_)
                  clear hK K
                  have hS3 := HS2.out (.cells #[.int .i64 0, .int .i64 0, .int .i64 0, .int .i64 0, .int .i64 0, .int .i64 0, .int .i64 0] 39)
                  refine wpAnyH_ready (rs := [26]) (by kernel_rfl) (by simp) ?_
                  refine AllReadyH.cons rfl (fun K hK => ?_) AllReadyH.nil
                  clear hS3
                  go_simp
                  refine hK.out _ _ (HS2.out _) (fun _ => ?_)
                  clear hK K
                  refine wpAnyH_done (by kernel_rfl) ?_ _
                  clear hS HS2
                  go_wp2_with fail
                  refine (l1Names_any _).mono ?_
                  rintro r3 w3 ⟨rfl, rfl⟩
                  have T0 : Hid (Sr w g w2.heap.size (w2.heap.size + 1) q0 (decI q1) 0 (decI q2) (decI q3) (decI q4) (decI q5) (decI q6) (((w2.alloc (.cells #[.int .i64 (decI q1), .int .i64 0, .int .i64 (decI q2), .int .i64 (decI q3), .int .i64 (decI q4), .int .i64 (decI q5), .int .i64 (decI q6)] 39)).drew).alloc (.cells #[.string ⟨#[]⟩, .string ⟨#[116, 105, 99, 107, 101, 116]⟩, .string ⟨#[112, 97, 114, 116]⟩, .string ⟨#[97, 117, 116, 104]⟩, .string ⟨#[98, 97, 99, 107]⟩] 9))) := Sr.start B2.out.1 B2.out.2 HW.out.1 hgl hz2
                  have hsz2 : ((w2.alloc (.cells #[.int .i64 (decI q1), .int .i64 0, .int .i64 (decI q2), .int .i64 (decI q3), .int .i64 (decI q4), .int .i64 (decI q5), .int .i64 (decI q6)] 39)).drew).heap.size = w2.heap.size + 1 := by show (w2.alloc _).heap.size = _; simp
                  rw [hsz2]
                  clear hsz2 B2 HW hgl
                  go_wp2_with fail
                  go_loopw [7] (fun i wr => ∃ j : Nat, 1 ≤ j ∧ j ≤ 5 ∧ i = .int .i64 j ∧ Hid (Sr w g w2.heap.size (w2.heap.size + 1) q0 (decI q1) (kindU j q0) (decI q2) (decI q3) (decI q4) (decI q5) (decI q6) wr)) (fun i _ => 5 - (intOf i).toNat)
                  case atStart => exact ⟨1, by omega, by omega, rfl, T0⟩
                  case round =>
                    clear T0
                    obtain ⟨j, hj1, hj5, rfl, T⟩ := hrel
                    by_cases hlt : j < 5
                    · obtain ⟨nm, hnm, hku⟩ := T.out.name hj1 hlt
                      have hwd := T.out.word
                      have hjI : (0 : Int) ≤ (j : Int) := by omega
                      have hjL : (j : Int) < 5 := by omega
                      have HK : Hid (kindU (j + 1) q0 = if (nm.toList == q0.toList) = true then (j : Int) else kindU j q0) := hku
                      have HC : Hid (wr.cell? ⟨w2.heap.size + 1, j, none⟩ = some (.string nm) ∧ wr.cell? ⟨g, 0, none⟩ = some (.string q0)) := ⟨hnm, hwd⟩
                      clear hku hnm hwd
                      go_wp2_with fail
                      refine wp_region_held_drew (S := fun w' => w'.cell? ⟨w2.heap.size + 1, j, none⟩ = some (.string nm) ∧ w'.cell? ⟨g, 0, none⟩ = some (.string q0)) (by kernel_rfl) HC.out (fun hS => ?_)
                      refine take1 0 50 (.slice (some ⟨w2.heap.size + 1, 0, none⟩) 5 5) rfl rfl (by kernel_rfl) (by kernel_rfl) (by kernel_rfl) (by rfl) (fun _ _ _ h => h) hS (fun w' hS' => ?_) ?_
                      · obtain ⟨e0, e1⟩ := hS'; go_simp
                      simp only [Act.put, List.setIfInBounds_toArray, List.set_cons_zero, List.set_cons_succ]
                      refine take1 1 51 (.int .i64 j) rfl rfl (by kernel_rfl) (by kernel_rfl) (by kernel_rfl) (by rfl) (fun _ _ _ h => h) hS (fun w' hS' => ?_) ?_
                      · obtain ⟨e0, e1⟩ := hS'; go_simp
                      simp only [Act.put, List.setIfInBounds_toArray, List.set_cons_zero, List.set_cons_succ]
                      refine take1 2 52 (.pointer (some ⟨w2.heap.size + 1, j, none⟩)) rfl rfl (by kernel_rfl) (by kernel_rfl) (by kernel_rfl) (by rfl) (fun _ _ _ h => h) hS (fun w' hS' => ?_) ?_
                      · obtain ⟨e0, e1⟩ := hS'; go_simp
                      simp only [Act.put, List.setIfInBounds_toArray, List.set_cons_zero, List.set_cons_succ]
                      refine take1 3 53 (.string nm) rfl rfl (by kernel_rfl) (by kernel_rfl) (by kernel_rfl) (by rfl) (fun _ _ _ h => h) hS (fun w' hS' => ?_) ?_
                      · obtain ⟨e0, e1⟩ := hS'; go_simp
                      simp only [Act.put, List.setIfInBounds_toArray, List.set_cons_zero, List.set_cons_succ]
                      refine take1 4 54 (.slice (some ⟨g, 0, none⟩) 7 cap) rfl rfl (by kernel_rfl) (by kernel_rfl) (by kernel_rfl) (by rfl) (fun _ _ _ h => h) hS (fun w' hS' => ?_) ?_
                      · obtain ⟨e0, e1⟩ := hS'; go_simp
                      simp only [Act.put, List.setIfInBounds_toArray, List.set_cons_zero, List.set_cons_succ]
                      refine take1 5 55 (.pointer (some ⟨g, 0, none⟩)) rfl rfl (by kernel_rfl) (by kernel_rfl) (by kernel_rfl) (by rfl) (fun _ _ _ h => h) hS (fun w' hS' => ?_) ?_
                      · obtain ⟨e0, e1⟩ := hS'; go_simp
                      simp only [Act.put, List.setIfInBounds_toArray, List.set_cons_zero, List.set_cons_succ]
                      refine take1 6 56 (.string q0) rfl rfl (by kernel_rfl) (by kernel_rfl) (by kernel_rfl) (by rfl) (fun _ _ _ h => h) hS (fun w' hS' => ?_) ?_
                      · obtain ⟨e0, e1⟩ := hS'; go_simp
                      simp only [Act.put, List.setIfInBounds_toArray, List.set_cons_zero, List.set_cons_succ]
                      refine take1 7 57 (.bool (nm.toList == q0.toList)) rfl rfl (by kernel_rfl) (by kernel_rfl) (by kernel_rfl) (by rfl) (fun _ _ _ h => h) hS (fun w' hS' => ?_) ?_
                      · obtain ⟨e0, e1⟩ := hS'; go_simp
                      simp only [Act.put, List.setIfInBounds_toArray, List.set_cons_zero, List.set_cons_succ]
                      refine wpAnyH_done (by kernel_rfl) ?_ _
                      clear hS HC
                      cases hx : (nm.toList == q0.toList)
                      · have e : kindU (j + 1) q0 = kindU j q0 := by rw [HK.out, hx]; rfl
                        have T1 : Hid (Sr w g w2.heap.size (w2.heap.size + 1) q0 (decI q1) (kindU (j + 1) q0) (decI q2) (decI q3) (decI q4) (decI q5) (decI q6) wr.drew) := by rw [e]; exact T.out.drew
                        clear T HK e hx
                        go_wp2_with fail
                        go_roundw
                        case rel => exact ⟨j + 1, by omega, by omega, by go_num, T1⟩
                        case measure => simp [intOf]; omega
                      · have e : kindU (j + 1) q0 = (j : Int) := by rw [HK.out, hx]; rfl
                        have T1 : Hid (Sr w g w2.heap.size (w2.heap.size + 1) q0 (decI q1) (kindU (j + 1) q0) (decI q2) (decI q3) (decI q4) (decI q5) (decI q6) ((wr.setCell ⟨w2.heap.size, 1, none⟩ (.int .i64 j)).drew)) := by rw [e]; exact (T.out.kind j).drew
                        obtain ⟨m0, m1, m2, m3, m4, m5, m6, mf⟩ := cells7 T.out.drew.sealed
                        clear T HK e hx m0 m2 m3 m4 m5 m6
                        go_wp2_with fail
                        go_roundw
                        case rel => exact ⟨j + 1, by omega, by omega, by go_num, T1⟩
                        case measure => simp [intOf]; omega
                    · obtain rfl : j = 5 := by omega
                      have T5 : Hid (Sr w g w2.heap.size (w2.heap.size + 1) q0 (decI q1) (kindI q0) (decI q2) (decI q3) (decI q4) (decI q5) (decI q6) wr) := by rw [← kindU_all]; exact T.out
                      clear T
                      obtain ⟨m0, m1, m2, m3, m4, m5, m6, mf⟩ := cells7 T5.out.sealed
                      obtain ⟨X, hX⟩ : ∃ X, X = textB (decI q1) (kindI q0) (decI q2) (decI q3) (decI q4) (decI q5) (decI q6) := ⟨_, rfl⟩
                      have HX : Hid (X = textB (decI q1) (kindI q0) (decI q2) (decI q3) (decI q4) (decI q5) (decI q6)) := hX
                      go_wp2_with fail
                      refine (spec_text hX).mono ?_
                      rintro r7 w7 ⟨rfl, b7⟩
                      have D7 : Hid (Below w.heap.size w w7 ∧ w7.heap[w.heap.size]? = some (.cells #[.int .i64 0, .int .i64 0, .int .i64 0, .int .i64 0, .int .i64 0, .int .i64 0, .int .i64 0] 39 (0, 0)) ∧ w7.heap[w2.heap.size]? = some (.cells #[.int .i64 (decI q1), .int .i64 (kindI q0), .int .i64 (decI q2), .int .i64 (decI q3), .int .i64 (decI q4), .int .i64 (decI q5), .int .i64 (decI q6)] 39 (0, 0))) := ⟨T5.out.below.trans (b7.mono T5.out.below.size), (b7.block _ (Array.getElem?_eq_some_iff.1 T5.out.res).1).trans T5.out.res, (b7.block _ (Array.getElem?_eq_some_iff.1 T5.out.sealed).1).trans T5.out.sealed⟩
                      clear b7 T5 hX m0 m1 m2 m3 m4 m5 m6 mf
                      obtain ⟨m0, m1, m2, m3, m4, m5, m6, mf⟩ := cells7 D7.out.2.2
                      obtain ⟨z0, z1, z2, z3, z4, z5, z6, zf⟩ := cells7 D7.out.2.1
                      cases hx : (X.toList == s.toList)
                      · have HP : Hid (NoSeal s) := no_text HQ.out HX.out hx
                        go_wp2
                        exact bodyPost_ret (v := .tuple #[.agg #[.int .i64 0, .int .i64 0, .int .i64 0, .int .i64 0, .int .i64 0, .int .i64 0, .int .i64 0], .bool false]) (by simp [results, Tryz.results16, go_sem, z0, z1, z2, z3, z4, z5, z6]) rfl ⟨⟨0, 0, 0, 0, 0, 0, 0, false, rfl, (fun h => by cases h), fun _ => ⟨rfl, rfl, rfl, rfl, rfl, rfl, rfl, HP.out⟩⟩, (((((((D7.out.1.setCell (Nat.le_refl _) _).setCell (Nat.le_refl _) _).setCell (Nat.le_refl _) _).setCell (Nat.le_refl _) _).setCell (Nat.le_refl _) _).setCell (Nat.le_refl _) _).setCell (Nat.le_refl _) _)⟩
                      · have HP := yes_text HQ.out HX.out hx
                        have HP2 : Hid (okB (decI q1) (kindI q0) (decI q2) (decI q3) (decI q4) (decI q5) (decI q6) = true ∧ textB (decI q1) (kindI q0) (decI q2) (decI q3) (decI q4) (decI q5) (decI q6) = s) := HP
                        clear HP
                        have hne : ¬ w2.heap.size = w.heap.size := by omega
                        go_wp2
                        exact bodyPost_ret (v := .tuple #[.agg #[.int .i64 (decI q1), .int .i64 (kindI q0), .int .i64 (decI q2), .int .i64 (decI q3), .int .i64 (decI q4), .int .i64 (decI q5), .int .i64 (decI q6)], .bool true]) (by simp [results, Tryz.results16, go_sem, z0, z1, z2, z3, z4, z5, z6]) rfl ⟨⟨_, _, _, _, _, _, _, true, rfl, fun _ => HP2.out, (fun h => by cases h)⟩, (((((((D7.out.1.setCell (Nat.le_refl _) _).setCell (Nat.le_refl _) _).setCell (Nat.le_refl _) _).setCell (Nat.le_refl _) _).setCell (Nat.le_refl _) _).setCell (Nat.le_refl _) _).setCell (Nat.le_refl _) _)⟩
                · -- the block first
                  go_simp
                  refine hK.out _ _ (HS2.out _) (fun _ => ?_)
                  clear hK K
                  refine wpAnyH_ready (rs := [23]) (by kernel_rfl) (by simp) ?_
                  refine AllReadyH.cons rfl (fun K hK => ?_) AllReadyH.nil
                  go_simp
                  refine (l1Dec_any q6 _ (by have := Sz.out.2.2.2.2.2; omega)).mono ?_
                  rintro r w' ⟨rfl, rfl⟩
                  refine hK.out _ _ (HS2.out _) (fun _ => ?_)
                  clear hK K
                  have hS3 := HS2.out (.cells #[.int .i64 0, .int .i64 0, .int .i64 0, .int .i64 0, .int .i64 0, .int .i64 0, .int .i64 0] 39)
                  refine take1 24 42 (.agg #[.int .i64 (decI q1), .int .i64 0, .int .i64 (decI q2), .int .i64 (decI q3), .int .i64 (decI q4), .int .i64 (decI q5), .int .i64 (decI q6)]) rfl rfl (by kernel_rfl) (by kernel_rfl) (by kernel_rfl) (by rfl) (fun _ _ _ h => h) hS3 (fun w' hS' => ?_) ?_
                  · obtain ⟨e0, e1, e2, e3, e4, e5, e6⟩ := hS'; go_simp
                  simp only [Act.put, List.setIfInBounds_toArray, List.set_cons_zero, List.set_cons_succ]
                  refine wpAnyH_ready (rs := [26]) (by kernel_rfl) (by simp) ?_
                  refine AllReadyH.cons rfl (fun K hK => ?_) AllReadyH.nil
                  clear hS3
                  go_simp
                  refine hK.out _ _ (HS2.out _) (fun _ => ?_)
                  clear hK K
                  refine wpAnyH_done (by kernel_rfl) ?_ _
                  clear hS HS2
                  go_wp2_with fail
                  refine (l1Names_any _).mono ?_
                  rintro r3 w3 ⟨rfl, rfl⟩
                  have T0 : Hid (Sr w g w2.heap.size (w2.heap.size + 1) q0 (decI q1) 0 (decI q2) (decI q3) (decI q4) (decI q5) (decI q6) (((w2.alloc (.cells #[.int .i64 (decI q1), .int .i64 0, .int .i64 (decI q2), .int .i64 (decI q3), .int .i64 (decI q4), .int .i64 (decI q5), .int .i64 (decI q6)] 39)).drew).alloc (.cells #[.string ⟨#[]⟩, .string ⟨#[116, 105, 99, 107, 101, 116]⟩, .string ⟨#[112, 97, 114, 116]⟩, .string ⟨#[97, 117, 116, 104]⟩, .string ⟨#[98, 97, 99, 107]⟩] 9))) := Sr.start B2.out.1 B2.out.2 HW.out.1 hgl hz2
                  have hsz2 : ((w2.alloc (.cells #[.int .i64 (decI q1), .int .i64 0, .int .i64 (decI q2), .int .i64 (decI q3), .int .i64 (decI q4), .int .i64 (decI q5), .int .i64 (decI q6)] 39)).drew).heap.size = w2.heap.size + 1 := by show (w2.alloc _).heap.size = _; simp
                  rw [hsz2]
                  clear hsz2 B2 HW hgl
                  go_wp2_with fail
                  go_loopw [7] (fun i wr => ∃ j : Nat, 1 ≤ j ∧ j ≤ 5 ∧ i = .int .i64 j ∧ Hid (Sr w g w2.heap.size (w2.heap.size + 1) q0 (decI q1) (kindU j q0) (decI q2) (decI q3) (decI q4) (decI q5) (decI q6) wr)) (fun i _ => 5 - (intOf i).toNat)
                  case atStart => exact ⟨1, by omega, by omega, rfl, T0⟩
                  case round =>
                    clear T0
                    obtain ⟨j, hj1, hj5, rfl, T⟩ := hrel
                    by_cases hlt : j < 5
                    · obtain ⟨nm, hnm, hku⟩ := T.out.name hj1 hlt
                      have hwd := T.out.word
                      have hjI : (0 : Int) ≤ (j : Int) := by omega
                      have hjL : (j : Int) < 5 := by omega
                      have HK : Hid (kindU (j + 1) q0 = if (nm.toList == q0.toList) = true then (j : Int) else kindU j q0) := hku
                      have HC : Hid (wr.cell? ⟨w2.heap.size + 1, j, none⟩ = some (.string nm) ∧ wr.cell? ⟨g, 0, none⟩ = some (.string q0)) := ⟨hnm, hwd⟩
                      clear hku hnm hwd
                      go_wp2_with fail
                      refine wp_region_held_drew (S := fun w' => w'.cell? ⟨w2.heap.size + 1, j, none⟩ = some (.string nm) ∧ w'.cell? ⟨g, 0, none⟩ = some (.string q0)) (by kernel_rfl) HC.out (fun hS => ?_)
                      refine take1 0 50 (.slice (some ⟨w2.heap.size + 1, 0, none⟩) 5 5) rfl rfl (by kernel_rfl) (by kernel_rfl) (by kernel_rfl) (by rfl) (fun _ _ _ h => h) hS (fun w' hS' => ?_) ?_
                      · obtain ⟨e0, e1⟩ := hS'; go_simp
                      simp only [Act.put, List.setIfInBounds_toArray, List.set_cons_zero, List.set_cons_succ]
                      refine take1 1 51 (.int .i64 j) rfl rfl (by kernel_rfl) (by kernel_rfl) (by kernel_rfl) (by rfl) (fun _ _ _ h => h) hS (fun w' hS' => ?_) ?_
                      · obtain ⟨e0, e1⟩ := hS'; go_simp
                      simp only [Act.put, List.setIfInBounds_toArray, List.set_cons_zero, List.set_cons_succ]
                      refine take1 2 52 (.pointer (some ⟨w2.heap.size + 1, j, none⟩)) rfl rfl (by kernel_rfl) (by kernel_rfl) (by kernel_rfl) (by rfl) (fun _ _ _ h => h) hS (fun w' hS' => ?_) ?_
                      · obtain ⟨e0, e1⟩ := hS'; go_simp
                      simp only [Act.put, List.setIfInBounds_toArray, List.set_cons_zero, List.set_cons_succ]
                      refine take1 3 53 (.string nm) rfl rfl (by kernel_rfl) (by kernel_rfl) (by kernel_rfl) (by rfl) (fun _ _ _ h => h) hS (fun w' hS' => ?_) ?_
                      · obtain ⟨e0, e1⟩ := hS'; go_simp
                      simp only [Act.put, List.setIfInBounds_toArray, List.set_cons_zero, List.set_cons_succ]
                      refine take1 4 54 (.slice (some ⟨g, 0, none⟩) 7 cap) rfl rfl (by kernel_rfl) (by kernel_rfl) (by kernel_rfl) (by rfl) (fun _ _ _ h => h) hS (fun w' hS' => ?_) ?_
                      · obtain ⟨e0, e1⟩ := hS'; go_simp
                      simp only [Act.put, List.setIfInBounds_toArray, List.set_cons_zero, List.set_cons_succ]
                      refine take1 5 55 (.pointer (some ⟨g, 0, none⟩)) rfl rfl (by kernel_rfl) (by kernel_rfl) (by kernel_rfl) (by rfl) (fun _ _ _ h => h) hS (fun w' hS' => ?_) ?_
                      · obtain ⟨e0, e1⟩ := hS'; go_simp
                      simp only [Act.put, List.setIfInBounds_toArray, List.set_cons_zero, List.set_cons_succ]
                      refine take1 6 56 (.string q0) rfl rfl (by kernel_rfl) (by kernel_rfl) (by kernel_rfl) (by rfl) (fun _ _ _ h => h) hS (fun w' hS' => ?_) ?_
                      · obtain ⟨e0, e1⟩ := hS'; go_simp
                      simp only [Act.put, List.setIfInBounds_toArray, List.set_cons_zero, List.set_cons_succ]
                      refine take1 7 57 (.bool (nm.toList == q0.toList)) rfl rfl (by kernel_rfl) (by kernel_rfl) (by kernel_rfl) (by rfl) (fun _ _ _ h => h) hS (fun w' hS' => ?_) ?_
                      · obtain ⟨e0, e1⟩ := hS'; go_simp
                      simp only [Act.put, List.setIfInBounds_toArray, List.set_cons_zero, List.set_cons_succ]
                      refine wpAnyH_done (by kernel_rfl) ?_ _
                      clear hS HC
                      cases hx : (nm.toList == q0.toList)
                      · have e : kindU (j + 1) q0 = kindU j q0 := by rw [HK.out, hx]; rfl
                        have T1 : Hid (Sr w g w2.heap.size (w2.heap.size + 1) q0 (decI q1) (kindU (j + 1) q0) (decI q2) (decI q3) (decI q4) (decI q5) (decI q6) wr.drew) := by rw [e]; exact T.out.drew
                        clear T HK e hx
                        go_wp2_with fail
                        go_roundw
                        case rel => exact ⟨j + 1, by omega, by omega, by go_num, T1⟩
                        case measure => simp [intOf]; omega
                      · have e : kindU (j + 1) q0 = (j : Int) := by rw [HK.out, hx]; rfl
                        have T1 : Hid (Sr w g w2.heap.size (w2.heap.size + 1) q0 (decI q1) (kindU (j + 1) q0) (decI q2) (decI q3) (decI q4) (decI q5) (decI q6) ((wr.setCell ⟨w2.heap.size, 1, none⟩ (.int .i64 j)).drew)) := by rw [e]; exact (T.out.kind j).drew
                        obtain ⟨m0, m1, m2, m3, m4, m5, m6, mf⟩ := cells7 T.out.drew.sealed
                        clear T HK e hx m0 m2 m3 m4 m5 m6
                        go_wp2_with fail
                        go_roundw
                        case rel => exact ⟨j + 1, by omega, by omega, by go_num, T1⟩
                        case measure => simp [intOf]; omega
                    · obtain rfl : j = 5 := by omega
                      have T5 : Hid (Sr w g w2.heap.size (w2.heap.size + 1) q0 (decI q1) (kindI q0) (decI q2) (decI q3) (decI q4) (decI q5) (decI q6) wr) := by rw [← kindU_all]; exact T.out
                      clear T
                      obtain ⟨m0, m1, m2, m3, m4, m5, m6, mf⟩ := cells7 T5.out.sealed
                      obtain ⟨X, hX⟩ : ∃ X, X = textB (decI q1) (kindI q0) (decI q2) (decI q3) (decI q4) (decI q5) (decI q6) := ⟨_, rfl⟩
                      have HX : Hid (X = textB (decI q1) (kindI q0) (decI q2) (decI q3) (decI q4) (decI q5) (decI q6)) := hX
                      go_wp2_with fail
                      refine (spec_text hX).mono ?_
                      rintro r7 w7 ⟨rfl, b7⟩
                      have D7 : Hid (Below w.heap.size w w7 ∧ w7.heap[w.heap.size]? = some (.cells #[.int .i64 0, .int .i64 0, .int .i64 0, .int .i64 0, .int .i64 0, .int .i64 0, .int .i64 0] 39 (0, 0)) ∧ w7.heap[w2.heap.size]? = some (.cells #[.int .i64 (decI q1), .int .i64 (kindI q0), .int .i64 (decI q2), .int .i64 (decI q3), .int .i64 (decI q4), .int .i64 (decI q5), .int .i64 (decI q6)] 39 (0, 0))) := ⟨T5.out.below.trans (b7.mono T5.out.below.size), (b7.block _ (Array.getElem?_eq_some_iff.1 T5.out.res).1).trans T5.out.res, (b7.block _ (Array.getElem?_eq_some_iff.1 T5.out.sealed).1).trans T5.out.sealed⟩
                      clear b7 T5 hX m0 m1 m2 m3 m4 m5 m6 mf
                      obtain ⟨m0, m1, m2, m3, m4, m5, m6, mf⟩ := cells7 D7.out.2.2
                      obtain ⟨z0, z1, z2, z3, z4, z5, z6, zf⟩ := cells7 D7.out.2.1
                      cases hx : (X.toList == s.toList)
                      · have HP : Hid (NoSeal s) := no_text HQ.out HX.out hx
                        go_wp2
                        exact bodyPost_ret (v := .tuple #[.agg #[.int .i64 0, .int .i64 0, .int .i64 0, .int .i64 0, .int .i64 0, .int .i64 0, .int .i64 0], .bool false]) (by simp [results, Tryz.results16, go_sem, z0, z1, z2, z3, z4, z5, z6]) rfl ⟨⟨0, 0, 0, 0, 0, 0, 0, false, rfl, (fun h => by cases h), fun _ => ⟨rfl, rfl, rfl, rfl, rfl, rfl, rfl, HP.out⟩⟩, (((((((D7.out.1.setCell (Nat.le_refl _) _).setCell (Nat.le_refl _) _).setCell (Nat.le_refl _) _).setCell (Nat.le_refl _) _).setCell (Nat.le_refl _) _).setCell (Nat.le_refl _) _).setCell (Nat.le_refl _) _)⟩
                      · have HP := yes_text HQ.out HX.out hx
                        have HP2 : Hid (okB (decI q1) (kindI q0) (decI q2) (decI q3) (decI q4) (decI q5) (decI q6) = true ∧ textB (decI q1) (kindI q0) (decI q2) (decI q3) (decI q4) (decI q5) (decI q6) = s) := HP
                        clear HP
                        have hne : ¬ w2.heap.size = w.heap.size := by omega
                        go_wp2
                        exact bodyPost_ret (v := .tuple #[.agg #[.int .i64 (decI q1), .int .i64 (kindI q0), .int .i64 (decI q2), .int .i64 (decI q3), .int .i64 (decI q4), .int .i64 (decI q5), .int .i64 (decI q6)], .bool true]) (by simp [results, Tryz.results16, go_sem, z0, z1, z2, z3, z4, z5, z6]) rfl ⟨⟨_, _, _, _, _, _, _, true, rfl, fun _ => HP2.out, (fun h => by cases h)⟩, (((((((D7.out.1.setCell (Nat.le_refl _) _).setCell (Nat.le_refl _) _).setCell (Nat.le_refl _) _).setCell (Nat.le_refl _) _).setCell (Nat.le_refl _) _).setCell (Nat.le_refl _) _).setCell (Nat.le_refl _) _)⟩
              · -- the block first
                go_simp
                refine hK.out _ _ (HS2.out _) (fun _ => ?_)
                clear hK K
                refine wpAnyH_ready (rs := [19]) (by kernel_rfl) (by simp) ?_
                refine AllReadyH.cons rfl (fun K hK => ?_) AllReadyH.nil
                go_simp
                refine (l1Dec_any q5 _ (by have := Sz.out.2.2.2.2.1; omega)).mono ?_
                rintro r w' ⟨rfl, rfl⟩
                refine hK.out _ _ (HS2.out _) (fun _ => ?_)
                clear hK K
                refine wpAnyH_ready (rs := [23]) (by kernel_rfl) (by simp) ?_
                refine AllReadyH.cons rfl (fun K hK => ?_) AllReadyH.nil
                go_simp
                refine (l1Dec_any q6 _ (by have := Sz.out.2.2.2.2.2; omega)).mono ?_
                rintro r w' ⟨rfl, rfl⟩
                refine hK.out _ _ (HS2.out _) (fun _ => ?_)
                clear hK K
                have hS3 := HS2.out (.cells #[.int .i64 0, .int .i64 0, .int .i64 0, .int .i64 0, .int .i64 0, .int .i64 0, .int .i64 0] 39)
                refine take1 24 42 (.agg #[.int .i64 (decI q1), .int .i64 0, .int .i64 (decI q2), .int .i64 (decI q3), .int .i64 (decI q4), .int .i64 (decI q5), .int .i64 (decI q6)]) rfl rfl (by kernel_rfl) (by kernel_rfl) (by kernel_rfl) (by rfl) (fun _ _ _ h => h) hS3 (fun w' hS' => ?_) ?_
                · obtain ⟨e0, e1, e2, e3, e4, e5, e6⟩ := hS'; go_simp
                simp only [Act.put, List.setIfInBounds_toArray, List.set_cons_zero, List.set_cons_succ]
                refine wpAnyH_ready (rs := [26]) (by kernel_rfl) (by simp) ?_
                refine AllReadyH.cons rfl (fun K hK => ?_) AllReadyH.nil
                clear hS3
                go_simp
                refine hK.out _ _ (HS2.out _) (fun _ => ?_)
                clear hK K
                refine wpAnyH_done (by kernel_rfl) ?_ _
                clear hS HS2
                go_wp2_with fail
                refine (l1Names_any _).mono ?_
                rintro r3 w3 ⟨rfl, rfl⟩
                have T0 : Hid (Sr w g w2.heap.size (w2.heap.size + 1) q0 (decI q1) 0 (decI q2) (decI q3) (decI q4) (decI q5) (decI q6) (((w2.alloc (.cells #[.int .i64 (decI q1), .int .i64 0, .int .i64 (decI q2), .int .i64 (decI q3), .int .i64 (decI q4), .int .i64 (decI q5), .int .i64 (decI q6)] 39)).drew).alloc (.cells #[.string ⟨#[]⟩, .string ⟨#[116, 105, 99, 107, 101, 116]⟩, .string ⟨#[112, 97, 114, 116]⟩, .string ⟨#[97, 117, 116, 104]⟩, .string ⟨#[98, 97, 99, 107]⟩] 9))) := Sr.start B2.out.1 B2.out.2 HW.out.1 hgl hz2
                have hsz2 : ((w2.alloc (.cells #[.int .i64 (decI q1), .int .i64 0, .int .i64 (decI q2), .int .i64 (decI q3), .int .i64 (decI q4), .int .i64 (decI q5), .int .i64 (decI q6)] 39)).drew).heap.size = w2.heap.size + 1 := by show (w2.alloc _).heap.size = _; simp
                rw [hsz2]
                clear hsz2 B2 HW hgl
                go_wp2_with fail
                go_loopw [7] (fun i wr => ∃ j : Nat, 1 ≤ j ∧ j ≤ 5 ∧ i = .int .i64 j ∧ Hid (Sr w g w2.heap.size (w2.heap.size + 1) q0 (decI q1) (kindU j q0) (decI q2) (decI q3) (decI q4) (decI q5) (decI q6) wr)) (fun i _ => 5 - (intOf i).toNat)
                case atStart => exact ⟨1, by omega, by omega, rfl, T0⟩
                case round =>
                  clear T0
                  obtain ⟨j, hj1, hj5, rfl, T⟩ := hrel
                  by_cases hlt : j < 5
                  · obtain ⟨nm, hnm, hku⟩ := T.out.name hj1 hlt
                    have hwd := T.out.word
                    have hjI : (0 : Int) ≤ (j : Int) := by omega
                    have hjL : (j : Int) < 5 := by omega
                    have HK : Hid (kindU (j + 1) q0 = if (nm.toList == q0.toList) = true then (j : Int) else kindU j q0) := hku
                    have HC : Hid (wr.cell? ⟨w2.heap.size + 1, j, none⟩ = some (.string nm) ∧ wr.cell? ⟨g, 0, none⟩ = some (.string q0)) := ⟨hnm, hwd⟩
                    clear hku hnm hwd
                    go_wp2_with fail
                    refine wp_region_held_drew (S := fun w' => w'.cell? ⟨w2.heap.size + 1, j, none⟩ = some (.string nm) ∧ w'.cell? ⟨g, 0, none⟩ = some (.string q0)) (by kernel_rfl) HC.out (fun hS => ?_)
                    refine take1 0 50 (.slice (some ⟨w2.heap.size + 1, 0, none⟩) 5 5) rfl rfl (by kernel_rfl) (by kernel_rfl) (by kernel_rfl) (by rfl) (fun _ _ _ h => h) hS (fun w' hS' => ?_) ?_
                    · obtain ⟨e0, e1⟩ := hS'; go_simp
                    simp only [Act.put, List.setIfInBounds_toArray, List.set_cons_zero, List.set_cons_succ]
                    refine take1 1 51 (.int .i64 j) rfl rfl (by kernel_rfl) (by kernel_rfl) (by kernel_rfl) (by rfl) (fun _ _ _ h => h) hS (fun w' hS' => ?_) ?_
                    · obtain ⟨e0, e1⟩ := hS'; go_simp
                    simp only [Act.put, List.setIfInBounds_toArray, List.set_cons_zero, List.set_cons_succ]
                    refine take1 2 52 (.pointer (some ⟨w2.heap.size + 1, j, none⟩)) rfl rfl (by kernel_rfl) (by kernel_rfl) (by kernel_rfl) (by rfl) (fun _ _ _ h => h) hS (fun w' hS' => ?_) ?_
                    · obtain ⟨e0, e1⟩ := hS'; go_simp
                    simp only [Act.put, List.setIfInBounds_toArray, List.set_cons_zero, List.set_cons_succ]
                    refine take1 3 53 (.string nm) rfl rfl (by kernel_rfl) (by kernel_rfl) (by kernel_rfl) (by rfl) (fun _ _ _ h => h) hS (fun w' hS' => ?_) ?_
                    · obtain ⟨e0, e1⟩ := hS'; go_simp
                    simp only [Act.put, List.setIfInBounds_toArray, List.set_cons_zero, List.set_cons_succ]
                    refine take1 4 54 (.slice (some ⟨g, 0, none⟩) 7 cap) rfl rfl (by kernel_rfl) (by kernel_rfl) (by kernel_rfl) (by rfl) (fun _ _ _ h => h) hS (fun w' hS' => ?_) ?_
                    · obtain ⟨e0, e1⟩ := hS'; go_simp
                    simp only [Act.put, List.setIfInBounds_toArray, List.set_cons_zero, List.set_cons_succ]
                    refine take1 5 55 (.pointer (some ⟨g, 0, none⟩)) rfl rfl (by kernel_rfl) (by kernel_rfl) (by kernel_rfl) (by rfl) (fun _ _ _ h => h) hS (fun w' hS' => ?_) ?_
                    · obtain ⟨e0, e1⟩ := hS'; go_simp
                    simp only [Act.put, List.setIfInBounds_toArray, List.set_cons_zero, List.set_cons_succ]
                    refine take1 6 56 (.string q0) rfl rfl (by kernel_rfl) (by kernel_rfl) (by kernel_rfl) (by rfl) (fun _ _ _ h => h) hS (fun w' hS' => ?_) ?_
                    · obtain ⟨e0, e1⟩ := hS'; go_simp
                    simp only [Act.put, List.setIfInBounds_toArray, List.set_cons_zero, List.set_cons_succ]
                    refine take1 7 57 (.bool (nm.toList == q0.toList)) rfl rfl (by kernel_rfl) (by kernel_rfl) (by kernel_rfl) (by rfl) (fun _ _ _ h => h) hS (fun w' hS' => ?_) ?_
                    · obtain ⟨e0, e1⟩ := hS'; go_simp
                    simp only [Act.put, List.setIfInBounds_toArray, List.set_cons_zero, List.set_cons_succ]
                    refine wpAnyH_done (by kernel_rfl) ?_ _
                    clear hS HC
                    cases hx : (nm.toList == q0.toList)
                    · have e : kindU (j + 1) q0 = kindU j q0 := by rw [HK.out, hx]; rfl
                      have T1 : Hid (Sr w g w2.heap.size (w2.heap.size + 1) q0 (decI q1) (kindU (j + 1) q0) (decI q2) (decI q3) (decI q4) (decI q5) (decI q6) wr.drew) := by rw [e]; exact T.out.drew
                      clear T HK e hx
                      go_wp2_with fail
                      go_roundw
                      case rel => exact ⟨j + 1, by omega, by omega, by go_num, T1⟩
                      case measure => simp [intOf]; omega
                    · have e : kindU (j + 1) q0 = (j : Int) := by rw [HK.out, hx]; rfl
                      have T1 : Hid (Sr w g w2.heap.size (w2.heap.size + 1) q0 (decI q1) (kindU (j + 1) q0) (decI q2) (decI q3) (decI q4) (decI q5) (decI q6) ((wr.setCell ⟨w2.heap.size, 1, none⟩ (.int .i64 j)).drew)) := by rw [e]; exact (T.out.kind j).drew
                      obtain ⟨m0, m1, m2, m3, m4, m5, m6, mf⟩ := cells7 T.out.drew.sealed
                      clear T HK e hx m0 m2 m3 m4 m5 m6
                      go_wp2_with fail
                      go_roundw
                      case rel => exact ⟨j + 1, by omega, by omega, by go_num, T1⟩
                      case measure => simp [intOf]; omega
                  · obtain rfl : j = 5 := by omega
                    have T5 : Hid (Sr w g w2.heap.size (w2.heap.size + 1) q0 (decI q1) (kindI q0) (decI q2) (decI q3) (decI q4) (decI q5) (decI q6) wr) := by rw [← kindU_all]; exact T.out
                    clear T
                    obtain ⟨m0, m1, m2, m3, m4, m5, m6, mf⟩ := cells7 T5.out.sealed
                    obtain ⟨X, hX⟩ : ∃ X, X = textB (decI q1) (kindI q0) (decI q2) (decI q3) (decI q4) (decI q5) (decI q6) := ⟨_, rfl⟩
                    have HX : Hid (X = textB (decI q1) (kindI q0) (decI q2) (decI q3) (decI q4) (decI q5) (decI q6)) := hX
                    go_wp2_with fail
                    refine (spec_text hX).mono ?_
                    rintro r7 w7 ⟨rfl, b7⟩
                    have D7 : Hid (Below w.heap.size w w7 ∧ w7.heap[w.heap.size]? = some (.cells #[.int .i64 0, .int .i64 0, .int .i64 0, .int .i64 0, .int .i64 0, .int .i64 0, .int .i64 0] 39 (0, 0)) ∧ w7.heap[w2.heap.size]? = some (.cells #[.int .i64 (decI q1), .int .i64 (kindI q0), .int .i64 (decI q2), .int .i64 (decI q3), .int .i64 (decI q4), .int .i64 (decI q5), .int .i64 (decI q6)] 39 (0, 0))) := ⟨T5.out.below.trans (b7.mono T5.out.below.size), (b7.block _ (Array.getElem?_eq_some_iff.1 T5.out.res).1).trans T5.out.res, (b7.block _ (Array.getElem?_eq_some_iff.1 T5.out.sealed).1).trans T5.out.sealed⟩
                    clear b7 T5 hX m0 m1 m2 m3 m4 m5 m6 mf
                    obtain ⟨m0, m1, m2, m3, m4, m5, m6, mf⟩ := cells7 D7.out.2.2
                    obtain ⟨z0, z1, z2, z3, z4, z5, z6, zf⟩ := cells7 D7.out.2.1
                    cases hx : (X.toList == s.toList)
                    · have HP : Hid (NoSeal s) := no_text HQ.out HX.out hx
                      go_wp2
                      exact bodyPost_ret (v := .tuple #[.agg #[.int .i64 0, .int .i64 0, .int .i64 0, .int .i64 0, .int .i64 0, .int .i64 0, .int .i64 0], .bool false]) (by simp [results, Tryz.results16, go_sem, z0, z1, z2, z3, z4, z5, z6]) rfl ⟨⟨0, 0, 0, 0, 0, 0, 0, false, rfl, (fun h => by cases h), fun _ => ⟨rfl, rfl, rfl, rfl, rfl, rfl, rfl, HP.out⟩⟩, (((((((D7.out.1.setCell (Nat.le_refl _) _).setCell (Nat.le_refl _) _).setCell (Nat.le_refl _) _).setCell (Nat.le_refl _) _).setCell (Nat.le_refl _) _).setCell (Nat.le_refl _) _).setCell (Nat.le_refl _) _)⟩
                    · have HP := yes_text HQ.out HX.out hx
                      have HP2 : Hid (okB (decI q1) (kindI q0) (decI q2) (decI q3) (decI q4) (decI q5) (decI q6) = true ∧ textB (decI q1) (kindI q0) (decI q2) (decI q3) (decI q4) (decI q5) (decI q6) = s) := HP
                      clear HP
                      have hne : ¬ w2.heap.size = w.heap.size := by omega
                      go_wp2
                      exact bodyPost_ret (v := .tuple #[.agg #[.int .i64 (decI q1), .int .i64 (kindI q0), .int .i64 (decI q2), .int .i64 (decI q3), .int .i64 (decI q4), .int .i64 (decI q5), .int .i64 (decI q6)], .bool true]) (by simp [results, Tryz.results16, go_sem, z0, z1, z2, z3, z4, z5, z6]) rfl ⟨⟨_, _, _, _, _, _, _, true, rfl, fun _ => HP2.out, (fun h => by cases h)⟩, (((((((D7.out.1.setCell (Nat.le_refl _) _).setCell (Nat.le_refl _) _).setCell (Nat.le_refl _) _).setCell (Nat.le_refl _) _).setCell (Nat.le_refl _) _).setCell (Nat.le_refl _) _).setCell (Nat.le_refl _) _)⟩
            · -- the block first
              go_simp
              refine hK.out _ _ (HS2.out _) (fun _ => ?_)
              clear hK K
              refine wpAnyH_ready (rs := [15]) (by kernel_rfl) (by simp) ?_
              refine AllReadyH.cons rfl (fun K hK => ?_) AllReadyH.nil
              go_simp
              refine (l1Dec_any q4 _ (by have := Sz.out.2.2.2.1; omega)).mono ?_
              rintro r w' ⟨rfl, rfl⟩
              refine hK.out _ _ (HS2.out _) (fun _ => ?_)
              clear hK K
              refine wpAnyH_ready (rs := [19]) (by kernel_rfl) (by simp) ?_
              refine AllReadyH.cons rfl (fun K hK => ?_) AllReadyH.nil
              go_simp
              refine (l1Dec_any q5 _ (by have := Sz.out.2.2.2.2.1; omega)).mono ?_
              rintro r w' ⟨rfl, rfl⟩
              refine hK.out _ _ (HS2.out _) (fun _ => ?_)
              clear hK K
              refine wpAnyH_ready (rs := [23]) (by kernel_rfl) (by simp) ?_
              refine AllReadyH.cons rfl (fun K hK => ?_) AllReadyH.nil
              go_simp
              refine (l1Dec_any q6 _ (by have := Sz.out.2.2.2.2.2; omega)).mono ?_
              rintro r w' ⟨rfl, rfl⟩
              refine hK.out _ _ (HS2.out _) (fun _ => ?_)
              clear hK K
              have hS3 := HS2.out (.cells #[.int .i64 0, .int .i64 0, .int .i64 0, .int .i64 0, .int .i64 0, .int .i64 0, .int .i64 0] 39)
              refine take1 24 42 (.agg #[.int .i64 (decI q1), .int .i64 0, .int .i64 (decI q2), .int .i64 (decI q3), .int .i64 (decI q4), .int .i64 (decI q5), .int .i64 (decI q6)]) rfl rfl (by kernel_rfl) (by kernel_rfl) (by kernel_rfl) (by rfl) (fun _ _ _ h => h) hS3 (fun w' hS' => ?_) ?_
              · obtain ⟨e0, e1, e2, e3, e4, e5, e6⟩ := hS'; go_simp
              simp only [Act.put, List.setIfInBounds_toArray, List.set_cons_zero, List.set_cons_succ]
              refine wpAnyH_ready (rs := [26]) (by kernel_rfl) (by simp) ?_
              refine AllReadyH.cons rfl (fun K hK => ?_) AllReadyH.nil
              clear hS3
              go_simp
              refine hK.out _ _ (HS2.out _) (fun _ => ?_)
              clear hK K
              refine wpAnyH_done (by kernel_rfl) ?_ _
              clear hS HS2
              go_wp2_with fail
              refine (l1Names_any _).mono ?_
              rintro r3 w3 ⟨rfl, rfl⟩
              have T0 : Hid (Sr w g w2.heap.size (w2.heap.size + 1) q0 (decI q1) 0 (decI q2) (decI q3) (decI q4) (decI q5) (decI q6) (((w2.alloc (.cells #[.int .i64 (decI q1), .int .i64 0, .int .i64 (decI q2), .int .i64 (decI q3), .int .i64 (decI q4), .int .i64 (decI q5), .int .i64 (decI q6)] 39)).drew).alloc (.cells #[.string ⟨#[]⟩, .string ⟨#[116, 105, 99, 107, 101, 116]⟩, .string ⟨#[112, 97, 114, 116]⟩, .string ⟨#[97, 117, 116, 104]⟩, .string ⟨#[98, 97, 99, 107]⟩] 9))) := Sr.start B2.out.1 B2.out.2 HW.out.1 hgl hz2
              have hsz2 : ((w2.alloc (.cells #[.int .i64 (decI q1), .int .i64 0, .int .i64 (decI q2), .int .i64 (decI q3), .int .i64 (decI q4), .int .i64 (decI q5), .int .i64 (decI q6)] 39)).drew).heap.size = w2.heap.size + 1 := by show (w2.alloc _).heap.size = _; simp
              rw [hsz2]
              clear hsz2 B2 HW hgl
              go_wp2_with fail
              go_loopw [7] (fun i wr => ∃ j : Nat, 1 ≤ j ∧ j ≤ 5 ∧ i = .int .i64 j ∧ Hid (Sr w g w2.heap.size (w2.heap.size + 1) q0 (decI q1) (kindU j q0) (decI q2) (decI q3) (decI q4) (decI q5) (decI q6) wr)) (fun i _ => 5 - (intOf i).toNat)
              case atStart => exact ⟨1, by omega, by omega, rfl, T0⟩
              case round =>
                clear T0
                obtain ⟨j, hj1, hj5, rfl, T⟩ := hrel
                by_cases hlt : j < 5
                · obtain ⟨nm, hnm, hku⟩ := T.out.name hj1 hlt
                  have hwd := T.out.word
                  have hjI : (0 : Int) ≤ (j : Int) := by omega
                  have hjL : (j : Int) < 5 := by omega
                  have HK : Hid (kindU (j + 1) q0 = if (nm.toList == q0.toList) = true then (j : Int) else kindU j q0) := hku
                  have HC : Hid (wr.cell? ⟨w2.heap.size + 1, j, none⟩ = some (.string nm) ∧ wr.cell? ⟨g, 0, none⟩ = some (.string q0)) := ⟨hnm, hwd⟩
                  clear hku hnm hwd
                  go_wp2_with fail
                  refine wp_region_held_drew (S := fun w' => w'.cell? ⟨w2.heap.size + 1, j, none⟩ = some (.string nm) ∧ w'.cell? ⟨g, 0, none⟩ = some (.string q0)) (by kernel_rfl) HC.out (fun hS => ?_)
                  refine take1 0 50 (.slice (some ⟨w2.heap.size + 1, 0, none⟩) 5 5) rfl rfl (by kernel_rfl) (by kernel_rfl) (by kernel_rfl) (by rfl) (fun _ _ _ h => h) hS (fun w' hS' => ?_) ?_
                  · obtain ⟨e0, e1⟩ := hS'; go_simp
                  simp only [Act.put, List.setIfInBounds_toArray, List.set_cons_zero, List.set_cons_succ]
                  refine take1 1 51 (.int .i64 j) rfl rfl (by kernel_rfl) (by kernel_rfl) (by kernel_rfl) (by rfl) (fun _ _ _ h => h) hS (fun w' hS' => ?_) ?_
                  · obtain ⟨e0, e1⟩ := hS'; go_simp
                  simp only [Act.put, List.setIfInBounds_toArray, List.set_cons_zero, List.set_cons_succ]
                  refine take1 2 52 (.pointer (some ⟨w2.heap.size + 1, j, none⟩)) rfl rfl (by kernel_rfl) (by kernel_rfl) (by kernel_rfl) (by rfl) (fun _ _ _ h => h) hS (fun w' hS' => ?_) ?_
                  · obtain ⟨e0, e1⟩ := hS'; go_simp
                  simp only [Act.put, List.setIfInBounds_toArray, List.set_cons_zero, List.set_cons_succ]
                  refine take1 3 53 (.string nm) rfl rfl (by kernel_rfl) (by kernel_rfl) (by kernel_rfl) (by rfl) (fun _ _ _ h => h) hS (fun w' hS' => ?_) ?_
                  · obtain ⟨e0, e1⟩ := hS'; go_simp
                  simp only [Act.put, List.setIfInBounds_toArray, List.set_cons_zero, List.set_cons_succ]
                  refine take1 4 54 (.slice (some ⟨g, 0, none⟩) 7 cap) rfl rfl (by kernel_rfl) (by kernel_rfl) (by kernel_rfl) (by rfl) (fun _ _ _ h => h) hS (fun w' hS' => ?_) ?_
                  · obtain ⟨e0, e1⟩ := hS'; go_simp
                  simp only [Act.put, List.setIfInBounds_toArray, List.set_cons_zero, List.set_cons_succ]
                  refine take1 5 55 (.pointer (some ⟨g, 0, none⟩)) rfl rfl (by kernel_rfl) (by kernel_rfl) (by kernel_rfl) (by rfl) (fun _ _ _ h => h) hS (fun w' hS' => ?_) ?_
                  · obtain ⟨e0, e1⟩ := hS'; go_simp
                  simp only [Act.put, List.setIfInBounds_toArray, List.set_cons_zero, List.set_cons_succ]
                  refine take1 6 56 (.string q0) rfl rfl (by kernel_rfl) (by kernel_rfl) (by kernel_rfl) (by rfl) (fun _ _ _ h => h) hS (fun w' hS' => ?_) ?_
                  · obtain ⟨e0, e1⟩ := hS'; go_simp
                  simp only [Act.put, List.setIfInBounds_toArray, List.set_cons_zero, List.set_cons_succ]
                  refine take1 7 57 (.bool (nm.toList == q0.toList)) rfl rfl (by kernel_rfl) (by kernel_rfl) (by kernel_rfl) (by rfl) (fun _ _ _ h => h) hS (fun w' hS' => ?_) ?_
                  · obtain ⟨e0, e1⟩ := hS'; go_simp
                  simp only [Act.put, List.setIfInBounds_toArray, List.set_cons_zero, List.set_cons_succ]
                  refine wpAnyH_done (by kernel_rfl) ?_ _
                  clear hS HC
                  cases hx : (nm.toList == q0.toList)
                  · have e : kindU (j + 1) q0 = kindU j q0 := by rw [HK.out, hx]; rfl
                    have T1 : Hid (Sr w g w2.heap.size (w2.heap.size + 1) q0 (decI q1) (kindU (j + 1) q0) (decI q2) (decI q3) (decI q4) (decI q5) (decI q6) wr.drew) := by rw [e]; exact T.out.drew
                    clear T HK e hx
                    go_wp2_with fail
                    go_roundw
                    case rel => exact ⟨j + 1, by omega, by omega, by go_num, T1⟩
                    case measure => simp [intOf]; omega
                  · have e : kindU (j + 1) q0 = (j : Int) := by rw [HK.out, hx]; rfl
                    have T1 : Hid (Sr w g w2.heap.size (w2.heap.size + 1) q0 (decI q1) (kindU (j + 1) q0) (decI q2) (decI q3) (decI q4) (decI q5) (decI q6) ((wr.setCell ⟨w2.heap.size, 1, none⟩ (.int .i64 j)).drew)) := by rw [e]; exact (T.out.kind j).drew
                    obtain ⟨m0, m1, m2, m3, m4, m5, m6, mf⟩ := cells7 T.out.drew.sealed
                    clear T HK e hx m0 m2 m3 m4 m5 m6
                    go_wp2_with fail
                    go_roundw
                    case rel => exact ⟨j + 1, by omega, by omega, by go_num, T1⟩
                    case measure => simp [intOf]; omega
                · obtain rfl : j = 5 := by omega
                  have T5 : Hid (Sr w g w2.heap.size (w2.heap.size + 1) q0 (decI q1) (kindI q0) (decI q2) (decI q3) (decI q4) (decI q5) (decI q6) wr) := by rw [← kindU_all]; exact T.out
                  clear T
                  obtain ⟨m0, m1, m2, m3, m4, m5, m6, mf⟩ := cells7 T5.out.sealed
                  obtain ⟨X, hX⟩ : ∃ X, X = textB (decI q1) (kindI q0) (decI q2) (decI q3) (decI q4) (decI q5) (decI q6) := ⟨_, rfl⟩
                  have HX : Hid (X = textB (decI q1) (kindI q0) (decI q2) (decI q3) (decI q4) (decI q5) (decI q6)) := hX
                  go_wp2_with fail
                  refine (spec_text hX).mono ?_
                  rintro r7 w7 ⟨rfl, b7⟩
                  have D7 : Hid (Below w.heap.size w w7 ∧ w7.heap[w.heap.size]? = some (.cells #[.int .i64 0, .int .i64 0, .int .i64 0, .int .i64 0, .int .i64 0, .int .i64 0, .int .i64 0] 39 (0, 0)) ∧ w7.heap[w2.heap.size]? = some (.cells #[.int .i64 (decI q1), .int .i64 (kindI q0), .int .i64 (decI q2), .int .i64 (decI q3), .int .i64 (decI q4), .int .i64 (decI q5), .int .i64 (decI q6)] 39 (0, 0))) := ⟨T5.out.below.trans (b7.mono T5.out.below.size), (b7.block _ (Array.getElem?_eq_some_iff.1 T5.out.res).1).trans T5.out.res, (b7.block _ (Array.getElem?_eq_some_iff.1 T5.out.sealed).1).trans T5.out.sealed⟩
                  clear b7 T5 hX m0 m1 m2 m3 m4 m5 m6 mf
                  obtain ⟨m0, m1, m2, m3, m4, m5, m6, mf⟩ := cells7 D7.out.2.2
                  obtain ⟨z0, z1, z2, z3, z4, z5, z6, zf⟩ := cells7 D7.out.2.1
                  cases hx : (X.toList == s.toList)
                  · have HP : Hid (NoSeal s) := no_text HQ.out HX.out hx
                    go_wp2
                    exact bodyPost_ret (v := .tuple #[.agg #[.int .i64 0, .int .i64 0, .int .i64 0, .int .i64 0, .int .i64 0, .int .i64 0, .int .i64 0], .bool false]) (by simp [results, Tryz.results16, go_sem, z0, z1, z2, z3, z4, z5, z6]) rfl ⟨⟨0, 0, 0, 0, 0, 0, 0, false, rfl, (fun h => by cases h), fun _ => ⟨rfl, rfl, rfl, rfl, rfl, rfl, rfl, HP.out⟩⟩, (((((((D7.out.1.setCell (Nat.le_refl _) _).setCell (Nat.le_refl _) _).setCell (Nat.le_refl _) _).setCell (Nat.le_refl _) _).setCell (Nat.le_refl _) _).setCell (Nat.le_refl _) _).setCell (Nat.le_refl _) _)⟩
                  · have HP := yes_text HQ.out HX.out hx
                    have HP2 : Hid (okB (decI q1) (kindI q0) (decI q2) (decI q3) (decI q4) (decI q5) (decI q6) = true ∧ textB (decI q1) (kindI q0) (decI q2) (decI q3) (decI q4) (decI q5) (decI q6) = s) := HP
                    clear HP
                    have hne : ¬ w2.heap.size = w.heap.size := by omega
                    go_wp2
                    exact bodyPost_ret (v := .tuple #[.agg #[.int .i64 (decI q1), .int .i64 (kindI q0), .int .i64 (decI q2), .int .i64 (decI q3), .int .i64 (decI q4), .int .i64 (decI q5), .int .i64 (decI q6)], .bool true]) (by simp [results, Tryz.results16, go_sem, z0, z1, z2, z3, z4, z5, z6]) rfl ⟨⟨_, _, _, _, _, _, _, true, rfl, fun _ => HP2.out, (fun h => by cases h)⟩, (((((((D7.out.1.setCell (Nat.le_refl _) _).setCell (Nat.le_refl _) _).setCell (Nat.le_refl _) _).setCell (Nat.le_refl _) _).setCell (Nat.le_refl _) _).setCell (Nat.le_refl _) _).setCell (Nat.le_refl _) _)⟩
          · -- the block first
            go_simp
            refine hK.out _ _ (HS2.out _) (fun _ => ?_)
            clear hK K
            refine wpAnyH_ready (rs := [11]) (by kernel_rfl) (by simp) ?_
            refine AllReadyH.cons rfl (fun K hK => ?_) AllReadyH.nil
            go_simp
            refine (l1Dec_any q3 _ (by have := Sz.out.2.2.1; omega)).mono ?_
            rintro r w' ⟨rfl, rfl⟩
            refine hK.out _ _ (HS2.out _) (fun _ => ?_)
            clear hK K
            refine wpAnyH_ready (rs := [15]) (by kernel_rfl) (by simp) ?_
            refine AllReadyH.cons rfl (fun K hK => ?_) AllReadyH.nil
            go_simp
            refine (l1Dec_any q4 _ (by have := Sz.out.2.2.2.1; omega)).mono ?_
            rintro r w' ⟨rfl, rfl⟩
            refine hK.out _ _ (HS2.out _) (fun _ => ?_)
            clear hK K
            refine wpAnyH_ready (rs := [19]) (by kernel_rfl) (by simp) ?_
            refine AllReadyH.cons rfl (fun K hK => ?_) AllReadyH.nil
            go_simp
            refine (l1Dec_any q5 _ (by have := Sz.out.2.2.2.2.1; omega)).mono ?_
            rintro r w' ⟨rfl, rfl⟩
            refine hK.out _ _ (HS2.out _) (fun _ => ?_)
            clear hK K
            refine wpAnyH_ready (rs := [23]) (by kernel_rfl) (by simp) ?_
            refine AllReadyH.cons rfl (fun K hK => ?_) AllReadyH.nil
            go_simp
            refine (l1Dec_any q6 _ (by have := Sz.out.2.2.2.2.2; omega)).mono ?_
            rintro r w' ⟨rfl, rfl⟩
            refine hK.out _ _ (HS2.out _) (fun _ => ?_)
            clear hK K
            have hS3 := HS2.out (.cells #[.int .i64 0, .int .i64 0, .int .i64 0, .int .i64 0, .int .i64 0, .int .i64 0, .int .i64 0] 39)
            refine take1 24 42 (.agg #[.int .i64 (decI q1), .int .i64 0, .int .i64 (decI q2), .int .i64 (decI q3), .int .i64 (decI q4), .int .i64 (decI q5), .int .i64 (decI q6)]) rfl rfl (by kernel_rfl) (by kernel_rfl) (by kernel_rfl) (by rfl) (fun _ _ _ h => h) hS3 (fun w' hS' => ?_) ?_
            · obtain ⟨e0, e1, e2, e3, e4, e5, e6⟩ := hS'; go_simp
            simp only [Act.put, List.setIfInBounds_toArray, List.set_cons_zero, List.set_cons_succ]
            refine wpAnyH_ready (rs := [26]) (by kernel_rfl) (by simp) ?_
            refine AllReadyH.cons rfl (fun K hK => ?_) AllReadyH.nil
            clear hS3
            go_simp
            refine hK.out _ _ (HS2.out _) (fun _ => ?_)
            clear hK K
            refine wpAnyH_done (by kernel_rfl) ?_ _
            clear hS HS2
            go_wp2_with fail
            refine (l1Names_any _).mono ?_
            rintro r3 w3 ⟨rfl, rfl⟩
            have T0 : Hid (Sr w g w2.heap.size (w2.heap.size + 1) q0 (decI q1) 0 (decI q2) (decI q3) (decI q4) (decI q5) (decI q6) (((w2.alloc (.cells #[.int .i64 (decI q1), .int .i64 0, .int .i64 (decI q2), .int .i64 (decI q3), .int .i64 (decI q4), .int .i64 (decI q5), .int .i64 (decI q6)] 39)).drew).alloc (.cells #[.string ⟨#[]⟩, .string ⟨#[116, 105, 99, 107, 101, 116]⟩, .string ⟨#[112, 97, 114, 116]⟩, .string ⟨#[97, 117, 116, 104]⟩, .string ⟨#[98, 97, 99, 107]⟩] 9))) := Sr.start B2.out.1 B2.out.2 HW.out.1 hgl hz2
            have hsz2 : ((w2.alloc (.cells #[.int .i64 (decI q1), .int .i64 0, .int .i64 (decI q2), .int .i64 (decI q3), .int .i64 (decI q4), .int .i64 (decI q5), .int .i64 (decI q6)] 39)).drew).heap.size = w2.heap.size + 1 := by show (w2.alloc _).heap.size = _; simp
            rw [hsz2]
            clear hsz2 B2 HW hgl
            go_wp2_with fail
            go_loopw [7] (fun i wr => ∃ j : Nat, 1 ≤ j ∧ j ≤ 5 ∧ i = .int .i64 j ∧ Hid (Sr w g w2.heap.size (w2.heap.size + 1) q0 (decI q1) (kindU j q0) (decI q2) (decI q3) (decI q4) (decI q5) (decI q6) wr)) (fun i _ => 5 - (intOf i).toNat)
            case atStart => exact ⟨1, by omega, by omega, rfl, T0⟩
            case round =>
              clear T0
              obtain ⟨j, hj1, hj5, rfl, T⟩ := hrel
              by_cases hlt : j < 5
              · obtain ⟨nm, hnm, hku⟩ := T.out.name hj1 hlt
                have hwd := T.out.word
                have hjI : (0 : Int) ≤ (j : Int) := by omega
                have hjL : (j : Int) < 5 := by omega
                have HK : Hid (kindU (j + 1) q0 = if (nm.toList == q0.toList) = true then (j : Int) else kindU j q0) := hku
                have HC : Hid (wr.cell? ⟨w2.heap.size + 1, j, none⟩ = some (.string nm) ∧ wr.cell? ⟨g, 0, none⟩ = some (.string q0)) := ⟨hnm, hwd⟩
                clear hku hnm hwd
                go_wp2_with fail
                refine wp_region_held_drew (S := fun w' => w'.cell? ⟨w2.heap.size + 1, j, none⟩ = some (.string nm) ∧ w'.cell? ⟨g, 0, none⟩ = some (.string q0)) (by kernel_rfl) HC.out (fun hS => ?_)
                refine take1 0 50 (.slice (some ⟨w2.heap.size + 1, 0, none⟩) 5 5) rfl rfl (by kernel_rfl) (by kernel_rfl) (by kernel_rfl) (by rfl) (fun _ _ _ h => h) hS (fun w' hS' => ?_) ?_
                · obtain ⟨e0, e1⟩ := hS'; go_simp
                simp only [Act.put, List.setIfInBounds_toArray, List.set_cons_zero, List.set_cons_succ]
                refine take1 1 51 (.int .i64 j) rfl rfl (by kernel_rfl) (by kernel_rfl) (by kernel_rfl) (by rfl) (fun _ _ _ h => h) hS (fun w' hS' => ?_) ?_
                · obtain ⟨e0, e1⟩ := hS'; go_simp
                simp only [Act.put, List.setIfInBounds_toArray, List.set_cons_zero, List.set_cons_succ]
                refine take1 2 52 (.pointer (some ⟨w2.heap.size + 1, j, none⟩)) rfl rfl (by kernel_rfl) (by kernel_rfl) (by kernel_rfl) (by rfl) (fun _ _ _ h => h) hS (fun w' hS' => ?_) ?_
                · obtain ⟨e0, e1⟩ := hS'; go_simp
                simp only [Act.put, List.setIfInBounds_toArray, List.set_cons_zero, List.set_cons_succ]
                refine take1 3 53 (.string nm) rfl rfl (by kernel_rfl) (by kernel_rfl) (by kernel_rfl) (by rfl) (fun _ _ _ h => h) hS (fun w' hS' => ?_) ?_
                · obtain ⟨e0, e1⟩ := hS'; go_simp
                simp only [Act.put, List.setIfInBounds_toArray, List.set_cons_zero, List.set_cons_succ]
                refine take1 4 54 (.slice (some ⟨g, 0, none⟩) 7 cap) rfl rfl (by kernel_rfl) (by kernel_rfl) (by kernel_rfl) (by rfl) (fun _ _ _ h => h) hS (fun w' hS' => ?_) ?_
                · obtain ⟨e0, e1⟩ := hS'; go_simp
                simp only [Act.put, List.setIfInBounds_toArray, List.set_cons_zero, List.set_cons_succ]
                refine take1 5 55 (.pointer (some ⟨g, 0, none⟩)) rfl rfl (by kernel_rfl) (by kernel_rfl) (by kernel_rfl) (by rfl) (fun _ _ _ h => h) hS (fun w' hS' => ?_) ?_
                · obtain ⟨e0, e1⟩ := hS'; go_simp
                simp only [Act.put, List.setIfInBounds_toArray, List.set_cons_zero, List.set_cons_succ]
                refine take1 6 56 (.string q0) rfl rfl (by kernel_rfl) (by kernel_rfl) (by kernel_rfl) (by rfl) (fun _ _ _ h => h) hS (fun w' hS' => ?_) ?_
                · obtain ⟨e0, e1⟩ := hS'; go_simp
                simp only [Act.put, List.setIfInBounds_toArray, List.set_cons_zero, List.set_cons_succ]
                refine take1 7 57 (.bool (nm.toList == q0.toList)) rfl rfl (by kernel_rfl) (by kernel_rfl) (by kernel_rfl) (by rfl) (fun _ _ _ h => h) hS (fun w' hS' => ?_) ?_
                · obtain ⟨e0, e1⟩ := hS'; go_simp
                simp only [Act.put, List.setIfInBounds_toArray, List.set_cons_zero, List.set_cons_succ]
                refine wpAnyH_done (by kernel_rfl) ?_ _
                clear hS HC
                cases hx : (nm.toList == q0.toList)
                · have e : kindU (j + 1) q0 = kindU j q0 := by rw [HK.out, hx]; rfl
                  have T1 : Hid (Sr w g w2.heap.size (w2.heap.size + 1) q0 (decI q1) (kindU (j + 1) q0) (decI q2) (decI q3) (decI q4) (decI q5) (decI q6) wr.drew) := by rw [e]; exact T.out.drew
                  clear T HK e hx
                  go_wp2_with fail
                  go_roundw
                  case rel => exact ⟨j + 1, by omega, by omega, by go_num, T1⟩
                  case measure => simp [intOf]; omega
                · have e : kindU (j + 1) q0 = (j : Int) := by rw [HK.out, hx]; rfl
                  have T1 : Hid (Sr w g w2.heap.size (w2.heap.size + 1) q0 (decI q1) (kindU (j + 1) q0) (decI q2) (decI q3) (decI q4) (decI q5) (decI q6) ((wr.setCell ⟨w2.heap.size, 1, none⟩ (.int .i64 j)).drew)) := by rw [e]; exact (T.out.kind j).drew
                  obtain ⟨m0, m1, m2, m3, m4, m5, m6, mf⟩ := cells7 T.out.drew.sealed
                  clear T HK e hx m0 m2 m3 m4 m5 m6
                  go_wp2_with fail
                  go_roundw
                  case rel => exact ⟨j + 1, by omega, by omega, by go_num, T1⟩
                  case measure => simp [intOf]; omega
              · obtain rfl : j = 5 := by omega
                have T5 : Hid (Sr w g w2.heap.size (w2.heap.size + 1) q0 (decI q1) (kindI q0) (decI q2) (decI q3) (decI q4) (decI q5) (decI q6) wr) := by rw [← kindU_all]; exact T.out
                clear T
                obtain ⟨m0, m1, m2, m3, m4, m5, m6, mf⟩ := cells7 T5.out.sealed
                obtain ⟨X, hX⟩ : ∃ X, X = textB (decI q1) (kindI q0) (decI q2) (decI q3) (decI q4) (decI q5) (decI q6) := ⟨_, rfl⟩
                have HX : Hid (X = textB (decI q1) (kindI q0) (decI q2) (decI q3) (decI q4) (decI q5) (decI q6)) := hX
                go_wp2_with fail
                refine (spec_text hX).mono ?_
                rintro r7 w7 ⟨rfl, b7⟩
                have D7 : Hid (Below w.heap.size w w7 ∧ w7.heap[w.heap.size]? = some (.cells #[.int .i64 0, .int .i64 0, .int .i64 0, .int .i64 0, .int .i64 0, .int .i64 0, .int .i64 0] 39 (0, 0)) ∧ w7.heap[w2.heap.size]? = some (.cells #[.int .i64 (decI q1), .int .i64 (kindI q0), .int .i64 (decI q2), .int .i64 (decI q3), .int .i64 (decI q4), .int .i64 (decI q5), .int .i64 (decI q6)] 39 (0, 0))) := ⟨T5.out.below.trans (b7.mono T5.out.below.size), (b7.block _ (Array.getElem?_eq_some_iff.1 T5.out.res).1).trans T5.out.res, (b7.block _ (Array.getElem?_eq_some_iff.1 T5.out.sealed).1).trans T5.out.sealed⟩
                clear b7 T5 hX m0 m1 m2 m3 m4 m5 m6 mf
                obtain ⟨m0, m1, m2, m3, m4, m5, m6, mf⟩ := cells7 D7.out.2.2
                obtain ⟨z0, z1, z2, z3, z4, z5, z6, zf⟩ := cells7 D7.out.2.1
                cases hx : (X.toList == s.toList)
                · have HP : Hid (NoSeal s) := no_text HQ.out HX.out hx
                  go_wp2
                  exact bodyPost_ret (v := .tuple #[.agg #[.int .i64 0, .int .i64 0, .int .i64 0, .int .i64 0, .int .i64 0, .int .i64 0, .int .i64 0], .bool false]) (by simp [results, Tryz.results16, go_sem, z0, z1, z2, z3, z4, z5, z6]) rfl ⟨⟨0, 0, 0, 0, 0, 0, 0, false, rfl, (fun h => by cases h), fun _ => ⟨rfl, rfl, rfl, rfl, rfl, rfl, rfl, HP.out⟩⟩, (((((((D7.out.1.setCell (Nat.le_refl _) _).setCell (Nat.le_refl _) _).setCell (Nat.le_refl _) _).setCell (Nat.le_refl _) _).setCell (Nat.le_refl _) _).setCell (Nat.le_refl _) _).setCell (Nat.le_refl _) _)⟩
                · have HP := yes_text HQ.out HX.out hx
                  have HP2 : Hid (okB (decI q1) (kindI q0) (decI q2) (decI q3) (decI q4) (decI q5) (decI q6) = true ∧ textB (decI q1) (kindI q0) (decI q2) (decI q3) (decI q4) (decI q5) (decI q6) = s) := HP
                  clear HP
                  have hne : ¬ w2.heap.size = w.heap.size := by omega
                  go_wp2
                  exact bodyPost_ret (v := .tuple #[.agg #[.int .i64 (decI q1), .int .i64 (kindI q0), .int .i64 (decI q2), .int .i64 (decI q3), .int .i64 (decI q4), .int .i64 (decI q5), .int .i64 (decI q6)], .bool true]) (by simp [results, Tryz.results16, go_sem, z0, z1, z2, z3, z4, z5, z6]) rfl ⟨⟨_, _, _, _, _, _, _, true, rfl, fun _ => HP2.out, (fun h => by cases h)⟩, (((((((D7.out.1.setCell (Nat.le_refl _) _).setCell (Nat.le_refl _) _).setCell (Nat.le_refl _) _).setCell (Nat.le_refl _) _).setCell (Nat.le_refl _) _).setCell (Nat.le_refl _) _).setCell (Nat.le_refl _) _)⟩
        · -- the block first
          go_simp
          refine hK.out _ _ (HS2.out _) (fun _ => ?_)
          clear hK K
          refine wpAnyH_ready (rs := [7]) (by kernel_rfl) (by simp) ?_
          refine AllReadyH.cons rfl (fun K hK => ?_) AllReadyH.nil
          go_simp
          refine (l1Dec_any q2 _ (by have := Sz.out.2.1; omega)).mono ?_
          rintro r w' ⟨rfl, rfl⟩
          refine hK.out _ _ (HS2.out _) (fun _ => ?_)
          clear hK K
          refine wpAnyH_ready (rs := [11]) (by kernel_rfl) (by simp) ?_
          refine AllReadyH.cons rfl (fun K hK => ?_) AllReadyH.nil
          go_simp
          refine (l1Dec_any q3 _ (by have := Sz.out.2.2.1; omega)).mono ?_
          rintro r w' ⟨rfl, rfl⟩
          refine hK.out _ _ (HS2.out _) (fun _ => ?_)
          clear hK K
          refine wpAnyH_ready (rs := [15]) (by kernel_rfl) (by simp) ?_
          refine AllReadyH.cons rfl (fun K hK => ?_) AllReadyH.nil
          go_simp
          refine (l1Dec_any q4 _ (by have := Sz.out.2.2.2.1; omega)).mono ?_
          rintro r w' ⟨rfl, rfl⟩
          refine hK.out _ _ (HS2.out _) (fun _ => ?_)
          clear hK K
          refine wpAnyH_ready (rs := [19]) (by kernel_rfl) (by simp) ?_
          refine AllReadyH.cons rfl (fun K hK => ?_) AllReadyH.nil
          go_simp
          refine (l1Dec_any q5 _ (by have := Sz.out.2.2.2.2.1; omega)).mono ?_
          rintro r w' ⟨rfl, rfl⟩
          refine hK.out _ _ (HS2.out _) (fun _ => ?_)
          clear hK K
          refine wpAnyH_ready (rs := [23]) (by kernel_rfl) (by simp) ?_
          refine AllReadyH.cons rfl (fun K hK => ?_) AllReadyH.nil
          go_simp
          refine (l1Dec_any q6 _ (by have := Sz.out.2.2.2.2.2; omega)).mono ?_
          rintro r w' ⟨rfl, rfl⟩
          refine hK.out _ _ (HS2.out _) (fun _ => ?_)
          clear hK K
          have hS3 := HS2.out (.cells #[.int .i64 0, .int .i64 0, .int .i64 0, .int .i64 0, .int .i64 0, .int .i64 0, .int .i64 0] 39)
          refine take1 24 42 (.agg #[.int .i64 (decI q1), .int .i64 0, .int .i64 (decI q2), .int .i64 (decI q3), .int .i64 (decI q4), .int .i64 (decI q5), .int .i64 (decI q6)]) rfl rfl (by kernel_rfl) (by kernel_rfl) (by kernel_rfl) (by rfl) (fun _ _ _ h => h) hS3 (fun w' hS' => ?_) ?_
          · obtain ⟨e0, e1, e2, e3, e4, e5, e6⟩ := hS'; go_simp
          simp only [Act.put, List.setIfInBounds_toArray, List.set_cons_zero, List.set_cons_succ]
          refine wpAnyH_ready (rs := [26]) (by kernel_rfl) (by simp) ?_
          refine AllReadyH.cons rfl (fun K hK => ?_) AllReadyH.nil
          clear hS3
          go_simp
          refine hK.out _ _ (HS2.out _) (fun _ => ?_)
          clear hK K
          refine wpAnyH_done (by kernel_rfl) ?_ _
          clear hS HS2
          go_wp2_with fail
          refine (l1Names_any _).mono ?_
          rintro r3 w3 ⟨rfl, rfl⟩
          have T0 : Hid (Sr w g w2.heap.size (w2.heap.size + 1) q0 (decI q1) 0 (decI q2) (decI q3) (decI q4) (decI q5) (decI q6) (((w2.alloc (.cells #[.int .i64 (decI q1), .int .i64 0, .int .i64 (decI q2), .int .i64 (decI q3), .int .i64 (decI q4), .int .i64 (decI q5), .int .i64 (decI q6)] 39)).drew).alloc (.cells #[.string ⟨#[]⟩, .string ⟨#[116, 105, 99, 107, 101, 116]⟩, .string ⟨#[112, 97, 114, 116]⟩, .string ⟨#[97, 117, 116, 104]⟩, .string ⟨#[98, 97, 99, 107]⟩] 9))) := Sr.start B2.out.1 B2.out.2 HW.out.1 hgl hz2
          have hsz2 : ((w2.alloc (.cells #[.int .i64 (decI q1), .int .i64 0, .int .i64 (decI q2), .int .i64 (decI q3), .int .i64 (decI q4), .int .i64 (decI q5), .int .i64 (decI q6)] 39)).drew).heap.size = w2.heap.size + 1 := by show (w2.alloc _).heap.size = _; simp
          rw [hsz2]
          clear hsz2 B2 HW hgl
          go_wp2_with fail
          go_loopw [7] (fun i wr => ∃ j : Nat, 1 ≤ j ∧ j ≤ 5 ∧ i = .int .i64 j ∧ Hid (Sr w g w2.heap.size (w2.heap.size + 1) q0 (decI q1) (kindU j q0) (decI q2) (decI q3) (decI q4) (decI q5) (decI q6) wr)) (fun i _ => 5 - (intOf i).toNat)
          case atStart => exact ⟨1, by omega, by omega, rfl, T0⟩
          case round =>
            clear T0
            obtain ⟨j, hj1, hj5, rfl, T⟩ := hrel
            by_cases hlt : j < 5
            · obtain ⟨nm, hnm, hku⟩ := T.out.name hj1 hlt
              have hwd := T.out.word
              have hjI : (0 : Int) ≤ (j : Int) := by omega
              have hjL : (j : Int) < 5 := by omega
              have HK : Hid (kindU (j + 1) q0 = if (nm.toList == q0.toList) = true then (j : Int) else kindU j q0) := hku
              have HC : Hid (wr.cell? ⟨w2.heap.size + 1, j, none⟩ = some (.string nm) ∧ wr.cell? ⟨g, 0, none⟩ = some (.string q0)) := ⟨hnm, hwd⟩
              clear hku hnm hwd
              go_wp2_with fail
              refine wp_region_held_drew (S := fun w' => w'.cell? ⟨w2.heap.size + 1, j, none⟩ = some (.string nm) ∧ w'.cell? ⟨g, 0, none⟩ = some (.string q0)) (by kernel_rfl) HC.out (fun hS => ?_)
              refine take1 0 50 (.slice (some ⟨w2.heap.size + 1, 0, none⟩) 5 5) rfl rfl (by kernel_rfl) (by kernel_rfl) (by kernel_rfl) (by rfl) (fun _ _ _ h => h) hS (fun w' hS' => ?_) ?_
              · obtain ⟨e0, e1⟩ := hS'; go_simp
              simp only [Act.put, List.setIfInBounds_toArray, List.set_cons_zero, List.set_cons_succ]
              refine take1 1 51 (.int .i64 j) rfl rfl (by kernel_rfl) (by kernel_rfl) (by kernel_rfl) (by rfl) (fun _ _ _ h => h) hS (fun w' hS' => ?_) ?_
              · obtain ⟨e0, e1⟩ := hS'; go_simp
              simp only [Act.put, List.setIfInBounds_toArray, List.set_cons_zero, List.set_cons_succ]
              refine take1 2 52 (.pointer (some ⟨w2.heap.size + 1, j, none⟩)) rfl rfl (by kernel_rfl) (by kernel_rfl) (by kernel_rfl) (by rfl) (fun _ _ _ h => h) hS (fun w' hS' => ?_) ?_
              · obtain ⟨e0, e1⟩ := hS'; go_simp
              simp only [Act.put, List.setIfInBounds_toArray, List.set_cons_zero, List.set_cons_succ]
              refine take1 3 53 (.string nm) rfl rfl (by kernel_rfl) (by kernel_rfl) (by kernel_rfl) (by rfl) (fun _ _ _ h => h) hS (fun w' hS' => ?_) ?_
              · obtain ⟨e0, e1⟩ := hS'; go_simp
              simp only [Act.put, List.setIfInBounds_toArray, List.set_cons_zero, List.set_cons_succ]
              refine take1 4 54 (.slice (some ⟨g, 0, none⟩) 7 cap) rfl rfl (by kernel_rfl) (by kernel_rfl) (by kernel_rfl) (by rfl) (fun _ _ _ h => h) hS (fun w' hS' => ?_) ?_
              · obtain ⟨e0, e1⟩ := hS'; go_simp
              simp only [Act.put, List.setIfInBounds_toArray, List.set_cons_zero, List.set_cons_succ]
              refine take1 5 55 (.pointer (some ⟨g, 0, none⟩)) rfl rfl (by kernel_rfl) (by kernel_rfl) (by kernel_rfl) (by rfl) (fun _ _ _ h => h) hS (fun w' hS' => ?_) ?_
              · obtain ⟨e0, e1⟩ := hS'; go_simp
              simp only [Act.put, List.setIfInBounds_toArray, List.set_cons_zero, List.set_cons_succ]
              refine take1 6 56 (.string q0) rfl rfl (by kernel_rfl) (by kernel_rfl) (by kernel_rfl) (by rfl) (fun _ _ _ h => h) hS (fun w' hS' => ?_) ?_
              · obtain ⟨e0, e1⟩ := hS'; go_simp
              simp only [Act.put, List.setIfInBounds_toArray, List.set_cons_zero, List.set_cons_succ]
              refine take1 7 57 (.bool (nm.toList == q0.toList)) rfl rfl (by kernel_rfl) (by kernel_rfl) (by kernel_rfl) (by rfl) (fun _ _ _ h => h) hS (fun w' hS' => ?_) ?_
              · obtain ⟨e0, e1⟩ := hS'; go_simp
              simp only [Act.put, List.setIfInBounds_toArray, List.set_cons_zero, List.set_cons_succ]
              refine wpAnyH_done (by kernel_rfl) ?_ _
              clear hS HC
              cases hx : (nm.toList == q0.toList)
              · have e : kindU (j + 1) q0 = kindU j q0 := by rw [HK.out, hx]; rfl
                have T1 : Hid (Sr w g w2.heap.size (w2.heap.size + 1) q0 (decI q1) (kindU (j + 1) q0) (decI q2) (decI q3) (decI q4) (decI q5) (decI q6) wr.drew) := by rw [e]; exact T.out.drew
                clear T HK e hx
                go_wp2_with fail
                go_roundw
                case rel => exact ⟨j + 1, by omega, by omega, by go_num, T1⟩
                case measure => simp [intOf]; omega
              · have e : kindU (j + 1) q0 = (j : Int) := by rw [HK.out, hx]; rfl
                have T1 : Hid (Sr w g w2.heap.size (w2.heap.size + 1) q0 (decI q1) (kindU (j + 1) q0) (decI q2) (decI q3) (decI q4) (decI q5) (decI q6) ((wr.setCell ⟨w2.heap.size, 1, none⟩ (.int .i64 j)).drew)) := by rw [e]; exact (T.out.kind j).drew
                obtain ⟨m0, m1, m2, m3, m4, m5, m6, mf⟩ := cells7 T.out.drew.sealed
                clear T HK e hx m0 m2 m3 m4 m5 m6
                go_wp2_with fail
                go_roundw
                case rel => exact ⟨j + 1, by omega, by omega, by go_num, T1⟩
                case measure => simp [intOf]; omega
            · obtain rfl : j = 5 := by omega
              have T5 : Hid (Sr w g w2.heap.size (w2.heap.size + 1) q0 (decI q1) (kindI q0) (decI q2) (decI q3) (decI q4) (decI q5) (decI q6) wr) := by rw [← kindU_all]; exact T.out
              clear T
              obtain ⟨m0, m1, m2, m3, m4, m5, m6, mf⟩ := cells7 T5.out.sealed
              obtain ⟨X, hX⟩ : ∃ X, X = textB (decI q1) (kindI q0) (decI q2) (decI q3) (decI q4) (decI q5) (decI q6) := ⟨_, rfl⟩
              have HX : Hid (X = textB (decI q1) (kindI q0) (decI q2) (decI q3) (decI q4) (decI q5) (decI q6)) := hX
              go_wp2_with fail
              refine (spec_text hX).mono ?_
              rintro r7 w7 ⟨rfl, b7⟩
              have D7 : Hid (Below w.heap.size w w7 ∧ w7.heap[w.heap.size]? = some (.cells #[.int .i64 0, .int .i64 0, .int .i64 0, .int .i64 0, .int .i64 0, .int .i64 0, .int .i64 0] 39 (0, 0)) ∧ w7.heap[w2.heap.size]? = some (.cells #[.int .i64 (decI q1), .int .i64 (kindI q0), .int .i64 (decI q2), .int .i64 (decI q3), .int .i64 (decI q4), .int .i64 (decI q5), .int .i64 (decI q6)] 39 (0, 0))) := ⟨T5.out.below.trans (b7.mono T5.out.below.size), (b7.block _ (Array.getElem?_eq_some_iff.1 T5.out.res).1).trans T5.out.res, (b7.block _ (Array.getElem?_eq_some_iff.1 T5.out.sealed).1).trans T5.out.sealed⟩
              clear b7 T5 hX m0 m1 m2 m3 m4 m5 m6 mf
              obtain ⟨m0, m1, m2, m3, m4, m5, m6, mf⟩ := cells7 D7.out.2.2
              obtain ⟨z0, z1, z2, z3, z4, z5, z6, zf⟩ := cells7 D7.out.2.1
              cases hx : (X.toList == s.toList)
              · have HP : Hid (NoSeal s) := no_text HQ.out HX.out hx
                go_wp2
                exact bodyPost_ret (v := .tuple #[.agg #[.int .i64 0, .int .i64 0, .int .i64 0, .int .i64 0, .int .i64 0, .int .i64 0, .int .i64 0], .bool false]) (by simp [results, Tryz.results16, go_sem, z0, z1, z2, z3, z4, z5, z6]) rfl ⟨⟨0, 0, 0, 0, 0, 0, 0, false, rfl, (fun h => by cases h), fun _ => ⟨rfl, rfl, rfl, rfl, rfl, rfl, rfl, HP.out⟩⟩, (((((((D7.out.1.setCell (Nat.le_refl _) _).setCell (Nat.le_refl _) _).setCell (Nat.le_refl _) _).setCell (Nat.le_refl _) _).setCell (Nat.le_refl _) _).setCell (Nat.le_refl _) _).setCell (Nat.le_refl _) _)⟩
              · have HP := yes_text HQ.out HX.out hx
                have HP2 : Hid (okB (decI q1) (kindI q0) (decI q2) (decI q3) (decI q4) (decI q5) (decI q6) = true ∧ textB (decI q1) (kindI q0) (decI q2) (decI q3) (decI q4) (decI q5) (decI q6) = s) := HP
                clear HP
                have hne : ¬ w2.heap.size = w.heap.size := by omega
                go_wp2
                exact bodyPost_ret (v := .tuple #[.agg #[.int .i64 (decI q1), .int .i64 (kindI q0), .int .i64 (decI q2), .int .i64 (decI q3), .int .i64 (decI q4), .int .i64 (decI q5), .int .i64 (decI q6)], .bool true]) (by simp [results, Tryz.results16, go_sem, z0, z1, z2, z3, z4, z5, z6]) rfl ⟨⟨_, _, _, _, _, _, _, true, rfl, fun _ => HP2.out, (fun h => by cases h)⟩, (((((((D7.out.1.setCell (Nat.le_refl _) _).setCell (Nat.le_refl _) _).setCell (Nat.le_refl _) _).setCell (Nat.le_refl _) _).setCell (Nat.le_refl _) _).setCell (Nat.le_refl _) _).setCell (Nat.le_refl _) _)⟩
      · -- the block first
        go_simp
        refine hK.out _ _ (HS2.out _) (fun _ => ?_)
        clear hK K
        refine wpAnyH_ready (rs := [3]) (by kernel_rfl) (by simp) ?_
        refine AllReadyH.cons rfl (fun K hK => ?_) AllReadyH.nil
        go_simp
        refine (l1Dec_any q1 _ (by have := Sz.out.1; omega)).mono ?_
        rintro r w' ⟨rfl, rfl⟩
        refine hK.out _ _ (HS2.out _) (fun _ => ?_)
        clear hK K
        refine wpAnyH_ready (rs := [7]) (by kernel_rfl) (by simp) ?_
        refine AllReadyH.cons rfl (fun K hK => ?_) AllReadyH.nil
        go_simp
        refine (l1Dec_any q2 _ (by have := Sz.out.2.1; omega)).mono ?_
        rintro r w' ⟨rfl, rfl⟩
        refine hK.out _ _ (HS2.out _) (fun _ => ?_)
        clear hK K
        refine wpAnyH_ready (rs := [11]) (by kernel_rfl) (by simp) ?_
        refine AllReadyH.cons rfl (fun K hK => ?_) AllReadyH.nil
        go_simp
        refine (l1Dec_any q3 _ (by have := Sz.out.2.2.1; omega)).mono ?_
        rintro r w' ⟨rfl, rfl⟩
        refine hK.out _ _ (HS2.out _) (fun _ => ?_)
        clear hK K
        refine wpAnyH_ready (rs := [15]) (by kernel_rfl) (by simp) ?_
        refine AllReadyH.cons rfl (fun K hK => ?_) AllReadyH.nil
        go_simp
        refine (l1Dec_any q4 _ (by have := Sz.out.2.2.2.1; omega)).mono ?_
        rintro r w' ⟨rfl, rfl⟩
        refine hK.out _ _ (HS2.out _) (fun _ => ?_)
        clear hK K
        refine wpAnyH_ready (rs := [19]) (by kernel_rfl) (by simp) ?_
        refine AllReadyH.cons rfl (fun K hK => ?_) AllReadyH.nil
        go_simp
        refine (l1Dec_any q5 _ (by have := Sz.out.2.2.2.2.1; omega)).mono ?_
        rintro r w' ⟨rfl, rfl⟩
        refine hK.out _ _ (HS2.out _) (fun _ => ?_)
        clear hK K
        refine wpAnyH_ready (rs := [23]) (by kernel_rfl) (by simp) ?_
        refine AllReadyH.cons rfl (fun K hK => ?_) AllReadyH.nil
        go_simp
        refine (l1Dec_any q6 _ (by have := Sz.out.2.2.2.2.2; omega)).mono ?_
        rintro r w' ⟨rfl, rfl⟩
        refine hK.out _ _ (HS2.out _) (fun _ => ?_)
        clear hK K
        have hS3 := HS2.out (.cells #[.int .i64 0, .int .i64 0, .int .i64 0, .int .i64 0, .int .i64 0, .int .i64 0, .int .i64 0] 39)
        refine take1 24 42 (.agg #[.int .i64 (decI q1), .int .i64 0, .int .i64 (decI q2), .int .i64 (decI q3), .int .i64 (decI q4), .int .i64 (decI q5), .int .i64 (decI q6)]) rfl rfl (by kernel_rfl) (by kernel_rfl) (by kernel_rfl) (by rfl) (fun _ _ _ h => h) hS3 (fun w' hS' => ?_) ?_
        · obtain ⟨e0, e1, e2, e3, e4, e5, e6⟩ := hS'; go_simp
        simp only [Act.put, List.setIfInBounds_toArray, List.set_cons_zero, List.set_cons_succ]
        refine wpAnyH_ready (rs := [26]) (by kernel_rfl) (by simp) ?_
        refine AllReadyH.cons rfl (fun K hK => ?_) AllReadyH.nil
        clear hS3
        go_simp
        refine hK.out _ _ (HS2.out _) (fun _ => ?_)
        clear hK K
        refine wpAnyH_done (by kernel_rfl) ?_ _
        clear hS HS2
        go_wp2_with fail
        refine (l1Names_any _).mono ?_
        rintro r3 w3 ⟨rfl, rfl⟩
        have T0 : Hid (Sr w g w2.heap.size (w2.heap.size + 1) q0 (decI q1) 0 (decI q2) (decI q3) (decI q4) (decI q5) (decI q6) (((w2.alloc (.cells #[.int .i64 (decI q1), .int .i64 0, .int .i64 (decI q2), .int .i64 (decI q3), .int .i64 (decI q4), .int .i64 (decI q5), .int .i64 (decI q6)] 39)).drew).alloc (.cells #[.string ⟨#[]⟩, .string ⟨#[116, 105, 99, 107, 101, 116]⟩, .string ⟨#[112, 97, 114, 116]⟩, .string ⟨#[97, 117, 116, 104]⟩, .string ⟨#[98, 97, 99, 107]⟩] 9))) := Sr.start B2.out.1 B2.out.2 HW.out.1 hgl hz2
        have hsz2 : ((w2.alloc (.cells #[.int .i64 (decI q1), .int .i64 0, .int .i64 (decI q2), .int .i64 (decI q3), .int .i64 (decI q4), .int .i64 (decI q5), .int .i64 (decI q6)] 39)).drew).heap.size = w2.heap.size + 1 := by show (w2.alloc _).heap.size = _; simp
        rw [hsz2]
        clear hsz2 B2 HW hgl
        go_wp2_with fail
        go_loopw [7] (fun i wr => ∃ j : Nat, 1 ≤ j ∧ j ≤ 5 ∧ i = .int .i64 j ∧ Hid (Sr w g w2.heap.size (w2.heap.size + 1) q0 (decI q1) (kindU j q0) (decI q2) (decI q3) (decI q4) (decI q5) (decI q6) wr)) (fun i _ => 5 - (intOf i).toNat)
        case atStart => exact ⟨1, by omega, by omega, rfl, T0⟩
        case round =>
          clear T0
          obtain ⟨j, hj1, hj5, rfl, T⟩ := hrel
          by_cases hlt : j < 5
          · obtain ⟨nm, hnm, hku⟩ := T.out.name hj1 hlt
            have hwd := T.out.word
            have hjI : (0 : Int) ≤ (j : Int) := by omega
            have hjL : (j : Int) < 5 := by omega
            have HK : Hid (kindU (j + 1) q0 = if (nm.toList == q0.toList) = true then (j : Int) else kindU j q0) := hku
            have HC : Hid (wr.cell? ⟨w2.heap.size + 1, j, none⟩ = some (.string nm) ∧ wr.cell? ⟨g, 0, none⟩ = some (.string q0)) := ⟨hnm, hwd⟩
            clear hku hnm hwd
            go_wp2_with fail
            refine wp_region_held_drew (S := fun w' => w'.cell? ⟨w2.heap.size + 1, j, none⟩ = some (.string nm) ∧ w'.cell? ⟨g, 0, none⟩ = some (.string q0)) (by kernel_rfl) HC.out (fun hS => ?_)
            refine take1 0 50 (.slice (some ⟨w2.heap.size + 1, 0, none⟩) 5 5) rfl rfl (by kernel_rfl) (by kernel_rfl) (by kernel_rfl) (by rfl) (fun _ _ _ h => h) hS (fun w' hS' => ?_) ?_
            · obtain ⟨e0, e1⟩ := hS'; go_simp
            simp only [Act.put, List.setIfInBounds_toArray, List.set_cons_zero, List.set_cons_succ]
            refine take1 1 51 (.int .i64 j) rfl rfl (by kernel_rfl) (by kernel_rfl) (by kernel_rfl) (by rfl) (fun _ _ _ h => h) hS (fun w' hS' => ?_) ?_
            · obtain ⟨e0, e1⟩ := hS'; go_simp
            simp only [Act.put, List.setIfInBounds_toArray, List.set_cons_zero, List.set_cons_succ]
            refine take1 2 52 (.pointer (some ⟨w2.heap.size + 1, j, none⟩)) rfl rfl (by kernel_rfl) (by kernel_rfl) (by kernel_rfl) (by rfl) (fun _ _ _ h => h) hS (fun w' hS' => ?_) ?_
            · obtain ⟨e0, e1⟩ := hS'; go_simp
            simp only [Act.put, List.setIfInBounds_toArray, List.set_cons_zero, List.set_cons_succ]
            refine take1 3 53 (.string nm) rfl rfl (by kernel_rfl) (by kernel_rfl) (by kernel_rfl) (by rfl) (fun _ _ _ h => h) hS (fun w' hS' => ?_) ?_
            · obtain ⟨e0, e1⟩ := hS'; go_simp
            simp only [Act.put, List.setIfInBounds_toArray, List.set_cons_zero, List.set_cons_succ]
            refine take1 4 54 (.slice (some ⟨g, 0, none⟩) 7 cap) rfl rfl (by kernel_rfl) (by kernel_rfl) (by kernel_rfl) (by rfl) (fun _ _ _ h => h) hS (fun w' hS' => ?_) ?_
            · obtain ⟨e0, e1⟩ := hS'; go_simp
            simp only [Act.put, List.setIfInBounds_toArray, List.set_cons_zero, List.set_cons_succ]
            refine take1 5 55 (.pointer (some ⟨g, 0, none⟩)) rfl rfl (by kernel_rfl) (by kernel_rfl) (by kernel_rfl) (by rfl) (fun _ _ _ h => h) hS (fun w' hS' => ?_) ?_
            · obtain ⟨e0, e1⟩ := hS'; go_simp
            simp only [Act.put, List.setIfInBounds_toArray, List.set_cons_zero, List.set_cons_succ]
            refine take1 6 56 (.string q0) rfl rfl (by kernel_rfl) (by kernel_rfl) (by kernel_rfl) (by rfl) (fun _ _ _ h => h) hS (fun w' hS' => ?_) ?_
            · obtain ⟨e0, e1⟩ := hS'; go_simp
            simp only [Act.put, List.setIfInBounds_toArray, List.set_cons_zero, List.set_cons_succ]
            refine take1 7 57 (.bool (nm.toList == q0.toList)) rfl rfl (by kernel_rfl) (by kernel_rfl) (by kernel_rfl) (by rfl) (fun _ _ _ h => h) hS (fun w' hS' => ?_) ?_
            · obtain ⟨e0, e1⟩ := hS'; go_simp
            simp only [Act.put, List.setIfInBounds_toArray, List.set_cons_zero, List.set_cons_succ]
            refine wpAnyH_done (by kernel_rfl) ?_ _
            clear hS HC
            cases hx : (nm.toList == q0.toList)
            · have e : kindU (j + 1) q0 = kindU j q0 := by rw [HK.out, hx]; rfl
              have T1 : Hid (Sr w g w2.heap.size (w2.heap.size + 1) q0 (decI q1) (kindU (j + 1) q0) (decI q2) (decI q3) (decI q4) (decI q5) (decI q6) wr.drew) := by rw [e]; exact T.out.drew
              clear T HK e hx
              go_wp2_with fail
              go_roundw
              case rel => exact ⟨j + 1, by omega, by omega, by go_num, T1⟩
              case measure => simp [intOf]; omega
            · have e : kindU (j + 1) q0 = (j : Int) := by rw [HK.out, hx]; rfl
              have T1 : Hid (Sr w g w2.heap.size (w2.heap.size + 1) q0 (decI q1) (kindU (j + 1) q0) (decI q2) (decI q3) (decI q4) (decI q5) (decI q6) ((wr.setCell ⟨w2.heap.size, 1, none⟩ (.int .i64 j)).drew)) := by rw [e]; exact (T.out.kind j).drew
              obtain ⟨m0, m1, m2, m3, m4, m5, m6, mf⟩ := cells7 T.out.drew.sealed
              clear T HK e hx m0 m2 m3 m4 m5 m6
              go_wp2_with fail
              go_roundw
              case rel => exact ⟨j + 1, by omega, by omega, by go_num, T1⟩
              case measure => simp [intOf]; omega
          · obtain rfl : j = 5 := by omega
            have T5 : Hid (Sr w g w2.heap.size (w2.heap.size + 1) q0 (decI q1) (kindI q0) (decI q2) (decI q3) (decI q4) (decI q5) (decI q6) wr) := by rw [← kindU_all]; exact T.out
            clear T
            obtain ⟨m0, m1, m2, m3, m4, m5, m6, mf⟩ := cells7 T5.out.sealed
            obtain ⟨X, hX⟩ : ∃ X, X = textB (decI q1) (kindI q0) (decI q2) (decI q3) (decI q4) (decI q5) (decI q6) := ⟨_, rfl⟩
            have HX : Hid (X = textB (decI q1) (kindI q0) (decI q2) (decI q3) (decI q4) (decI q5) (decI q6)) := hX
            go_wp2_with fail
            refine (spec_text hX).mono ?_
            rintro r7 w7 ⟨rfl, b7⟩
            have D7 : Hid (Below w.heap.size w w7 ∧ w7.heap[w.heap.size]? = some (.cells #[.int .i64 0, .int .i64 0, .int .i64 0, .int .i64 0, .int .i64 0, .int .i64 0, .int .i64 0] 39 (0, 0)) ∧ w7.heap[w2.heap.size]? = some (.cells #[.int .i64 (decI q1), .int .i64 (kindI q0), .int .i64 (decI q2), .int .i64 (decI q3), .int .i64 (decI q4), .int .i64 (decI q5), .int .i64 (decI q6)] 39 (0, 0))) := ⟨T5.out.below.trans (b7.mono T5.out.below.size), (b7.block _ (Array.getElem?_eq_some_iff.1 T5.out.res).1).trans T5.out.res, (b7.block _ (Array.getElem?_eq_some_iff.1 T5.out.sealed).1).trans T5.out.sealed⟩
            clear b7 T5 hX m0 m1 m2 m3 m4 m5 m6 mf
            obtain ⟨m0, m1, m2, m3, m4, m5, m6, mf⟩ := cells7 D7.out.2.2
            obtain ⟨z0, z1, z2, z3, z4, z5, z6, zf⟩ := cells7 D7.out.2.1
            cases hx : (X.toList == s.toList)
            · have HP : Hid (NoSeal s) := no_text HQ.out HX.out hx
              go_wp2
              exact bodyPost_ret (v := .tuple #[.agg #[.int .i64 0, .int .i64 0, .int .i64 0, .int .i64 0, .int .i64 0, .int .i64 0, .int .i64 0], .bool false]) (by simp [results, Tryz.results16, go_sem, z0, z1, z2, z3, z4, z5, z6]) rfl ⟨⟨0, 0, 0, 0, 0, 0, 0, false, rfl, (fun h => by cases h), fun _ => ⟨rfl, rfl, rfl, rfl, rfl, rfl, rfl, HP.out⟩⟩, (((((((D7.out.1.setCell (Nat.le_refl _) _).setCell (Nat.le_refl _) _).setCell (Nat.le_refl _) _).setCell (Nat.le_refl _) _).setCell (Nat.le_refl _) _).setCell (Nat.le_refl _) _).setCell (Nat.le_refl _) _)⟩
            · have HP := yes_text HQ.out HX.out hx
              have HP2 : Hid (okB (decI q1) (kindI q0) (decI q2) (decI q3) (decI q4) (decI q5) (decI q6) = true ∧ textB (decI q1) (kindI q0) (decI q2) (decI q3) (decI q4) (decI q5) (decI q6) = s) := HP
              clear HP
              have hne : ¬ w2.heap.size = w.heap.size := by omega
              go_wp2
              exact bodyPost_ret (v := .tuple #[.agg #[.int .i64 (decI q1), .int .i64 (kindI q0), .int .i64 (decI q2), .int .i64 (decI q3), .int .i64 (decI q4), .int .i64 (decI q5), .int .i64 (decI q6)], .bool true]) (by simp [results, Tryz.results16, go_sem, z0, z1, z2, z3, z4, z5, z6]) rfl ⟨⟨_, _, _, _, _, _, _, true, rfl, fun _ => HP2.out, (fun h => by cases h)⟩, (((((((D7.out.1.setCell (Nat.le_refl _) _).setCell (Nat.le_refl _) _).setCell (Nat.le_refl _) _).setCell (Nat.le_refl _) _).setCell (Nat.le_refl _) _).setCell (Nat.le_refl _) _).setCell (Nat.le_refl _) _)⟩
    · have hn' : (((cutL 32 s.data.toList).length : Int) != 7) = true := by simp; omega
      obtain ⟨z0, z1, z2, z3, z4, z5, z6, zf⟩ := cells7 B2.out.2
      go_wp2
      exact bodyPost_ret (v := .tuple #[.agg #[.int .i64 0, .int .i64 0, .int .i64 0, .int .i64 0, .int .i64 0, .int .i64 0, .int .i64 0], .bool false]) (by simp [results, Tryz.results16, go_sem, z0, z1, z2, z3, z4, z5, z6]) rfl ⟨⟨0, 0, 0, 0, 0, 0, 0, false, rfl, (fun h => by cases h), fun _ => ⟨rfl, rfl, rfl, rfl, rfl, rfl, rfl, no_len hn⟩⟩, ((((((B2.out.1.setCell (Nat.le_refl _) _).setCell (Nat.le_refl _) _).setCell (Nat.le_refl _) _).setCell (Nat.le_refl _) _).setCell (Nat.le_refl _) _).setCell (Nat.le_refl _) _).setCell (Nat.le_refl _) _⟩
  · have hgt : (60 : Int) < (s.size : Int) := by omega
    go_enter Tryz.func16, Tryz.ntmps16
    go_wp2
    exact bodyPost_ret (v := .tuple #[.agg #[.int .i64 0, .int .i64 0, .int .i64 0, .int .i64 0, .int .i64 0, .int .i64 0, .int .i64 0], .bool false]) (by simp [results, Tryz.results16, go_sem]) rfl ⟨⟨0, 0, 0, 0, 0, 0, 0, false, rfl, (fun h => by cases h), fun _ => ⟨rfl, rfl, rfl, rfl, rfl, rfl, rfl, no_long (by omega)⟩⟩, (Below.refl _ _).alloc (Nat.le_refl _) _⟩

end Go.Proofs.YtopikapamfmalaaGreatDoor
