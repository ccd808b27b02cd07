/-
  The program's SealRead, whatever the text: a seal that is ok and whose text this is, and true; or nothing, and false; nothing that was in memory is turned.
-/
import Derived.Test.YtopikapamfmalaaGreatDoorReadNums
import Derived.Test.YtopikapamfmalaaGreatDoorDrawFine
import Derived.Test.YtopikapamfmalaaGreatDoorBaseJ
namespace Go.Proofs.YtopikapamfmalaaGreatDoor
open Go.RowKit
attribute [local go_sem ↓] Go.wp_at_zero Go.wp_at_succ

/-- The kind whose word this is. -/
def kindI (s : ByteArray) : Int := if s.toList = [116, 105, 99, 107, 101, 116] then 1 else if s.toList = [112, 97, 114, 116] then 2 else if s.toList = [97, 117, 116, 104] then 3 else if s.toList = [98, 97, 99, 107] then 4 else 0

set_option maxHeartbeats 400000 in
theorem sealKind_any (s : ByteArray) (w : World) :
    Calls Tryz.prog 88 #[.string s] w fun r w' => r = .returned (.int .i64 (kindI s)) ∧ w' = w := by
  go_enter Tryz.func88, Tryz.ntmps88
  go_wp2
  all_goals go_ret
  all_goals refine ⟨?_, rfl⟩
  all_goals simp_all [kindI]

/-- What a text is read as. -/
def Par (s : ByteArray) (k t a b c d e : Int) : Prop :=
  ∃ q0 q1 q2 q3 q4 q5 q6, pieces s = [q0, q1, q2, q3, q4, q5, q6] ∧ kindI q0 = t ∧ Lib.atoiAll q1.data.toList = .ok k ∧ Lib.atoiAll q2.data.toList = .ok a ∧ Lib.atoiAll q3.data.toList = .ok b ∧ Lib.atoiAll q4.data.toList = .ok c ∧ Lib.atoiAll q5.data.toList = .ok d ∧ Lib.atoiAll q6.data.toList = .ok e ∧ okB k t a b c d e = true ∧ textB k t a b c d e = s

theorem list7 {α : Type} {l : List α} (h : l.length = 7) : ∃ q0 q1 q2 q3 q4 q5 q6, l = [q0, q1, q2, q3, q4, q5, q6] := by
  match l, h with
  | [q0, q1, q2, q3, q4, q5, q6], _ => exact ⟨q0, q1, q2, q3, q4, q5, q6, rfl⟩

theorem par_len {s : ByteArray} (h : ¬ (pieces s).length = 7) : ∀ k t a b c d e, ¬ Par s k t a b c d e := by
  rintro k t a b c d e ⟨q0, q1, q2, q3, q4, q5, q6, hq, _⟩
  exact h (by rw [hq]; rfl)
theorem words_at {s : ByteArray} {g : Nat} {w : World} {q0 q1 q2 q3 q4 q5 q6 : ByteArray} (hq : pieces s = [q0, q1, q2, q3, q4, q5, q6]) (hs : ∀ x ∈ pieces s, x.size ≤ 2000000) (hw : ∀ (j : Nat) x, (pieces s)[j]? = some x → w.cell? ⟨g, j, none⟩ = some (.string x)) :
    ∀ j, j < 6 → ([q1, q2, q3, q4, q5, q6].getD j ⟨#[]⟩).size ≤ 2000000 ∧ w.cell? ⟨g, 1 + j, none⟩ = some (.string ([q1, q2, q3, q4, q5, q6].getD j ⟨#[]⟩)) := by
  intro j hj
  rw [hq] at hs hw
  obtain rfl | rfl | rfl | rfl | rfl | rfl : j = 0 ∨ j = 1 ∨ j = 2 ∨ j = 3 ∨ j = 4 ∨ j = 5 := by omega
  · exact ⟨hs q1 (by simp), hw 1 q1 rfl⟩
  · exact ⟨hs q2 (by simp), hw 2 q2 rfl⟩
  · exact ⟨hs q3 (by simp), hw 3 q3 rfl⟩
  · exact ⟨hs q4 (by simp), hw 4 q4 rfl⟩
  · exact ⟨hs q5 (by simp), hw 5 q5 rfl⟩
  · exact ⟨hs q6 (by simp), hw 6 q6 rfl⟩
theorem par_nums {s : ByteArray} {q0 q1 q2 q3 q4 q5 q6 : ByteArray} (hq : pieces s = [q0, q1, q2, q3, q4, q5, q6]) (h : ∃ j, j < 6 ∧ ∀ u, Lib.atoiAll ([q1, q2, q3, q4, q5, q6].getD j ⟨#[]⟩).data.toList ≠ .ok u) : ∀ k t a b c d e, ¬ Par s k t a b c d e := by
  rintro k t a b c d e ⟨p0, p1, p2, p3, p4, p5, p6, hp, _, g1, g2, g3, g4, g5, g6, _⟩
  rw [hq] at hp
  simp only [List.cons.injEq, and_true] at hp
  obtain ⟨rfl, rfl, rfl, rfl, rfl, rfl, rfl⟩ := hp
  obtain ⟨j, hj, hu⟩ := h
  obtain rfl | rfl | rfl | rfl | rfl | rfl : j = 0 ∨ j = 1 ∨ j = 2 ∨ j = 3 ∨ j = 4 ∨ j = 5 := by omega
  · exact hu _ g1
  · exact hu _ g2
  · exact hu _ g3
  · exact hu _ g4
  · exact hu _ g5
  · exact hu _ g6

/-- The blocks on the way, behind two more, and a call. -/
theorem read_blocks {W w3 w6 : World} {o1 o2 z : Obj} (hb : Below W.heap.size W w3) (hz : w3.heap[W.heap.size]? = some z) (hlt : W.heap.size < w3.heap.size) (h6 : Below (((w3.alloc o1).alloc o2).drew).heap.size (((w3.alloc o1).alloc o2).drew) w6) :
    Below W.heap.size W w6 ∧ w6.heap[W.heap.size]? = some z ∧ w6.heap[w3.heap.size + 1]? = some o2 := by
  have s1 : (((w3.alloc o1).alloc o2).drew).heap.size = w3.heap.size + 1 + 1 := by show ((w3.alloc o1).alloc o2).heap.size = _; simp
  rw [s1] at h6
  have b1 : Below W.heap.size W (((w3.alloc o1).alloc o2).drew) := ((hb.alloc (by omega) o1).alloc (by simp; omega) o2).drew
  refine ⟨b1.trans (h6.mono (by omega)), (h6.block _ (by omega)).trans ?_, (h6.block _ (by omega)).trans ?_⟩
  · show ((w3.alloc o1).alloc o2).heap[W.heap.size]? = some z
    rw [Below.heap_alloc _ _ _ (by simp; omega), Below.heap_alloc _ _ _ hlt]; exact hz
  · show ((w3.alloc o1).alloc o2).heap[w3.heap.size + 1]? = some o2
    have h := heap_alloc_new (w3.alloc o1) o2
    rw [show (w3.alloc o1).heap.size = w3.heap.size + 1 from by simp] at h
    exact h
theorem par_same {s : ByteArray} {q0 q1 q2 q3 q4 q5 q6 : ByteArray} {x0 x1 x2 x3 x4 x5 : Int} (hq : pieces s = [q0, q1, q2, q3, q4, q5, q6]) (hn : Lib.atoiAll q1.data.toList = .ok x0 ∧ Lib.atoiAll q2.data.toList = .ok x1 ∧ Lib.atoiAll q3.data.toList = .ok x2 ∧ Lib.atoiAll q4.data.toList = .ok x3 ∧ Lib.atoiAll q5.data.toList = .ok x4 ∧ Lib.atoiAll q6.data.toList = .ok x5)
    {k t a b c d e : Int} (h : Par s k t a b c d e) : okB x0 (kindI q0) x1 x2 x3 x4 x5 = true ∧ textB x0 (kindI q0) x1 x2 x3 x4 x5 = s := by
  obtain ⟨p0, p1, p2, p3, p4, p5, p6, hp, g0, g1, g2, g3, g4, g5, g6, ho, ht⟩ := h
  rw [hq] at hp
  simp only [List.cons.injEq, and_true] at hp
  obtain ⟨rfl, rfl, rfl, rfl, rfl, rfl, rfl⟩ := hp
  obtain ⟨n1, n2, n3, n4, n5, n6⟩ := hn
  rw [n1] at g1; rw [n2] at g2; rw [n3] at g3; rw [n4] at g4; rw [n5] at g5; rw [n6] at g6
  cases g0; cases g1; cases g2; cases g3; cases g4; cases g5; cases g6
  exact ⟨ho, ht⟩
theorem par_ok {s : ByteArray} {q0 q1 q2 q3 q4 q5 q6 : ByteArray} {x0 x1 x2 x3 x4 x5 : Int} (hq : pieces s = [q0, q1, q2, q3, q4, q5, q6]) (hn : Lib.atoiAll q1.data.toList = .ok x0 ∧ Lib.atoiAll q2.data.toList = .ok x1 ∧ Lib.atoiAll q3.data.toList = .ok x2 ∧ Lib.atoiAll q4.data.toList = .ok x3 ∧ Lib.atoiAll q5.data.toList = .ok x4 ∧ Lib.atoiAll q6.data.toList = .ok x5)
    (ho : okB x0 (kindI q0) x1 x2 x3 x4 x5 = false) : ∀ k t a b c d e, ¬ Par s k t a b c d e := by
  intro k t a b c d e h
  rw [(par_same hq hn h).1] at ho
  cases ho
theorem par_text {s : ByteArray} {q0 q1 q2 q3 q4 q5 q6 X : ByteArray} {x0 x1 x2 x3 x4 x5 : Int} (hq : pieces s = [q0, q1, q2, q3, q4, q5, q6]) (hn : Lib.atoiAll q1.data.toList = .ok x0 ∧ Lib.atoiAll q2.data.toList = .ok x1 ∧ Lib.atoiAll q3.data.toList = .ok x2 ∧ Lib.atoiAll q4.data.toList = .ok x3 ∧ Lib.atoiAll q5.data.toList = .ok x4 ∧ Lib.atoiAll q6.data.toList = .ok x5)
    (hX : X = textB x0 (kindI q0) x1 x2 x3 x4 x5) (hx : (X.toList == s.toList) = false) : ∀ k t a b c d e, ¬ Par s k t a b c d e := by
  intro k t a b c d e h
  rw [hX, (par_same hq hn h).2] at hx
  simp at hx
theorem par_yes {s : ByteArray} {q0 q1 q2 q3 q4 q5 q6 X : ByteArray} {x0 x1 x2 x3 x4 x5 : Int} (hq : pieces s = [q0, q1, q2, q3, q4, q5, q6]) (hn : Lib.atoiAll q1.data.toList = .ok x0 ∧ Lib.atoiAll q2.data.toList = .ok x1 ∧ Lib.atoiAll q3.data.toList = .ok x2 ∧ Lib.atoiAll q4.data.toList = .ok x3 ∧ Lib.atoiAll q5.data.toList = .ok x4 ∧ Lib.atoiAll q6.data.toList = .ok x5)
    (ho : okB x0 (kindI q0) x1 x2 x3 x4 x5 = true) (hX : X = textB x0 (kindI q0) x1 x2 x3 x4 x5) (hx : (X.toList == s.toList) = true) : Par s x0 (kindI q0) x1 x2 x3 x4 x5 := by
  obtain ⟨n1, n2, n3, n4, n5, n6⟩ := hn
  refine ⟨q0, q1, q2, q3, q4, q5, q6, hq, rfl, n1, n2, n3, n4, n5, n6, ho, ?_⟩
  rw [← hX]
  have h := beq_iff_eq.1 hx
  rw [ByteArray.toList_eq, ByteArray.toList_eq] at h
  exact ByteArray.ext (Array.toList_inj.1 h)
theorem read_text {X : ByteArray} {x0 t x1 x2 x3 x4 x5 : Int} (hX : X = textB x0 t x1 x2 x3 x4 x5) {w : World} (htab : Lib.TabIs Tryz.prog w "internal/strconv.uint64pow10" .u64 Lib.pow10Tab) :
    Calls Tryz.prog 37 #[.agg #[.int .i64 x0, .int .i64 t, .int .i64 x1, .int .i64 x2, .int .i64 x3, .int .i64 x4, .int .i64 x5]] w fun r w' => r = .returned (.string X) ∧ Below w.heap.size w w' := by
  rw [hX]; exact implText_any x0 t x1 x2 x3 x4 x5 w htab

set_option maxHeartbeats 1000000 in
set_option maxRecDepth 100000 in
theorem read_any (s : ByteArray) (hs : s.size ≤ 2000000) (w : World) (hl : Lb w) :
    Calls Tryz.prog 70 #[.string s] w fun r w' => (∃ (k t a b c d e : Int) (ok : Bool), r = .returned (.tuple #[.agg #[.int .i64 k, .int .i64 t, .int .i64 a, .int .i64 b, .int .i64 c, .int .i64 d, .int .i64 e], .bool ok]) ∧ (ok = true → Par s k t a b c d e) ∧ (ok = false → k = 0 ∧ t = 0 ∧ a = 0 ∧ b = 0 ∧ c = 0 ∧ d = 0 ∧ e = 0 ∧ ∀ k t a b c d e, ¬ Par s k t a b c d e)) ∧ Below w.heap.size w w' := by
  have HL : Hid (Lb w) := hl
  clear hl
  go_enter Tryz.func70, Tryz.ntmps70
  go_wp2_with fail
  refine (split_any s hs _ (HL.out.below ((Below.refl _ _).alloc (Nat.le_refl _) _))).mono ?_
  rintro r2 w2 ⟨cap, rfl, hcap, b2, hz2, hw⟩
  have hsz : (w.alloc (.cells #[.int .i64 0, .int .i64 0, .int .i64 0, .int .i64 0, .int .i64 0, .int .i64 0, .int .i64 0] 39)).heap.size = w.heap.size + 1 := by simp
  rw [hsz] at b2 hz2 hw ⊢
  have B2 : Hid (Below w.heap.size w w2 ∧ w2.heap[w.heap.size]? = some (.cells #[.int .i64 0, .int .i64 0, .int .i64 0, .int .i64 0, .int .i64 0, .int .i64 0, .int .i64 0] 39 (0, 0))) := ⟨((Below.refl _ _).alloc (Nat.le_refl _) _).trans (b2.mono (by omega)), (b2.block _ (by omega)).trans (heap_alloc_new w _)⟩
  have HW : Hid (∀ (j : Nat) x, (pieces s)[j]? = some x → w2.cell? ⟨w.heap.size + 1, j, none⟩ = some (.string x)) := hw
  clear b2 hw hsz
  by_cases hn : (pieces s).length = 7
  · obtain ⟨q0, q1, q2, q3, q4, q5, q6, hq⟩ := list7 hn
    have hsz : ∀ x ∈ pieces s, x.size ≤ 2000000 := fun x hx => Nat.le_trans (splitB_size _ _ _ _ hx) hs
    have HQ : Hid (pieces s = [q0, q1, q2, q3, q4, q5, q6] ∧ ∀ x ∈ pieces s, x.size ≤ 2000000) := ⟨hq, hsz⟩
    have hcI : (7 : Int) ≤ (cap : Int) := by omega
    rw [hn]
    clear hq hsz hn hcap
    go_wp2_with fail
    refine (nums_any _ _ (fun j => [q1, q2, q3, q4, q5, q6].getD j ⟨#[]⟩) _ (HL.out.below B2.out.1) (words_at HQ.out.1 HQ.out.2 HW.out)).mono ?_
    rintro r3 w3 ⟨⟨x0, x1, x2, x3, x4, x5, bb, rfl, h1, h0⟩, b3⟩
    have B3 : Hid (Below w.heap.size w w3 ∧ w3.heap[w.heap.size]? = some (.cells #[.int .i64 0, .int .i64 0, .int .i64 0, .int .i64 0, .int .i64 0, .int .i64 0, .int .i64 0] 39 (0, 0)) ∧ w3.cell? ⟨w.heap.size + 1, 0, none⟩ = some (.string q0)) := ⟨B2.out.1.trans (b3.mono (by omega)), (b3.block _ (by omega)).trans B2.out.2, cell_later b3 (HW.out 0 q0 (by rw [HQ.out.1]; rfl))⟩
    have hz3 : w.heap.size + 1 < w3.heap.size := by have := b3.size; omega
    clear b3 B2 HW hz2
    have HN : Hid ((bb = true → Lib.atoiAll q1.data.toList = .ok x0 ∧ Lib.atoiAll q2.data.toList = .ok x1 ∧ Lib.atoiAll q3.data.toList = .ok x2 ∧ Lib.atoiAll q4.data.toList = .ok x3 ∧ Lib.atoiAll q5.data.toList = .ok x4 ∧ Lib.atoiAll q6.data.toList = .ok x5) ∧ (bb = false → ∃ j, j < 6 ∧ ∀ u, Lib.atoiAll ([q1, q2, q3, q4, q5, q6].getD j ⟨#[]⟩).data.toList ≠ .ok u)) := ⟨h1, h0⟩
    clear h1 h0
    have hlt3 : w.heap.size < w3.heap.size := by omega
    have hne3 : ¬ w.heap.size = w3.heap.size := by omega
    have hne4 : ¬ w3.heap.size = w.heap.size := by omega
    cases bb
    · obtain ⟨z0, z1, z2, z3, z4, z5, z6, zf⟩ := cells7 B3.out.2.1
      have HP : Hid (∀ k t a b c d e, ¬ Par s k t a b c d e) := par_nums HQ.out.1 (HN.out.2 rfl)
      clear HN
      go_wp2
      exact bodyPost_ret (v := .tuple #[.agg #[.int .i64 0, .int .i64 0, .int .i64 0, .int .i64 0, .int .i64 0, .int .i64 0, .int .i64 0], .bool false]) (by simp [results, Tryz.results70, go_sem, z0, z1, z2, z3, z4, z5, z6, hlt3]) rfl ⟨⟨0, 0, 0, 0, 0, 0, 0, false, rfl, (fun h => by cases h), fun _ => ⟨rfl, rfl, rfl, rfl, rfl, rfl, rfl, HP.out⟩⟩, (((((((B3.out.1.setCell (Nat.le_refl _) _).setCell (Nat.le_refl _) _).setCell (Nat.le_refl _) _).setCell (Nat.le_refl _) _).setCell (Nat.le_refl _) _).setCell (Nat.le_refl _) _).setCell (Nat.le_refl _) _).alloc (by simp; omega) _⟩
    have HN' : Hid (Lib.atoiAll q1.data.toList = .ok x0 ∧ Lib.atoiAll q2.data.toList = .ok x1 ∧ Lib.atoiAll q3.data.toList = .ok x2 ∧ Lib.atoiAll q4.data.toList = .ok x3 ∧ Lib.atoiAll q5.data.toList = .ok x4 ∧ Lib.atoiAll q6.data.toList = .ok x5) := HN.out.1 rfl
    clear HN
    go_wp2_with fail
    have p0 : (w3.alloc (.cells #[.int .i64 x0, .int .i64 x1, .int .i64 x2, .int .i64 x3, .int .i64 x4, .int .i64 x5] 105)).drew.cell? ⟨w3.heap.size, 0, none⟩ = some (.int .i64 x0) := by go_simp
    have p1 : (w3.alloc (.cells #[.int .i64 x0, .int .i64 x1, .int .i64 x2, .int .i64 x3, .int .i64 x4, .int .i64 x5] 105)).drew.cell? ⟨w3.heap.size, 1, none⟩ = some (.int .i64 x1) := by go_simp
    have p2 : (w3.alloc (.cells #[.int .i64 x0, .int .i64 x1, .int .i64 x2, .int .i64 x3, .int .i64 x4, .int .i64 x5] 105)).drew.cell? ⟨w3.heap.size, 2, none⟩ = some (.int .i64 x2) := by go_simp
    have p3 : (w3.alloc (.cells #[.int .i64 x0, .int .i64 x1, .int .i64 x2, .int .i64 x3, .int .i64 x4, .int .i64 x5] 105)).drew.cell? ⟨w3.heap.size, 3, none⟩ = some (.int .i64 x3) := by go_simp
    have p4 : (w3.alloc (.cells #[.int .i64 x0, .int .i64 x1, .int .i64 x2, .int .i64 x3, .int .i64 x4, .int .i64 x5] 105)).drew.cell? ⟨w3.heap.size, 4, none⟩ = some (.int .i64 x4) := by go_simp
    have p5 : (w3.alloc (.cells #[.int .i64 x0, .int .i64 x1, .int .i64 x2, .int .i64 x3, .int .i64 x4, .int .i64 x5] 105)).drew.cell? ⟨w3.heap.size, 5, none⟩ = some (.int .i64 x5) := by go_simp
    have p6 : (w3.alloc (.cells #[.int .i64 x0, .int .i64 x1, .int .i64 x2, .int .i64 x3, .int .i64 x4, .int .i64 x5] 105)).drew.cell? ⟨w.heap.size + 1, 0, none⟩ = some (.string q0) := cell_later (((Below.refl _ _).alloc (Nat.le_refl _) _).drew) B3.out.2.2
    refine wp_region_held_drew (S := fun w' => w'.cell? ⟨w3.heap.size, 0, none⟩ = some (.int .i64 x0) ∧ w'.cell? ⟨w3.heap.size, 1, none⟩ = some (.int .i64 x1) ∧ w'.cell? ⟨w3.heap.size, 2, none⟩ = some (.int .i64 x2) ∧ w'.cell? ⟨w3.heap.size, 3, none⟩ = some (.int .i64 x3) ∧ w'.cell? ⟨w3.heap.size, 4, none⟩ = some (.int .i64 x4) ∧ w'.cell? ⟨w3.heap.size, 5, none⟩ = some (.int .i64 x5) ∧ w'.cell? ⟨w.heap.size + 1, 0, none⟩ = some (.string q0)) (by kernel_rfl) ⟨p0, p1, p2, p3, p4, p5, p6⟩ (fun hS => ?_)
    clear p0 p1 p2 p3 p4 p5 p6
    refine take1 0 23 (.pointer (some ⟨w3.heap.size, 0, none⟩)) rfl rfl (by kernel_rfl) (by kernel_rfl) (by kernel_rfl) (by rfl) (fun _ _ _ h => h) hS (fun w' hS' => ?_) ?_
    · obtain ⟨e0, e1, e2, e3, e4, e5, e6⟩ := hS'; go_simp
    simp only [Act.put, List.setIfInBounds_toArray, List.set_cons_zero, List.set_cons_succ]
    refine take1 1 24 (.int .i64 x0) rfl rfl (by kernel_rfl) (by kernel_rfl) (by kernel_rfl) (by rfl) (fun _ _ _ h => h) hS (fun w' hS' => ?_) ?_
    · obtain ⟨e0, e1, e2, e3, e4, e5, e6⟩ := hS'; go_simp
    simp only [Act.put, List.setIfInBounds_toArray, List.set_cons_zero, List.set_cons_succ]
    refine take1 2 25 (.slice (some ⟨w.heap.size + 1, 0, none⟩) 7 cap) rfl rfl (by kernel_rfl) (by kernel_rfl) (by kernel_rfl) (by rfl) (fun _ _ _ h => h) hS (fun w' hS' => ?_) ?_
    · obtain ⟨e0, e1, e2, e3, e4, e5, e6⟩ := hS'; go_simp
    simp only [Act.put, List.setIfInBounds_toArray, List.set_cons_zero, List.set_cons_succ]
    refine take1 3 26 (.pointer (some ⟨w.heap.size + 1, 0, none⟩)) rfl rfl (by kernel_rfl) (by kernel_rfl) (by kernel_rfl) (by rfl) (fun _ _ _ h => h) hS (fun w' hS' => ?_) ?_
    · obtain ⟨e0, e1, e2, e3, e4, e5, e6⟩ := hS'; go_simp
    simp only [Act.put, List.setIfInBounds_toArray, List.set_cons_zero, List.set_cons_succ]
    refine take1 4 27 (.string q0) rfl rfl (by kernel_rfl) (by kernel_rfl) (by kernel_rfl) (by rfl) (fun _ _ _ h => h) hS (fun w' hS' => ?_) ?_
    · obtain ⟨e0, e1, e2, e3, e4, e5, e6⟩ := hS'; go_simp
    simp only [Act.put, List.setIfInBounds_toArray, List.set_cons_zero, List.set_cons_succ]
    refine take1 6 29 (.pointer (some ⟨w3.heap.size, 1, none⟩)) rfl rfl (by kernel_rfl) (by kernel_rfl) (by kernel_rfl) (by rfl) (fun _ _ _ h => h) hS (fun w' hS' => ?_) ?_
    · obtain ⟨e0, e1, e2, e3, e4, e5, e6⟩ := hS'; go_simp
    simp only [Act.put, List.setIfInBounds_toArray, List.set_cons_zero, List.set_cons_succ]
    refine take1 7 30 (.int .i64 x1) rfl rfl (by kernel_rfl) (by kernel_rfl) (by kernel_rfl) (by rfl) (fun _ _ _ h => h) hS (fun w' hS' => ?_) ?_
    · obtain ⟨e0, e1, e2, e3, e4, e5, e6⟩ := hS'; go_simp
    simp only [Act.put, List.setIfInBounds_toArray, List.set_cons_zero, List.set_cons_succ]
    refine take1 8 31 (.pointer (some ⟨w3.heap.size, 2, none⟩)) rfl rfl (by kernel_rfl) (by kernel_rfl) (by kernel_rfl) (by rfl) (fun _ _ _ h => h) hS (fun w' hS' => ?_) ?_
    · obtain ⟨e0, e1, e2, e3, e4, e5, e6⟩ := hS'; go_simp
    simp only [Act.put, List.setIfInBounds_toArray, List.set_cons_zero, List.set_cons_succ]
    refine take1 9 32 (.int .i64 x2) rfl rfl (by kernel_rfl) (by kernel_rfl) (by kernel_rfl) (by rfl) (fun _ _ _ h => h) hS (fun w' hS' => ?_) ?_
    · obtain ⟨e0, e1, e2, e3, e4, e5, e6⟩ := hS'; go_simp
    simp only [Act.put, List.setIfInBounds_toArray, List.set_cons_zero, List.set_cons_succ]
    refine take1 10 33 (.pointer (some ⟨w3.heap.size, 3, none⟩)) rfl rfl (by kernel_rfl) (by kernel_rfl) (by kernel_rfl) (by rfl) (fun _ _ _ h => h) hS (fun w' hS' => ?_) ?_
    · obtain ⟨e0, e1, e2, e3, e4, e5, e6⟩ := hS'; go_simp
    simp only [Act.put, List.setIfInBounds_toArray, List.set_cons_zero, List.set_cons_succ]
    refine take1 11 34 (.int .i64 x3) rfl rfl (by kernel_rfl) (by kernel_rfl) (by kernel_rfl) (by rfl) (fun _ _ _ h => h) hS (fun w' hS' => ?_) ?_
    · obtain ⟨e0, e1, e2, e3, e4, e5, e6⟩ := hS'; go_simp
    simp only [Act.put, List.setIfInBounds_toArray, List.set_cons_zero, List.set_cons_succ]
    refine take1 12 35 (.pointer (some ⟨w3.heap.size, 4, none⟩)) rfl rfl (by kernel_rfl) (by kernel_rfl) (by kernel_rfl) (by rfl) (fun _ _ _ h => h) hS (fun w' hS' => ?_) ?_
    · obtain ⟨e0, e1, e2, e3, e4, e5, e6⟩ := hS'; go_simp
    simp only [Act.put, List.setIfInBounds_toArray, List.set_cons_zero, List.set_cons_succ]
    refine take1 13 36 (.int .i64 x4) rfl rfl (by kernel_rfl) (by kernel_rfl) (by kernel_rfl) (by rfl) (fun _ _ _ h => h) hS (fun w' hS' => ?_) ?_
    · obtain ⟨e0, e1, e2, e3, e4, e5, e6⟩ := hS'; go_simp
    simp only [Act.put, List.setIfInBounds_toArray, List.set_cons_zero, List.set_cons_succ]
    refine take1 14 37 (.pointer (some ⟨w3.heap.size, 5, none⟩)) rfl rfl (by kernel_rfl) (by kernel_rfl) (by kernel_rfl) (by rfl) (fun _ _ _ h => h) hS (fun w' hS' => ?_) ?_
    · obtain ⟨e0, e1, e2, e3, e4, e5, e6⟩ := hS'; go_simp
    simp only [Act.put, List.setIfInBounds_toArray, List.set_cons_zero, List.set_cons_succ]
    refine take1 15 38 (.int .i64 x5) rfl rfl (by kernel_rfl) (by kernel_rfl) (by kernel_rfl) (by rfl) (fun _ _ _ h => h) hS (fun w' hS' => ?_) ?_
    · obtain ⟨e0, e1, e2, e3, e4, e5, e6⟩ := hS'; go_simp
    simp only [Act.put, List.setIfInBounds_toArray, List.set_cons_zero, List.set_cons_succ]
    have hS2 : ∀ o, (((w3.alloc (.cells #[.int .i64 x0, .int .i64 x1, .int .i64 x2, .int .i64 x3, .int .i64 x4, .int .i64 x5] 105)).alloc o).drew).cell? ⟨w3.heap.size, 0, none⟩ = some (.int .i64 x0) ∧ (((w3.alloc (.cells #[.int .i64 x0, .int .i64 x1, .int .i64 x2, .int .i64 x3, .int .i64 x4, .int .i64 x5] 105)).alloc o).drew).cell? ⟨w3.heap.size, 1, none⟩ = some (.int .i64 x1) ∧ (((w3.alloc (.cells #[.int .i64 x0, .int .i64 x1, .int .i64 x2, .int .i64 x3, .int .i64 x4, .int .i64 x5] 105)).alloc o).drew).cell? ⟨w3.heap.size, 2, none⟩ = some (.int .i64 x2) ∧ (((w3.alloc (.cells #[.int .i64 x0, .int .i64 x1, .int .i64 x2, .int .i64 x3, .int .i64 x4, .int .i64 x5] 105)).alloc o).drew).cell? ⟨w3.heap.size, 3, none⟩ = some (.int .i64 x3) ∧ (((w3.alloc (.cells #[.int .i64 x0, .int .i64 x1, .int .i64 x2, .int .i64 x3, .int .i64 x4, .int .i64 x5] 105)).alloc o).drew).cell? ⟨w3.heap.size, 4, none⟩ = some (.int .i64 x4) ∧ (((w3.alloc (.cells #[.int .i64 x0, .int .i64 x1, .int .i64 x2, .int .i64 x3, .int .i64 x4, .int .i64 x5] 105)).alloc o).drew).cell? ⟨w3.heap.size, 5, none⟩ = some (.int .i64 x5) ∧ (((w3.alloc (.cells #[.int .i64 x0, .int .i64 x1, .int .i64 x2, .int .i64 x3, .int .i64 x4, .int .i64 x5] 105)).alloc o).drew).cell? ⟨w.heap.size + 1, 0, none⟩ = some (.string q0) := fun o => by
      have hb : Below (w3.alloc (.cells #[.int .i64 x0, .int .i64 x1, .int .i64 x2, .int .i64 x3, .int .i64 x4, .int .i64 x5] 105)).drew.heap.size (w3.alloc (.cells #[.int .i64 x0, .int .i64 x1, .int .i64 x2, .int .i64 x3, .int .i64 x4, .int .i64 x5] 105)).drew (((w3.alloc (.cells #[.int .i64 x0, .int .i64 x1, .int .i64 x2, .int .i64 x3, .int .i64 x4, .int .i64 x5] 105)).alloc o).drew) := (Below.refl _ _).alloc (Nat.le_refl _) o
      obtain ⟨e0, e1, e2, e3, e4, e5, e6⟩ := hS
      exact ⟨cell_later hb e0, cell_later hb e1, cell_later hb e2, cell_later hb e3, cell_later hb e4, cell_later hb e5, cell_later hb e6⟩
    have HS2 : Hid (∀ o, (((w3.alloc (.cells #[.int .i64 x0, .int .i64 x1, .int .i64 x2, .int .i64 x3, .int .i64 x4, .int .i64 x5] 105)).alloc o).drew).cell? ⟨w3.heap.size, 0, none⟩ = some (.int .i64 x0) ∧ (((w3.alloc (.cells #[.int .i64 x0, .int .i64 x1, .int .i64 x2, .int .i64 x3, .int .i64 x4, .int .i64 x5] 105)).alloc o).drew).cell? ⟨w3.heap.size, 1, none⟩ = some (.int .i64 x1) ∧ (((w3.alloc (.cells #[.int .i64 x0, .int .i64 x1, .int .i64 x2, .int .i64 x3, .int .i64 x4, .int .i64 x5] 105)).alloc o).drew).cell? ⟨w3.heap.size, 2, none⟩ = some (.int .i64 x2) ∧ (((w3.alloc (.cells #[.int .i64 x0, .int .i64 x1, .int .i64 x2, .int .i64 x3, .int .i64 x4, .int .i64 x5] 105)).alloc o).drew).cell? ⟨w3.heap.size, 3, none⟩ = some (.int .i64 x3) ∧ (((w3.alloc (.cells #[.int .i64 x0, .int .i64 x1, .int .i64 x2, .int .i64 x3, .int .i64 x4, .int .i64 x5] 105)).alloc o).drew).cell? ⟨w3.heap.size, 4, none⟩ = some (.int .i64 x4) ∧ (((w3.alloc (.cells #[.int .i64 x0, .int .i64 x1, .int .i64 x2, .int .i64 x3, .int .i64 x4, .int .i64 x5] 105)).alloc o).drew).cell? ⟨w3.heap.size, 5, none⟩ = some (.int .i64 x5) ∧ (((w3.alloc (.cells #[.int .i64 x0, .int .i64 x1, .int .i64 x2, .int .i64 x3, .int .i64 x4, .int .i64 x5] 105)).alloc o).drew).cell? ⟨w.heap.size + 1, 0, none⟩ = some (.string q0)) := hS2
    clear hS2
    refine wpAnyH_ready (rs := [5, 17]) (by kernel_rfl) (by simp) ?_
    refine AllReadyH.cons rfl (fun K hK => ?_) (AllReadyH.cons rfl (fun K hK => ?_) AllReadyH.nil)
    rotate_left
    · go_simp
      refine hK.out _ _ (HS2.out _) (fun _ => ?_)
      clear hK K
      have hS3 := HS2.out (.cells #[.int .i64 0, .int .i64 0, .int .i64 0, .int .i64 0, .int .i64 0, .int .i64 0, .int .i64 0] 39)
      refine wpAnyH_ready (rs := [5]) (by kernel_rfl) (by simp) ?_
      refine AllReadyH.cons rfl (fun K hK => ?_) AllReadyH.nil
      go_simp
      refine (sealKind_any _ _).mono ?_
      rintro r5 w5 ⟨rfl, rfl⟩
      refine hK.out _ _ hS3 (fun _ => ?_)
      clear hK K
      refine take1 16 39 (.agg #[.int .i64 x0, .int .i64 (kindI q0), .int .i64 x1, .int .i64 x2, .int .i64 x3, .int .i64 x4, .int .i64 x5]) rfl rfl (by kernel_rfl) (by kernel_rfl) (by kernel_rfl) (by rfl) (fun _ _ _ h => h) hS3 (fun w' hS' => ?_) ?_
      · obtain ⟨e0, e1, e2, e3, e4, e5, e6⟩ := hS'; go_simp
      simp only [Act.put, List.setIfInBounds_toArray, List.set_cons_zero, List.set_cons_succ]
      refine wpAnyH_ready (rs := [18]) (by kernel_rfl) (by simp) ?_
      refine AllReadyH.cons rfl (fun K hK => ?_) AllReadyH.nil
      clear hS3
      go_simp
      refine hK.out _ _ (HS2.out _) (fun _ => ?_)
      clear hK K
      refine wpAnyH_done (by kernel_rfl) ?_ _
      clear hS HS2
      go_wp2_with fail
      refine (implOk_any _ _ _ _ _ _ _ _).mono ?_
      rintro r6 w6 ⟨rfl, b6⟩
      have D6 : Hid (Below w.heap.size w w6 ∧ w6.heap[w.heap.size]? = some (.cells #[.int .i64 0, .int .i64 0, .int .i64 0, .int .i64 0, .int .i64 0, .int .i64 0, .int .i64 0] 39 (0, 0)) ∧ w6.heap[w3.heap.size + 1]? = some (.cells #[.int .i64 x0, .int .i64 (kindI q0), .int .i64 x1, .int .i64 x2, .int .i64 x3, .int .i64 x4, .int .i64 x5] 39 (0, 0))) := read_blocks B3.out.1 B3.out.2.1 hlt3 b6
      clear b6 B3
      cases ok : okB x0 (kindI q0) x1 x2 x3 x4 x5
      · obtain ⟨z0, z1, z2, z3, z4, z5, z6, zf⟩ := cells7 D6.out.2.1
        have HP : Hid (∀ k t a b c d e, ¬ Par s k t a b c d e) := par_ok HQ.out.1 HN'.out ok
        go_wp2
        exact bodyPost_ret (v := .tuple #[.agg #[.int .i64 0, .int .i64 0, .int .i64 0, .int .i64 0, .int .i64 0, .int .i64 0, .int .i64 0], .bool false]) (by simp [results, Tryz.results70, go_sem, z0, z1, z2, z3, z4, z5, z6]) rfl ⟨⟨0, 0, 0, 0, 0, 0, 0, false, rfl, (fun h => by cases h), fun _ => ⟨rfl, rfl, rfl, rfl, rfl, rfl, rfl, HP.out⟩⟩, (((((((D6.out.1.setCell (Nat.le_refl _) _).setCell (Nat.le_refl _) _).setCell (Nat.le_refl _) _).setCell (Nat.le_refl _) _).setCell (Nat.le_refl _) _).setCell (Nat.le_refl _) _).setCell (Nat.le_refl _) _)⟩
      obtain ⟨m0, m1, m2, m3, m4, m5, m6, mf⟩ := cells7 D6.out.2.2
      go_wp2_with fail
      obtain ⟨X, hX⟩ : ∃ X, X = textB x0 (kindI q0) x1 x2 x3 x4 x5 := ⟨_, rfl⟩
      have HX : Hid (X = textB x0 (kindI q0) x1 x2 x3 x4 x5) := hX
      refine (read_text hX (HL.out.below D6.out.1).tab).mono ?_
      rintro r7 w7 ⟨rfl, b7⟩
      have D7 : Hid (Below w.heap.size w w7 ∧ w7.heap[w.heap.size]? = some (.cells #[.int .i64 0, .int .i64 0, .int .i64 0, .int .i64 0, .int .i64 0, .int .i64 0, .int .i64 0] 39 (0, 0)) ∧ w7.heap[w3.heap.size + 1]? = some (.cells #[.int .i64 x0, .int .i64 (kindI q0), .int .i64 x1, .int .i64 x2, .int .i64 x3, .int .i64 x4, .int .i64 x5] 39 (0, 0))) := ⟨D6.out.1.trans (b7.mono D6.out.1.size), (b7.block _ (Array.getElem?_eq_some_iff.1 D6.out.2.1).1).trans D6.out.2.1, (b7.block _ (Array.getElem?_eq_some_iff.1 D6.out.2.2).1).trans D6.out.2.2⟩
      clear b7 D6 hX m0 m1 m2 m3 m4 m5 m6 mf
      obtain ⟨m0, m1, m2, m3, m4, m5, m6, mf⟩ := cells7 D7.out.2.2
      obtain ⟨z0, z1, z2, z3, z4, z5, z6, zf⟩ := cells7 D7.out.2.1
      cases hx : (X.toList == s.toList)
      · have HP : Hid (∀ k t a b c d e, ¬ Par s k t a b c d e) := par_text HQ.out.1 HN'.out HX.out hx
        go_wp2
        exact bodyPost_ret (v := .tuple #[.agg #[.int .i64 0, .int .i64 0, .int .i64 0, .int .i64 0, .int .i64 0, .int .i64 0, .int .i64 0], .bool false]) (by simp [results, Tryz.results70, go_sem, z0, z1, z2, z3, z4, z5, z6]) rfl ⟨⟨0, 0, 0, 0, 0, 0, 0, false, rfl, (fun h => by cases h), fun _ => ⟨rfl, rfl, rfl, rfl, rfl, rfl, rfl, HP.out⟩⟩, (((((((D7.out.1.setCell (Nat.le_refl _) _).setCell (Nat.le_refl _) _).setCell (Nat.le_refl _) _).setCell (Nat.le_refl _) _).setCell (Nat.le_refl _) _).setCell (Nat.le_refl _) _).setCell (Nat.le_refl _) _)⟩
      have HP : Hid (Par s x0 (kindI q0) x1 x2 x3 x4 x5) := par_yes HQ.out.1 HN'.out ok HX.out hx
      go_wp2
      exact bodyPost_ret (v := .tuple #[.agg #[.int .i64 x0, .int .i64 (kindI q0), .int .i64 x1, .int .i64 x2, .int .i64 x3, .int .i64 x4, .int .i64 x5], .bool true]) (by simp [results, Tryz.results70, go_sem, z0, z1, z2, z3, z4, z5, z6]) rfl ⟨⟨_, _, _, _, _, _, _, true, rfl, fun _ => HP.out, (fun h => by cases h)⟩, (((((((D7.out.1.setCell (Nat.le_refl _) _).setCell (Nat.le_refl _) _).setCell (Nat.le_refl _) _).setCell (Nat.le_refl _) _).setCell (Nat.le_refl _) _).setCell (Nat.le_refl _) _).setCell (Nat.le_refl _) _)⟩
    · go_simp
      refine (sealKind_any _ _).mono ?_
      rintro r5 w5 ⟨rfl, rfl⟩
      refine hK.out _ _ hS (fun _ => ?_)
      clear hK K
      refine take1 16 39 (.agg #[.int .i64 x0, .int .i64 (kindI q0), .int .i64 x1, .int .i64 x2, .int .i64 x3, .int .i64 x4, .int .i64 x5]) rfl rfl (by kernel_rfl) (by kernel_rfl) (by kernel_rfl) (by rfl) (fun _ _ _ h => h) hS (fun w' hS' => ?_) ?_
      · obtain ⟨e0, e1, e2, e3, e4, e5, e6⟩ := hS'; go_simp
      simp only [Act.put, List.setIfInBounds_toArray, List.set_cons_zero, List.set_cons_succ]
      refine wpAnyH_ready (rs := [17]) (by kernel_rfl) (by simp) ?_
      refine AllReadyH.cons rfl (fun K hK => ?_) AllReadyH.nil
      go_simp
      refine hK.out _ _ (HS2.out _) (fun _ => ?_)
      clear hK K
      refine wpAnyH_ready (rs := [18]) (by kernel_rfl) (by simp) ?_
      refine AllReadyH.cons rfl (fun K hK => ?_) AllReadyH.nil
      go_simp
      refine hK.out _ _ (HS2.out _) (fun _ => ?_)
      clear hK K
      refine wpAnyH_done (by kernel_rfl) ?_ _
      clear hS HS2
      go_wp2_with fail
      refine (implOk_any _ _ _ _ _ _ _ _).mono ?_
      rintro r6 w6 ⟨rfl, b6⟩
      have D6 : Hid (Below w.heap.size w w6 ∧ w6.heap[w.heap.size]? = some (.cells #[.int .i64 0, .int .i64 0, .int .i64 0, .int .i64 0, .int .i64 0, .int .i64 0, .int .i64 0] 39 (0, 0)) ∧ w6.heap[w3.heap.size + 1]? = some (.cells #[.int .i64 x0, .int .i64 (kindI q0), .int .i64 x1, .int .i64 x2, .int .i64 x3, .int .i64 x4, .int .i64 x5] 39 (0, 0))) := read_blocks B3.out.1 B3.out.2.1 hlt3 b6
      clear b6 B3
      cases ok : okB x0 (kindI q0) x1 x2 x3 x4 x5
      · obtain ⟨z0, z1, z2, z3, z4, z5, z6, zf⟩ := cells7 D6.out.2.1
        have HP : Hid (∀ k t a b c d e, ¬ Par s k t a b c d e) := par_ok HQ.out.1 HN'.out ok
        go_wp2
        exact bodyPost_ret (v := .tuple #[.agg #[.int .i64 0, .int .i64 0, .int .i64 0, .int .i64 0, .int .i64 0, .int .i64 0, .int .i64 0], .bool false]) (by simp [results, Tryz.results70, go_sem, z0, z1, z2, z3, z4, z5, z6]) rfl ⟨⟨0, 0, 0, 0, 0, 0, 0, false, rfl, (fun h => by cases h), fun _ => ⟨rfl, rfl, rfl, rfl, rfl, rfl, rfl, HP.out⟩⟩, (((((((D6.out.1.setCell (Nat.le_refl _) _).setCell (Nat.le_refl _) _).setCell (Nat.le_refl _) _).setCell (Nat.le_refl _) _).setCell (Nat.le_refl _) _).setCell (Nat.le_refl _) _).setCell (Nat.le_refl _) _)⟩
      obtain ⟨m0, m1, m2, m3, m4, m5, m6, mf⟩ := cells7 D6.out.2.2
      go_wp2_with fail
      obtain ⟨X, hX⟩ : ∃ X, X = textB x0 (kindI q0) x1 x2 x3 x4 x5 := ⟨_, rfl⟩
      have HX : Hid (X = textB x0 (kindI q0) x1 x2 x3 x4 x5) := hX
      refine (read_text hX (HL.out.below D6.out.1).tab).mono ?_
      rintro r7 w7 ⟨rfl, b7⟩
      have D7 : Hid (Below w.heap.size w w7 ∧ w7.heap[w.heap.size]? = some (.cells #[.int .i64 0, .int .i64 0, .int .i64 0, .int .i64 0, .int .i64 0, .int .i64 0, .int .i64 0] 39 (0, 0)) ∧ w7.heap[w3.heap.size + 1]? = some (.cells #[.int .i64 x0, .int .i64 (kindI q0), .int .i64 x1, .int .i64 x2, .int .i64 x3, .int .i64 x4, .int .i64 x5] 39 (0, 0))) := ⟨D6.out.1.trans (b7.mono D6.out.1.size), (b7.block _ (Array.getElem?_eq_some_iff.1 D6.out.2.1).1).trans D6.out.2.1, (b7.block _ (Array.getElem?_eq_some_iff.1 D6.out.2.2).1).trans D6.out.2.2⟩
      clear b7 D6 hX m0 m1 m2 m3 m4 m5 m6 mf
      obtain ⟨m0, m1, m2, m3, m4, m5, m6, mf⟩ := cells7 D7.out.2.2
      obtain ⟨z0, z1, z2, z3, z4, z5, z6, zf⟩ := cells7 D7.out.2.1
      cases hx : (X.toList == s.toList)
      · have HP : Hid (∀ k t a b c d e, ¬ Par s k t a b c d e) := par_text HQ.out.1 HN'.out HX.out hx
        go_wp2
        exact bodyPost_ret (v := .tuple #[.agg #[.int .i64 0, .int .i64 0, .int .i64 0, .int .i64 0, .int .i64 0, .int .i64 0, .int .i64 0], .bool false]) (by simp [results, Tryz.results70, go_sem, z0, z1, z2, z3, z4, z5, z6]) rfl ⟨⟨0, 0, 0, 0, 0, 0, 0, false, rfl, (fun h => by cases h), fun _ => ⟨rfl, rfl, rfl, rfl, rfl, rfl, rfl, HP.out⟩⟩, (((((((D7.out.1.setCell (Nat.le_refl _) _).setCell (Nat.le_refl _) _).setCell (Nat.le_refl _) _).setCell (Nat.le_refl _) _).setCell (Nat.le_refl _) _).setCell (Nat.le_refl _) _).setCell (Nat.le_refl _) _)⟩
      have HP : Hid (Par s x0 (kindI q0) x1 x2 x3 x4 x5) := par_yes HQ.out.1 HN'.out ok HX.out hx
      go_wp2
      exact bodyPost_ret (v := .tuple #[.agg #[.int .i64 x0, .int .i64 (kindI q0), .int .i64 x1, .int .i64 x2, .int .i64 x3, .int .i64 x4, .int .i64 x5], .bool true]) (by simp [results, Tryz.results70, go_sem, z0, z1, z2, z3, z4, z5, z6]) rfl ⟨⟨_, _, _, _, _, _, _, true, rfl, fun _ => HP.out, (fun h => by cases h)⟩, (((((((D7.out.1.setCell (Nat.le_refl _) _).setCell (Nat.le_refl _) _).setCell (Nat.le_refl _) _).setCell (Nat.le_refl _) _).setCell (Nat.le_refl _) _).setCell (Nat.le_refl _) _).setCell (Nat.le_refl _) _)⟩
  · have hn' : (((pieces s).length : Int) != 7) = true := by simp; omega
    obtain ⟨z0, z1, z2, z3, z4, z5, z6, zf⟩ := cells7 B2.out.2
    go_wp2
    exact bodyPost_ret (v := .tuple #[.agg #[.int .i64 0, .int .i64 0, .int .i64 0, .int .i64 0, .int .i64 0, .int .i64 0, .int .i64 0], .bool false]) (by simp [results, Tryz.results70, go_sem, z0, z1, z2, z3, z4, z5, z6]) rfl ⟨⟨0, 0, 0, 0, 0, 0, 0, false, rfl, (fun h => by cases h), fun _ => ⟨rfl, rfl, rfl, rfl, rfl, rfl, rfl, par_len hn⟩⟩, ((((((B2.out.1.setCell (Nat.le_refl _) _).setCell (Nat.le_refl _) _).setCell (Nat.le_refl _) _).setCell (Nat.le_refl _) _).setCell (Nat.le_refl _) _).setCell (Nat.le_refl _) _).setCell (Nat.le_refl _) _⟩

end Go.Proofs.YtopikapamfmalaaGreatDoor
