/-
  What the program's okSealed answers, for every seal: as the plain mathematics says; nothing that was in memory is turned.
-/
import Derived.Test.YtimmfabaogeanaaDoorSealImpl
namespace Go.Proofs.YtimmfabaogeanaaDoor
open Go.RowKit

theorem method1 (k a b c d e : Int) (w : World) : (method 183 59 (.agg #[.int .i64 k, .int .i64 a, .int .i64 b, .int .i64 c, .int .i64 d, .int .i64 e]) "loop.example/cerberus/impl.ok").run Tryd.prog w = .ok (48, .agg #[.int .i64 k, .int .i64 a, .int .i64 b, .int .i64 c, .int .i64 d, .int .i64 e]) w := by kernel_rfl

set_option maxHeartbeats 400000 in
theorem okSealed1_any (k a b c d e : Int) (w : World) :
    Calls Tryd.prog 22 #[.agg #[.int .i64 k, .int .i64 1, .int .i64 a, .int .i64 b, .int .i64 c, .int .i64 d, .int .i64 e]] w fun r w' => r = .returned (if ok1 k a b c d e then .tuple #[.iface 59 (.agg #[.int .i64 k, .int .i64 a, .int .i64 b, .int .i64 c, .int .i64 d, .int .i64 e]), .bool true] else .tuple #[.nilIface, .bool false]) ∧ Below w.heap.size w w' := by
  have hm := method1 k a b c d e
  go_enter Tryd.func22, Tryd.ntmps22
  go_wp2_with (first | (go_at_call 28; refine (sealedOf1_any _ _ _ _ _ _ _).mono ?_; rintro e w1 ⟨rfl, hb1⟩) | (go_at_call 48; refine (ticketOk_any _ _ _ _ _ _ _).mono ?_; rintro e w2 ⟨rfl, hb2⟩))
  all_goals go_ret2
  all_goals exact ⟨by simp_all, ((Below.refl _ _).alloc (Nat.le_refl _) _).trans ((hb1.mono (by simp)).trans (hb2.mono (by have := hb1.size; simp at this; omega)))⟩

theorem method2 (k a b c d : Int) (w : World) : (method 183 61 (.agg #[.int .i64 k, .int .i64 a, .int .i64 b, .int .i64 c, .int .i64 d]) "loop.example/cerberus/impl.ok").run Tryd.prog w = .ok (52, .agg #[.int .i64 k, .int .i64 a, .int .i64 b, .int .i64 c, .int .i64 d]) w := by kernel_rfl

set_option maxHeartbeats 400000 in
theorem okSealed2_any (k a b c d : Int) (w : World) :
    Calls Tryd.prog 22 #[.agg #[.int .i64 k, .int .i64 2, .int .i64 a, .int .i64 b, .int .i64 c, .int .i64 d, .int .i64 0]] w fun r w' => r = .returned (if ok2 k a b c d 0 then .tuple #[.iface 61 (.agg #[.int .i64 k, .int .i64 a, .int .i64 b, .int .i64 c, .int .i64 d]), .bool true] else .tuple #[.nilIface, .bool false]) ∧ Below w.heap.size w w' := by
  have hm := method2 k a b c d
  go_enter Tryd.func22, Tryd.ntmps22
  go_wp2_with (first | (go_at_call 28; refine (sealedOf2_any _ _ _ _ _ _).mono ?_; rintro e w1 ⟨rfl, hb1⟩) | (go_at_call 52; refine (partOk_any _ _ _ _ _ _).mono ?_; rintro e w2 ⟨rfl, hb2⟩))
  all_goals go_ret2
  all_goals exact ⟨by simp_all, ((Below.refl _ _).alloc (Nat.le_refl _) _).trans ((hb1.mono (by simp)).trans (hb2.mono (by have := hb1.size; simp at this; omega)))⟩

theorem method3 (k a b c : Int) (w : World) : (method 183 63 (.agg #[.int .i64 k, .int .i64 a, .int .i64 b, .int .i64 c]) "loop.example/cerberus/impl.ok").run Tryd.prog w = .ok (53, .agg #[.int .i64 k, .int .i64 a, .int .i64 b, .int .i64 c]) w := by kernel_rfl

set_option maxHeartbeats 400000 in
theorem okSealed3_any (k a b c : Int) (w : World) :
    Calls Tryd.prog 22 #[.agg #[.int .i64 k, .int .i64 3, .int .i64 a, .int .i64 b, .int .i64 c, .int .i64 0, .int .i64 0]] w fun r w' => r = .returned (if ok3 k a b c 0 0 then .tuple #[.iface 63 (.agg #[.int .i64 k, .int .i64 a, .int .i64 b, .int .i64 c]), .bool true] else .tuple #[.nilIface, .bool false]) ∧ Below w.heap.size w w' := by
  have hm := method3 k a b c
  go_enter Tryd.func22, Tryd.ntmps22
  go_wp2_with (first | (go_at_call 28; refine (sealedOf3_any _ _ _ _ _).mono ?_; rintro e w1 ⟨rfl, hb1⟩) | (go_at_call 53; refine (authOk_any _ _ _ _ _).mono ?_; rintro e w2 ⟨rfl, hb2⟩))
  all_goals go_ret2
  all_goals exact ⟨by simp_all, ((Below.refl _ _).alloc (Nat.le_refl _) _).trans ((hb1.mono (by simp)).trans (hb2.mono (by have := hb1.size; simp at this; omega)))⟩

theorem method4 (k a b : Int) (w : World) : (method 183 65 (.agg #[.int .i64 k, .int .i64 a, .int .i64 b]) "loop.example/cerberus/impl.ok").run Tryd.prog w = .ok (54, .agg #[.int .i64 k, .int .i64 a, .int .i64 b]) w := by kernel_rfl

set_option maxHeartbeats 400000 in
theorem okSealed4_any (k a b : Int) (w : World) :
    Calls Tryd.prog 22 #[.agg #[.int .i64 k, .int .i64 4, .int .i64 a, .int .i64 b, .int .i64 0, .int .i64 0, .int .i64 0]] w fun r w' => r = .returned (if ok4 k a b 0 0 0 then .tuple #[.iface 65 (.agg #[.int .i64 k, .int .i64 a, .int .i64 b]), .bool true] else .tuple #[.nilIface, .bool false]) ∧ Below w.heap.size w w' := by
  have hm := method4 k a b
  go_enter Tryd.func22, Tryd.ntmps22
  go_wp2_with (first | (go_at_call 28; refine (sealedOf4_any _ _ _ _).mono ?_; rintro e w1 ⟨rfl, hb1⟩) | (go_at_call 54; refine (backOk_any _ _ _ _).mono ?_; rintro e w2 ⟨rfl, hb2⟩))
  all_goals go_ret2
  all_goals exact ⟨by simp_all, ((Below.refl _ _).alloc (Nat.le_refl _) _).trans ((hb1.mono (by simp)).trans (hb2.mono (by have := hb1.size; simp at this; omega)))⟩

set_option maxHeartbeats 400000 in
theorem okSealed0_any (k t a b c d e : Int) (w : World) (h : odd t c d e = true) :
    Calls Tryd.prog 22 #[.agg #[.int .i64 k, .int .i64 t, .int .i64 a, .int .i64 b, .int .i64 c, .int .i64 d, .int .i64 e]] w fun r w' => r = .returned (.tuple #[.nilIface, .bool false]) ∧ Below w.heap.size w w' := by
  go_enter Tryd.func22, Tryd.ntmps22
  go_wp2_with (go_at_call 28; refine (sealedOf0_any _ _ _ _ _ _ _ _ h).mono ?_; rintro e w1 ⟨rfl, hb1⟩)
  all_goals go_ret2
  all_goals exact ⟨rfl, ((Below.refl _ _).alloc (Nat.le_refl _) _).trans (hb1.mono (by simp))⟩

theorem not_odd {t c d e : Int} (h : odd t c d e = false) : t = 1 ∨ (t = 2 ∧ e = 0) ∨ (t = 3 ∧ d = 0 ∧ e = 0) ∨ (t = 4 ∧ c = 0 ∧ d = 0 ∧ e = 0) := by
  simp only [odd, Bool.and_eq_false_iff, Bool.or_eq_false_iff, bne_eq_false_iff_eq] at h
  omega
theorem odd_not_ok (k a b : Int) {t c d e : Int} (h : odd t c d e = true) : okB k t a b c d e = false := by
  unfold okB
  by_cases h1 : t = 1
  · subst h1; simp [odd] at h
  by_cases h2 : t = 2
  · subst h2; simp [odd] at h; simp [ok2, h]
  by_cases h3 : t = 3
  · subst h3
    simp [odd] at h
    rcases h with h | h <;> simp [ok3, h]
  by_cases h4 : t = 4
  · subst h4
    simp [odd] at h
    rcases h with (h | h) | h <;> simp [ok4, h]
  simp [h1, h2, h3, h4]

theorem asr11 (v : Value) (w : World) : (Instr.typeAssert (.iface 59 v) 46 59 true).run Tryd.prog w = .ok (.tuple #[v, .bool true]) w := by kernel_rfl
theorem asr12 (v : Value) (w : World) : (Instr.typeAssert (.iface 59 v) 46 61 true).run Tryd.prog w = .ok (.tuple #[.agg #[.int .i64 0, .int .i64 0, .int .i64 0, .int .i64 0, .int .i64 0], .bool false]) w := by kernel_rfl
theorem asr13 (v : Value) (w : World) : (Instr.typeAssert (.iface 59 v) 46 63 true).run Tryd.prog w = .ok (.tuple #[.agg #[.int .i64 0, .int .i64 0, .int .i64 0, .int .i64 0], .bool false]) w := by kernel_rfl
theorem asr14 (v : Value) (w : World) : (Instr.typeAssert (.iface 59 v) 46 65 true).run Tryd.prog w = .ok (.tuple #[.agg #[.int .i64 0, .int .i64 0, .int .i64 0], .bool false]) w := by kernel_rfl
theorem asr21 (v : Value) (w : World) : (Instr.typeAssert (.iface 61 v) 46 59 true).run Tryd.prog w = .ok (.tuple #[.agg #[.int .i64 0, .int .i64 0, .int .i64 0, .int .i64 0, .int .i64 0, .int .i64 0], .bool false]) w := by kernel_rfl
theorem asr22 (v : Value) (w : World) : (Instr.typeAssert (.iface 61 v) 46 61 true).run Tryd.prog w = .ok (.tuple #[v, .bool true]) w := by kernel_rfl
theorem asr23 (v : Value) (w : World) : (Instr.typeAssert (.iface 61 v) 46 63 true).run Tryd.prog w = .ok (.tuple #[.agg #[.int .i64 0, .int .i64 0, .int .i64 0, .int .i64 0], .bool false]) w := by kernel_rfl
theorem asr24 (v : Value) (w : World) : (Instr.typeAssert (.iface 61 v) 46 65 true).run Tryd.prog w = .ok (.tuple #[.agg #[.int .i64 0, .int .i64 0, .int .i64 0], .bool false]) w := by kernel_rfl
theorem asr31 (v : Value) (w : World) : (Instr.typeAssert (.iface 63 v) 46 59 true).run Tryd.prog w = .ok (.tuple #[.agg #[.int .i64 0, .int .i64 0, .int .i64 0, .int .i64 0, .int .i64 0, .int .i64 0], .bool false]) w := by kernel_rfl
theorem asr32 (v : Value) (w : World) : (Instr.typeAssert (.iface 63 v) 46 61 true).run Tryd.prog w = .ok (.tuple #[.agg #[.int .i64 0, .int .i64 0, .int .i64 0, .int .i64 0, .int .i64 0], .bool false]) w := by kernel_rfl
theorem asr33 (v : Value) (w : World) : (Instr.typeAssert (.iface 63 v) 46 63 true).run Tryd.prog w = .ok (.tuple #[v, .bool true]) w := by kernel_rfl
theorem asr34 (v : Value) (w : World) : (Instr.typeAssert (.iface 63 v) 46 65 true).run Tryd.prog w = .ok (.tuple #[.agg #[.int .i64 0, .int .i64 0, .int .i64 0], .bool false]) w := by kernel_rfl
theorem asr41 (v : Value) (w : World) : (Instr.typeAssert (.iface 65 v) 46 59 true).run Tryd.prog w = .ok (.tuple #[.agg #[.int .i64 0, .int .i64 0, .int .i64 0, .int .i64 0, .int .i64 0, .int .i64 0], .bool false]) w := by kernel_rfl
theorem asr42 (v : Value) (w : World) : (Instr.typeAssert (.iface 65 v) 46 61 true).run Tryd.prog w = .ok (.tuple #[.agg #[.int .i64 0, .int .i64 0, .int .i64 0, .int .i64 0, .int .i64 0], .bool false]) w := by kernel_rfl
theorem asr43 (v : Value) (w : World) : (Instr.typeAssert (.iface 65 v) 46 63 true).run Tryd.prog w = .ok (.tuple #[.agg #[.int .i64 0, .int .i64 0, .int .i64 0, .int .i64 0], .bool false]) w := by kernel_rfl
theorem asr44 (v : Value) (w : World) : (Instr.typeAssert (.iface 65 v) 46 65 true).run Tryd.prog w = .ok (.tuple #[v, .bool true]) w := by kernel_rfl

end Go.Proofs.YtimmfabaogeanaaDoor
