/-
  A new service has nothing: the law on it, walked at whatever is drawn.
-/
import Derived.Test.YtaokgbdddgoonaaDrawSmall
import Derived.Test.YtaokgbdddgoonaaSvNewLaw
import Derived.Test.YtaokgbdddgoonaaSvOk
import Derived.Test.YtaokgbdddgoonaaSt
namespace Go.Proofs.Ytaokgbdddgoonaa
open Go.RowKit
attribute [local go_sem ↓] Go.wp_at_zero Go.wp_at_succ

set_option maxHeartbeats 1000000 in
theorem lbSeals_nil (a b : Option Addr) (p q : Nat) (w : World) : Calls Try.prog 21 #[.slice a 0 p, .slice b 0 q] w fun r w' => r = .returned (.bool true) ∧ Below w.heap.size w w' := by
  go_enter Try.func21, Try.ntmps21
  go_wp2_with fail
  go_loopw [5] (fun i wr => i = .int .i64 0 ∧ Hid (Below w.heap.size w wr)) (fun _ _ => 0)
  case atStart => exact ⟨rfl, Below.refl _ _⟩
  case round =>
    obtain ⟨rfl, C⟩ := hrel
    go_wp2_with fail
    go_ret
    exact ⟨rfl, C.out⟩
set_option maxHeartbeats 1000000 in
theorem lbCalls_nil (a b : Option Addr) (p q : Nat) (w : World) : Calls Try.prog 22 #[.slice a 0 p, .slice b 0 q] w fun r w' => r = .returned (.bool true) ∧ Below w.heap.size w w' := by
  go_enter Try.func22, Try.ntmps22
  go_wp2_with fail
  go_loopw [5] (fun i wr => i = .int .i64 0 ∧ Hid (Below w.heap.size w wr)) (fun _ _ => 0)
  case atStart => exact ⟨rfl, Below.refl _ _⟩
  case round =>
    obtain ⟨rfl, C⟩ := hrel
    go_wp2_with fail
    go_ret
    exact ⟨rfl, C.out⟩

set_option maxHeartbeats 1000000 in
theorem lbServ_nil (i s : Int) (a1 a2 b1 b2 : Option Addr) (u1 u2 v1 v2 : Nat) (w : World) : Calls Try.prog 8 #[.agg #[.int .i64 i, .int .i64 s, .slice a1 0 u1, .slice a2 0 u2], .agg #[.int .i64 i, .int .i64 s, .slice b1 0 v1, .slice b2 0 v2]] w fun r w' => r = .returned (.bool true) ∧ Below w.heap.size w w' := by
  go_enter Try.func8, Try.ntmps8
  go_wp2_with fail
  obtain ⟨w1, hX9, HS1⟩ : ∃ X, X = ((w.alloc (.cells #[.int .i64 i, .int .i64 s, .slice a1 0 u1, .slice a2 0 u2] 27)).alloc (.cells #[.int .i64 i, .int .i64 s, .slice b1 0 v1, .slice b2 0 v2] 27)) ∧ Hid (St w.heap.size w [⟨w.heap.size, 27, #[.int .i64 i, .int .i64 s, .slice a1 0 u1, .slice a2 0 u2]⟩, ⟨w.heap.size + 1, 27, #[.int .i64 i, .int .i64 s, .slice b1 0 v1, .slice b2 0 v2]⟩] [] X) := ⟨_, rfl, Hid.mk' (by
    have h := (St.alloc #[.int .i64 i, .int .i64 s, .slice b1 0 v1, .slice b2 0 v2] 27 (St.alloc #[.int .i64 i, .int .i64 s, .slice a1 0 u1, .slice a2 0 u2] 27 (St.new w)))
    try simp only [World.size_alloc] at h
    try simp only [World.size_setCell] at h
    exact h)⟩
  rw [← hX9]
  clear hX9
  refine (lbSeals_nil _ _ _ _ _).mono ?_
  rintro r w2 ⟨rfl, b9⟩
  have HS2 : Hid (St w.heap.size w [⟨w.heap.size, 27, #[.int .i64 i, .int .i64 s, .slice a1 0 u1, .slice a2 0 u2]⟩, ⟨w.heap.size + 1, 27, #[.int .i64 i, .int .i64 s, .slice b1 0 v1, .slice b2 0 v2]⟩] [] w2) := Hid.mk' (by
    have h := St.grow b9 HS1.out
    try simp only [World.size_alloc] at h
    try simp only [World.size_setCell] at h
    exact h)
  clear HS1
  clear b9
  have p0 := HS2.out.cell 0 rfl 0 (.int .i64 i) rfl
  have p1 := HS2.out.cell 0 rfl 1 (.int .i64 s) rfl
  have p2 := HS2.out.cell 0 rfl 2 (.slice a1 0 u1) rfl
  have p3 := HS2.out.cell 0 rfl 3 (.slice a2 0 u2) rfl
  have q0 := HS2.out.cell 1 rfl 0 (.int .i64 i) rfl
  have q1 := HS2.out.cell 1 rfl 1 (.int .i64 s) rfl
  have q2 := HS2.out.cell 1 rfl 2 (.slice b1 0 v1) rfl
  have q3 := HS2.out.cell 1 rfl 3 (.slice b2 0 v2) rfl
  go_wp2_with fail
  clear p0 p1 p2 p3 q0 q1 q2 q3
  refine (lbCalls_nil _ _ _ _ _).mono ?_
  rintro r w3 ⟨rfl, b9⟩
  have HS3 : Hid (St w.heap.size w [⟨w.heap.size, 27, #[.int .i64 i, .int .i64 s, .slice a1 0 u1, .slice a2 0 u2]⟩, ⟨w.heap.size + 1, 27, #[.int .i64 i, .int .i64 s, .slice b1 0 v1, .slice b2 0 v2]⟩] [] w3) := Hid.mk' (by
    have h := St.grow b9 HS2.out
    try simp only [World.size_alloc] at h
    try simp only [World.size_setCell] at h
    exact h)
  clear HS2
  clear b9
  go_wp2_with fail
  go_ret
  exact ⟨rfl, HS3.out.bel⟩

set_option maxHeartbeats 400000 in
theorem servNew_long (a : Option Addr) (n c : Nat) (w : World) (h : 1048576 < (n : Int)) :
    Calls Try.prog 3 #[.slice a n c] w fun r w' => r = .returned (.bool true) ∧ Below w.heap.size w w' := by
  go_enter Try.func3, Try.ntmps3
  go_wp2
  go_ret
  exact ⟨rfl, Below.refl _ _⟩

set_option maxHeartbeats 4000000 in
set_option maxRecDepth 100000 in
theorem servNew_short (a : Option Addr) (n c : Nat) (w : World) (g : (n : Int) ≤ 1048576) (h : Code w a n c) :
    Calls Try.prog 3 #[.slice a n c] w fun r w' => r = .returned (.bool true) ∧ Below w.heap.size w w' := by
  have HC : Hid (Code w a n c) := h
  clear h
  go_enter Try.func3, Try.ntmps3
  go_wp2_with fail
  refine (drawServNew_any _ _ _ _ HC.out).mono ?_
  rintro r w1 ⟨⟨v, v0, v1, rfl⟩, b9⟩
  obtain ⟨id, hid⟩ : ∃ id, id = v + 2 := ⟨_, rfl⟩
  rw [← hid]
  clear hid v0 v1 HC
  have HS1 : Hid (St w.heap.size w [] [] w1) := Hid.mk' (by
    have h := St.grow b9 (St.new w)
    try simp only [World.size_alloc] at h
    try simp only [World.size_setCell] at h
    exact h)
  clear b9
  go_wp2_with fail
  refine (specServNew_any _ _).mono ?_
  rintro r w2 ⟨⟨a1, a2, rfl⟩, b9⟩
  have HS2 : Hid (St w.heap.size w [] [] w2) := Hid.mk' (by
    have h := St.grow b9 HS1.out
    try simp only [World.size_alloc] at h
    try simp only [World.size_setCell] at h
    exact h)
  clear HS1
  clear b9
  cases hin : inB id 4 5
  · have e1 : svId id = 0 := by simp [svId, hin]
    have e2 : svIn id = 0 := by simp [svIn, hin]
    rw [e1, e2]
    go_wp2_with fail
    obtain ⟨w3, hX9, HS3⟩ : ∃ X, X = (w2.alloc (.cells #[.int .i64 0, .int .i64 0, .slice a1 0 0, .slice a2 0 0] 27)) ∧ Hid (St w.heap.size w [⟨w2.heap.size, 27, #[.int .i64 0, .int .i64 0, .slice a1 0 0, .slice a2 0 0]⟩] [] X) := ⟨_, rfl, Hid.mk' (by
      have h := (St.alloc #[.int .i64 0, .int .i64 0, .slice a1 0 0, .slice a2 0 0] 27 HS2.out)
      try simp only [World.size_alloc] at h
      try simp only [World.size_setCell] at h
      exact h)⟩
    rw [← hX9]
    clear hX9
    clear HS2
    refine (implServNew_any _ _).mono ?_
    rintro r w4 ⟨rfl, b9⟩
    rw [hin, e1, e2]
    have HS4 : Hid (St w.heap.size w [⟨w2.heap.size, 27, #[.int .i64 0, .int .i64 0, .slice a1 0 0, .slice a2 0 0]⟩] [] w4) := Hid.mk' (by
      have h := St.grow b9 HS3.out
      try simp only [World.size_alloc] at h
      try simp only [World.size_setCell] at h
      exact h)
    clear HS3
    clear b9
    have p0 := HS4.out.cell 0 rfl 0 (.int .i64 0) rfl
    have p1 := HS4.out.cell 0 rfl 1 (.int .i64 0) rfl
    have p2 := HS4.out.cell 0 rfl 2 (.slice a1 0 0) rfl
    have p3 := HS4.out.cell 0 rfl 3 (.slice a2 0 0) rfl
    have lt0 := (HS4.out.lt 0 rfl).2
    go_wp2_with fail
    clear p0 p1 p2 p3 lt0
    obtain ⟨w5, hX9, HS5⟩ : ∃ X, X = (w4.alloc (.cells #[.int .i64 0, .int .i64 0, .slice none 0 0, .slice none 0 0] 27)) ∧ Hid (St w.heap.size w [⟨w2.heap.size, 27, #[.int .i64 0, .int .i64 0, .slice a1 0 0, .slice a2 0 0]⟩, ⟨w4.heap.size, 27, #[.int .i64 0, .int .i64 0, .slice none 0 0, .slice none 0 0]⟩] [] X) := ⟨_, rfl, Hid.mk' (by
      have h := (St.alloc #[.int .i64 0, .int .i64 0, .slice none 0 0, .slice none 0 0] 27 HS4.out)
      try simp only [World.size_alloc] at h
      try simp only [World.size_setCell] at h
      exact h)⟩
    rw [← hX9]
    clear hX9
    clear HS4
    refine (lbServ_nil 0 0 _ _ _ _ _ _ _ _ _).mono ?_
    rintro r w6 ⟨rfl, b9⟩
    have HS6 : Hid (St w.heap.size w [⟨w2.heap.size, 27, #[.int .i64 0, .int .i64 0, .slice a1 0 0, .slice a2 0 0]⟩, ⟨w4.heap.size, 27, #[.int .i64 0, .int .i64 0, .slice none 0 0, .slice none 0 0]⟩] [] w6) := Hid.mk' (by
      have h := St.grow b9 HS5.out
      try simp only [World.size_alloc] at h
      try simp only [World.size_setCell] at h
      exact h)
    clear HS5
    clear b9
    have p0 := HS6.out.cell 0 rfl 0 (.int .i64 0) rfl
    have p1 := HS6.out.cell 0 rfl 1 (.int .i64 0) rfl
    have p2 := HS6.out.cell 0 rfl 2 (.slice a1 0 0) rfl
    have p3 := HS6.out.cell 0 rfl 3 (.slice a2 0 0) rfl
    have q0 := HS6.out.cell 1 rfl 0 (.int .i64 0) rfl
    have q1 := HS6.out.cell 1 rfl 1 (.int .i64 0) rfl
    have q2 := HS6.out.cell 1 rfl 2 (.slice none 0 0) rfl
    have q3 := HS6.out.cell 1 rfl 3 (.slice none 0 0) rfl
    go_wp2_with fail
    clear p0 p1 p2 p3 q0 q1 q2 q3
    refine (lbServ_nil 0 0 _ _ _ _ _ _ _ _ _).mono ?_
    rintro r w7 ⟨rfl, b9⟩
    have HS7 : Hid (St w.heap.size w [⟨w2.heap.size, 27, #[.int .i64 0, .int .i64 0, .slice a1 0 0, .slice a2 0 0]⟩, ⟨w4.heap.size, 27, #[.int .i64 0, .int .i64 0, .slice none 0 0, .slice none 0 0]⟩] [] w7) := Hid.mk' (by
      have h := St.grow b9 HS6.out
      try simp only [World.size_alloc] at h
      try simp only [World.size_setCell] at h
      exact h)
    clear HS6
    clear b9
    go_wp2_with fail
    go_ret
    exact ⟨rfl, HS7.out.bel⟩
  · have e1 : svId id = id := by simp [svId, hin]
    have e2 : svIn id = -1 := by simp [svIn, hin]
    rw [e1, e2]
    go_wp2_with fail
    obtain ⟨w3, hX9, HS3⟩ : ∃ X, X = (w2.alloc (.cells #[.int .i64 id, .int .i64 (-1), .slice a1 0 0, .slice a2 0 0] 27)) ∧ Hid (St w.heap.size w [⟨w2.heap.size, 27, #[.int .i64 id, .int .i64 (-1), .slice a1 0 0, .slice a2 0 0]⟩] [] X) := ⟨_, rfl, Hid.mk' (by
      have h := (St.alloc #[.int .i64 id, .int .i64 (-1), .slice a1 0 0, .slice a2 0 0] 27 HS2.out)
      try simp only [World.size_alloc] at h
      try simp only [World.size_setCell] at h
      exact h)⟩
    rw [← hX9]
    clear hX9
    clear HS2
    refine (implServNew_any _ _).mono ?_
    rintro r w4 ⟨rfl, b9⟩
    rw [hin, e1, e2]
    have HS4 : Hid (St w.heap.size w [⟨w2.heap.size, 27, #[.int .i64 id, .int .i64 (-1), .slice a1 0 0, .slice a2 0 0]⟩] [] w4) := Hid.mk' (by
      have h := St.grow b9 HS3.out
      try simp only [World.size_alloc] at h
      try simp only [World.size_setCell] at h
      exact h)
    clear HS3
    clear b9
    have p0 := HS4.out.cell 0 rfl 0 (.int .i64 id) rfl
    have p1 := HS4.out.cell 0 rfl 1 (.int .i64 (-1)) rfl
    have p2 := HS4.out.cell 0 rfl 2 (.slice a1 0 0) rfl
    have p3 := HS4.out.cell 0 rfl 3 (.slice a2 0 0) rfl
    have lt0 := (HS4.out.lt 0 rfl).2
    go_wp2_with fail
    clear p0 p1 p2 p3 lt0
    obtain ⟨w5, hX9, HS5⟩ : ∃ X, X = (w4.alloc (.cells #[.int .i64 id, .int .i64 (-1), .slice none 0 0, .slice none 0 0] 27)) ∧ Hid (St w.heap.size w [⟨w2.heap.size, 27, #[.int .i64 id, .int .i64 (-1), .slice a1 0 0, .slice a2 0 0]⟩, ⟨w4.heap.size, 27, #[.int .i64 id, .int .i64 (-1), .slice none 0 0, .slice none 0 0]⟩] [] X) := ⟨_, rfl, Hid.mk' (by
      have h := (St.alloc #[.int .i64 id, .int .i64 (-1), .slice none 0 0, .slice none 0 0] 27 HS4.out)
      try simp only [World.size_alloc] at h
      try simp only [World.size_setCell] at h
      exact h)⟩
    rw [← hX9]
    clear hX9
    clear HS4
    refine (lbServ_nil id (-1) _ _ _ _ _ _ _ _ _).mono ?_
    rintro r w6 ⟨rfl, b9⟩
    have HS6 : Hid (St w.heap.size w [⟨w2.heap.size, 27, #[.int .i64 id, .int .i64 (-1), .slice a1 0 0, .slice a2 0 0]⟩, ⟨w4.heap.size, 27, #[.int .i64 id, .int .i64 (-1), .slice none 0 0, .slice none 0 0]⟩] [] w6) := Hid.mk' (by
      have h := St.grow b9 HS5.out
      try simp only [World.size_alloc] at h
      try simp only [World.size_setCell] at h
      exact h)
    clear HS5
    clear b9
    have p0 := HS6.out.cell 0 rfl 0 (.int .i64 id) rfl
    have p1 := HS6.out.cell 0 rfl 1 (.int .i64 (-1)) rfl
    have p2 := HS6.out.cell 0 rfl 2 (.slice a1 0 0) rfl
    have p3 := HS6.out.cell 0 rfl 3 (.slice a2 0 0) rfl
    have q0 := HS6.out.cell 1 rfl 0 (.int .i64 id) rfl
    have q1 := HS6.out.cell 1 rfl 1 (.int .i64 (-1)) rfl
    have q2 := HS6.out.cell 1 rfl 2 (.slice none 0 0) rfl
    have q3 := HS6.out.cell 1 rfl 3 (.slice none 0 0) rfl
    go_wp2_with fail
    clear p0 p1 p2 p3 q0 q1 q2 q3
    refine (implServOk_any id (-1) none none 0 0 [] [] _ (Or.inl rfl) (NRow.nil _ _ _) (by simp) (by simp)).mono ?_
    rintro r w7 ⟨rfl, b9⟩
    have HS7 : Hid (St w.heap.size w [⟨w2.heap.size, 27, #[.int .i64 id, .int .i64 (-1), .slice a1 0 0, .slice a2 0 0]⟩, ⟨w4.heap.size, 27, #[.int .i64 id, .int .i64 (-1), .slice none 0 0, .slice none 0 0]⟩] [] w7) := Hid.mk' (by
      have h := St.grow b9 HS6.out
      try simp only [World.size_alloc] at h
      try simp only [World.size_setCell] at h
      exact h)
    clear HS6
    clear b9
    have es : servB id (-1) [] [] = true := by unfold servB; rw [hin]; simp [inB, cacheB, goodB]
    rw [es]
    have q0 := HS7.out.cell 1 rfl 0 (.int .i64 id) rfl
    have q1 := HS7.out.cell 1 rfl 1 (.int .i64 (-1)) rfl
    have q2 := HS7.out.cell 1 rfl 2 (.slice none 0 0) rfl
    have q3 := HS7.out.cell 1 rfl 3 (.slice none 0 0) rfl
    go_wp2_with fail
    clear q0 q1 q2 q3
    go_ret
    exact ⟨rfl, HS7.out.bel⟩

end Go.Proofs.Ytaokgbdddgoonaa
