/-
  A new user has nothing: the law on it, walked at whatever is drawn.
-/
import Derived.Test.YtaokgbdddgoonaaDrawSmall
import Derived.Test.YtaokgbdddgoonaaClientNewLaw
import Derived.Test.YtaokgbdddgoonaaClApI
import Derived.Test.YtaokgbdddgoonaaStJ
namespace Go.Proofs.Ytaokgbdddgoonaa
open Go.RowKit
attribute [local go_sem ↓] Go.wp_at_zero Go.wp_at_succ

set_option maxHeartbeats 1000000 in
theorem lbCalls_nil (a b : Option Addr) (p q : Nat) (w : World) : Calls Try.prog 22 #[.slice a 0 p, .slice b 0 q] w fun r w' => r = .returned (.bool true) ∧ Below w.heap.size w w' := by
  go_enter Try.func22, Try.ntmps22
  go_wp2_with fail
  go_loopw [5] (fun i wr => i = .int .i64 0 ∧ Hid (Below w.heap.size w wr)) (fun _ _ => 0)
  case atStart => exact ⟨rfl, Below.refl _ _⟩
  case round =>
    obtain ⟨rfl, C⟩ := hrel
    go_wp2_with fail
    go_ret
    exact ⟨rfl, C.out⟩

set_option maxHeartbeats 1000000 in
theorem lbClient_nil (i s : Int) (a1 a2 a3 a4 b1 b2 b3 b4 : Option Addr) (ku1 ku2 ku3 ku4 kv1 kv2 kv3 kv4 : Nat) (w : World) : Calls Try.prog 13 #[.agg #[.int .i64 i, .int .i64 s, .slice a1 0 ku1, .slice a2 0 ku2, .slice a3 0 ku3, .slice a4 0 ku4], .agg #[.int .i64 i, .int .i64 s, .slice b1 0 kv1, .slice b2 0 kv2, .slice b3 0 kv3, .slice b4 0 kv4]] w fun r w' => r = .returned (.bool true) ∧ Below w.heap.size w w' := by
  go_enter Try.func13, Try.ntmps13
  go_wp2_with fail
  obtain ⟨w1, hX9, HS1⟩ : ∃ X, X = ((w.alloc (.cells #[.int .i64 i, .int .i64 s, .slice a1 0 ku1, .slice a2 0 ku2, .slice a3 0 ku3, .slice a4 0 ku4] 36)).alloc (.cells #[.int .i64 i, .int .i64 s, .slice b1 0 kv1, .slice b2 0 kv2, .slice b3 0 kv3, .slice b4 0 kv4] 36)) ∧ Hid (St w.heap.size w [⟨w.heap.size, 36, #[.int .i64 i, .int .i64 s, .slice a1 0 ku1, .slice a2 0 ku2, .slice a3 0 ku3, .slice a4 0 ku4]⟩, ⟨w.heap.size + 1, 36, #[.int .i64 i, .int .i64 s, .slice b1 0 kv1, .slice b2 0 kv2, .slice b3 0 kv3, .slice b4 0 kv4]⟩] [] X) := ⟨_, rfl, Hid.mk' (by
    have h := (St.alloc #[.int .i64 i, .int .i64 s, .slice b1 0 kv1, .slice b2 0 kv2, .slice b3 0 kv3, .slice b4 0 kv4] 36 (St.alloc #[.int .i64 i, .int .i64 s, .slice a1 0 ku1, .slice a2 0 ku2, .slice a3 0 ku3, .slice a4 0 ku4] 36 (St.new w)))
    try simp only [World.size_alloc] at h
    try simp only [World.size_setCell] at h
    exact h)⟩
  rw [← hX9]
  clear hX9
  go_loopw [5] (fun vi wr => vi = .int .i64 0 ∧ Hid (St w.heap.size w [⟨w.heap.size, 36, #[.int .i64 i, .int .i64 s, .slice a1 0 ku1, .slice a2 0 ku2, .slice a3 0 ku3, .slice a4 0 ku4]⟩, ⟨w.heap.size + 1, 36, #[.int .i64 i, .int .i64 s, .slice b1 0 kv1, .slice b2 0 kv2, .slice b3 0 kv3, .slice b4 0 kv4]⟩] [] wr)) (fun _ _ => 0)
  case atStart => exact ⟨rfl, HS1.out⟩
  case round =>
    obtain ⟨rfl, C1⟩ := hrel
    have p0 := C1.out.cell 0 rfl 0 (.int .i64 i) rfl
    have p1 := C1.out.cell 0 rfl 1 (.int .i64 s) rfl
    have p2 := C1.out.cell 0 rfl 2 (.slice a1 0 ku1) rfl
    have p3 := C1.out.cell 0 rfl 3 (.slice a2 0 ku2) rfl
    have p4 := C1.out.cell 0 rfl 4 (.slice a3 0 ku3) rfl
    have p5 := C1.out.cell 0 rfl 5 (.slice a4 0 ku4) rfl
    have q0 := C1.out.cell 1 rfl 0 (.int .i64 i) rfl
    have q1 := C1.out.cell 1 rfl 1 (.int .i64 s) rfl
    have q2 := C1.out.cell 1 rfl 2 (.slice b1 0 kv1) rfl
    have q3 := C1.out.cell 1 rfl 3 (.slice b2 0 kv2) rfl
    have q4 := C1.out.cell 1 rfl 4 (.slice b3 0 kv3) rfl
    have q5 := C1.out.cell 1 rfl 5 (.slice b4 0 kv4) rfl
    go_wp2_with fail
    clear p0 p1 p2 p3 p4 p5 q0 q1 q2 q3 q4 q5
    go_loopw [6] (fun vi wr => vi = .int .i64 0 ∧ Hid (St w.heap.size w [⟨w.heap.size, 36, #[.int .i64 i, .int .i64 s, .slice a1 0 ku1, .slice a2 0 ku2, .slice a3 0 ku3, .slice a4 0 ku4]⟩, ⟨w.heap.size + 1, 36, #[.int .i64 i, .int .i64 s, .slice b1 0 kv1, .slice b2 0 kv2, .slice b3 0 kv3, .slice b4 0 kv4]⟩] [] wr)) (fun _ _ => 0)
    case atStart => exact ⟨rfl, C1.out⟩
    case round =>
      obtain ⟨rfl, C2⟩ := hrel
      have p0 := C2.out.cell 0 rfl 0 (.int .i64 i) rfl
      have p1 := C2.out.cell 0 rfl 1 (.int .i64 s) rfl
      have p2 := C2.out.cell 0 rfl 2 (.slice a1 0 ku1) rfl
      have p3 := C2.out.cell 0 rfl 3 (.slice a2 0 ku2) rfl
      have p4 := C2.out.cell 0 rfl 4 (.slice a3 0 ku3) rfl
      have p5 := C2.out.cell 0 rfl 5 (.slice a4 0 ku4) rfl
      have q0 := C2.out.cell 1 rfl 0 (.int .i64 i) rfl
      have q1 := C2.out.cell 1 rfl 1 (.int .i64 s) rfl
      have q2 := C2.out.cell 1 rfl 2 (.slice b1 0 kv1) rfl
      have q3 := C2.out.cell 1 rfl 3 (.slice b2 0 kv2) rfl
      have q4 := C2.out.cell 1 rfl 4 (.slice b3 0 kv3) rfl
      have q5 := C2.out.cell 1 rfl 5 (.slice b4 0 kv4) rfl
      go_wp2_with fail
      clear p0 p1 p2 p3 p4 p5 q0 q1 q2 q3 q4 q5
      refine (lbCalls_nil _ _ _ _ _).mono ?_
      rintro r w2 ⟨rfl, b9⟩
      have HS2 : Hid (St w.heap.size w [⟨w.heap.size, 36, #[.int .i64 i, .int .i64 s, .slice a1 0 ku1, .slice a2 0 ku2, .slice a3 0 ku3, .slice a4 0 ku4]⟩, ⟨w.heap.size + 1, 36, #[.int .i64 i, .int .i64 s, .slice b1 0 kv1, .slice b2 0 kv2, .slice b3 0 kv3, .slice b4 0 kv4]⟩] [] w2) := Hid.mk' (by
        have h := St.grow b9 C2.out
        try simp only [World.size_alloc] at h
        try simp only [World.size_setCell] at h
        exact h)
      clear C2
      clear b9
      have p0 := HS2.out.cell 0 rfl 0 (.int .i64 i) rfl
      have p1 := HS2.out.cell 0 rfl 1 (.int .i64 s) rfl
      have p2 := HS2.out.cell 0 rfl 2 (.slice a1 0 ku1) rfl
      have p3 := HS2.out.cell 0 rfl 3 (.slice a2 0 ku2) rfl
      have p4 := HS2.out.cell 0 rfl 4 (.slice a3 0 ku3) rfl
      have p5 := HS2.out.cell 0 rfl 5 (.slice a4 0 ku4) rfl
      have q0 := HS2.out.cell 1 rfl 0 (.int .i64 i) rfl
      have q1 := HS2.out.cell 1 rfl 1 (.int .i64 s) rfl
      have q2 := HS2.out.cell 1 rfl 2 (.slice b1 0 kv1) rfl
      have q3 := HS2.out.cell 1 rfl 3 (.slice b2 0 kv2) rfl
      have q4 := HS2.out.cell 1 rfl 4 (.slice b3 0 kv3) rfl
      have q5 := HS2.out.cell 1 rfl 5 (.slice b4 0 kv4) rfl
      go_wp2_with fail
      clear p0 p1 p2 p3 p4 p5 q0 q1 q2 q3 q4 q5
      refine (lbCalls_nil _ _ _ _ _).mono ?_
      rintro r w3 ⟨rfl, b9⟩
      have HS3 : Hid (St w.heap.size w [⟨w.heap.size, 36, #[.int .i64 i, .int .i64 s, .slice a1 0 ku1, .slice a2 0 ku2, .slice a3 0 ku3, .slice a4 0 ku4]⟩, ⟨w.heap.size + 1, 36, #[.int .i64 i, .int .i64 s, .slice b1 0 kv1, .slice b2 0 kv2, .slice b3 0 kv3, .slice b4 0 kv4]⟩] [] w3) := Hid.mk' (by
        have h := St.grow b9 HS2.out
        try simp only [World.size_alloc] at h
        try simp only [World.size_setCell] at h
        exact h)
      clear HS2
      clear b9
      go_wp2_with fail
      go_ret
      exact ⟨rfl, HS3.out.bel⟩

set_option maxHeartbeats 400000 in
theorem clientNew_long (a : Option Addr) (n c : Nat) (w : World) (h : 1048576 < (n : Int)) :
    Calls Try.prog 4 #[.slice a n c] w fun r w' => r = .returned (.bool true) ∧ Below w.heap.size w w' := by
  go_enter Try.func4, Try.ntmps4
  go_wp2
  go_ret
  exact ⟨rfl, Below.refl _ _⟩

set_option maxHeartbeats 4000000 in
set_option maxRecDepth 100000 in
theorem clientNew_short (a : Option Addr) (n c : Nat) (w : World) (g : (n : Int) ≤ 1048576) (h : Code w a n c) :
    Calls Try.prog 4 #[.slice a n c] w fun r w' => r = .returned (.bool true) ∧ Below w.heap.size w w' := by
  have HC : Hid (Code w a n c) := h
  clear h
  go_enter Try.func4, Try.ntmps4
  go_wp2_with fail
  refine (drawClientNew_any _ _ _ _ HC.out).mono ?_
  rintro r w1 ⟨⟨v, v0, v1, rfl⟩, b9⟩
  obtain ⟨id, hid⟩ : ∃ id, id = v - 1 := ⟨_, rfl⟩
  rw [← hid]
  clear hid v0 v1 HC
  have HS1 : Hid (St w.heap.size w [] [] w1) := Hid.mk' (by
    have h := St.grow b9 (St.new w)
    try simp only [World.size_alloc] at h
    try simp only [World.size_setCell] at h
    exact h)
  clear b9
  go_wp2_with fail
  refine (specClientNew_any _ _).mono ?_
  rintro r w2 ⟨⟨a1, a2, a3, a4, rfl⟩, b9⟩
  have HS2 : Hid (St w.heap.size w [] [] w2) := Hid.mk' (by
    have h := St.grow b9 HS1.out
    try simp only [World.size_alloc] at h
    try simp only [World.size_setCell] at h
    exact h)
  clear HS1
  clear b9
  cases hin : inB id 1 3
  · have e1 : newId id = 0 := by simp [newId, hin]
    rw [e1]
    go_wp2_with fail
    obtain ⟨w3, hX9, HS3⟩ : ∃ X, X = (w2.alloc (.cells #[.int .i64 0, .int .i64 0, .slice a1 0 0, .slice a2 0 0, .slice a3 0 0, .slice a4 0 0] 36)) ∧ Hid (St w.heap.size w [⟨w2.heap.size, 36, #[.int .i64 0, .int .i64 0, .slice a1 0 0, .slice a2 0 0, .slice a3 0 0, .slice a4 0 0]⟩] [] X) := ⟨_, rfl, Hid.mk' (by
      have h := (St.alloc #[.int .i64 0, .int .i64 0, .slice a1 0 0, .slice a2 0 0, .slice a3 0 0, .slice a4 0 0] 36 HS2.out)
      try simp only [World.size_alloc] at h
      try simp only [World.size_setCell] at h
      exact h)⟩
    rw [← hX9]
    clear hX9
    clear HS2
    refine (implClientNew_any _ _).mono ?_
    rintro r w4 ⟨rfl, b9⟩
    rw [hin, e1]
    have HS4 : Hid (St w.heap.size w [⟨w2.heap.size, 36, #[.int .i64 0, .int .i64 0, .slice a1 0 0, .slice a2 0 0, .slice a3 0 0, .slice a4 0 0]⟩] [] w4) := Hid.mk' (by
      have h := St.grow b9 HS3.out
      try simp only [World.size_alloc] at h
      try simp only [World.size_setCell] at h
      exact h)
    clear HS3
    clear b9
    have p0 := HS4.out.cell 0 rfl 0 (.int .i64 0) rfl
    have p1 := HS4.out.cell 0 rfl 1 (.int .i64 0) rfl
    have p2 := HS4.out.cell 0 rfl 2 (.slice a1 0 0) rfl
    have p3 := HS4.out.cell 0 rfl 3 (.slice a2 0 0) rfl
    have p4 := HS4.out.cell 0 rfl 4 (.slice a3 0 0) rfl
    have p5 := HS4.out.cell 0 rfl 5 (.slice a4 0 0) rfl
    have lt0 := (HS4.out.lt 0 rfl).2
    go_wp2_with fail
    clear p0 p1 p2 p3 p4 p5 lt0
    obtain ⟨w5, hX9, HS5⟩ : ∃ X, X = (w4.alloc (.cells #[.int .i64 0, .int .i64 0, .slice none 0 0, .slice none 0 0, .slice none 0 0, .slice none 0 0] 36)) ∧ Hid (St w.heap.size w [⟨w2.heap.size, 36, #[.int .i64 0, .int .i64 0, .slice a1 0 0, .slice a2 0 0, .slice a3 0 0, .slice a4 0 0]⟩, ⟨w4.heap.size, 36, #[.int .i64 0, .int .i64 0, .slice none 0 0, .slice none 0 0, .slice none 0 0, .slice none 0 0]⟩] [] X) := ⟨_, rfl, Hid.mk' (by
      have h := (St.alloc #[.int .i64 0, .int .i64 0, .slice none 0 0, .slice none 0 0, .slice none 0 0, .slice none 0 0] 36 HS4.out)
      try simp only [World.size_alloc] at h
      try simp only [World.size_setCell] at h
      exact h)⟩
    rw [← hX9]
    clear hX9
    clear HS4
    refine (lbClient_nil 0 0 _ _ _ _ _ _ _ _ _ _ _ _ _ _ _ _ _).mono ?_
    rintro r w6 ⟨rfl, b9⟩
    have HS6 : Hid (St w.heap.size w [⟨w2.heap.size, 36, #[.int .i64 0, .int .i64 0, .slice a1 0 0, .slice a2 0 0, .slice a3 0 0, .slice a4 0 0]⟩, ⟨w4.heap.size, 36, #[.int .i64 0, .int .i64 0, .slice none 0 0, .slice none 0 0, .slice none 0 0, .slice none 0 0]⟩] [] w6) := Hid.mk' (by
      have h := St.grow b9 HS5.out
      try simp only [World.size_alloc] at h
      try simp only [World.size_setCell] at h
      exact h)
    clear HS5
    clear b9
    have p0 := HS6.out.cell 0 rfl 0 (.int .i64 0) rfl
    have p1 := HS6.out.cell 0 rfl 1 (.int .i64 0) rfl
    have p2 := HS6.out.cell 0 rfl 2 (.slice a1 0 0) rfl
    have p3 := HS6.out.cell 0 rfl 3 (.slice a2 0 0) rfl
    have p4 := HS6.out.cell 0 rfl 4 (.slice a3 0 0) rfl
    have p5 := HS6.out.cell 0 rfl 5 (.slice a4 0 0) rfl
    have q0 := HS6.out.cell 1 rfl 0 (.int .i64 0) rfl
    have q1 := HS6.out.cell 1 rfl 1 (.int .i64 0) rfl
    have q2 := HS6.out.cell 1 rfl 2 (.slice none 0 0) rfl
    have q3 := HS6.out.cell 1 rfl 3 (.slice none 0 0) rfl
    have q4 := HS6.out.cell 1 rfl 4 (.slice none 0 0) rfl
    have q5 := HS6.out.cell 1 rfl 5 (.slice none 0 0) rfl
    go_wp2_with fail
    clear p0 p1 p2 p3 p4 p5 q0 q1 q2 q3 q4 q5
    refine (lbClient_nil 0 0 _ _ _ _ _ _ _ _ _ _ _ _ _ _ _ _ _).mono ?_
    rintro r w7 ⟨rfl, b9⟩
    have HS7 : Hid (St w.heap.size w [⟨w2.heap.size, 36, #[.int .i64 0, .int .i64 0, .slice a1 0 0, .slice a2 0 0, .slice a3 0 0, .slice a4 0 0]⟩, ⟨w4.heap.size, 36, #[.int .i64 0, .int .i64 0, .slice none 0 0, .slice none 0 0, .slice none 0 0, .slice none 0 0]⟩] [] w7) := Hid.mk' (by
      have h := St.grow b9 HS6.out
      try simp only [World.size_alloc] at h
      try simp only [World.size_setCell] at h
      exact h)
    clear HS6
    clear b9
    go_wp2_with fail
    go_ret
    exact ⟨rfl, HS7.out.bel⟩
  · have e1 : newId id = id := by simp [newId, hin]
    rw [e1]
    go_wp2_with fail
    obtain ⟨w3, hX9, HS3⟩ : ∃ X, X = (w2.alloc (.cells #[.int .i64 id, .int .i64 0, .slice a1 0 0, .slice a2 0 0, .slice a3 0 0, .slice a4 0 0] 36)) ∧ Hid (St w.heap.size w [⟨w2.heap.size, 36, #[.int .i64 id, .int .i64 0, .slice a1 0 0, .slice a2 0 0, .slice a3 0 0, .slice a4 0 0]⟩] [] X) := ⟨_, rfl, Hid.mk' (by
      have h := (St.alloc #[.int .i64 id, .int .i64 0, .slice a1 0 0, .slice a2 0 0, .slice a3 0 0, .slice a4 0 0] 36 HS2.out)
      try simp only [World.size_alloc] at h
      try simp only [World.size_setCell] at h
      exact h)⟩
    rw [← hX9]
    clear hX9
    clear HS2
    refine (implClientNew_any _ _).mono ?_
    rintro r w4 ⟨rfl, b9⟩
    rw [hin, e1]
    have HS4 : Hid (St w.heap.size w [⟨w2.heap.size, 36, #[.int .i64 id, .int .i64 0, .slice a1 0 0, .slice a2 0 0, .slice a3 0 0, .slice a4 0 0]⟩] [] w4) := Hid.mk' (by
      have h := St.grow b9 HS3.out
      try simp only [World.size_alloc] at h
      try simp only [World.size_setCell] at h
      exact h)
    clear HS3
    clear b9
    have p0 := HS4.out.cell 0 rfl 0 (.int .i64 id) rfl
    have p1 := HS4.out.cell 0 rfl 1 (.int .i64 0) rfl
    have p2 := HS4.out.cell 0 rfl 2 (.slice a1 0 0) rfl
    have p3 := HS4.out.cell 0 rfl 3 (.slice a2 0 0) rfl
    have p4 := HS4.out.cell 0 rfl 4 (.slice a3 0 0) rfl
    have p5 := HS4.out.cell 0 rfl 5 (.slice a4 0 0) rfl
    have lt0 := (HS4.out.lt 0 rfl).2
    go_wp2_with fail
    clear p0 p1 p2 p3 p4 p5 lt0
    obtain ⟨w5, hX9, HS5⟩ : ∃ X, X = (w4.alloc (.cells #[.int .i64 id, .int .i64 0, .slice none 0 0, .slice none 0 0, .slice none 0 0, .slice none 0 0] 36)) ∧ Hid (St w.heap.size w [⟨w2.heap.size, 36, #[.int .i64 id, .int .i64 0, .slice a1 0 0, .slice a2 0 0, .slice a3 0 0, .slice a4 0 0]⟩, ⟨w4.heap.size, 36, #[.int .i64 id, .int .i64 0, .slice none 0 0, .slice none 0 0, .slice none 0 0, .slice none 0 0]⟩] [] X) := ⟨_, rfl, Hid.mk' (by
      have h := (St.alloc #[.int .i64 id, .int .i64 0, .slice none 0 0, .slice none 0 0, .slice none 0 0, .slice none 0 0] 36 HS4.out)
      try simp only [World.size_alloc] at h
      try simp only [World.size_setCell] at h
      exact h)⟩
    rw [← hX9]
    clear hX9
    clear HS4
    refine (lbClient_nil id 0 _ _ _ _ _ _ _ _ _ _ _ _ _ _ _ _ _).mono ?_
    rintro r w6 ⟨rfl, b9⟩
    have HS6 : Hid (St w.heap.size w [⟨w2.heap.size, 36, #[.int .i64 id, .int .i64 0, .slice a1 0 0, .slice a2 0 0, .slice a3 0 0, .slice a4 0 0]⟩, ⟨w4.heap.size, 36, #[.int .i64 id, .int .i64 0, .slice none 0 0, .slice none 0 0, .slice none 0 0, .slice none 0 0]⟩] [] w6) := Hid.mk' (by
      have h := St.grow b9 HS5.out
      try simp only [World.size_alloc] at h
      try simp only [World.size_setCell] at h
      exact h)
    clear HS5
    clear b9
    have p0 := HS6.out.cell 0 rfl 0 (.int .i64 id) rfl
    have p1 := HS6.out.cell 0 rfl 1 (.int .i64 0) rfl
    have p2 := HS6.out.cell 0 rfl 2 (.slice a1 0 0) rfl
    have p3 := HS6.out.cell 0 rfl 3 (.slice a2 0 0) rfl
    have p4 := HS6.out.cell 0 rfl 4 (.slice a3 0 0) rfl
    have p5 := HS6.out.cell 0 rfl 5 (.slice a4 0 0) rfl
    have q0 := HS6.out.cell 1 rfl 0 (.int .i64 id) rfl
    have q1 := HS6.out.cell 1 rfl 1 (.int .i64 0) rfl
    have q2 := HS6.out.cell 1 rfl 2 (.slice none 0 0) rfl
    have q3 := HS6.out.cell 1 rfl 3 (.slice none 0 0) rfl
    have q4 := HS6.out.cell 1 rfl 4 (.slice none 0 0) rfl
    have q5 := HS6.out.cell 1 rfl 5 (.slice none 0 0) rfl
    go_wp2_with fail
    clear p0 p1 p2 p3 p4 p5 q0 q1 q2 q3 q4 q5
    have hcl : clientB id 0 [] [] [] [] = true := by unfold clientB; rw [hin]; simp [inB, okWs, okSs, okMs, dupB]
    have et : tgsA id 0 [] [] [] [] 4 0 = keepA id 0 [] [] [] [] := by unfold tgsA; rw [if_pos ⟨hcl, by simp [inB]⟩, if_neg (by simp [lastB', lastFor])]
    refine (implClientTgs_any id 0 none none none none 0 0 0 0 [] [] [] [] 4 0 _ ⟨NRow.nil _ _ _, NRow.nil _ _ _, NRow.nil _ _ _, NRow.nil _ _ _⟩ (by simp) (by simp) (by simp) (by simp) (by simp)).mono ?_
    intro r w7 hr
    rw [et] at hr
    clear et
    obtain ⟨c1, f1, c2, f2, c3, f3, c4, f4, c5, f5, rfl, -, -, b9⟩ := hr
    unfold keepA
    simp only [List.length_nil]
    have HS7 : Hid (St w.heap.size w [⟨w2.heap.size, 36, #[.int .i64 id, .int .i64 0, .slice a1 0 0, .slice a2 0 0, .slice a3 0 0, .slice a4 0 0]⟩, ⟨w4.heap.size, 36, #[.int .i64 id, .int .i64 0, .slice none 0 0, .slice none 0 0, .slice none 0 0, .slice none 0 0]⟩] [] w7) := Hid.mk' (by
      have h := St.grow b9 HS6.out
      try simp only [World.size_alloc] at h
      try simp only [World.size_setCell] at h
      exact h)
    clear HS6
    clear b9
    have q0 := HS7.out.cell 1 rfl 0 (.int .i64 id) rfl
    have q1 := HS7.out.cell 1 rfl 1 (.int .i64 0) rfl
    have q2 := HS7.out.cell 1 rfl 2 (.slice none 0 0) rfl
    have q3 := HS7.out.cell 1 rfl 3 (.slice none 0 0) rfl
    have q4 := HS7.out.cell 1 rfl 4 (.slice none 0 0) rfl
    have q5 := HS7.out.cell 1 rfl 5 (.slice none 0 0) rfl
    have lt1 := (HS7.out.lt 1 rfl).2
    go_wp2_with fail
    clear q0 q1 q2 q3 q4 q5 lt1
    obtain ⟨w8, hX9, HS8⟩ : ∃ X, X = ((w7.alloc (.cells #[.int .i64 id, .int .i64 0, .slice c1 0 f1, .slice c2 0 f2, .slice c3 0 f3, .slice c4 0 f4] 36)).alloc (.cells #[.int .i64 0, .int .i64 0, .int .i64 0, .int .i64 0, .slice c5 0 f5] 41)) ∧ Hid (St w.heap.size w [⟨w2.heap.size, 36, #[.int .i64 id, .int .i64 0, .slice a1 0 0, .slice a2 0 0, .slice a3 0 0, .slice a4 0 0]⟩, ⟨w4.heap.size, 36, #[.int .i64 id, .int .i64 0, .slice none 0 0, .slice none 0 0, .slice none 0 0, .slice none 0 0]⟩] [] X) := ⟨_, rfl, Hid.mk' (by
      have h := (St.lay (.cells #[.int .i64 0, .int .i64 0, .int .i64 0, .int .i64 0, .slice c5 0 f5] 41) (St.lay (.cells #[.int .i64 id, .int .i64 0, .slice c1 0 f1, .slice c2 0 f2, .slice c3 0 f3, .slice c4 0 f4] 36) HS7.out))
      try simp only [World.size_alloc] at h
      try simp only [World.size_setCell] at h
      exact h)⟩
    rw [← hX9]
    clear hX9
    clear HS7
    have et : apA id 0 [] [] [] [] 4 0 = keepA id 0 [] [] [] [] := by unfold apA; rw [if_pos ⟨hcl, by simp [inB]⟩, if_neg (by simp [lastB', lastFor])]
    refine (implClientAp_any id 0 none none none none 0 0 0 0 [] [] [] [] 4 0 _ ⟨NRow.nil _ _ _, NRow.nil _ _ _, NRow.nil _ _ _, NRow.nil _ _ _⟩ (by simp) (by simp) (by simp) (by simp) (by simp) (by decide)).mono ?_
    intro r w9 hr
    rw [et] at hr
    clear et
    obtain ⟨c1, f1, c2, f2, c3, f3, c4, f4, c5, f5, rfl, -, -, b9⟩ := hr
    unfold keepA
    simp only [List.length_nil]
    have HS9 : Hid (St w.heap.size w [⟨w2.heap.size, 36, #[.int .i64 id, .int .i64 0, .slice a1 0 0, .slice a2 0 0, .slice a3 0 0, .slice a4 0 0]⟩, ⟨w4.heap.size, 36, #[.int .i64 id, .int .i64 0, .slice none 0 0, .slice none 0 0, .slice none 0 0, .slice none 0 0]⟩] [] w9) := Hid.mk' (by
      have h := St.grow b9 HS8.out
      try simp only [World.size_alloc] at h
      try simp only [World.size_setCell] at h
      exact h)
    clear HS8
    clear b9
    have q0 := HS9.out.cell 1 rfl 0 (.int .i64 id) rfl
    have q1 := HS9.out.cell 1 rfl 1 (.int .i64 0) rfl
    have q2 := HS9.out.cell 1 rfl 2 (.slice none 0 0) rfl
    have q3 := HS9.out.cell 1 rfl 3 (.slice none 0 0) rfl
    have q4 := HS9.out.cell 1 rfl 4 (.slice none 0 0) rfl
    have q5 := HS9.out.cell 1 rfl 5 (.slice none 0 0) rfl
    have lt1 := (HS9.out.lt 1 rfl).2
    go_wp2_with fail
    clear q0 q1 q2 q3 q4 q5 lt1
    obtain ⟨w10, hX9, HS10⟩ : ∃ X, X = ((w9.alloc (.cells #[.int .i64 id, .int .i64 0, .slice c1 0 f1, .slice c2 0 f2, .slice c3 0 f3, .slice c4 0 f4] 36)).alloc (.cells #[.int .i64 0, .int .i64 0, .int .i64 0, .int .i64 0, .slice c5 0 f5] 41)) ∧ Hid (St w.heap.size w [⟨w2.heap.size, 36, #[.int .i64 id, .int .i64 0, .slice a1 0 0, .slice a2 0 0, .slice a3 0 0, .slice a4 0 0]⟩, ⟨w4.heap.size, 36, #[.int .i64 id, .int .i64 0, .slice none 0 0, .slice none 0 0, .slice none 0 0, .slice none 0 0]⟩] [] X) := ⟨_, rfl, Hid.mk' (by
      have h := (St.lay (.cells #[.int .i64 0, .int .i64 0, .int .i64 0, .int .i64 0, .slice c5 0 f5] 41) (St.lay (.cells #[.int .i64 id, .int .i64 0, .slice c1 0 f1, .slice c2 0 f2, .slice c3 0 f3, .slice c4 0 f4] 36) HS9.out))
      try simp only [World.size_alloc] at h
      try simp only [World.size_setCell] at h
      exact h)⟩
    rw [← hX9]
    clear hX9
    clear HS9
    refine (implClientOk_any id 0 none none none none 0 0 0 0 [] [] [] [] _ ⟨NRow.nil _ _ _, NRow.nil _ _ _, NRow.nil _ _ _, NRow.nil _ _ _⟩ (by simp) (by simp) (by simp) (by simp) (by simp)).mono ?_
    rintro r w11 ⟨rfl, b9⟩
    rw [hcl]
    have HS11 : Hid (St w.heap.size w [⟨w2.heap.size, 36, #[.int .i64 id, .int .i64 0, .slice a1 0 0, .slice a2 0 0, .slice a3 0 0, .slice a4 0 0]⟩, ⟨w4.heap.size, 36, #[.int .i64 id, .int .i64 0, .slice none 0 0, .slice none 0 0, .slice none 0 0, .slice none 0 0]⟩] [] w11) := Hid.mk' (by
      have h := St.grow b9 HS10.out
      try simp only [World.size_alloc] at h
      try simp only [World.size_setCell] at h
      exact h)
    clear HS10
    clear b9
    have q0 := HS11.out.cell 1 rfl 0 (.int .i64 id) rfl
    have q1 := HS11.out.cell 1 rfl 1 (.int .i64 0) rfl
    have q2 := HS11.out.cell 1 rfl 2 (.slice none 0 0) rfl
    have q3 := HS11.out.cell 1 rfl 3 (.slice none 0 0) rfl
    have q4 := HS11.out.cell 1 rfl 4 (.slice none 0 0) rfl
    have q5 := HS11.out.cell 1 rfl 5 (.slice none 0 0) rfl
    go_wp2_with fail
    clear q0 q1 q2 q3 q4 q5
    go_ret
    exact ⟨rfl, HS11.out.bel⟩

end Go.Proofs.Ytaokgbdddgoonaa
