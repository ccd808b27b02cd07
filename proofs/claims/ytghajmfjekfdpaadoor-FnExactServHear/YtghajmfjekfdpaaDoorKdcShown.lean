/-
  A ticket that is shown: whether it is for one, lasts, and what is told with it is by who has its key; the program's way, and the specification's.
-/
import Derived.Test.YtghajmfjekfdpaaDoorKdcAsI
namespace Go.Proofs.YtghajmfjekfdpaaDoor
open Go.RowKit

/-- A ticket is shown. -/
def shB (t u : Sl) (id now : Int) : Bool := ((decide (t.t = 1) && decide (t.k = id)) && (decide (t.d ≤ now) && decide (now ≤ t.e))) && ((decide (u.t = 3) && decide (u.k = t.c)) && decide (u.a = t.a))
/-- What is shown, as a value. -/
def shV (t u : Sl) (id now : Int) : Value := .agg #[.int .i64 t.k, .int .i64 t.t, .int .i64 t.a, .int .i64 t.b, .int .i64 t.c, .int .i64 t.d, .int .i64 t.e, .int .i64 u.k, .int .i64 u.t, .int .i64 u.a, .int .i64 u.b, .int .i64 u.c, .int .i64 u.d, .int .i64 u.e, .int .i64 id, .int .i64 now]

set_option maxHeartbeats 1000000 in
theorem isForPeer_any (t u : Sl) (id now : Int) (w : World) : Calls Tryd.prog 63 #[shV t u id now] w fun r w' => r = .returned (.bool (decide (t.t = 1) && decide (t.k = id))) ∧ Below w.heap.size w w' := by
  unfold shV
  go_enter Tryd.func63, Tryd.ntmps63
  by_cases h1 : t.t = 1 <;> by_cases h2 : t.k = id <;> (go_wp2_with fail; go_ret; exact ⟨by simp [*], Below.alloc_ _ _⟩)
set_option maxHeartbeats 1000000 in
theorem lasts_any (t u : Sl) (id now : Int) (w : World) : Calls Tryd.prog 64 #[shV t u id now] w fun r w' => r = .returned (.bool (decide (t.d ≤ now) && decide (now ≤ t.e))) ∧ Below w.heap.size w w' := by
  unfold shV
  go_enter Tryd.func64, Tryd.ntmps64
  by_cases h1 : t.d ≤ now <;> by_cases h2 : now ≤ t.e <;> (go_wp2_with fail; go_ret; exact ⟨by simp [*], Below.alloc_ _ _⟩)
set_option maxHeartbeats 1000000 in
theorem isOfOne_any (t u : Sl) (id now : Int) (w : World) : Calls Tryd.prog 65 #[shV t u id now] w fun r w' => r = .returned (.bool ((decide (u.t = 3) && decide (u.k = t.c)) && decide (u.a = t.a))) ∧ Below w.heap.size w w' := by
  unfold shV
  go_enter Tryd.func65, Tryd.ntmps65
  by_cases h1 : u.t = 3 <;> by_cases h2 : u.k = t.c <;> by_cases h3 : u.a = t.a <;> (go_wp2_with fail; go_ret; exact ⟨by simp [*], Below.alloc_ _ _⟩)
set_option maxHeartbeats 1000000 in
theorem l11Shown_any (t u : Sl) (id now : Int) (w : World) : Calls Tryd.prog 58 #[t.v, u.v, .int .i64 id, .int .i64 now] w fun r w' => r = .returned (.bool (shB t u id now)) ∧ Below w.heap.size w w' := by
  unfold Sl.v shB
  go_enter Tryd.func58, Tryd.ntmps58
  by_cases h1 : t.t = 1
  · by_cases h2 : t.k = id
    · by_cases h3 : t.d ≤ now
      · by_cases h4 : now ≤ t.e
        · by_cases h5 : u.t = 3
          · by_cases h6 : u.k = t.c
            · by_cases h7 : u.a = t.a <;> (go_wp2_with fail; go_ret; exact ⟨by simp [*] <;> omega, (Below.alloc_ _ _).trans ((Below.alloc_ _ _).mono (by simp))⟩)
            · go_wp2_with fail; go_ret; exact ⟨by simp [*] <;> omega, (Below.alloc_ _ _).trans ((Below.alloc_ _ _).mono (by simp))⟩
          · go_wp2_with fail; go_ret; exact ⟨by simp [*] <;> omega, (Below.alloc_ _ _).trans ((Below.alloc_ _ _).mono (by simp))⟩
        · go_wp2_with fail; go_ret; exact ⟨by simp [*] <;> omega, (Below.alloc_ _ _).trans ((Below.alloc_ _ _).mono (by simp))⟩
      · go_wp2_with fail; go_ret; exact ⟨by simp [*] <;> omega, (Below.alloc_ _ _).trans ((Below.alloc_ _ _).mono (by simp))⟩
    · go_wp2_with fail; go_ret; exact ⟨by simp [*] <;> omega, (Below.alloc_ _ _).trans ((Below.alloc_ _ _).mono (by simp))⟩
  · go_wp2_with fail; go_ret; exact ⟨by simp [*] <;> omega, (Below.alloc_ _ _).trans ((Below.alloc_ _ _).mono (by simp))⟩

theorem idx0 (w : World) (f0 f1 f2 : Value) : (Instr.index 101 (.agg #[f0, f1, f2]) (.int .i64 0)).run Tryd.prog w = .ok f0 w := by kernel_rfl
theorem idx1 (w : World) (f0 f1 f2 : Value) : (Instr.index 101 (.agg #[f0, f1, f2]) (.int .i64 1)).run Tryd.prog w = .ok f1 w := by kernel_rfl
theorem idx2 (w : World) (f0 f1 f2 : Value) : (Instr.index 101 (.agg #[f0, f1, f2]) (.int .i64 2)).run Tryd.prog w = .ok f2 w := by kernel_rfl

set_option maxRecDepth 100000 in
set_option maxHeartbeats 2000000 in
theorem isShown_any (t u : Sl) (id now : Int) (w : World) : Calls Tryd.prog 33 #[shV t u id now] w fun r w' => r = .returned (.bool (shB t u id now)) ∧ Below w.heap.size w w' := by
  have e1 : (w.alloc (.cells #[.int .i64 t.k, .int .i64 t.t, .int .i64 t.a, .int .i64 t.b, .int .i64 t.c, .int .i64 t.d, .int .i64 t.e, .int .i64 u.k, .int .i64 u.t, .int .i64 u.a, .int .i64 u.b, .int .i64 u.c, .int .i64 u.d, .int .i64 u.e, .int .i64 id, .int .i64 now] 66)).heap[w.heap.size]? = some (.cells #[.int .i64 t.k, .int .i64 t.t, .int .i64 t.a, .int .i64 t.b, .int .i64 t.c, .int .i64 t.d, .int .i64 t.e, .int .i64 u.k, .int .i64 u.t, .int .i64 u.a, .int .i64 u.b, .int .i64 u.c, .int .i64 u.d, .int .i64 u.e, .int .i64 id, .int .i64 now] 66 (0, 0)) := heap_alloc_new _ _
  have H1 : Hid ((w.alloc (.cells #[.int .i64 t.k, .int .i64 t.t, .int .i64 t.a, .int .i64 t.b, .int .i64 t.c, .int .i64 t.d, .int .i64 t.e, .int .i64 u.k, .int .i64 u.t, .int .i64 u.a, .int .i64 u.b, .int .i64 u.c, .int .i64 u.d, .int .i64 u.e, .int .i64 id, .int .i64 now] 66)).heap[w.heap.size]? = some (.cells #[.int .i64 t.k, .int .i64 t.t, .int .i64 t.a, .int .i64 t.b, .int .i64 t.c, .int .i64 t.d, .int .i64 t.e, .int .i64 u.k, .int .i64 u.t, .int .i64 u.a, .int .i64 u.b, .int .i64 u.c, .int .i64 u.d, .int .i64 u.e, .int .i64 id, .int .i64 now] 66 (0, 0))) := e1
  clear e1
  unfold shV
  go_enter Tryd.func33, Tryd.ntmps33
  go_wp2_with fail
  go_loopw [6] (fun i wr => ∃ (j : Nat), j ≤ 3 ∧ i = .int .i64 j ∧ Hid (((1 ≤ j → (decide (t.t = 1) && decide (t.k = id)) = true) ∧ (2 ≤ j → (decide (t.d ≤ now) && decide (now ≤ t.e)) = true) ∧ (3 ≤ j → ((decide (u.t = 3) && decide (u.k = t.c)) && decide (u.a = t.a)) = true)) ∧ wr.heap[w.heap.size]? = some (.cells #[.int .i64 t.k, .int .i64 t.t, .int .i64 t.a, .int .i64 t.b, .int .i64 t.c, .int .i64 t.d, .int .i64 t.e, .int .i64 u.k, .int .i64 u.t, .int .i64 u.a, .int .i64 u.b, .int .i64 u.c, .int .i64 u.d, .int .i64 u.e, .int .i64 id, .int .i64 now] 66 (0, 0)) ∧ Below w.heap.size w wr)) (fun i _ => 3 - (intOf i).toNat)
  case atStart => exact ⟨0, by omega, rfl, ⟨by omega, by omega, by omega⟩, H1.out, Below.alloc_ _ _⟩
  case round =>
    obtain ⟨j, hj, rfl, C⟩ := hrel
    have e0 := C.out.2.1
    obtain rfl | rfl | rfl | rfl : j = 0 ∨ j = 1 ∨ j = 2 ∨ j = 3 := by omega
    · have q0 := isForPeer_any t u id now wr
      unfold shV at q0
      have hix := fun f0 f1 f2 => idx0 wr f0 f1 f2
      have c0 : wr.cell? ⟨w.heap.size, 0, none⟩ = some (.int .i64 t.k) := by simp [World.cell?, e0]
      have c1 : wr.cell? ⟨w.heap.size, 1, none⟩ = some (.int .i64 t.t) := by simp [World.cell?, e0]
      have c2 : wr.cell? ⟨w.heap.size, 2, none⟩ = some (.int .i64 t.a) := by simp [World.cell?, e0]
      have c3 : wr.cell? ⟨w.heap.size, 3, none⟩ = some (.int .i64 t.b) := by simp [World.cell?, e0]
      have c4 : wr.cell? ⟨w.heap.size, 4, none⟩ = some (.int .i64 t.c) := by simp [World.cell?, e0]
      have c5 : wr.cell? ⟨w.heap.size, 5, none⟩ = some (.int .i64 t.d) := by simp [World.cell?, e0]
      have c6 : wr.cell? ⟨w.heap.size, 6, none⟩ = some (.int .i64 t.e) := by simp [World.cell?, e0]
      have c7 : wr.cell? ⟨w.heap.size, 7, none⟩ = some (.int .i64 u.k) := by simp [World.cell?, e0]
      have c8 : wr.cell? ⟨w.heap.size, 8, none⟩ = some (.int .i64 u.t) := by simp [World.cell?, e0]
      have c9 : wr.cell? ⟨w.heap.size, 9, none⟩ = some (.int .i64 u.a) := by simp [World.cell?, e0]
      have c10 : wr.cell? ⟨w.heap.size, 10, none⟩ = some (.int .i64 u.b) := by simp [World.cell?, e0]
      have c11 : wr.cell? ⟨w.heap.size, 11, none⟩ = some (.int .i64 u.c) := by simp [World.cell?, e0]
      have c12 : wr.cell? ⟨w.heap.size, 12, none⟩ = some (.int .i64 u.d) := by simp [World.cell?, e0]
      have c13 : wr.cell? ⟨w.heap.size, 13, none⟩ = some (.int .i64 u.e) := by simp [World.cell?, e0]
      have c14 : wr.cell? ⟨w.heap.size, 14, none⟩ = some (.int .i64 id) := by simp [World.cell?, e0]
      have c15 : wr.cell? ⟨w.heap.size, 15, none⟩ = some (.int .i64 now) := by simp [World.cell?, e0]
      go_wp2_with fail
      refine q0.mono ?_
      rintro r w2 ⟨rfl, b2⟩
      have B2 : Hid (Below w.heap.size w w2 ∧ w2.heap[w.heap.size]? = some (.cells #[.int .i64 t.k, .int .i64 t.t, .int .i64 t.a, .int .i64 t.b, .int .i64 t.c, .int .i64 t.d, .int .i64 t.e, .int .i64 u.k, .int .i64 u.t, .int .i64 u.a, .int .i64 u.b, .int .i64 u.c, .int .i64 u.d, .int .i64 u.e, .int .i64 id, .int .i64 now] 66 (0, 0))) := ⟨C.out.2.2.trans (b2.mono C.out.2.2.size), (b2.block _ (Array.getElem?_eq_some_iff.1 e0).1).trans e0⟩
      clear hix b2 q0 e0 c0 c1 c2 c3 c4 c5 c6 c7 c8 c9 c10 c11 c12 c13 c14 c15
      by_cases hc : (decide (t.t = 1) && decide (t.k = id)) = true
      · rw [hc]
        go_wp2_with fail
        go_roundw
        case rel => exact ⟨1, by omega, by go_num, ⟨fun _ => hc, by omega, by omega⟩, B2.out.2, B2.out.1⟩
        case measure => simp [intOf]
      · have hc' : (decide (t.t = 1) && decide (t.k = id)) = false := by simpa using hc
        rw [hc']
        go_wp2_with fail
        go_ret
        exact ⟨by unfold shB; rw [hc']; simp, B2.out.1⟩
    · have q1 := lasts_any t u id now wr
      unfold shV at q1
      have hix := fun f0 f1 f2 => idx1 wr f0 f1 f2
      have c0 : wr.cell? ⟨w.heap.size, 0, none⟩ = some (.int .i64 t.k) := by simp [World.cell?, e0]
      have c1 : wr.cell? ⟨w.heap.size, 1, none⟩ = some (.int .i64 t.t) := by simp [World.cell?, e0]
      have c2 : wr.cell? ⟨w.heap.size, 2, none⟩ = some (.int .i64 t.a) := by simp [World.cell?, e0]
      have c3 : wr.cell? ⟨w.heap.size, 3, none⟩ = some (.int .i64 t.b) := by simp [World.cell?, e0]
      have c4 : wr.cell? ⟨w.heap.size, 4, none⟩ = some (.int .i64 t.c) := by simp [World.cell?, e0]
      have c5 : wr.cell? ⟨w.heap.size, 5, none⟩ = some (.int .i64 t.d) := by simp [World.cell?, e0]
      have c6 : wr.cell? ⟨w.heap.size, 6, none⟩ = some (.int .i64 t.e) := by simp [World.cell?, e0]
      have c7 : wr.cell? ⟨w.heap.size, 7, none⟩ = some (.int .i64 u.k) := by simp [World.cell?, e0]
      have c8 : wr.cell? ⟨w.heap.size, 8, none⟩ = some (.int .i64 u.t) := by simp [World.cell?, e0]
      have c9 : wr.cell? ⟨w.heap.size, 9, none⟩ = some (.int .i64 u.a) := by simp [World.cell?, e0]
      have c10 : wr.cell? ⟨w.heap.size, 10, none⟩ = some (.int .i64 u.b) := by simp [World.cell?, e0]
      have c11 : wr.cell? ⟨w.heap.size, 11, none⟩ = some (.int .i64 u.c) := by simp [World.cell?, e0]
      have c12 : wr.cell? ⟨w.heap.size, 12, none⟩ = some (.int .i64 u.d) := by simp [World.cell?, e0]
      have c13 : wr.cell? ⟨w.heap.size, 13, none⟩ = some (.int .i64 u.e) := by simp [World.cell?, e0]
      have c14 : wr.cell? ⟨w.heap.size, 14, none⟩ = some (.int .i64 id) := by simp [World.cell?, e0]
      have c15 : wr.cell? ⟨w.heap.size, 15, none⟩ = some (.int .i64 now) := by simp [World.cell?, e0]
      go_wp2_with fail
      refine q1.mono ?_
      rintro r w2 ⟨rfl, b2⟩
      have B2 : Hid (Below w.heap.size w w2 ∧ w2.heap[w.heap.size]? = some (.cells #[.int .i64 t.k, .int .i64 t.t, .int .i64 t.a, .int .i64 t.b, .int .i64 t.c, .int .i64 t.d, .int .i64 t.e, .int .i64 u.k, .int .i64 u.t, .int .i64 u.a, .int .i64 u.b, .int .i64 u.c, .int .i64 u.d, .int .i64 u.e, .int .i64 id, .int .i64 now] 66 (0, 0))) := ⟨C.out.2.2.trans (b2.mono C.out.2.2.size), (b2.block _ (Array.getElem?_eq_some_iff.1 e0).1).trans e0⟩
      clear hix b2 q1 e0 c0 c1 c2 c3 c4 c5 c6 c7 c8 c9 c10 c11 c12 c13 c14 c15
      by_cases hc : (decide (t.d ≤ now) && decide (now ≤ t.e)) = true
      · rw [hc]
        go_wp2_with fail
        go_roundw
        case rel => exact ⟨2, by omega, by go_num, ⟨fun _ => C.out.1.1 (by omega), fun _ => hc, by omega⟩, B2.out.2, B2.out.1⟩
        case measure => simp [intOf]
      · have hc' : (decide (t.d ≤ now) && decide (now ≤ t.e)) = false := by simpa using hc
        rw [hc']
        go_wp2_with fail
        go_ret
        exact ⟨by unfold shB; rw [hc']; simp, B2.out.1⟩
    · have q2 := isOfOne_any t u id now wr
      unfold shV at q2
      have hix := fun f0 f1 f2 => idx2 wr f0 f1 f2
      have c0 : wr.cell? ⟨w.heap.size, 0, none⟩ = some (.int .i64 t.k) := by simp [World.cell?, e0]
      have c1 : wr.cell? ⟨w.heap.size, 1, none⟩ = some (.int .i64 t.t) := by simp [World.cell?, e0]
      have c2 : wr.cell? ⟨w.heap.size, 2, none⟩ = some (.int .i64 t.a) := by simp [World.cell?, e0]
      have c3 : wr.cell? ⟨w.heap.size, 3, none⟩ = some (.int .i64 t.b) := by simp [World.cell?, e0]
      have c4 : wr.cell? ⟨w.heap.size, 4, none⟩ = some (.int .i64 t.c) := by simp [World.cell?, e0]
      have c5 : wr.cell? ⟨w.heap.size, 5, none⟩ = some (.int .i64 t.d) := by simp [World.cell?, e0]
      have c6 : wr.cell? ⟨w.heap.size, 6, none⟩ = some (.int .i64 t.e) := by simp [World.cell?, e0]
      have c7 : wr.cell? ⟨w.heap.size, 7, none⟩ = some (.int .i64 u.k) := by simp [World.cell?, e0]
      have c8 : wr.cell? ⟨w.heap.size, 8, none⟩ = some (.int .i64 u.t) := by simp [World.cell?, e0]
      have c9 : wr.cell? ⟨w.heap.size, 9, none⟩ = some (.int .i64 u.a) := by simp [World.cell?, e0]
      have c10 : wr.cell? ⟨w.heap.size, 10, none⟩ = some (.int .i64 u.b) := by simp [World.cell?, e0]
      have c11 : wr.cell? ⟨w.heap.size, 11, none⟩ = some (.int .i64 u.c) := by simp [World.cell?, e0]
      have c12 : wr.cell? ⟨w.heap.size, 12, none⟩ = some (.int .i64 u.d) := by simp [World.cell?, e0]
      have c13 : wr.cell? ⟨w.heap.size, 13, none⟩ = some (.int .i64 u.e) := by simp [World.cell?, e0]
      have c14 : wr.cell? ⟨w.heap.size, 14, none⟩ = some (.int .i64 id) := by simp [World.cell?, e0]
      have c15 : wr.cell? ⟨w.heap.size, 15, none⟩ = some (.int .i64 now) := by simp [World.cell?, e0]
      go_wp2_with fail
      refine q2.mono ?_
      rintro r w2 ⟨rfl, b2⟩
      have B2 : Hid (Below w.heap.size w w2 ∧ w2.heap[w.heap.size]? = some (.cells #[.int .i64 t.k, .int .i64 t.t, .int .i64 t.a, .int .i64 t.b, .int .i64 t.c, .int .i64 t.d, .int .i64 t.e, .int .i64 u.k, .int .i64 u.t, .int .i64 u.a, .int .i64 u.b, .int .i64 u.c, .int .i64 u.d, .int .i64 u.e, .int .i64 id, .int .i64 now] 66 (0, 0))) := ⟨C.out.2.2.trans (b2.mono C.out.2.2.size), (b2.block _ (Array.getElem?_eq_some_iff.1 e0).1).trans e0⟩
      clear hix b2 q2 e0 c0 c1 c2 c3 c4 c5 c6 c7 c8 c9 c10 c11 c12 c13 c14 c15
      by_cases hc : ((decide (u.t = 3) && decide (u.k = t.c)) && decide (u.a = t.a)) = true
      · rw [hc]
        go_wp2_with fail
        go_roundw
        case rel => exact ⟨3, by omega, by go_num, ⟨fun _ => C.out.1.1 (by omega), fun _ => C.out.1.2.1 (by omega), fun _ => hc⟩, B2.out.2, B2.out.1⟩
        case measure => simp [intOf]
      · have hc' : ((decide (u.t = 3) && decide (u.k = t.c)) && decide (u.a = t.a)) = false := by simpa using hc
        rw [hc']
        go_wp2_with fail
        go_ret
        exact ⟨by unfold shB; rw [hc']; simp, B2.out.1⟩
    · clear e0
      go_wp2_with fail
      go_ret
      exact ⟨by unfold shB; rw [C.out.1.1 (by omega), C.out.1.2.1 (by omega), C.out.1.2.2 (by omega)]; rfl, C.out.2.2⟩

end Go.Proofs.YtghajmfjekfdpaaDoor
