/-
  The specification's ClientOk: as the plain mathematics says; nothing that was in memory is turned.
-/
import Derived.Test.YthkngdbhddedpaaCaIndex
import Derived.Test.YthkngdbhddedpaaClOkJ
import Derived.Test.YthkngdbhddedpaaClientTo
import Derived.Test.YthkngdbhddedpaaSpServ
namespace Go.Proofs.Ythkngdbhddedpaa
open Go.RowKit
attribute [local go_sem ↓] Go.wp_at_zero Go.wp_at_succ

/-- Where what one has for somebody stands. -/
def credAt (k : Int) (cs : List Cd) : Int := match firstC k cs with
  | none => -1
  | some j => j
theorem firstC_lt {k : Int} : ∀ {xs : List Cd} {j : Nat}, (∃ y ∈ xs.take j, y.s = k) → ∃ i, i < j ∧ firstC k xs = some i
  | [], j, h => by obtain ⟨y, hy, _⟩ := h; simp at hy
  | x :: xs, 0, h => by obtain ⟨y, hy, _⟩ := h; simp at hy
  | x :: xs, j + 1, h => by
    simp only [firstC]
    by_cases e : x.s = k
    · exact ⟨0, by omega, by simp [e]⟩
    · obtain ⟨y, hy, he⟩ := h
      simp only [List.take_succ_cons, List.mem_cons] at hy
      rcases hy with rfl | hy
      · exact absurd he e
      · obtain ⟨i, hi, hf⟩ := firstC_lt (xs := xs) (j := j) ⟨y, hy, he⟩
        exact ⟨i + 1, by omega, by simp [e, hf]⟩
theorem credAt_iff {cs : List Cd} {j : Nat} {x : Cd} (h : cs[j]? = some x) : credAt x.s cs = (j : Int) ↔ ¬ x.s ∈ (cs.take j).map (·.s) := by
  constructor
  · intro e hm
    obtain ⟨y, hy, he⟩ := List.mem_map.1 hm
    obtain ⟨i, hi, hf⟩ := firstC_lt (k := x.s) (xs := cs) (j := j) ⟨y, hy, he⟩
    unfold credAt at e
    rw [hf] at e
    simp at e
    omega
  · intro hn
    have e := firstC_some h rfl (fun y hy he => hn (List.mem_map.2 ⟨y, hy, he⟩))
    unfold credAt
    rw [e]

set_option maxHeartbeats 2000000 in
set_option maxRecDepth 100000 in
theorem l12Cred_any (i n : Int) (v1 v3 v4 : Value) (a2 : Option Addr) (c2 : Nat) (cs : List Cd) (k : Int) (w : World) (h : NRow celD w a2 cs) (hx : cs.length ≤ 2000000) :
    Calls Try.prog 48 #[.agg #[.int .i64 i, .int .i64 n, v1, .slice a2 cs.length c2, v3, v4], .int .i64 k] w fun r w' => r = .returned (.int .i64 (credAt k cs)) ∧ Below w.heap.size w w' := by
  have HB : Hid (Below w.heap.size w (w.alloc (.cells #[.int .i64 i, .int .i64 n, v1, .slice a2 cs.length c2, v3, v4] 32)) ∧ CBlk (w.alloc (.cells #[.int .i64 i, .int .i64 n, v1, .slice a2 cs.length c2, v3, v4] 32)) w.heap.size i n v1 (.slice a2 cs.length c2) v3 v4) := ⟨Below.alloc_ _ _, CBlk.new _ _ _ _ _ _ _⟩
  go_enter Try.func48, Try.ntmps48
  go_wp2_with fail
  generalize (w.alloc (.cells #[.int .i64 i, .int .i64 n, v1, .slice a2 cs.length c2, v3, v4] 32)) = W at HB ⊢
  go_loopw [5] (fun q wr => ∃ (j : Nat), j ≤ cs.length ∧ q = .int .i64 j ∧ Hid (wr = W ∧ ∀ y ∈ cs.take j, y.s ≠ k)) (fun q _ => cs.length - (intOf q).toNat)
  case atStart => exact ⟨0, Nat.zero_le _, rfl, rfl, by simp⟩
  case round =>
    obtain ⟨j, hj, rfl, C⟩ := hrel
    obtain rfl : wr = W := C.out.1
    obtain ⟨p0, p1, p2, p3, p4, p5⟩ := HB.out.2.cells
    by_cases hlt : j < cs.length
    · obtain ⟨x, hs⟩ : ∃ x, cs[j]? = some x := ⟨cs[j], List.getElem?_eq_getElem hlt⟩
      rcases h with h | ⟨b, off, rfl, hl, h⟩
      · simp [h] at hlt
      obtain ⟨d0, d1, d2, d3, d4, d5, d6, d7, d8, d9⟩ := celD.at ((h j x hs).later HB.out.1 hl)
      simp only [show celD.n = 10 from rfl] at d0
      clear d1 d2 d3 d4 d5 d6 d7 d8 d9
      by_cases hk : x.s = k
      · have E : Hid (credAt k cs = (j : Int)) := Hid.mk' (by unfold credAt; rw [firstC_some hs hk C.out.2])
        clear h hs C
        go_wp2_with fail
        go_ret
        exact ⟨ret_int E.out.symm, HB.out.1⟩
      · have E : Hid (∀ y ∈ cs.take (j + 1), y.s ≠ k) := Hid.mk' (by
          rw [take_at hs]
          intro y hy
          rcases List.mem_append.1 hy with hy | hy
          · exact C.out.2 y hy
          · rw [List.mem_singleton.1 hy]; exact hk)
        clear h hs C
        go_wp2_with fail
        go_roundw
        case rel => exact ⟨j + 1, by omega, by go_num, trivial, E.out⟩
        case measure => simp [intOf]; omega
    · obtain rfl : j = cs.length := by omega
      have E : Hid (credAt k cs = -1) := Hid.mk' (by unfold credAt; have e := C.out.2; rw [List.take_length] at e; rw [firstC_none.2 e])
      clear h C
      go_wp2_with fail
      go_ret
      exact ⟨ret_int E.out.symm, HB.out.1⟩

/-- A call, of a number that was told. -/
def okCa (num : Int) (x : Ca) : Bool := inB x.p 4 5 && inB x.k 10 60 && inB x.t 0 100 && inB x.n 1 num
set_option maxHeartbeats 1000000 in
set_option maxRecDepth 100000 in
theorem l12Call_any (x : Ca) (num : Int) (w : World) : Calls Try.prog 51 #[.agg #[.int .i64 x.p, .int .i64 x.k, .int .i64 x.t, .int .i64 x.n], .int .i64 num] w fun r w' => r = .returned (.bool (okCa num x)) ∧ Below w.heap.size w w' := by
  unfold okCa
  go_enter Try.func51, Try.ntmps51
  go_wp2_with (first | (go_at_call 47; refine (l6In_any _ _ _ _).mono ?_; rintro e w' ⟨rfl, rfl⟩) | (go_at_call 53; refine (l1Serv_any' _ _).mono ?_; rintro e w' ⟨rfl, rfl⟩) | (go_at_call 49; refine (l1Session_any _ _).mono ?_; rintro e w' ⟨rfl, rfl⟩) | (go_at_call 21; refine (l1Time_any _ _).mono ?_; rintro e w' ⟨rfl, rfl⟩))
  all_goals go_ret
  all_goals exact ⟨ret_bool (by simp_all), Below.alloc_ _ _⟩

end Go.Proofs.Ythkngdbhddedpaa
