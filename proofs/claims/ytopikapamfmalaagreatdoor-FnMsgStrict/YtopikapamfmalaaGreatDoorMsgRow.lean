/-
  Rows of seals in memory, and whether all of them are ok: the specification's l2Seals answers as the plain mathematics says; nothing that was in memory is turned.
-/
import Derived.Test.YtopikapamfmalaaGreatDoorBaseJ
import Derived.Test.YtopikapamfmalaaGreatDoorSealOkd
namespace Go.Proofs.YtopikapamfmalaaGreatDoor
open Go.RowKit

/-- A word's five cells lie at a block's begin. -/
structure MsgAt (w : World) (b : Nat) (m n k f : Int) (v : Value) : Prop where
  c0 : w.cell? ⟨b, 0, none⟩ = some (.int .i64 m)
  c1 : w.cell? ⟨b, 1, none⟩ = some (.int .i64 n)
  c2 : w.cell? ⟨b, 2, none⟩ = some (.int .i64 k)
  c3 : w.cell? ⟨b, 3, none⟩ = some (.int .i64 f)
  c4 : w.cell? ⟨b, 4, none⟩ = some v
theorem MsgAt.later {w w' : World} {b : Nat} {m n k f : Int} {v : Value} (h : MsgAt w b m n k f v) {B : Nat} (hb : Below B w w') (hl : b < B) : MsgAt w' b m n k f v :=
  ⟨(hb.cell (p := ⟨b, 0, none⟩) hl).trans h.c0, (hb.cell (p := ⟨b, 1, none⟩) hl).trans h.c1, (hb.cell (p := ⟨b, 2, none⟩) hl).trans h.c2, (hb.cell (p := ⟨b, 3, none⟩) hl).trans h.c3, (hb.cell (p := ⟨b, 4, none⟩) hl).trans h.c4⟩

set_option maxHeartbeats 1000000 in
/-- The specification's look at a word's seals. -/
theorem l2Seals_any (m n k f many : Int) (a : Option Addr) (cap : Nat) (xs : List Sl) (w : World) (h : SRow w a xs) (hx : xs.length ≤ 2000000) :
    Calls Tryz.prog 44 #[.agg #[.int .i64 m, .int .i64 n, .int .i64 k, .int .i64 f, .slice a xs.length cap], .int .i64 many] w fun r w' => r = .returned (.bool (xs.all Sl.ok && decide ((xs.length : Int) = many))) ∧ Below w.heap.size w w' := by
  obtain ⟨W, hW⟩ : ∃ W, W = w.alloc (.cells #[.int .i64 m, .int .i64 n, .int .i64 k, .int .i64 f, .slice a xs.length cap] 24) := ⟨_, rfl⟩
  have h0 : Below w.heap.size w W := hW ▸ (Below.refl _ _).alloc (Nat.le_refl _) _
  have h4 : W.cell? ⟨w.heap.size, 4, none⟩ = some (.slice a xs.length cap) := by subst hW; go_simp
  have hz : w.heap.size < W.heap.size := by subst hW; simp
  go_enter Tryz.func44, Tryz.ntmps44
  go_wp2_with fail
  rw [← hW]
  clear hW
  go_loopw [5] (fun i wr => ∃ (j : Nat), j ≤ xs.length ∧ i = .int .i64 j ∧ Hid ((xs.take j).all Sl.ok = true ∧ Below W.heap.size W wr)) (fun i _ => xs.length - (intOf i).toNat)
  case atStart => exact ⟨0, Nat.zero_le _, rfl, ⟨rfl, Below.refl _ _⟩⟩
  case round =>
    obtain ⟨j, hj, rfl, C⟩ := hrel
    have hbw := C.out.2
    have hb4 : wr.cell? ⟨w.heap.size, 4, none⟩ = some (.slice a xs.length cap) := ((bcell hbw).1 _ _ hz).trans h4
    by_cases hlt : j < xs.length
    · obtain ⟨s, hs⟩ : ∃ s, xs[j]? = some s := ⟨xs[j], List.getElem?_eq_getElem hlt⟩
      rcases h with h | ⟨b, off, rfl, hl, h⟩
      · simp [h] at hlt
      have hS := ((h j s hs).later h0 hl).later hbw (Nat.lt_trans hl hz)
      obtain ⟨c0, c1, c2, c3, c4, c5, c6⟩ := hS
      clear h
      have hbn := hbw.size
      have hk : (xs.take (j + 1)).all Sl.ok = s.ok := by
        rw [List.take_add_one, List.all_append, C.out.1, hs]; simp
      go_wp2_with fail
      refine (specOk_any _ _ _ _ _ _ _ _).mono ?_
      rintro r w2 ⟨rfl, hb2⟩
      have C2 : Hid ((xs.take (j + 1)).all Sl.ok = s.ok ∧ Below W.heap.size W w2) := ⟨hk, hbw.trans (hb2.mono (by omega))⟩
      clear hk c0 c1 c2 c3 c4 c5 c6 C hbw hb2 hb4
      cases hok : okB s.k s.t s.a s.b s.c s.d s.e
      · go_wp2_with fail
        go_ret
        refine ⟨ret_bool ?_, h0.trans (C2.out.2.mono (by omega))⟩
        have hno : s.ok = false := hok
        have hf : xs.all Sl.ok = false := by
          rw [List.all_eq_false]; exact ⟨s, List.mem_of_getElem? hs, by simp [hno]⟩
        simp [hf]
      · go_wp2_with fail
        go_roundw
        case rel => exact ⟨j + 1, by omega, by go_num, ⟨C2.out.1.trans hok, C2.out.2⟩⟩
        case measure => simp [intOf]; omega
    · obtain rfl : j = xs.length := by omega
      have hall := C.out.1
      rw [List.take_length] at hall
      have HA : Hid (xs.all Sl.ok = true ∧ Below W.heap.size W wr) := ⟨hall, hbw⟩
      clear hall C hbw h
      go_wp2_with fail
      go_ret
      exact ⟨ret_bool (by simp [HA.out.1]; try rfl), h0.trans (HA.out.2.mono (by omega))⟩

/-- A seal that is not ok. -/
theorem notOk_any (s : Sl) (w : World) :
    Calls Tryz.prog 58 #[s.v] w fun r w' => r = .returned (.bool (!s.ok)) ∧ Below w.heap.size w w' := by
  unfold Sl.v
  go_enter Tryz.func58, Tryz.ntmps58
  go_wp2_with fail
  refine (implOk_any _ _ _ _ _ _ _ _).mono ?_
  rintro r w2 ⟨rfl, hb2⟩
  go_wp2_with fail
  go_ret
  exact ⟨rfl, ((Below.refl _ _).alloc (Nat.le_refl _) _).trans (hb2.mono (by simp))⟩

set_option maxHeartbeats 1000000 in
theorem indexFunc_any (a : Option Addr) (cap : Nat) (xs : List Sl) (w : World) (h : SRow w a xs) (hx : xs.length ≤ 2000000) :
    Calls Tryz.prog 75 #[.slice a xs.length cap, .func (.func 58) #[] #[]] w fun r w' => (∃ n : Int, r = .returned (.int .i64 n) ∧ (decide (0 ≤ n) = !xs.all Sl.ok)) ∧ Below w.heap.size w w' := by
  go_enter Tryz.func75, Tryz.ntmps75
  go_wp2_with fail
  go_loopw [8] (fun i wr => ∃ (j : Nat), j ≤ xs.length ∧ i = .int .i64 j ∧ Hid ((xs.take j).all Sl.ok = true ∧ Below w.heap.size w wr)) (fun i _ => xs.length - (intOf i).toNat)
  case atStart => exact ⟨0, Nat.zero_le _, rfl, ⟨rfl, Below.refl _ _⟩⟩
  case round =>
    obtain ⟨j, hj, rfl, C⟩ := hrel
    have hbw := C.out.2
    by_cases hlt : j < xs.length
    · obtain ⟨s, hs⟩ : ∃ s, xs[j]? = some s := ⟨xs[j], List.getElem?_eq_getElem hlt⟩
      rcases h with h | ⟨b, off, rfl, hl, h⟩
      · simp [h] at hlt
      have hS := (h j s hs).later hbw hl
      obtain ⟨c0, c1, c2, c3, c4, c5, c6⟩ := hS
      clear h
      have hbn := hbw.size
      have hk : (xs.take (j + 1)).all Sl.ok = s.ok := by
        rw [List.take_add_one, List.all_append, C.out.1, hs]; simp
      go_wp2_with fail
      refine (notOk_any s _).mono ?_
      rintro r w2 ⟨rfl, hb2⟩
      have C2 : Hid ((xs.take (j + 1)).all Sl.ok = s.ok ∧ Below w.heap.size w w2) := ⟨hk, hbw.trans (hb2.mono (by omega))⟩
      clear hk c0 c1 c2 c3 c4 c5 c6 C hbw hb2
      cases hok : s.ok
      · go_wp2_with fail
        go_ret
        refine ⟨⟨_, rfl, ?_⟩, C2.out.2⟩
        have hf : xs.all Sl.ok = false := by
          rw [List.all_eq_false]; exact ⟨s, List.mem_of_getElem? hs, by simp [hok]⟩
        simp [hf]
      · go_wp2_with fail
        go_roundw
        case rel => exact ⟨j + 1, by omega, by go_num, ⟨C2.out.1.trans hok, C2.out.2⟩⟩
        case measure => simp [intOf]; omega
    · obtain rfl : j = xs.length := by omega
      have hall := C.out.1
      rw [List.take_length] at hall
      have HA : Hid (xs.all Sl.ok = true ∧ Below w.heap.size w wr) := ⟨hall, hbw⟩
      clear hall C hbw h
      go_wp2_with fail
      go_ret
      exact ⟨⟨_, rfl, by simp [HA.out.1]⟩, HA.out.2⟩

theorem contains_any (a : Option Addr) (cap : Nat) (xs : List Sl) (w : World) (h : SRow w a xs) (hx : xs.length ≤ 2000000) :
    Calls Tryz.prog 57 #[.slice a xs.length cap, .func (.func 58) #[] #[]] w fun r w' => r = .returned (.bool (!xs.all Sl.ok)) ∧ Below w.heap.size w w' := by
  go_enter Tryz.func57, Tryz.ntmps57
  go_wp2_with fail
  refine (indexFunc_any a cap xs w h hx).mono ?_
  rintro r w2 ⟨⟨n, rfl, hn⟩, hb2⟩
  go_wp2_with fail
  go_ret
  exact ⟨ret_bool (by rw [← hn]), hb2⟩

theorem allOk_any (a : Option Addr) (cap : Nat) (xs : List Sl) (w : World) (h : SRow w a xs) (hx : xs.length ≤ 2000000) :
    Calls Tryz.prog 33 #[.slice a xs.length cap] w fun r w' => r = .returned (.bool (xs.all Sl.ok)) ∧ Below w.heap.size w w' := by
  go_enter Tryz.func33, Tryz.ntmps33
  go_wp2_with fail
  refine (contains_any a cap xs w h hx).mono ?_
  rintro r w2 ⟨rfl, hb2⟩
  go_wp2_with fail
  go_ret
  exact ⟨ret_bool (by simp), hb2⟩

end Go.Proofs.YtopikapamfmalaaGreatDoor
