/-
  The laws' own ways with one who gives tickets: a copy, whether two are the same, how long, marks.
-/
import Derived.Test.YtimmfabaogeanaaDoorKdcMath
import Derived.Test.YtimmfabaogeanaaDoorSealMarks
import Derived.Test.YtimmfabaogeanaaDoorKEq
import Derived.Test.YtimmfabaogeanaaDoorKSzS
import Derived.Test.YtimmfabaogeanaaDoorKRow
import Derived.Test.YtimmfabaogeanaaDoorSealOkd
import Derived.Test.YtimmfabaogeanaaDoorKTo
namespace Go.Proofs.YtimmfabaogeanaaDoor
open Go.RowKit

end Go.Proofs.YtimmfabaogeanaaDoor

namespace Go.Proofs.YtimmfabaogeanaaDoor
open Go.RowKit

/-- A word's five cells lie at a block's begin. -/
structure MsgAt (w : World) (b : Nat) (m n k f : Int) (v : Value) : Prop where
  c0 : w.cell? ⟨b, 0, none⟩ = some (.int .i64 m)
  c1 : w.cell? ⟨b, 1, none⟩ = some (.int .i64 n)
  c2 : w.cell? ⟨b, 2, none⟩ = some (.int .i64 k)
  c3 : w.cell? ⟨b, 3, none⟩ = some (.int .i64 f)
  c4 : w.cell? ⟨b, 4, none⟩ = some v
theorem MsgAt.later {w w' : World} {b : Nat} {m n k f : Int} {v : Value} (h : MsgAt w b m n k f v) {B : Nat} (hb : Below B w w') (hl : b < B) : MsgAt w' b m n k f v :=
  ⟨(hb.cell (p := ⟨b, 0, none⟩) hl).trans h.c0, (hb.cell (p := ⟨b, 1, none⟩) hl).trans h.c1, (hb.cell (p := ⟨b, 2, none⟩) hl).trans h.c2, (hb.cell (p := ⟨b, 3, none⟩) hl).trans h.c3, (hb.cell (p := ⟨b, 4, none⟩) hl).trans h.c4⟩

set_option maxHeartbeats 1000000 in
/-- The specification's look at a word's seals. -/
theorem l2Seals_any (m n k f many : Int) (a : Option Addr) (cap : Nat) (xs : List Sl) (w : World) (h : SRow w a xs) (hx : xs.length ≤ 2000000) :
    Calls Tryd.prog 20 #[.agg #[.int .i64 m, .int .i64 n, .int .i64 k, .int .i64 f, .slice a xs.length cap], .int .i64 many] w fun r w' => r = .returned (.bool (xs.all Sl.ok && decide ((xs.length : Int) = many))) ∧ Below w.heap.size w w' := by
  obtain ⟨W, hW⟩ : ∃ W, W = w.alloc (.cells #[.int .i64 m, .int .i64 n, .int .i64 k, .int .i64 f, .slice a xs.length cap] 25) := ⟨_, rfl⟩
  have h0 : Below w.heap.size w W := hW ▸ (Below.refl _ _).alloc (Nat.le_refl _) _
  have h4 : W.cell? ⟨w.heap.size, 4, none⟩ = some (.slice a xs.length cap) := by subst hW; go_simp
  have hz : w.heap.size < W.heap.size := by subst hW; simp
  go_enter Tryd.func20, Tryd.ntmps20
  go_wp2_with fail
  rw [← hW]
  clear hW
  go_loopw [5] (fun i wr => ∃ (j : Nat), j ≤ xs.length ∧ i = .int .i64 j ∧ Hid ((xs.take j).all Sl.ok = true ∧ Below W.heap.size W wr)) (fun i _ => xs.length - (intOf i).toNat)
  case atStart => exact ⟨0, Nat.zero_le _, rfl, ⟨rfl, Below.refl _ _⟩⟩
  case round =>
    obtain ⟨j, hj, rfl, C⟩ := hrel
    have hbw := C.out.2
    have hb4 : wr.cell? ⟨w.heap.size, 4, none⟩ = some (.slice a xs.length cap) := ((bcell hbw).1 _ _ hz).trans h4
    by_cases hlt : j < xs.length
    · obtain ⟨s, hs⟩ : ∃ s, xs[j]? = some s := ⟨xs[j], List.getElem?_eq_getElem hlt⟩
      rcases h with h | ⟨b, off, rfl, hl, h⟩
      · simp [h] at hlt
      have hS := ((h j s hs).later h0 hl).later hbw (Nat.lt_trans hl hz)
      obtain ⟨c0, c1, c2, c3, c4, c5, c6⟩ := hS
      clear h
      have hbn := hbw.size
      have hk : (xs.take (j + 1)).all Sl.ok = s.ok := by
        rw [List.take_add_one, List.all_append, C.out.1, hs]; simp
      go_wp2_with fail
      refine (specOk_any _ _ _ _ _ _ _ _).mono ?_
      rintro r w2 ⟨rfl, hb2⟩
      have C2 : Hid ((xs.take (j + 1)).all Sl.ok = s.ok ∧ Below W.heap.size W w2) := ⟨hk, hbw.trans (hb2.mono (by omega))⟩
      clear hk c0 c1 c2 c3 c4 c5 c6 C hbw hb2 hb4
      cases hok : okB s.k s.t s.a s.b s.c s.d s.e
      · go_wp2_with fail
        go_ret
        refine ⟨ret_bool ?_, h0.trans (C2.out.2.mono (by omega))⟩
        have hno : s.ok = false := hok
        have hf : xs.all Sl.ok = false := by
          rw [List.all_eq_false]; exact ⟨s, List.mem_of_getElem? hs, by simp [hno]⟩
        simp [hf]
      · go_wp2_with fail
        go_roundw
        case rel => exact ⟨j + 1, by omega, by go_num, ⟨C2.out.1.trans hok, C2.out.2⟩⟩
        case measure => simp [intOf]; omega
    · obtain rfl : j = xs.length := by omega
      have hall := C.out.1
      rw [List.take_length] at hall
      have HA : Hid (xs.all Sl.ok = true ∧ Below W.heap.size W wr) := ⟨hall, hbw⟩
      clear hall C hbw h
      go_wp2_with fail
      go_ret
      exact ⟨ret_bool (by simp [HA.out.1]; try rfl), h0.trans (HA.out.2.mono (by omega))⟩

/-- A seal that is not ok. -/
theorem notOk_any (s : Sl) (w : World) :
    Calls Tryd.prog 25 #[s.v] w fun r w' => r = .returned (.bool (!s.ok)) ∧ Below w.heap.size w w' := by
  unfold Sl.v
  go_enter Tryd.func25, Tryd.ntmps25
  go_wp2_with fail
  refine (implOk_any _ _ _ _ _ _ _ _).mono ?_
  rintro r w2 ⟨rfl, hb2⟩
  go_wp2_with fail
  go_ret
  exact ⟨rfl, ((Below.refl _ _).alloc (Nat.le_refl _) _).trans (hb2.mono (by simp))⟩

set_option maxHeartbeats 1000000 in
theorem indexFunc_any (a : Option Addr) (cap : Nat) (xs : List Sl) (w : World) (h : SRow w a xs) (hx : xs.length ≤ 2000000) :
    Calls Tryd.prog 30 #[.slice a xs.length cap, .func (.func 25) #[] #[]] w fun r w' => (∃ n : Int, r = .returned (.int .i64 n) ∧ (decide (0 ≤ n) = !xs.all Sl.ok)) ∧ Below w.heap.size w w' := by
  go_enter Tryd.func30, Tryd.ntmps30
  go_wp2_with fail
  go_loopw [8] (fun i wr => ∃ (j : Nat), j ≤ xs.length ∧ i = .int .i64 j ∧ Hid ((xs.take j).all Sl.ok = true ∧ Below w.heap.size w wr)) (fun i _ => xs.length - (intOf i).toNat)
  case atStart => exact ⟨0, Nat.zero_le _, rfl, ⟨rfl, Below.refl _ _⟩⟩
  case round =>
    obtain ⟨j, hj, rfl, C⟩ := hrel
    have hbw := C.out.2
    by_cases hlt : j < xs.length
    · obtain ⟨s, hs⟩ : ∃ s, xs[j]? = some s := ⟨xs[j], List.getElem?_eq_getElem hlt⟩
      rcases h with h | ⟨b, off, rfl, hl, h⟩
      · simp [h] at hlt
      have hS := (h j s hs).later hbw hl
      obtain ⟨c0, c1, c2, c3, c4, c5, c6⟩ := hS
      clear h
      have hbn := hbw.size
      have hk : (xs.take (j + 1)).all Sl.ok = s.ok := by
        rw [List.take_add_one, List.all_append, C.out.1, hs]; simp
      go_wp2_with fail
      refine (notOk_any s _).mono ?_
      rintro r w2 ⟨rfl, hb2⟩
      have C2 : Hid ((xs.take (j + 1)).all Sl.ok = s.ok ∧ Below w.heap.size w w2) := ⟨hk, hbw.trans (hb2.mono (by omega))⟩
      clear hk c0 c1 c2 c3 c4 c5 c6 C hbw hb2
      cases hok : s.ok
      · go_wp2_with fail
        go_ret
        refine ⟨⟨_, rfl, ?_⟩, C2.out.2⟩
        have hf : xs.all Sl.ok = false := by
          rw [List.all_eq_false]; exact ⟨s, List.mem_of_getElem? hs, by simp [hok]⟩
        simp [hf]
      · go_wp2_with fail
        go_roundw
        case rel => exact ⟨j + 1, by omega, by go_num, ⟨C2.out.1.trans hok, C2.out.2⟩⟩
        case measure => simp [intOf]; omega
    · obtain rfl : j = xs.length := by omega
      have hall := C.out.1
      rw [List.take_length] at hall
      have HA : Hid (xs.all Sl.ok = true ∧ Below w.heap.size w wr) := ⟨hall, hbw⟩
      clear hall C hbw h
      go_wp2_with fail
      go_ret
      exact ⟨⟨_, rfl, by simp [HA.out.1]⟩, HA.out.2⟩

theorem contains_any (a : Option Addr) (cap : Nat) (xs : List Sl) (w : World) (h : SRow w a xs) (hx : xs.length ≤ 2000000) :
    Calls Tryd.prog 24 #[.slice a xs.length cap, .func (.func 25) #[] #[]] w fun r w' => r = .returned (.bool (!xs.all Sl.ok)) ∧ Below w.heap.size w w' := by
  go_enter Tryd.func24, Tryd.ntmps24
  go_wp2_with fail
  refine (indexFunc_any a cap xs w h hx).mono ?_
  rintro r w2 ⟨⟨n, rfl, hn⟩, hb2⟩
  go_wp2_with fail
  go_ret
  exact ⟨ret_bool (by rw [← hn]), hb2⟩

theorem allOk_any (a : Option Addr) (cap : Nat) (xs : List Sl) (w : World) (h : SRow w a xs) (hx : xs.length ≤ 2000000) :
    Calls Tryd.prog 17 #[.slice a xs.length cap] w fun r w' => r = .returned (.bool (xs.all Sl.ok)) ∧ Below w.heap.size w w' := by
  go_enter Tryd.func17, Tryd.ntmps17
  go_wp2_with fail
  refine (contains_any a cap xs w h hx).mono ?_
  rintro r w2 ⟨rfl, hb2⟩
  go_wp2_with fail
  go_ret
  exact ⟨ret_bool (by simp), hb2⟩

end Go.Proofs.YtimmfabaogeanaaDoor

namespace Go.Proofs.YtimmfabaogeanaaDoor
open Go.RowKit
attribute [local go_sem ↓] Go.wp_at_zero Go.wp_at_succ

end Go.Proofs.YtimmfabaogeanaaDoor

namespace Go.Proofs.YtimmfabaogeanaaDoor
open Go.RowKit
attribute [local go_sem ↓] Go.wp_at_zero Go.wp_at_succ

end Go.Proofs.YtimmfabaogeanaaDoor

namespace Go.Proofs.YtimmfabaogeanaaDoor
open Go.RowKit
attribute [local go_sem ↓] Go.wp_at_zero Go.wp_at_succ

end Go.Proofs.YtimmfabaogeanaaDoor

namespace Go.Proofs.YtimmfabaogeanaaDoor
open Go.RowKit

end Go.Proofs.YtimmfabaogeanaaDoor

namespace Go.Proofs.YtimmfabaogeanaaDoor
open Go.RowKit

/-- So many seals, all ok. -/
def slB (xs : List Sl) (many : Int) : Bool := xs.all Sl.ok && decide ((xs.length : Int) = many)
theorem slB_not {xs : List Sl} {q : Int} (h : ((xs.length : Int) == q) = false) : slB xs q = false := by
  have h' : ¬ (xs.length : Int) = q := by simpa using h
  simp only [slB, decide_eq_false h', Bool.and_false]
theorem slB_len {xs : List Sl} {q : Int} (h : ((xs.length : Int) == q) = true) : slB xs q = xs.all Sl.ok := by
  have h' : (xs.length : Int) = q := by simpa using h
  simp only [slB, decide_eq_true h', Bool.and_true]
/-- A word is in form: its kind, user, service, number, seals. -/
def msgB (m n k f : Int) (xs : List Sl) : Bool :=
  if m = 1 then inB n 1 3 && (k == 0) && inB f 1 60 && slB xs 0
  else if m = 2 then inB n 1 3 && (k == 0) && (f == 0) && slB xs 2
  else if m = 3 then (n == 0) && inB k 4 5 && inB f 1 60 && slB xs 2
  else if m = 4 then inB n 1 3 && (k == 0) && (f == 0) && slB xs 2
  else if m = 5 then (n == 0) && inB k 4 5 && (f == 0) && slB xs 2
  else if m = 6 then inB n 1 3 && (k == 0) && (f == 0) && slB xs 1
  else false

set_option maxHeartbeats 400000 in
theorem l1Serv_any (n : Int) (w : World) :
    Calls Tryd.prog 21 #[.int .i64 n] w fun e w' => e = .returned (.bool (inB n 4 5)) ∧ w' = w := by
  go_enter Tryd.func21, Tryd.ntmps21
  go_wp2_with (go_at_call 26; refine (l6In_any _ _ _ _).mono ?_; rintro e w' ⟨rfl, rfl⟩)
  go_ret
  exact ⟨rfl, rfl⟩

/-- The table of forms, cell by cell. -/
def formCells : List Value := [.bool false, .bool false, .bool false, .int .i64 0, .bool true, .bool false, .bool true, .int .i64 0, .bool true, .bool false, .bool false, .int .i64 2, .bool false, .bool true, .bool true, .int .i64 2,
  .bool true, .bool false, .bool false, .int .i64 2, .bool false, .bool true, .bool false, .int .i64 2, .bool true, .bool false, .bool false, .int .i64 1]
/-- It lies so in memory. -/
structure Forms (w : World) : Prop where
  lt : 0 < w.heap.size
  cell : ∀ (i : Nat) v, formCells[i]? = some v → w.cell? ⟨0, i, none⟩ = some v
theorem Forms.later {w w' : World} (h : Forms w) (hb : Below w.heap.size w w') : Forms w' :=
  ⟨Nat.lt_of_lt_of_le h.lt hb.size, fun i v hv => ((bcell hb).1 _ _ h.lt).trans (h.cell i v hv)⟩

/-- A number is such a one, if there is to be one, and else it is 0; which ones, by the function that is handed over. -/
def just (b : Bool) (g : Nat) (n : Int) : Bool := if b then (if g = 14 then inB n 1 3 else if g = 15 then inB n 4 5 else inB n 1 60) else n == 0
set_option maxHeartbeats 400000 in
theorem isJust_any (b : Bool) (g : Nat) (n : Int) (w : World) (h : g = 14 ∨ g = 15 ∨ g = 16) :
    Calls Tryd.prog 13 #[.bool b, .func (.func g) #[] #[], .int .i64 n] w fun r w' => r = .returned (.bool (just b g n)) ∧ w' = w := by
  rcases h with rfl | rfl | rfl
  all_goals cases b
  all_goals
    go_enter Tryd.func13, Tryd.ntmps13
    go_wp2_with (first | (go_at_call 14; refine (isUser_any _ _).mono ?_; rintro e w' ⟨rfl, rfl⟩) | (go_at_call 15; refine (isServ_any _ _).mono ?_; rintro e w' ⟨rfl, rfl⟩) | (go_at_call 16; refine (isNum_any _ _).mono ?_; rintro e w' ⟨rfl, rfl⟩))
    go_ret
    exact ⟨ret_bool (by simp [just]), rfl⟩

set_option maxHeartbeats 1000000 in
theorem specMsg1_any (n k f : Int) (a : Option Addr) (cap : Nat) (xs : List Sl) (w : World) (h : SRow w a xs) (hx : xs.length ≤ 2000000) :
    Calls Tryd.prog 7 #[.agg #[.int .i64 1, .int .i64 n, .int .i64 k, .int .i64 f, .slice a xs.length cap]] w fun r w' => r = .returned (.bool (inB n 1 3 && (k == 0) && inB f 1 60 && slB xs 0)) ∧ Below w.heap.size w w' := by
  go_enter Tryd.func7, Tryd.ntmps7
  go_wp2_with (first | (go_at_call 18; refine (l1User_any _ _).mono ?_; rintro e w' ⟨rfl, rfl⟩) | (go_at_call 21; refine (l1Serv_any _ _).mono ?_; rintro e w' ⟨rfl, rfl⟩) | (go_at_call 19; refine (l1Num_any _ _).mono ?_; rintro e w' ⟨rfl, rfl⟩) | (go_at_call 20; refine (l2Seals_any _ _ _ _ _ _ _ xs _ (h.later ((Below.refl _ _).alloc (Nat.le_refl _) _)) hx).mono ?_; rintro e w2 ⟨rfl, hb2⟩))
  all_goals go_ret
  all_goals first | exact ⟨ret_bool (by simp_all [slB]), ((Below.refl _ _).alloc (Nat.le_refl _) _).trans (hb2.mono (by simp))⟩ | exact ⟨ret_bool (by simp_all [slB]), (Below.refl _ _).alloc (Nat.le_refl _) _⟩

set_option maxHeartbeats 1000000 in
theorem specMsg2_any (n k f : Int) (a : Option Addr) (cap : Nat) (xs : List Sl) (w : World) (h : SRow w a xs) (hx : xs.length ≤ 2000000) :
    Calls Tryd.prog 7 #[.agg #[.int .i64 2, .int .i64 n, .int .i64 k, .int .i64 f, .slice a xs.length cap]] w fun r w' => r = .returned (.bool (inB n 1 3 && (k == 0) && (f == 0) && slB xs 2)) ∧ Below w.heap.size w w' := by
  go_enter Tryd.func7, Tryd.ntmps7
  go_wp2_with (first | (go_at_call 18; refine (l1User_any _ _).mono ?_; rintro e w' ⟨rfl, rfl⟩) | (go_at_call 21; refine (l1Serv_any _ _).mono ?_; rintro e w' ⟨rfl, rfl⟩) | (go_at_call 19; refine (l1Num_any _ _).mono ?_; rintro e w' ⟨rfl, rfl⟩) | (go_at_call 20; refine (l2Seals_any _ _ _ _ _ _ _ xs _ (h.later ((Below.refl _ _).alloc (Nat.le_refl _) _)) hx).mono ?_; rintro e w2 ⟨rfl, hb2⟩))
  all_goals go_ret
  all_goals first | exact ⟨ret_bool (by simp_all [slB]), ((Below.refl _ _).alloc (Nat.le_refl _) _).trans (hb2.mono (by simp))⟩ | exact ⟨ret_bool (by simp_all [slB]), (Below.refl _ _).alloc (Nat.le_refl _) _⟩

set_option maxHeartbeats 1000000 in
theorem specMsg3_any (n k f : Int) (a : Option Addr) (cap : Nat) (xs : List Sl) (w : World) (h : SRow w a xs) (hx : xs.length ≤ 2000000) :
    Calls Tryd.prog 7 #[.agg #[.int .i64 3, .int .i64 n, .int .i64 k, .int .i64 f, .slice a xs.length cap]] w fun r w' => r = .returned (.bool ((n == 0) && inB k 4 5 && inB f 1 60 && slB xs 2)) ∧ Below w.heap.size w w' := by
  go_enter Tryd.func7, Tryd.ntmps7
  go_wp2_with (first | (go_at_call 18; refine (l1User_any _ _).mono ?_; rintro e w' ⟨rfl, rfl⟩) | (go_at_call 21; refine (l1Serv_any _ _).mono ?_; rintro e w' ⟨rfl, rfl⟩) | (go_at_call 19; refine (l1Num_any _ _).mono ?_; rintro e w' ⟨rfl, rfl⟩) | (go_at_call 20; refine (l2Seals_any _ _ _ _ _ _ _ xs _ (h.later ((Below.refl _ _).alloc (Nat.le_refl _) _)) hx).mono ?_; rintro e w2 ⟨rfl, hb2⟩))
  all_goals go_ret
  all_goals first | exact ⟨ret_bool (by simp_all [slB]), ((Below.refl _ _).alloc (Nat.le_refl _) _).trans (hb2.mono (by simp))⟩ | exact ⟨ret_bool (by simp_all [slB]), (Below.refl _ _).alloc (Nat.le_refl _) _⟩

set_option maxHeartbeats 1000000 in
theorem specMsg4_any (n k f : Int) (a : Option Addr) (cap : Nat) (xs : List Sl) (w : World) (h : SRow w a xs) (hx : xs.length ≤ 2000000) :
    Calls Tryd.prog 7 #[.agg #[.int .i64 4, .int .i64 n, .int .i64 k, .int .i64 f, .slice a xs.length cap]] w fun r w' => r = .returned (.bool (inB n 1 3 && (k == 0) && (f == 0) && slB xs 2)) ∧ Below w.heap.size w w' := by
  go_enter Tryd.func7, Tryd.ntmps7
  go_wp2_with (first | (go_at_call 18; refine (l1User_any _ _).mono ?_; rintro e w' ⟨rfl, rfl⟩) | (go_at_call 21; refine (l1Serv_any _ _).mono ?_; rintro e w' ⟨rfl, rfl⟩) | (go_at_call 19; refine (l1Num_any _ _).mono ?_; rintro e w' ⟨rfl, rfl⟩) | (go_at_call 20; refine (l2Seals_any _ _ _ _ _ _ _ xs _ (h.later ((Below.refl _ _).alloc (Nat.le_refl _) _)) hx).mono ?_; rintro e w2 ⟨rfl, hb2⟩))
  all_goals go_ret
  all_goals first | exact ⟨ret_bool (by simp_all [slB]), ((Below.refl _ _).alloc (Nat.le_refl _) _).trans (hb2.mono (by simp))⟩ | exact ⟨ret_bool (by simp_all [slB]), (Below.refl _ _).alloc (Nat.le_refl _) _⟩

set_option maxHeartbeats 1000000 in
theorem specMsg5_any (n k f : Int) (a : Option Addr) (cap : Nat) (xs : List Sl) (w : World) (h : SRow w a xs) (hx : xs.length ≤ 2000000) :
    Calls Tryd.prog 7 #[.agg #[.int .i64 5, .int .i64 n, .int .i64 k, .int .i64 f, .slice a xs.length cap]] w fun r w' => r = .returned (.bool ((n == 0) && inB k 4 5 && (f == 0) && slB xs 2)) ∧ Below w.heap.size w w' := by
  go_enter Tryd.func7, Tryd.ntmps7
  go_wp2_with (first | (go_at_call 18; refine (l1User_any _ _).mono ?_; rintro e w' ⟨rfl, rfl⟩) | (go_at_call 21; refine (l1Serv_any _ _).mono ?_; rintro e w' ⟨rfl, rfl⟩) | (go_at_call 19; refine (l1Num_any _ _).mono ?_; rintro e w' ⟨rfl, rfl⟩) | (go_at_call 20; refine (l2Seals_any _ _ _ _ _ _ _ xs _ (h.later ((Below.refl _ _).alloc (Nat.le_refl _) _)) hx).mono ?_; rintro e w2 ⟨rfl, hb2⟩))
  all_goals go_ret
  all_goals first | exact ⟨ret_bool (by simp_all [slB]), ((Below.refl _ _).alloc (Nat.le_refl _) _).trans (hb2.mono (by simp))⟩ | exact ⟨ret_bool (by simp_all [slB]), (Below.refl _ _).alloc (Nat.le_refl _) _⟩

set_option maxHeartbeats 1000000 in
theorem specMsg6_any (n k f : Int) (a : Option Addr) (cap : Nat) (xs : List Sl) (w : World) (h : SRow w a xs) (hx : xs.length ≤ 2000000) :
    Calls Tryd.prog 7 #[.agg #[.int .i64 6, .int .i64 n, .int .i64 k, .int .i64 f, .slice a xs.length cap]] w fun r w' => r = .returned (.bool (inB n 1 3 && (k == 0) && (f == 0) && slB xs 1)) ∧ Below w.heap.size w w' := by
  go_enter Tryd.func7, Tryd.ntmps7
  go_wp2_with (first | (go_at_call 18; refine (l1User_any _ _).mono ?_; rintro e w' ⟨rfl, rfl⟩) | (go_at_call 21; refine (l1Serv_any _ _).mono ?_; rintro e w' ⟨rfl, rfl⟩) | (go_at_call 19; refine (l1Num_any _ _).mono ?_; rintro e w' ⟨rfl, rfl⟩) | (go_at_call 20; refine (l2Seals_any _ _ _ _ _ _ _ xs _ (h.later ((Below.refl _ _).alloc (Nat.le_refl _) _)) hx).mono ?_; rintro e w2 ⟨rfl, hb2⟩))
  all_goals go_ret
  all_goals first | exact ⟨ret_bool (by simp_all [slB]), ((Below.refl _ _).alloc (Nat.le_refl _) _).trans (hb2.mono (by simp))⟩ | exact ⟨ret_bool (by simp_all [slB]), (Below.refl _ _).alloc (Nat.le_refl _) _⟩

set_option maxHeartbeats 1000000 in
theorem specMsg0_any (m n k f : Int) (a : Option Addr) (cap : Nat) (xs : List Sl) (w : World) (h1 : (m == 1) = false) (h2 : (m == 2) = false) (h3 : (m == 3) = false) (h4 : (m == 4) = false) (h5 : (m == 5) = false) (h6 : (m == 6) = false) :
    Calls Tryd.prog 7 #[.agg #[.int .i64 m, .int .i64 n, .int .i64 k, .int .i64 f, .slice a xs.length cap]] w fun r w' => r = .returned (.bool false) ∧ Below w.heap.size w w' := by
  go_enter Tryd.func7, Tryd.ntmps7
  go_wp2_with fail
  go_ret
  exact ⟨rfl, (Below.refl _ _).alloc (Nat.le_refl _) _⟩

/-- The specification's MsgOk: what the mathematics says, whatever the word. -/
theorem specMsg_any (m n k f : Int) (a : Option Addr) (cap : Nat) (xs : List Sl) (w : World) (h : SRow w a xs) (hx : xs.length ≤ 2000000) :
    Calls Tryd.prog 7 #[.agg #[.int .i64 m, .int .i64 n, .int .i64 k, .int .i64 f, .slice a xs.length cap]] w fun r w' => r = .returned (.bool (msgB m n k f xs)) ∧ Below w.heap.size w w' := by
  unfold msgB
  by_cases h1 : m = 1
  · subst h1; simpa using specMsg1_any n k f a cap xs w h hx
  by_cases h2 : m = 2
  · subst h2; simpa using specMsg2_any n k f a cap xs w h hx
  by_cases h3 : m = 3
  · subst h3; simpa using specMsg3_any n k f a cap xs w h hx
  by_cases h4 : m = 4
  · subst h4; simpa using specMsg4_any n k f a cap xs w h hx
  by_cases h5 : m = 5
  · subst h5; simpa using specMsg5_any n k f a cap xs w h hx
  by_cases h6 : m = 6
  · subst h6; simpa using specMsg6_any n k f a cap xs w h hx
  simpa [h1, h2, h3, h4, h5, h6] using specMsg0_any m n k f a cap xs w (by simpa using h1) (by simpa using h2) (by simpa using h3) (by simpa using h4) (by simpa using h5) (by simpa using h6)

set_option maxHeartbeats 1000000 in
theorem implMsg1_any (n k f : Int) (a : Option Addr) (cap : Nat) (xs : List Sl) (w : World) (h : SRow w a xs) (hx : xs.length ≤ 2000000) (hf : Forms w) :
    Calls Tryd.prog 6 #[.agg #[.int .i64 1, .int .i64 n, .int .i64 k, .int .i64 f, .slice a xs.length cap]] w fun r w' => r = .returned (.bool (inB n 1 3 && (k == 0) && inB f 1 60 && slB xs 0)) ∧ Below w.heap.size w w' := by
  have hg0 := hf.cell 4 _ rfl
  have hg1 := hf.cell 5 _ rfl
  have hg2 := hf.cell 6 _ rfl
  have hg3 := hf.cell 7 _ rfl
  have hgl := hf.lt
  clear hf
  go_enter Tryd.func6, Tryd.ntmps6
  have hb1 : Below w.heap.size w ((w.alloc (.cells #[.int .i64 1, .int .i64 n, .int .i64 k, .int .i64 f, .slice a xs.length cap] 25)).alloc (.cells #[.bool true, .bool false, .bool true, .int .i64 0] 39)) := ((Below.refl _ _).alloc (Nat.le_refl _) _).alloc (by simp) _
  go_wp2_with fail
  refine (isJust_any _ _ _ _ (Or.inl rfl)).mono ?_
  rintro e w' ⟨rfl, rfl⟩
  cases hj1 : just true 14 n
  · go_wp2_with fail
    go_ret
    exact ⟨ret_bool (by simp_all [just]), hb1⟩
  go_wp2_with fail
  refine (isJust_any _ _ _ _ (Or.inr (Or.inl rfl))).mono ?_
  rintro e w' ⟨rfl, rfl⟩
  cases hj2 : just false 15 k
  · go_wp2_with fail
    go_ret
    exact ⟨ret_bool (by simp_all [just]), hb1⟩
  go_wp2_with fail
  refine (isJust_any _ _ _ _ (Or.inr (Or.inr rfl))).mono ?_
  rintro e w' ⟨rfl, rfl⟩
  cases hj3 : just true 16 f
  · go_wp2_with fail
    go_ret
    exact ⟨ret_bool (by simp_all [just]), hb1⟩
  cases hn : ((xs.length : Int) == 0)
  · go_wp2_with fail
    go_ret
    exact ⟨ret_bool (by rw [slB_not hn, Bool.and_false]), hb1⟩
  go_wp2_with fail
  refine (allOk_any _ _ xs _ (h.later hb1) hx).mono ?_
  rintro e w2 ⟨rfl, hb2⟩
  go_wp2_with fail
  go_ret
  refine ⟨ret_bool ?_, hb1.trans (hb2.mono (by simp; omega))⟩
  rw [slB_len hn]
  simp_all [just]

set_option maxHeartbeats 1000000 in
theorem implMsg2_any (n k f : Int) (a : Option Addr) (cap : Nat) (xs : List Sl) (w : World) (h : SRow w a xs) (hx : xs.length ≤ 2000000) (hf : Forms w) :
    Calls Tryd.prog 6 #[.agg #[.int .i64 2, .int .i64 n, .int .i64 k, .int .i64 f, .slice a xs.length cap]] w fun r w' => r = .returned (.bool (inB n 1 3 && (k == 0) && (f == 0) && slB xs 2)) ∧ Below w.heap.size w w' := by
  have hg0 := hf.cell 8 _ rfl
  have hg1 := hf.cell 9 _ rfl
  have hg2 := hf.cell 10 _ rfl
  have hg3 := hf.cell 11 _ rfl
  have hgl := hf.lt
  clear hf
  go_enter Tryd.func6, Tryd.ntmps6
  have hb1 : Below w.heap.size w ((w.alloc (.cells #[.int .i64 2, .int .i64 n, .int .i64 k, .int .i64 f, .slice a xs.length cap] 25)).alloc (.cells #[.bool true, .bool false, .bool false, .int .i64 2] 39)) := ((Below.refl _ _).alloc (Nat.le_refl _) _).alloc (by simp) _
  go_wp2_with fail
  refine (isJust_any _ _ _ _ (Or.inl rfl)).mono ?_
  rintro e w' ⟨rfl, rfl⟩
  cases hj1 : just true 14 n
  · go_wp2_with fail
    go_ret
    exact ⟨ret_bool (by simp_all [just]), hb1⟩
  go_wp2_with fail
  refine (isJust_any _ _ _ _ (Or.inr (Or.inl rfl))).mono ?_
  rintro e w' ⟨rfl, rfl⟩
  cases hj2 : just false 15 k
  · go_wp2_with fail
    go_ret
    exact ⟨ret_bool (by simp_all [just]), hb1⟩
  go_wp2_with fail
  refine (isJust_any _ _ _ _ (Or.inr (Or.inr rfl))).mono ?_
  rintro e w' ⟨rfl, rfl⟩
  cases hj3 : just false 16 f
  · go_wp2_with fail
    go_ret
    exact ⟨ret_bool (by simp_all [just]), hb1⟩
  cases hn : ((xs.length : Int) == 2)
  · go_wp2_with fail
    go_ret
    exact ⟨ret_bool (by rw [slB_not hn, Bool.and_false]), hb1⟩
  go_wp2_with fail
  refine (allOk_any _ _ xs _ (h.later hb1) hx).mono ?_
  rintro e w2 ⟨rfl, hb2⟩
  go_wp2_with fail
  go_ret
  refine ⟨ret_bool ?_, hb1.trans (hb2.mono (by simp; omega))⟩
  rw [slB_len hn]
  simp_all [just]

set_option maxHeartbeats 1000000 in
theorem implMsg3_any (n k f : Int) (a : Option Addr) (cap : Nat) (xs : List Sl) (w : World) (h : SRow w a xs) (hx : xs.length ≤ 2000000) (hf : Forms w) :
    Calls Tryd.prog 6 #[.agg #[.int .i64 3, .int .i64 n, .int .i64 k, .int .i64 f, .slice a xs.length cap]] w fun r w' => r = .returned (.bool ((n == 0) && inB k 4 5 && inB f 1 60 && slB xs 2)) ∧ Below w.heap.size w w' := by
  have hg0 := hf.cell 12 _ rfl
  have hg1 := hf.cell 13 _ rfl
  have hg2 := hf.cell 14 _ rfl
  have hg3 := hf.cell 15 _ rfl
  have hgl := hf.lt
  clear hf
  go_enter Tryd.func6, Tryd.ntmps6
  have hb1 : Below w.heap.size w ((w.alloc (.cells #[.int .i64 3, .int .i64 n, .int .i64 k, .int .i64 f, .slice a xs.length cap] 25)).alloc (.cells #[.bool false, .bool true, .bool true, .int .i64 2] 39)) := ((Below.refl _ _).alloc (Nat.le_refl _) _).alloc (by simp) _
  go_wp2_with fail
  refine (isJust_any _ _ _ _ (Or.inl rfl)).mono ?_
  rintro e w' ⟨rfl, rfl⟩
  cases hj1 : just false 14 n
  · go_wp2_with fail
    go_ret
    exact ⟨ret_bool (by simp_all [just]), hb1⟩
  go_wp2_with fail
  refine (isJust_any _ _ _ _ (Or.inr (Or.inl rfl))).mono ?_
  rintro e w' ⟨rfl, rfl⟩
  cases hj2 : just true 15 k
  · go_wp2_with fail
    go_ret
    exact ⟨ret_bool (by simp_all [just]), hb1⟩
  go_wp2_with fail
  refine (isJust_any _ _ _ _ (Or.inr (Or.inr rfl))).mono ?_
  rintro e w' ⟨rfl, rfl⟩
  cases hj3 : just true 16 f
  · go_wp2_with fail
    go_ret
    exact ⟨ret_bool (by simp_all [just]), hb1⟩
  cases hn : ((xs.length : Int) == 2)
  · go_wp2_with fail
    go_ret
    exact ⟨ret_bool (by rw [slB_not hn, Bool.and_false]), hb1⟩
  go_wp2_with fail
  refine (allOk_any _ _ xs _ (h.later hb1) hx).mono ?_
  rintro e w2 ⟨rfl, hb2⟩
  go_wp2_with fail
  go_ret
  refine ⟨ret_bool ?_, hb1.trans (hb2.mono (by simp; omega))⟩
  rw [slB_len hn]
  simp_all [just]

set_option maxHeartbeats 1000000 in
theorem implMsg4_any (n k f : Int) (a : Option Addr) (cap : Nat) (xs : List Sl) (w : World) (h : SRow w a xs) (hx : xs.length ≤ 2000000) (hf : Forms w) :
    Calls Tryd.prog 6 #[.agg #[.int .i64 4, .int .i64 n, .int .i64 k, .int .i64 f, .slice a xs.length cap]] w fun r w' => r = .returned (.bool (inB n 1 3 && (k == 0) && (f == 0) && slB xs 2)) ∧ Below w.heap.size w w' := by
  have hg0 := hf.cell 16 _ rfl
  have hg1 := hf.cell 17 _ rfl
  have hg2 := hf.cell 18 _ rfl
  have hg3 := hf.cell 19 _ rfl
  have hgl := hf.lt
  clear hf
  go_enter Tryd.func6, Tryd.ntmps6
  have hb1 : Below w.heap.size w ((w.alloc (.cells #[.int .i64 4, .int .i64 n, .int .i64 k, .int .i64 f, .slice a xs.length cap] 25)).alloc (.cells #[.bool true, .bool false, .bool false, .int .i64 2] 39)) := ((Below.refl _ _).alloc (Nat.le_refl _) _).alloc (by simp) _
  go_wp2_with fail
  refine (isJust_any _ _ _ _ (Or.inl rfl)).mono ?_
  rintro e w' ⟨rfl, rfl⟩
  cases hj1 : just true 14 n
  · go_wp2_with fail
    go_ret
    exact ⟨ret_bool (by simp_all [just]), hb1⟩
  go_wp2_with fail
  refine (isJust_any _ _ _ _ (Or.inr (Or.inl rfl))).mono ?_
  rintro e w' ⟨rfl, rfl⟩
  cases hj2 : just false 15 k
  · go_wp2_with fail
    go_ret
    exact ⟨ret_bool (by simp_all [just]), hb1⟩
  go_wp2_with fail
  refine (isJust_any _ _ _ _ (Or.inr (Or.inr rfl))).mono ?_
  rintro e w' ⟨rfl, rfl⟩
  cases hj3 : just false 16 f
  · go_wp2_with fail
    go_ret
    exact ⟨ret_bool (by simp_all [just]), hb1⟩
  cases hn : ((xs.length : Int) == 2)
  · go_wp2_with fail
    go_ret
    exact ⟨ret_bool (by rw [slB_not hn, Bool.and_false]), hb1⟩
  go_wp2_with fail
  refine (allOk_any _ _ xs _ (h.later hb1) hx).mono ?_
  rintro e w2 ⟨rfl, hb2⟩
  go_wp2_with fail
  go_ret
  refine ⟨ret_bool ?_, hb1.trans (hb2.mono (by simp; omega))⟩
  rw [slB_len hn]
  simp_all [just]

set_option maxHeartbeats 1000000 in
theorem implMsg5_any (n k f : Int) (a : Option Addr) (cap : Nat) (xs : List Sl) (w : World) (h : SRow w a xs) (hx : xs.length ≤ 2000000) (hf : Forms w) :
    Calls Tryd.prog 6 #[.agg #[.int .i64 5, .int .i64 n, .int .i64 k, .int .i64 f, .slice a xs.length cap]] w fun r w' => r = .returned (.bool ((n == 0) && inB k 4 5 && (f == 0) && slB xs 2)) ∧ Below w.heap.size w w' := by
  have hg0 := hf.cell 20 _ rfl
  have hg1 := hf.cell 21 _ rfl
  have hg2 := hf.cell 22 _ rfl
  have hg3 := hf.cell 23 _ rfl
  have hgl := hf.lt
  clear hf
  go_enter Tryd.func6, Tryd.ntmps6
  have hb1 : Below w.heap.size w ((w.alloc (.cells #[.int .i64 5, .int .i64 n, .int .i64 k, .int .i64 f, .slice a xs.length cap] 25)).alloc (.cells #[.bool false, .bool true, .bool false, .int .i64 2] 39)) := ((Below.refl _ _).alloc (Nat.le_refl _) _).alloc (by simp) _
  go_wp2_with fail
  refine (isJust_any _ _ _ _ (Or.inl rfl)).mono ?_
  rintro e w' ⟨rfl, rfl⟩
  cases hj1 : just false 14 n
  · go_wp2_with fail
    go_ret
    exact ⟨ret_bool (by simp_all [just]), hb1⟩
  go_wp2_with fail
  refine (isJust_any _ _ _ _ (Or.inr (Or.inl rfl))).mono ?_
  rintro e w' ⟨rfl, rfl⟩
  cases hj2 : just true 15 k
  · go_wp2_with fail
    go_ret
    exact ⟨ret_bool (by simp_all [just]), hb1⟩
  go_wp2_with fail
  refine (isJust_any _ _ _ _ (Or.inr (Or.inr rfl))).mono ?_
  rintro e w' ⟨rfl, rfl⟩
  cases hj3 : just false 16 f
  · go_wp2_with fail
    go_ret
    exact ⟨ret_bool (by simp_all [just]), hb1⟩
  cases hn : ((xs.length : Int) == 2)
  · go_wp2_with fail
    go_ret
    exact ⟨ret_bool (by rw [slB_not hn, Bool.and_false]), hb1⟩
  go_wp2_with fail
  refine (allOk_any _ _ xs _ (h.later hb1) hx).mono ?_
  rintro e w2 ⟨rfl, hb2⟩
  go_wp2_with fail
  go_ret
  refine ⟨ret_bool ?_, hb1.trans (hb2.mono (by simp; omega))⟩
  rw [slB_len hn]
  simp_all [just]

set_option maxHeartbeats 1000000 in
theorem implMsg6_any (n k f : Int) (a : Option Addr) (cap : Nat) (xs : List Sl) (w : World) (h : SRow w a xs) (hx : xs.length ≤ 2000000) (hf : Forms w) :
    Calls Tryd.prog 6 #[.agg #[.int .i64 6, .int .i64 n, .int .i64 k, .int .i64 f, .slice a xs.length cap]] w fun r w' => r = .returned (.bool (inB n 1 3 && (k == 0) && (f == 0) && slB xs 1)) ∧ Below w.heap.size w w' := by
  have hg0 := hf.cell 24 _ rfl
  have hg1 := hf.cell 25 _ rfl
  have hg2 := hf.cell 26 _ rfl
  have hg3 := hf.cell 27 _ rfl
  have hgl := hf.lt
  clear hf
  go_enter Tryd.func6, Tryd.ntmps6
  have hb1 : Below w.heap.size w ((w.alloc (.cells #[.int .i64 6, .int .i64 n, .int .i64 k, .int .i64 f, .slice a xs.length cap] 25)).alloc (.cells #[.bool true, .bool false, .bool false, .int .i64 1] 39)) := ((Below.refl _ _).alloc (Nat.le_refl _) _).alloc (by simp) _
  go_wp2_with fail
  refine (isJust_any _ _ _ _ (Or.inl rfl)).mono ?_
  rintro e w' ⟨rfl, rfl⟩
  cases hj1 : just true 14 n
  · go_wp2_with fail
    go_ret
    exact ⟨ret_bool (by simp_all [just]), hb1⟩
  go_wp2_with fail
  refine (isJust_any _ _ _ _ (Or.inr (Or.inl rfl))).mono ?_
  rintro e w' ⟨rfl, rfl⟩
  cases hj2 : just false 15 k
  · go_wp2_with fail
    go_ret
    exact ⟨ret_bool (by simp_all [just]), hb1⟩
  go_wp2_with fail
  refine (isJust_any _ _ _ _ (Or.inr (Or.inr rfl))).mono ?_
  rintro e w' ⟨rfl, rfl⟩
  cases hj3 : just false 16 f
  · go_wp2_with fail
    go_ret
    exact ⟨ret_bool (by simp_all [just]), hb1⟩
  cases hn : ((xs.length : Int) == 1)
  · go_wp2_with fail
    go_ret
    exact ⟨ret_bool (by rw [slB_not hn, Bool.and_false]), hb1⟩
  go_wp2_with fail
  refine (allOk_any _ _ xs _ (h.later hb1) hx).mono ?_
  rintro e w2 ⟨rfl, hb2⟩
  go_wp2_with fail
  go_ret
  refine ⟨ret_bool ?_, hb1.trans (hb2.mono (by simp; omega))⟩
  rw [slB_len hn]
  simp_all [just]

set_option maxHeartbeats 1000000 in
theorem implMsg0_any (m n k f : Int) (a : Option Addr) (cap : Nat) (xs : List Sl) (w : World) (h : m < 1 ∨ 6 < m) :
    Calls Tryd.prog 6 #[.agg #[.int .i64 m, .int .i64 n, .int .i64 k, .int .i64 f, .slice a xs.length cap]] w fun r w' => r = .returned (.bool false) ∧ Below w.heap.size w w' := by
  go_enter Tryd.func6, Tryd.ntmps6
  rcases h with h | h
  all_goals
    go_wp2_with fail
    go_ret
    exact ⟨rfl, (Below.refl _ _).alloc (Nat.le_refl _) _⟩

/-- The program's MsgOk: what the mathematics says, whatever the word. -/
theorem implMsg_any (m n k f : Int) (a : Option Addr) (cap : Nat) (xs : List Sl) (w : World) (h : SRow w a xs) (hx : xs.length ≤ 2000000) (hf : Forms w) :
    Calls Tryd.prog 6 #[.agg #[.int .i64 m, .int .i64 n, .int .i64 k, .int .i64 f, .slice a xs.length cap]] w fun r w' => r = .returned (.bool (msgB m n k f xs)) ∧ Below w.heap.size w w' := by
  unfold msgB
  by_cases h1 : m = 1
  · subst h1; simpa using implMsg1_any n k f a cap xs w h hx hf
  by_cases h2 : m = 2
  · subst h2; simpa using implMsg2_any n k f a cap xs w h hx hf
  by_cases h3 : m = 3
  · subst h3; simpa using implMsg3_any n k f a cap xs w h hx hf
  by_cases h4 : m = 4
  · subst h4; simpa using implMsg4_any n k f a cap xs w h hx hf
  by_cases h5 : m = 5
  · subst h5; simpa using implMsg5_any n k f a cap xs w h hx hf
  by_cases h6 : m = 6
  · subst h6; simpa using implMsg6_any n k f a cap xs w h hx hf
  simpa [h1, h2, h3, h4, h5, h6] using implMsg0_any m n k f a cap xs w (by omega)

end Go.Proofs.YtimmfabaogeanaaDoor

namespace Go.Proofs.YtimmfabaogeanaaDoor
open Go.RowKit
attribute [local go_sem ↓] Go.wp_at_zero Go.wp_at_succ

/-- A word of the program's lies in a block of its own. -/
def KMb (w : World) (b : Nat) (m c s f : Int) (v : Value) : Prop := w.heap[b]? = some (.cells #[.int .i64 m, .int .i64 c, .int .i64 s, .int .i64 f, v] 25 (0, 0))
theorem KMb.lt {w : World} {b : Nat} {m c s f : Int} {v : Value} (h : KMb w b m c s f v) : b < w.heap.size := (Array.getElem?_eq_some_iff.1 h).1
theorem KMb.later {w w' : World} {b : Nat} {m c s f : Int} {v : Value} (h : KMb w b m c s f v) (hb : Below w.heap.size w w') : KMb w' b m c s f v := (hb.block _ h.lt).trans h
theorem KMb.base {w w' : World} {b B : Nat} {m c s f : Int} {v : Value} (h : KMb w b m c s f v) (hb : Below B w w') (hB : b < B) : KMb w' b m c s f v := (hb.block _ hB).trans h
theorem KMb.new (w : World) (m c s f : Int) (v : Value) : KMb (w.alloc (.cells #[.int .i64 m, .int .i64 c, .int .i64 s, .int .i64 f, v] 25)) w.heap.size m c s f v := heap_alloc_new _ _
theorem KMb.cells {w : World} {b : Nat} {m c s f : Int} {v : Value} (h : KMb w b m c s f v) : w.cell? ⟨b, 0, none⟩ = some (.int .i64 m) ∧ w.cell? ⟨b, 1, none⟩ = some (.int .i64 c) ∧ w.cell? ⟨b, 2, none⟩ = some (.int .i64 s) ∧ w.cell? ⟨b, 3, none⟩ = some (.int .i64 f) ∧ w.cell? ⟨b, 4, none⟩ = some v := by
  unfold KMb at h
  refine ⟨?_, ?_, ?_, ?_, ?_⟩ <;> simp [World.cell?, h]
theorem KMb.fro {w : World} {b : Nat} {m c s f : Int} {v : Value} (h : KMb w b m c s f v) : ∀ i, w.frozen? ⟨b, i, none⟩ = false := by
  intro i
  unfold KMb at h
  simp [World.frozen?, h]
theorem KMb.grown {w w' : World} {b : Nat} {m c s f : Int} {v : Value} {r : Option Nat} (h : KMb w b m c s f v) (hb : w.grownBy w' r) (hB : some b ≠ r) : KMb w' b m c s f v := (hb.block _ h.lt hB).trans h
theorem KMb.put {w : World} {b : Nat} {m c s f : Int} {v : Value} (h : KMb w b m c s f v) (m' c' s' f' : Int) (v' : Value) : KMb (((((w.setCell ⟨b, 0, none⟩ (.int .i64 m')).setCell ⟨b, 1, none⟩ (.int .i64 c')).setCell ⟨b, 2, none⟩ (.int .i64 s')).setCell ⟨b, 3, none⟩ (.int .i64 f')).setCell ⟨b, 4, none⟩ v') b m' c' s' f' v' := by
  unfold KMb at h ⊢
  simp [World.setCell, Array.getElem?_modify, h]
theorem setCell_grown {w w' : World} {r : Option Nat} (b o : Nat) (u : Value) (h : w.grownBy w' r) (hr : r = some b) : w.grownBy (w'.setCell ⟨b, o, none⟩ u) r :=
  ⟨h.os, h.tape, h.output, by simpa using h.size, fun k hk hn => (Below.heap_setCell _ _ _ _ (fun e => hn (by rw [hr, e]))).trans (h.block k hk hn)⟩
theorem put2_grown (w : World) (b : Nat) (u0 u1 : Value) : w.grownBy ((w.setCell ⟨b, 0, none⟩ u0).setCell ⟨b, 1, none⟩ u1) (some b) :=
  setCell_grown b 1 u1 (setCell_grown b 0 u0 (World.grownBy.refl _ _) rfl) rfl
theorem put5_grown (w : World) (b : Nat) (u0 u1 u2 u3 u4 : Value) : w.grownBy (((((w.setCell ⟨b, 0, none⟩ u0).setCell ⟨b, 1, none⟩ u1).setCell ⟨b, 2, none⟩ u2).setCell ⟨b, 3, none⟩ u3).setCell ⟨b, 4, none⟩ u4) (some b) :=
  setCell_grown b 4 u4 (setCell_grown b 3 u3 (setCell_grown b 2 u2 (setCell_grown b 1 u1 (setCell_grown b 0 u0 (World.grownBy.refl _ _) rfl) rfl) rfl) rfl) rfl
theorem SRow.blk {w : World} {a : Option Addr} {xs : List Sl} (h : SRow w a xs) : xs = [] ∨ ∃ b off, a = some ⟨b, off, none⟩ ∧ b < w.heap.size := by
  rcases h with h | ⟨b, off, ha, hl, _⟩
  · exact Or.inl h
  · exact Or.inr ⟨b, off, ha, hl⟩
/-- A row stays where its block is not the one turned. -/
theorem SRow.gr {w w' : World} {a : Option Addr} {xs : List Sl} {r : Option Nat} (h : SRow w a xs) (hg : w.grownBy w' r) (hne : ∀ b off, a = some ⟨b, off, none⟩ → some b ≠ r) : SRow w' a xs := by
  rcases h with h | ⟨b, off, rfl, hl, h⟩
  · exact Or.inl h
  · have e : ∀ o, w'.cell? ⟨b, o, none⟩ = w.cell? ⟨b, o, none⟩ := fun o => World.cell?_of_block (hg.block b hl (hne b off rfl))
    refine Or.inr ⟨b, off, rfl, Nat.lt_of_lt_of_le hl hg.size, fun i s hs => ?_⟩
    obtain ⟨c0, c1, c2, c3, c4, c5, c6⟩ := h i s hs
    exact ⟨(e _).trans c0, (e _).trans c1, (e _).trans c2, (e _).trans c3, (e _).trans c4, (e _).trans c5, (e _).trans c6⟩

/-- Marks stay where another block is turned. -/
theorem Mk7.grown {w w' : World} {v : Value} {n : Nat} {k0 : Int} {r : Option Nat} (h : Mk7 w v n k0) (hg : w.grownBy w' r) (hne : ∀ k, v.ownBlock = some k → some k ≠ r) : Mk7 w' v n k0 := by
  obtain ⟨a, cap, rfl, h | ⟨g, rfl, hl, h⟩⟩ := h
  · exact ⟨a, cap, rfl, Or.inl h⟩
  · exact ⟨_, cap, rfl, Or.inr ⟨g, rfl, Nat.lt_of_lt_of_le hl hg.size, fun i hi => (World.cell?_of_block (hg.block g hl (hne g rfl))).trans (h i hi)⟩⟩

theorem OwnS.offM {w : World} {base p : Nat} {v u : Value} {m c s f : Int} {zs : List Sl} (h : OwnS w base v zs) (hk : KMb w p m c s f u) : ∀ k, v.ownBlock = some k → k ≠ p := by
  intro k e
  obtain ⟨cur, hc⟩ := own_type h e
  exact type_ne hc hk (by decide)
theorem OwnS.gr {w w' : World} {base : Nat} {v : Value} {zs : List Sl} {p : Nat} (h : OwnS w base v zs) (hg : w.grownBy w' (some p)) (hne : ∀ k, v.ownBlock = some k → k ≠ p) : OwnS w' base v zs :=
  own_keep h fun g e => hg.block g (World.ownsRow.lt h g e).2 (fun e2 => hne g e (by injection e2))
end Go.Proofs.YtimmfabaogeanaaDoor
