/-
  When a word is in form, as plain mathematics, and that the specification's MsgOk and the program's answer so, whatever the word; nothing that was in memory is turned. The program's one wants its table of forms as its text lays it.
-/
import Derived.Test.YtopikapamfmalaaGreatDoorMsgRow
namespace Go.Proofs.YtopikapamfmalaaGreatDoor
open Go.RowKit

/-- So many seals, all ok. -/
def slB (xs : List Sl) (many : Int) : Bool := xs.all Sl.ok && decide ((xs.length : Int) = many)
theorem slB_not {xs : List Sl} {q : Int} (h : ((xs.length : Int) == q) = false) : slB xs q = false := by
  have h' : ¬ (xs.length : Int) = q := by simpa using h
  simp only [slB, decide_eq_false h', Bool.and_false]
theorem slB_len {xs : List Sl} {q : Int} (h : ((xs.length : Int) == q) = true) : slB xs q = xs.all Sl.ok := by
  have h' : (xs.length : Int) = q := by simpa using h
  simp only [slB, decide_eq_true h', Bool.and_true]
/-- A word is in form: its kind, user, service, number, seals. -/
def msgB (m n k f : Int) (xs : List Sl) : Bool :=
  if m = 1 then inB n 1 3 && (k == 0) && inB f 1 60 && slB xs 0
  else if m = 2 then inB n 1 3 && (k == 0) && (f == 0) && slB xs 2
  else if m = 3 then (n == 0) && inB k 4 5 && inB f 1 60 && slB xs 2
  else if m = 4 then inB n 1 3 && (k == 0) && (f == 0) && slB xs 2
  else if m = 5 then (n == 0) && inB k 4 5 && (f == 0) && slB xs 2
  else if m = 6 then inB n 1 3 && (k == 0) && (f == 0) && slB xs 1
  else false

set_option maxHeartbeats 400000 in
theorem l1Serv_any (n : Int) (w : World) :
    Calls Tryz.prog 45 #[.int .i64 n] w fun e w' => e = .returned (.bool (inB n 4 5)) ∧ w' = w := by
  go_enter Tryz.func45, Tryz.ntmps45
  go_wp2_with (go_at_call 39; refine (l6In_any _ _ _ _).mono ?_; rintro e w' ⟨rfl, rfl⟩)
  go_ret
  exact ⟨rfl, rfl⟩

/-- The table of forms, cell by cell. -/
def formCells : List Value := [.bool false, .bool false, .bool false, .int .i64 0, .bool true, .bool false, .bool true, .int .i64 0, .bool true, .bool false, .bool false, .int .i64 2, .bool false, .bool true, .bool true, .int .i64 2,
  .bool true, .bool false, .bool false, .int .i64 2, .bool false, .bool true, .bool false, .int .i64 2, .bool true, .bool false, .bool false, .int .i64 1]
/-- It lies so in memory. -/
structure Forms (w : World) : Prop where
  lt : 0 < w.heap.size
  cell : ∀ (i : Nat) v, formCells[i]? = some v → w.cell? ⟨0, i, none⟩ = some v
theorem Forms.later {w w' : World} (h : Forms w) (hb : Below w.heap.size w w') : Forms w' :=
  ⟨Nat.lt_of_lt_of_le h.lt hb.size, fun i v hv => ((bcell hb).1 _ _ h.lt).trans (h.cell i v hv)⟩

/-- A number is such a one, if there is to be one, and else it is 0; which ones, by the function that is handed over. -/
def just (b : Bool) (g : Nat) (n : Int) : Bool := if b then (if g = 30 then inB n 1 3 else if g = 31 then inB n 4 5 else inB n 1 60) else n == 0
set_option maxHeartbeats 400000 in
theorem isJust_any (b : Bool) (g : Nat) (n : Int) (w : World) (h : g = 30 ∨ g = 31 ∨ g = 32) :
    Calls Tryz.prog 29 #[.bool b, .func (.func g) #[] #[], .int .i64 n] w fun r w' => r = .returned (.bool (just b g n)) ∧ w' = w := by
  rcases h with rfl | rfl | rfl
  all_goals cases b
  all_goals
    go_enter Tryz.func29, Tryz.ntmps29
    go_wp2_with (first | (go_at_call 30; refine (isUser_any _ _).mono ?_; rintro e w' ⟨rfl, rfl⟩) | (go_at_call 31; refine (isServ_any _ _).mono ?_; rintro e w' ⟨rfl, rfl⟩) | (go_at_call 32; refine (isNum_any _ _).mono ?_; rintro e w' ⟨rfl, rfl⟩))
    go_ret
    exact ⟨ret_bool (by simp [just]), rfl⟩

set_option maxHeartbeats 1000000 in
theorem specMsg1_any (n k f : Int) (a : Option Addr) (cap : Nat) (xs : List Sl) (w : World) (h : SRow w a xs) (hx : xs.length ≤ 2000000) :
    Calls Tryz.prog 17 #[.agg #[.int .i64 1, .int .i64 n, .int .i64 k, .int .i64 f, .slice a xs.length cap]] w fun r w' => r = .returned (.bool (inB n 1 3 && (k == 0) && inB f 1 60 && slB xs 0)) ∧ Below w.heap.size w w' := by
  go_enter Tryz.func17, Tryz.ntmps17
  go_wp2_with (first | (go_at_call 42; refine (l1User_any _ _).mono ?_; rintro e w' ⟨rfl, rfl⟩) | (go_at_call 45; refine (l1Serv_any _ _).mono ?_; rintro e w' ⟨rfl, rfl⟩) | (go_at_call 43; refine (l1Num_any _ _).mono ?_; rintro e w' ⟨rfl, rfl⟩) | (go_at_call 44; refine (l2Seals_any _ _ _ _ _ _ _ xs _ (h.later ((Below.refl _ _).alloc (Nat.le_refl _) _)) hx).mono ?_; rintro e w2 ⟨rfl, hb2⟩))
  all_goals go_ret
  all_goals first | exact ⟨ret_bool (by simp_all [slB]), ((Below.refl _ _).alloc (Nat.le_refl _) _).trans (hb2.mono (by simp))⟩ | exact ⟨ret_bool (by simp_all [slB]), (Below.refl _ _).alloc (Nat.le_refl _) _⟩

set_option maxHeartbeats 1000000 in
theorem specMsg2_any (n k f : Int) (a : Option Addr) (cap : Nat) (xs : List Sl) (w : World) (h : SRow w a xs) (hx : xs.length ≤ 2000000) :
    Calls Tryz.prog 17 #[.agg #[.int .i64 2, .int .i64 n, .int .i64 k, .int .i64 f, .slice a xs.length cap]] w fun r w' => r = .returned (.bool (inB n 1 3 && (k == 0) && (f == 0) && slB xs 2)) ∧ Below w.heap.size w w' := by
  go_enter Tryz.func17, Tryz.ntmps17
  go_wp2_with (first | (go_at_call 42; refine (l1User_any _ _).mono ?_; rintro e w' ⟨rfl, rfl⟩) | (go_at_call 45; refine (l1Serv_any _ _).mono ?_; rintro e w' ⟨rfl, rfl⟩) | (go_at_call 43; refine (l1Num_any _ _).mono ?_; rintro e w' ⟨rfl, rfl⟩) | (go_at_call 44; refine (l2Seals_any _ _ _ _ _ _ _ xs _ (h.later ((Below.refl _ _).alloc (Nat.le_refl _) _)) hx).mono ?_; rintro e w2 ⟨rfl, hb2⟩))
  all_goals go_ret
  all_goals first | exact ⟨ret_bool (by simp_all [slB]), ((Below.refl _ _).alloc (Nat.le_refl _) _).trans (hb2.mono (by simp))⟩ | exact ⟨ret_bool (by simp_all [slB]), (Below.refl _ _).alloc (Nat.le_refl _) _⟩

set_option maxHeartbeats 1000000 in
theorem specMsg3_any (n k f : Int) (a : Option Addr) (cap : Nat) (xs : List Sl) (w : World) (h : SRow w a xs) (hx : xs.length ≤ 2000000) :
    Calls Tryz.prog 17 #[.agg #[.int .i64 3, .int .i64 n, .int .i64 k, .int .i64 f, .slice a xs.length cap]] w fun r w' => r = .returned (.bool ((n == 0) && inB k 4 5 && inB f 1 60 && slB xs 2)) ∧ Below w.heap.size w w' := by
  go_enter Tryz.func17, Tryz.ntmps17
  go_wp2_with (first | (go_at_call 42; refine (l1User_any _ _).mono ?_; rintro e w' ⟨rfl, rfl⟩) | (go_at_call 45; refine (l1Serv_any _ _).mono ?_; rintro e w' ⟨rfl, rfl⟩) | (go_at_call 43; refine (l1Num_any _ _).mono ?_; rintro e w' ⟨rfl, rfl⟩) | (go_at_call 44; refine (l2Seals_any _ _ _ _ _ _ _ xs _ (h.later ((Below.refl _ _).alloc (Nat.le_refl _) _)) hx).mono ?_; rintro e w2 ⟨rfl, hb2⟩))
  all_goals go_ret
  all_goals first | exact ⟨ret_bool (by simp_all [slB]), ((Below.refl _ _).alloc (Nat.le_refl _) _).trans (hb2.mono (by simp))⟩ | exact ⟨ret_bool (by simp_all [slB]), (Below.refl _ _).alloc (Nat.le_refl _) _⟩

set_option maxHeartbeats 1000000 in
theorem specMsg4_any (n k f : Int) (a : Option Addr) (cap : Nat) (xs : List Sl) (w : World) (h : SRow w a xs) (hx : xs.length ≤ 2000000) :
    Calls Tryz.prog 17 #[.agg #[.int .i64 4, .int .i64 n, .int .i64 k, .int .i64 f, .slice a xs.length cap]] w fun r w' => r = .returned (.bool (inB n 1 3 && (k == 0) && (f == 0) && slB xs 2)) ∧ Below w.heap.size w w' := by
  go_enter Tryz.func17, Tryz.ntmps17
  go_wp2_with (first | (go_at_call 42; refine (l1User_any _ _).mono ?_; rintro e w' ⟨rfl, rfl⟩) | (go_at_call 45; refine (l1Serv_any _ _).mono ?_; rintro e w' ⟨rfl, rfl⟩) | (go_at_call 43; refine (l1Num_any _ _).mono ?_; rintro e w' ⟨rfl, rfl⟩) | (go_at_call 44; refine (l2Seals_any _ _ _ _ _ _ _ xs _ (h.later ((Below.refl _ _).alloc (Nat.le_refl _) _)) hx).mono ?_; rintro e w2 ⟨rfl, hb2⟩))
  all_goals go_ret
  all_goals first | exact ⟨ret_bool (by simp_all [slB]), ((Below.refl _ _).alloc (Nat.le_refl _) _).trans (hb2.mono (by simp))⟩ | exact ⟨ret_bool (by simp_all [slB]), (Below.refl _ _).alloc (Nat.le_refl _) _⟩

set_option maxHeartbeats 1000000 in
theorem specMsg5_any (n k f : Int) (a : Option Addr) (cap : Nat) (xs : List Sl) (w : World) (h : SRow w a xs) (hx : xs.length ≤ 2000000) :
    Calls Tryz.prog 17 #[.agg #[.int .i64 5, .int .i64 n, .int .i64 k, .int .i64 f, .slice a xs.length cap]] w fun r w' => r = .returned (.bool ((n == 0) && inB k 4 5 && (f == 0) && slB xs 2)) ∧ Below w.heap.size w w' := by
  go_enter Tryz.func17, Tryz.ntmps17
  go_wp2_with (first | (go_at_call 42; refine (l1User_any _ _).mono ?_; rintro e w' ⟨rfl, rfl⟩) | (go_at_call 45; refine (l1Serv_any _ _).mono ?_; rintro e w' ⟨rfl, rfl⟩) | (go_at_call 43; refine (l1Num_any _ _).mono ?_; rintro e w' ⟨rfl, rfl⟩) | (go_at_call 44; refine (l2Seals_any _ _ _ _ _ _ _ xs _ (h.later ((Below.refl _ _).alloc (Nat.le_refl _) _)) hx).mono ?_; rintro e w2 ⟨rfl, hb2⟩))
  all_goals go_ret
  all_goals first | exact ⟨ret_bool (by simp_all [slB]), ((Below.refl _ _).alloc (Nat.le_refl _) _).trans (hb2.mono (by simp))⟩ | exact ⟨ret_bool (by simp_all [slB]), (Below.refl _ _).alloc (Nat.le_refl _) _⟩

set_option maxHeartbeats 1000000 in
theorem specMsg6_any (n k f : Int) (a : Option Addr) (cap : Nat) (xs : List Sl) (w : World) (h : SRow w a xs) (hx : xs.length ≤ 2000000) :
    Calls Tryz.prog 17 #[.agg #[.int .i64 6, .int .i64 n, .int .i64 k, .int .i64 f, .slice a xs.length cap]] w fun r w' => r = .returned (.bool (inB n 1 3 && (k == 0) && (f == 0) && slB xs 1)) ∧ Below w.heap.size w w' := by
  go_enter Tryz.func17, Tryz.ntmps17
  go_wp2_with (first | (go_at_call 42; refine (l1User_any _ _).mono ?_; rintro e w' ⟨rfl, rfl⟩) | (go_at_call 45; refine (l1Serv_any _ _).mono ?_; rintro e w' ⟨rfl, rfl⟩) | (go_at_call 43; refine (l1Num_any _ _).mono ?_; rintro e w' ⟨rfl, rfl⟩) | (go_at_call 44; refine (l2Seals_any _ _ _ _ _ _ _ xs _ (h.later ((Below.refl _ _).alloc (Nat.le_refl _) _)) hx).mono ?_; rintro e w2 ⟨rfl, hb2⟩))
  all_goals go_ret
  all_goals first | exact ⟨ret_bool (by simp_all [slB]), ((Below.refl _ _).alloc (Nat.le_refl _) _).trans (hb2.mono (by simp))⟩ | exact ⟨ret_bool (by simp_all [slB]), (Below.refl _ _).alloc (Nat.le_refl _) _⟩

set_option maxHeartbeats 1000000 in
theorem specMsg0_any (m n k f : Int) (a : Option Addr) (cap : Nat) (xs : List Sl) (w : World) (h1 : (m == 1) = false) (h2 : (m == 2) = false) (h3 : (m == 3) = false) (h4 : (m == 4) = false) (h5 : (m == 5) = false) (h6 : (m == 6) = false) :
    Calls Tryz.prog 17 #[.agg #[.int .i64 m, .int .i64 n, .int .i64 k, .int .i64 f, .slice a xs.length cap]] w fun r w' => r = .returned (.bool false) ∧ Below w.heap.size w w' := by
  go_enter Tryz.func17, Tryz.ntmps17
  go_wp2_with fail
  go_ret
  exact ⟨rfl, (Below.refl _ _).alloc (Nat.le_refl _) _⟩

/-- The specification's MsgOk: what the mathematics says, whatever the word. -/
theorem specMsg_any (m n k f : Int) (a : Option Addr) (cap : Nat) (xs : List Sl) (w : World) (h : SRow w a xs) (hx : xs.length ≤ 2000000) :
    Calls Tryz.prog 17 #[.agg #[.int .i64 m, .int .i64 n, .int .i64 k, .int .i64 f, .slice a xs.length cap]] w fun r w' => r = .returned (.bool (msgB m n k f xs)) ∧ Below w.heap.size w w' := by
  unfold msgB
  by_cases h1 : m = 1
  · subst h1; simpa using specMsg1_any n k f a cap xs w h hx
  by_cases h2 : m = 2
  · subst h2; simpa using specMsg2_any n k f a cap xs w h hx
  by_cases h3 : m = 3
  · subst h3; simpa using specMsg3_any n k f a cap xs w h hx
  by_cases h4 : m = 4
  · subst h4; simpa using specMsg4_any n k f a cap xs w h hx
  by_cases h5 : m = 5
  · subst h5; simpa using specMsg5_any n k f a cap xs w h hx
  by_cases h6 : m = 6
  · subst h6; simpa using specMsg6_any n k f a cap xs w h hx
  simpa [h1, h2, h3, h4, h5, h6] using specMsg0_any m n k f a cap xs w (by simpa using h1) (by simpa using h2) (by simpa using h3) (by simpa using h4) (by simpa using h5) (by simpa using h6)

set_option maxHeartbeats 1000000 in
theorem implMsg1_any (n k f : Int) (a : Option Addr) (cap : Nat) (xs : List Sl) (w : World) (h : SRow w a xs) (hx : xs.length ≤ 2000000) (hf : Forms w) :
    Calls Tryz.prog 12 #[.agg #[.int .i64 1, .int .i64 n, .int .i64 k, .int .i64 f, .slice a xs.length cap]] w fun r w' => r = .returned (.bool (inB n 1 3 && (k == 0) && inB f 1 60 && slB xs 0)) ∧ Below w.heap.size w w' := by
  have hg0 := hf.cell 4 _ rfl
  have hg1 := hf.cell 5 _ rfl
  have hg2 := hf.cell 6 _ rfl
  have hg3 := hf.cell 7 _ rfl
  have hgl := hf.lt
  clear hf
  go_enter Tryz.func12, Tryz.ntmps12
  have hb1 : Below w.heap.size w ((w.alloc (.cells #[.int .i64 1, .int .i64 n, .int .i64 k, .int .i64 f, .slice a xs.length cap] 24)).alloc (.cells #[.bool true, .bool false, .bool true, .int .i64 0] 58)) := ((Below.refl _ _).alloc (Nat.le_refl _) _).alloc (by simp) _
  go_wp2_with fail
  refine (isJust_any _ _ _ _ (Or.inl rfl)).mono ?_
  rintro e w' ⟨rfl, rfl⟩
  cases hj1 : just true 30 n
  · go_wp2_with fail
    go_ret
    exact ⟨ret_bool (by simp_all [just]), hb1⟩
  go_wp2_with fail
  refine (isJust_any _ _ _ _ (Or.inr (Or.inl rfl))).mono ?_
  rintro e w' ⟨rfl, rfl⟩
  cases hj2 : just false 31 k
  · go_wp2_with fail
    go_ret
    exact ⟨ret_bool (by simp_all [just]), hb1⟩
  go_wp2_with fail
  refine (isJust_any _ _ _ _ (Or.inr (Or.inr rfl))).mono ?_
  rintro e w' ⟨rfl, rfl⟩
  cases hj3 : just true 32 f
  · go_wp2_with fail
    go_ret
    exact ⟨ret_bool (by simp_all [just]), hb1⟩
  cases hn : ((xs.length : Int) == 0)
  · go_wp2_with fail
    go_ret
    exact ⟨ret_bool (by rw [slB_not hn, Bool.and_false]), hb1⟩
  go_wp2_with fail
  refine (allOk_any _ _ xs _ (h.later hb1) hx).mono ?_
  rintro e w2 ⟨rfl, hb2⟩
  go_wp2_with fail
  go_ret
  refine ⟨ret_bool ?_, hb1.trans (hb2.mono (by simp; omega))⟩
  rw [slB_len hn]
  simp_all [just]

set_option maxHeartbeats 1000000 in
theorem implMsg2_any (n k f : Int) (a : Option Addr) (cap : Nat) (xs : List Sl) (w : World) (h : SRow w a xs) (hx : xs.length ≤ 2000000) (hf : Forms w) :
    Calls Tryz.prog 12 #[.agg #[.int .i64 2, .int .i64 n, .int .i64 k, .int .i64 f, .slice a xs.length cap]] w fun r w' => r = .returned (.bool (inB n 1 3 && (k == 0) && (f == 0) && slB xs 2)) ∧ Below w.heap.size w w' := by
  have hg0 := hf.cell 8 _ rfl
  have hg1 := hf.cell 9 _ rfl
  have hg2 := hf.cell 10 _ rfl
  have hg3 := hf.cell 11 _ rfl
  have hgl := hf.lt
  clear hf
  go_enter Tryz.func12, Tryz.ntmps12
  have hb1 : Below w.heap.size w ((w.alloc (.cells #[.int .i64 2, .int .i64 n, .int .i64 k, .int .i64 f, .slice a xs.length cap] 24)).alloc (.cells #[.bool true, .bool false, .bool false, .int .i64 2] 58)) := ((Below.refl _ _).alloc (Nat.le_refl _) _).alloc (by simp) _
  go_wp2_with fail
  refine (isJust_any _ _ _ _ (Or.inl rfl)).mono ?_
  rintro e w' ⟨rfl, rfl⟩
  cases hj1 : just true 30 n
  · go_wp2_with fail
    go_ret
    exact ⟨ret_bool (by simp_all [just]), hb1⟩
  go_wp2_with fail
  refine (isJust_any _ _ _ _ (Or.inr (Or.inl rfl))).mono ?_
  rintro e w' ⟨rfl, rfl⟩
  cases hj2 : just false 31 k
  · go_wp2_with fail
    go_ret
    exact ⟨ret_bool (by simp_all [just]), hb1⟩
  go_wp2_with fail
  refine (isJust_any _ _ _ _ (Or.inr (Or.inr rfl))).mono ?_
  rintro e w' ⟨rfl, rfl⟩
  cases hj3 : just false 32 f
  · go_wp2_with fail
    go_ret
    exact ⟨ret_bool (by simp_all [just]), hb1⟩
  cases hn : ((xs.length : Int) == 2)
  · go_wp2_with fail
    go_ret
    exact ⟨ret_bool (by rw [slB_not hn, Bool.and_false]), hb1⟩
  go_wp2_with fail
  refine (allOk_any _ _ xs _ (h.later hb1) hx).mono ?_
  rintro e w2 ⟨rfl, hb2⟩
  go_wp2_with fail
  go_ret
  refine ⟨ret_bool ?_, hb1.trans (hb2.mono (by simp; omega))⟩
  rw [slB_len hn]
  simp_all [just]

set_option maxHeartbeats 1000000 in
theorem implMsg3_any (n k f : Int) (a : Option Addr) (cap : Nat) (xs : List Sl) (w : World) (h : SRow w a xs) (hx : xs.length ≤ 2000000) (hf : Forms w) :
    Calls Tryz.prog 12 #[.agg #[.int .i64 3, .int .i64 n, .int .i64 k, .int .i64 f, .slice a xs.length cap]] w fun r w' => r = .returned (.bool ((n == 0) && inB k 4 5 && inB f 1 60 && slB xs 2)) ∧ Below w.heap.size w w' := by
  have hg0 := hf.cell 12 _ rfl
  have hg1 := hf.cell 13 _ rfl
  have hg2 := hf.cell 14 _ rfl
  have hg3 := hf.cell 15 _ rfl
  have hgl := hf.lt
  clear hf
  go_enter Tryz.func12, Tryz.ntmps12
  have hb1 : Below w.heap.size w ((w.alloc (.cells #[.int .i64 3, .int .i64 n, .int .i64 k, .int .i64 f, .slice a xs.length cap] 24)).alloc (.cells #[.bool false, .bool true, .bool true, .int .i64 2] 58)) := ((Below.refl _ _).alloc (Nat.le_refl _) _).alloc (by simp) _
  go_wp2_with fail
  refine (isJust_any _ _ _ _ (Or.inl rfl)).mono ?_
  rintro e w' ⟨rfl, rfl⟩
  cases hj1 : just false 30 n
  · go_wp2_with fail
    go_ret
    exact ⟨ret_bool (by simp_all [just]), hb1⟩
  go_wp2_with fail
  refine (isJust_any _ _ _ _ (Or.inr (Or.inl rfl))).mono ?_
  rintro e w' ⟨rfl, rfl⟩
  cases hj2 : just true 31 k
  · go_wp2_with fail
    go_ret
    exact ⟨ret_bool (by simp_all [just]), hb1⟩
  go_wp2_with fail
  refine (isJust_any _ _ _ _ (Or.inr (Or.inr rfl))).mono ?_
  rintro e w' ⟨rfl, rfl⟩
  cases hj3 : just true 32 f
  · go_wp2_with fail
    go_ret
    exact ⟨ret_bool (by simp_all [just]), hb1⟩
  cases hn : ((xs.length : Int) == 2)
  · go_wp2_with fail
    go_ret
    exact ⟨ret_bool (by rw [slB_not hn, Bool.and_false]), hb1⟩
  go_wp2_with fail
  refine (allOk_any _ _ xs _ (h.later hb1) hx).mono ?_
  rintro e w2 ⟨rfl, hb2⟩
  go_wp2_with fail
  go_ret
  refine ⟨ret_bool ?_, hb1.trans (hb2.mono (by simp; omega))⟩
  rw [slB_len hn]
  simp_all [just]

set_option maxHeartbeats 1000000 in
theorem implMsg4_any (n k f : Int) (a : Option Addr) (cap : Nat) (xs : List Sl) (w : World) (h : SRow w a xs) (hx : xs.length ≤ 2000000) (hf : Forms w) :
    Calls Tryz.prog 12 #[.agg #[.int .i64 4, .int .i64 n, .int .i64 k, .int .i64 f, .slice a xs.length cap]] w fun r w' => r = .returned (.bool (inB n 1 3 && (k == 0) && (f == 0) && slB xs 2)) ∧ Below w.heap.size w w' := by
  have hg0 := hf.cell 16 _ rfl
  have hg1 := hf.cell 17 _ rfl
  have hg2 := hf.cell 18 _ rfl
  have hg3 := hf.cell 19 _ rfl
  have hgl := hf.lt
  clear hf
  go_enter Tryz.func12, Tryz.ntmps12
  have hb1 : Below w.heap.size w ((w.alloc (.cells #[.int .i64 4, .int .i64 n, .int .i64 k, .int .i64 f, .slice a xs.length cap] 24)).alloc (.cells #[.bool true, .bool false, .bool false, .int .i64 2] 58)) := ((Below.refl _ _).alloc (Nat.le_refl _) _).alloc (by simp) _
  go_wp2_with fail
  refine (isJust_any _ _ _ _ (Or.inl rfl)).mono ?_
  rintro e w' ⟨rfl, rfl⟩
  cases hj1 : just true 30 n
  · go_wp2_with fail
    go_ret
    exact ⟨ret_bool (by simp_all [just]), hb1⟩
  go_wp2_with fail
  refine (isJust_any _ _ _ _ (Or.inr (Or.inl rfl))).mono ?_
  rintro e w' ⟨rfl, rfl⟩
  cases hj2 : just false 31 k
  · go_wp2_with fail
    go_ret
    exact ⟨ret_bool (by simp_all [just]), hb1⟩
  go_wp2_with fail
  refine (isJust_any _ _ _ _ (Or.inr (Or.inr rfl))).mono ?_
  rintro e w' ⟨rfl, rfl⟩
  cases hj3 : just false 32 f
  · go_wp2_with fail
    go_ret
    exact ⟨ret_bool (by simp_all [just]), hb1⟩
  cases hn : ((xs.length : Int) == 2)
  · go_wp2_with fail
    go_ret
    exact ⟨ret_bool (by rw [slB_not hn, Bool.and_false]), hb1⟩
  go_wp2_with fail
  refine (allOk_any _ _ xs _ (h.later hb1) hx).mono ?_
  rintro e w2 ⟨rfl, hb2⟩
  go_wp2_with fail
  go_ret
  refine ⟨ret_bool ?_, hb1.trans (hb2.mono (by simp; omega))⟩
  rw [slB_len hn]
  simp_all [just]

set_option maxHeartbeats 1000000 in
theorem implMsg5_any (n k f : Int) (a : Option Addr) (cap : Nat) (xs : List Sl) (w : World) (h : SRow w a xs) (hx : xs.length ≤ 2000000) (hf : Forms w) :
    Calls Tryz.prog 12 #[.agg #[.int .i64 5, .int .i64 n, .int .i64 k, .int .i64 f, .slice a xs.length cap]] w fun r w' => r = .returned (.bool ((n == 0) && inB k 4 5 && (f == 0) && slB xs 2)) ∧ Below w.heap.size w w' := by
  have hg0 := hf.cell 20 _ rfl
  have hg1 := hf.cell 21 _ rfl
  have hg2 := hf.cell 22 _ rfl
  have hg3 := hf.cell 23 _ rfl
  have hgl := hf.lt
  clear hf
  go_enter Tryz.func12, Tryz.ntmps12
  have hb1 : Below w.heap.size w ((w.alloc (.cells #[.int .i64 5, .int .i64 n, .int .i64 k, .int .i64 f, .slice a xs.length cap] 24)).alloc (.cells #[.bool false, .bool true, .bool false, .int .i64 2] 58)) := ((Below.refl _ _).alloc (Nat.le_refl _) _).alloc (by simp) _
  go_wp2_with fail
  refine (isJust_any _ _ _ _ (Or.inl rfl)).mono ?_
  rintro e w' ⟨rfl, rfl⟩
  cases hj1 : just false 30 n
  · go_wp2_with fail
    go_ret
    exact ⟨ret_bool (by simp_all [just]), hb1⟩
  go_wp2_with fail
  refine (isJust_any _ _ _ _ (Or.inr (Or.inl rfl))).mono ?_
  rintro e w' ⟨rfl, rfl⟩
  cases hj2 : just true 31 k
  · go_wp2_with fail
    go_ret
    exact ⟨ret_bool (by simp_all [just]), hb1⟩
  go_wp2_with fail
  refine (isJust_any _ _ _ _ (Or.inr (Or.inr rfl))).mono ?_
  rintro e w' ⟨rfl, rfl⟩
  cases hj3 : just false 32 f
  · go_wp2_with fail
    go_ret
    exact ⟨ret_bool (by simp_all [just]), hb1⟩
  cases hn : ((xs.length : Int) == 2)
  · go_wp2_with fail
    go_ret
    exact ⟨ret_bool (by rw [slB_not hn, Bool.and_false]), hb1⟩
  go_wp2_with fail
  refine (allOk_any _ _ xs _ (h.later hb1) hx).mono ?_
  rintro e w2 ⟨rfl, hb2⟩
  go_wp2_with fail
  go_ret
  refine ⟨ret_bool ?_, hb1.trans (hb2.mono (by simp; omega))⟩
  rw [slB_len hn]
  simp_all [just]

set_option maxHeartbeats 1000000 in
theorem implMsg6_any (n k f : Int) (a : Option Addr) (cap : Nat) (xs : List Sl) (w : World) (h : SRow w a xs) (hx : xs.length ≤ 2000000) (hf : Forms w) :
    Calls Tryz.prog 12 #[.agg #[.int .i64 6, .int .i64 n, .int .i64 k, .int .i64 f, .slice a xs.length cap]] w fun r w' => r = .returned (.bool (inB n 1 3 && (k == 0) && (f == 0) && slB xs 1)) ∧ Below w.heap.size w w' := by
  have hg0 := hf.cell 24 _ rfl
  have hg1 := hf.cell 25 _ rfl
  have hg2 := hf.cell 26 _ rfl
  have hg3 := hf.cell 27 _ rfl
  have hgl := hf.lt
  clear hf
  go_enter Tryz.func12, Tryz.ntmps12
  have hb1 : Below w.heap.size w ((w.alloc (.cells #[.int .i64 6, .int .i64 n, .int .i64 k, .int .i64 f, .slice a xs.length cap] 24)).alloc (.cells #[.bool true, .bool false, .bool false, .int .i64 1] 58)) := ((Below.refl _ _).alloc (Nat.le_refl _) _).alloc (by simp) _
  go_wp2_with fail
  refine (isJust_any _ _ _ _ (Or.inl rfl)).mono ?_
  rintro e w' ⟨rfl, rfl⟩
  cases hj1 : just true 30 n
  · go_wp2_with fail
    go_ret
    exact ⟨ret_bool (by simp_all [just]), hb1⟩
  go_wp2_with fail
  refine (isJust_any _ _ _ _ (Or.inr (Or.inl rfl))).mono ?_
  rintro e w' ⟨rfl, rfl⟩
  cases hj2 : just false 31 k
  · go_wp2_with fail
    go_ret
    exact ⟨ret_bool (by simp_all [just]), hb1⟩
  go_wp2_with fail
  refine (isJust_any _ _ _ _ (Or.inr (Or.inr rfl))).mono ?_
  rintro e w' ⟨rfl, rfl⟩
  cases hj3 : just false 32 f
  · go_wp2_with fail
    go_ret
    exact ⟨ret_bool (by simp_all [just]), hb1⟩
  cases hn : ((xs.length : Int) == 1)
  · go_wp2_with fail
    go_ret
    exact ⟨ret_bool (by rw [slB_not hn, Bool.and_false]), hb1⟩
  go_wp2_with fail
  refine (allOk_any _ _ xs _ (h.later hb1) hx).mono ?_
  rintro e w2 ⟨rfl, hb2⟩
  go_wp2_with fail
  go_ret
  refine ⟨ret_bool ?_, hb1.trans (hb2.mono (by simp; omega))⟩
  rw [slB_len hn]
  simp_all [just]

set_option maxHeartbeats 1000000 in
theorem implMsg0_any (m n k f : Int) (a : Option Addr) (cap : Nat) (xs : List Sl) (w : World) (h : m < 1 ∨ 6 < m) :
    Calls Tryz.prog 12 #[.agg #[.int .i64 m, .int .i64 n, .int .i64 k, .int .i64 f, .slice a xs.length cap]] w fun r w' => r = .returned (.bool false) ∧ Below w.heap.size w w' := by
  go_enter Tryz.func12, Tryz.ntmps12
  rcases h with h | h
  all_goals
    go_wp2_with fail
    go_ret
    exact ⟨rfl, (Below.refl _ _).alloc (Nat.le_refl _) _⟩

/-- The program's MsgOk: what the mathematics says, whatever the word. -/
theorem implMsg_any (m n k f : Int) (a : Option Addr) (cap : Nat) (xs : List Sl) (w : World) (h : SRow w a xs) (hx : xs.length ≤ 2000000) (hf : Forms w) :
    Calls Tryz.prog 12 #[.agg #[.int .i64 m, .int .i64 n, .int .i64 k, .int .i64 f, .slice a xs.length cap]] w fun r w' => r = .returned (.bool (msgB m n k f xs)) ∧ Below w.heap.size w w' := by
  unfold msgB
  by_cases h1 : m = 1
  · subst h1; simpa using implMsg1_any n k f a cap xs w h hx hf
  by_cases h2 : m = 2
  · subst h2; simpa using implMsg2_any n k f a cap xs w h hx hf
  by_cases h3 : m = 3
  · subst h3; simpa using implMsg3_any n k f a cap xs w h hx hf
  by_cases h4 : m = 4
  · subst h4; simpa using implMsg4_any n k f a cap xs w h hx hf
  by_cases h5 : m = 5
  · subst h5; simpa using implMsg5_any n k f a cap xs w h hx hf
  by_cases h6 : m = 6
  · subst h6; simpa using implMsg6_any n k f a cap xs w h hx hf
  simpa [h1, h2, h3, h4, h5, h6] using implMsg0_any m n k f a cap xs w (by omega)

end Go.Proofs.YtopikapamfmalaaGreatDoor
