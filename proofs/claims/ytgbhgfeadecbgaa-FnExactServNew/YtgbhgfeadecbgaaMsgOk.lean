/-
  When a word is in form, as plain mathematics, and that the specification's MsgOk and the program's answer so, whatever the word; nothing that was in memory is turned. The program's one wants its table of forms as its text lays it.
-/
import Derived.Test.YtgbhgfeadecbgaaMsgRow
namespace Go.Proofs.Ytgbhgfeadecbgaa
open Go.RowKit

/-- So many seals, all ok. -/
def slB (xs : List Sl) (many : Int) : Bool := xs.all Sl.ok && decide ((xs.length : Int) = many)
theorem slB_not {xs : List Sl} {q : Int} (h : ((xs.length : Int) == q) = false) : slB xs q = false := by
  have h' : ¬ (xs.length : Int) = q := by simpa using h
  simp only [slB, decide_eq_false h', Bool.and_false]
theorem slB_len {xs : List Sl} {q : Int} (h : ((xs.length : Int) == q) = true) : slB xs q = xs.all Sl.ok := by
  have h' : (xs.length : Int) = q := by simpa using h
  simp only [slB, decide_eq_true h', Bool.and_true]
/-- A word is in form: its kind, user, service, number, seals. -/
def msgB (m n k f : Int) (xs : List Sl) : Bool :=
  if m = 1 then inB n 1 3 && (k == 0) && inB f 1 60 && slB xs 0
  else if m = 2 then inB n 1 3 && (k == 0) && (f == 0) && slB xs 2
  else if m = 3 then (n == 0) && inB k 4 5 && inB f 1 60 && slB xs 2
  else if m = 4 then inB n 1 3 && (k == 0) && (f == 0) && slB xs 2
  else if m = 5 then (n == 0) && inB k 4 5 && (f == 0) && slB xs 2
  else if m = 6 then inB n 1 3 && (k == 0) && (f == 0) && slB xs 1
  else false

set_option maxHeartbeats 400000 in
theorem l1Serv_any (n : Int) (w : World) :
    Calls Try.prog 17 #[.int .i64 n] w fun e w' => e = .returned (.bool (inB n 4 5)) ∧ w' = w := by
  go_enter Try.func17, Try.ntmps17
  go_wp2_with (go_at_call 27; refine (l6In_any _ _ _ _).mono ?_; rintro e w' ⟨rfl, rfl⟩)
  go_ret
  exact ⟨rfl, rfl⟩

/-- The table of forms, cell by cell. -/
def formCells : List Value := [.bool false, .bool false, .bool false, .int .i64 0, .bool true, .bool false, .bool true, .int .i64 0, .bool true, .bool false, .bool false, .int .i64 2, .bool false, .bool true, .bool true, .int .i64 2,
  .bool true, .bool false, .bool false, .int .i64 2, .bool false, .bool true, .bool false, .int .i64 2, .bool true, .bool false, .bool false, .int .i64 1]
/-- A number is such a one, if there is to be one, and else it is 0; which ones, by the function that is handed over. -/
def just (b : Bool) (g : Nat) (n : Int) : Bool := if b then (if g = 52 then inB n 1 3 else if g = 18 then inB n 4 5 else inB n 1 60) else n == 0
end Go.Proofs.Ytgbhgfeadecbgaa
