/-
  When a seal is ok, as plain mathematics: its seven numbers meet the row of its kind. Nothing of the program is in this text.
-/
import Derived.Below
namespace Go.Proofs.YtimmfabaogeanaaDoor

/-- A number from lo to hi. -/
def inB (n lo hi : Int) : Bool := decide (lo ≤ n) && decide (n ≤ hi)
/-- A ticket's numbers. -/
def ok1 (k a b c d e : Int) : Bool := (k == b) && inB b 4 6 && inB a 1 3 && inB c 10 60 && inB d 0 100 && inB e 0 100
/-- A part's. -/
def ok2 (k a b c d e : Int) : Bool := (inB k 1 3 || inB k 10 60) && inB a 4 6 && inB b 10 60 && inB c 1 60 && inB d 0 100 && (e == 0)
/-- What one tells of oneself. -/
def ok3 (k a b c d e : Int) : Bool := inB k 10 60 && inB a 1 3 && inB b 0 100 && inB c 1 60 && (d == 0) && (e == 0)
/-- What is answered. -/
def ok4 (k a b c d e : Int) : Bool := inB k 10 60 && inB a 0 100 && inB b 1 60 && (c == 0) && (d == 0) && (e == 0)
/-- A seal is ok. -/
def okB (k t a b c d e : Int) : Bool :=
  if t = 1 then ok1 k a b c d e else if t = 2 then ok2 k a b c d e else if t = 3 then ok3 k a b c d e else if t = 4 then ok4 k a b c d e else false
/-- The key in a seal; 0, if there is none. -/
def holdsI (t b c : Int) : Int := if t = 1 then c else if t = 2 then b else 0

end Go.Proofs.YtimmfabaogeanaaDoor
