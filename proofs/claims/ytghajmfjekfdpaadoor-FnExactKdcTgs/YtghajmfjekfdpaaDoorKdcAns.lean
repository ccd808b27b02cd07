/-
  What is given, and to whom: plain mathematics.
-/
import Derived.Test.YtghajmfjekfdpaaDoorKdcMJ
import Derived.Test.YtghajmfjekfdpaaDoorKdcLawJ
namespace Go.Proofs.YtghajmfjekfdpaaDoor

/-- A word in form asks so, and there is a key left. -/
def canB (kind n m cl sv nc : Int) (ys : List Sl) : Bool := (m == kind) && msgB m cl sv nc ys && decide (n ≤ 60)
/-- A ticket. -/
def tick (user peer held since until_ : Int) : Sl := ⟨peer, 1, user, peer, held, since, until_⟩
/-- A part. -/
def part (key peer held num until_ : Int) : Sl := ⟨key, 2, peer, held, num, until_, 0⟩
/-- A first ticket lasts so long. -/
def untilA (now : Int) : Int := if now + 12 < 100 then now + 12 else 100
/-- All arguments are ok. -/
def okA (n : Int) (xs : List Sl) (now : Int) : Bool := kdcB n xs && inB now 0 100
/-- KdcAs: whether. -/
def asB (n : Int) (xs : List Sl) (m cl sv nc : Int) (ys : List Sl) (now : Int) : Bool := okA n xs now && canB 1 n m cl sv nc ys
/-- KdcAs: the next key. -/
def asN (n : Int) (xs : List Sl) (m cl sv nc : Int) (ys : List Sl) (now : Int) : Int := if okA n xs now then (if canB 1 n m cl sv nc ys then n + 1 else n) else 0
/-- KdcAs: what is remembered. -/
def asX (n : Int) (xs : List Sl) (now : Int) : List Sl := if okA n xs now then xs else []
/-- KdcAs: the word's seals. -/
def asY (n : Int) (xs : List Sl) (m cl sv nc : Int) (ys : List Sl) (now : Int) : List Sl := if asB n xs m cl sv nc ys now then [tick cl 6 n now (untilA now), part cl 6 n nc (untilA now)] else []
/-- A number, if it is so. -/
def ifN (b : Bool) (n : Int) : Int := if b then n else 0

/-- One more, if it is so. -/
def upN (b : Bool) (n : Int) : Int := if b then n + 1 else n
/-- A list, if it is so. -/
def ifL (b : Bool) (l : List Sl) : List Sl := if b then l else []

end Go.Proofs.YtghajmfjekfdpaaDoor
