/-
  What the specification's writing of numbers does when it is called: the decimal digits of a number that is not below 0; nothing that was in memory is turned.
-/
import Derived.Test.YtopikapamfmalaaGreatDoorBaseJ
import Derived.Lib.ItoaNum
import Derived.Laws.IdiomStrings
namespace Go.Proofs.YtopikapamfmalaaGreatDoor
open Go.RowKit

/-- The figure of a number below 10. -/
def fig (m : Int) : UInt8 := UInt8.ofNat (48 + m.toNat)
theorem dec_small {n : Int} (h0 : 0 ≤ n) (h1 : n < 10) : Lib.decDigits n.toNat = [fig n] := by
  rw [Lib.decDigits, dif_pos (by omega)]; rfl
theorem dec_great {n : Int} (h : 10 ≤ n) : Lib.decDigits n.toNat = Lib.decDigits (n / 10).toNat ++ [fig (n % 10)] := by
  rw [Lib.decDigits, dif_neg (by omega)]
  have e1 : n.toNat / 10 = (n / 10).toNat := by omega
  have e2 : n.toNat % 10 = (n % 10).toNat := by omega
  rw [e1, e2]; rfl

/-- One byte, turned into a text of one letter. -/
theorem conv1 (m : Int) (h0 : 0 ≤ m) (h1 : m < 10) (b : Nat) (w : World) (hc : w.cell? ⟨b, 0, none⟩ = some (.int .u8 (48 + m))) :
    (convert 30 9 (.slice (some ⟨b, 0, none⟩) 1 1)).run Tryz.prog w = .ok (.string ⟨#[fig m]⟩) w := by
  refine run_convert_bytes_back w 30 9 5 ⟨b, 0, none⟩ 1 [fig m] Tryz.underlying30 Tryz.underlying5 Tryz.underlying9 ?_
  intro j hj
  obtain rfl : j = 0 := by simpa using hj
  have e : ((fig m).toNat : Int) = 48 + m := by unfold fig; simp; omega
  simp only [List.getElem_cons_zero, e]
  exact hc

set_option maxHeartbeats 400000 in
set_option maxRecDepth 100000 in
theorem l6Dec_lt10 (n : Int) (w : World) (h0 : 0 ≤ n) (h1 : n < 10) :
    Calls Tryz.prog 46 #[.int .i64 n] w fun e w' => e = .returned (.string ⟨(Lib.decDigits n.toNat).toArray⟩) ∧ Below w.heap.size w w' := by
  rw [dec_small h0 h1]
  have hc := conv1 n h0 h1
  go_enter Tryz.func46, Tryz.ntmps46
  go_wp2
  go_ret
  exact ⟨rfl, (Below.refl _ _).alloc (Nat.le_refl _) _⟩

end Go.Proofs.YtopikapamfmalaaGreatDoor
