/-
  The specification's reading of a number of one to three figures: the number, or -1; nothing in memory is turned.
-/
import Derived.Test.YtopikapamfmalaaGreatDoorTextAny
import Derived.WalkSmall
namespace Go.Proofs.YtopikapamfmalaaGreatDoor
open Go.RowKit

/-- A number out of its figures, n read already. -/
def decGo (n : Int) : List UInt8 → Int
  | [] => n
  | c :: r => if c.toNat < 48 ∨ 57 < c.toNat then -1 else decGo (10 * n + (c.toNat - 48)) r
/-- A number of one to three figures; -1, if it is none. -/
def decI (s : ByteArray) : Int := if 1 ≤ s.size ∧ s.size ≤ 3 then decGo 0 s.data.toList else -1

theorem drop_at (s : ByteArray) (j : Nat) (h : j < s.size) : s.data.toList.drop j = s[j] :: s.data.toList.drop (j + 1) :=
  List.drop_eq_getElem_cons (by simpa using h)
theorem decGo_bad {s : ByteArray} {j : Nat} {m x : Int} (h : j < s.size) (hg : decGo m (s.data.toList.drop j) = x) (hb : (s[j].toNat : Int) < 48 ∨ (57 : Int) < s[j].toNat) : x = -1 := by
  rw [← hg, drop_at s j h, decGo, if_pos (by omega)]
theorem decGo_good {s : ByteArray} {j : Nat} {m x : Int} (h : j < s.size) (hg : decGo m (s.data.toList.drop j) = x) (hb : (48 : Int) ≤ s[j].toNat ∧ (s[j].toNat : Int) ≤ 57) : decGo (10 * m + ((s[j].toNat : Int) - 48)) (s.data.toList.drop (j + 1)) = x := by
  rw [← hg, drop_at s j h, decGo, if_neg (by omega)]

set_option maxHeartbeats 400000 in
theorem l1Dec_any (s : ByteArray) (w : World) (hs : s.size ≤ 2000000) :
    Calls Tryz.prog 15 #[.string s] w fun r w' => r = .returned (.int .i64 (decI s)) ∧ w' = w := by
  by_cases hb : 1 ≤ s.size ∧ s.size ≤ 3
  · have hin : inB (s.size : Int) 1 3 = true := by simp [inB]; omega
    have h1 : 1 ≤ s.size := hb.1
    have h3 : s.size ≤ 3 := hb.2
    have hd : decI s = decGo 0 s.data.toList := by simp [decI, hb]
    rw [hd]
    clear hd hb
    go_enter Tryz.func15, Tryz.ntmps15
    go_wp2_with fail
    refine (l6In_any _ _ _ _).mono ?_
    rintro r1 w1 ⟨rfl, rfl⟩
    rw [hin]
    clear hin
    go_wp2_with fail
    go_loopw [3, 4] (fun n i wr => ∃ (j : Nat) (m : Int), j ≤ s.size ∧ i = .int .i64 j ∧ n = .int .i64 m ∧ 0 ≤ m ∧ (j = 0 → m = 0) ∧ (j ≤ 1 → m ≤ 9) ∧ (j ≤ 2 → m ≤ 99) ∧ m ≤ 999 ∧ decGo m (s.data.toList.drop j) = decGo 0 s.data.toList ∧ wr = w1) (fun _ i _ => s.size - (intOf i).toNat)
    case atStart => exact ⟨0, 0, by omega, rfl, rfl, by omega, fun _ => rfl, by omega, by omega, by omega, by simp, rfl⟩
    case round =>
      obtain ⟨j, m, hj, rfl, rfl, m0, m1, m2, m3, m4, hg, rfl⟩ := hrel
      by_cases hlt : j < s.size
      · go_wp2_with fail
        · go_ret
          have hb : (s[j].toNat : Int) < 48 ∨ (57 : Int) < s[j].toNat := by assumption
          exact ⟨ret_int (decGo_bad hlt hg hb).symm, rfl⟩
        · go_roundw
          case rel =>
            have hb : (48 : Int) ≤ s[j].toNat ∧ (s[j].toNat : Int) ≤ 57 := by assumption
            refine ⟨j + 1, _, by omega, by go_num, rfl, by omega, by omega, ?_, ?_, by omega, decGo_good hlt hg hb, trivial⟩
            · intro h; have := m1 (by omega); omega
            · intro h; have := m2 (by omega); omega
          case measure => simp [intOf]; omega
        · go_ret
          have hb : (s[j].toNat : Int) < 48 := by assumption
          exact ⟨ret_int (decGo_bad hlt hg (Or.inl hb)).symm, rfl⟩
      · obtain rfl : j = s.size := by omega
        have hx : m = decGo 0 s.data.toList := by rw [← hg, List.drop_eq_nil_of_le (by simp)]; rfl
        go_wp2_with fail
        go_ret
        exact ⟨ret_int hx, rfl⟩
  · have hin : inB (s.size : Int) 1 3 = false := by simp [inB]; omega
    have hd : decI s = -1 := by simp [decI, hb]
    rw [hd]
    clear hd
    go_enter Tryz.func15, Tryz.ntmps15
    go_wp2_with fail
    refine (l6In_any _ _ _ _).mono ?_
    rintro r1 w1 ⟨rfl, rfl⟩
    rw [hin]
    go_wp2
    go_ret
    exact ⟨rfl, rfl⟩

end Go.Proofs.YtopikapamfmalaaGreatDoor
