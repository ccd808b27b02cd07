/-
  The program's iterator over the lines of a text: each line up to its newline; what is behind the last newline comes with an error. For whatever body of a loop.
-/
import Derived.RangeFuncNested
import Derived.RangeFuncBound
import Derived.RangeFuncCalls
import Derived.RangeFuncLeaves
import Derived.Shelf.Abstract
import Derived.Shelf.RegionOpen
import Derived.WalkKit
import Derived.OwnWalkIn
import Derived.TacticsInMore
import Derived.LoopNIn
import Derived.LoopIn
import Derived.Test.YtopikapamfmalaaGreatDoorReadWords
namespace Go.Proofs.YtopikapamfmalaaGreatDoor
open Go.RowKit Go.Shelf
attribute [local go_sem] Oper.semAt_some

/-- A line, and whether it is open at its end. -/
abbrev Ln := { x : ByteArray // x.size ≤ 200 } × Bool
theorem cut_le (l : List UInt8) (n : Nat) (h : l.length ≤ n) : (Lib.cut l [10]).1.length ≤ n ∧ (Lib.cut l [10]).2.1.length ≤ n := by
  unfold Lib.cut
  split
  · simp; omega
  · simp; omega
theorem cut_lt (l : List UInt8) (h : l ≠ []) (hc : (Lib.cut l [10]).2.2 = true) : (Lib.cut l [10]).2.1.length < l.length := by
  unfold Lib.cut at hc ⊢
  split
  · have : 0 < l.length := List.length_pos_iff.2 h
    simp; omega
  · rename_i hn; rw [if_neg hn] at hc; cases hc
theorem len_size (s : ByteArray) : s.data.toList.length = s.size := by rw [Array.length_toList]; rfl
/-- The lines of a text. -/
def lns : Nat → (s : ByteArray) → s.size ≤ 200 → List Ln
  | 0, _, _ => []
  | n + 1, s, h =>
    if s.data.toList = [] then [] else
    if (Lib.cut s.data.toList [10]).2.2 then (⟨⟨(Lib.cut s.data.toList [10]).1.toArray⟩, (cut_le _ _ (by rw [len_size]; exact h)).1⟩, false) :: lns n ⟨(Lib.cut s.data.toList [10]).2.1.toArray⟩ (cut_le _ _ (by rw [len_size]; exact h)).2
    else [(⟨⟨(Lib.cut s.data.toList [10]).1.toArray⟩, (cut_le _ _ (by rw [len_size]; exact h)).1⟩, true)]
/-- As long as there is a rest. -/
def strLen : Value → Nat
  | .string s => s.size
  | _ => 0

theorem cutNl_any (s : ByteArray) (hs : s.size ≤ 200) (mx : Int) (w : World) (hm : w.cell? ⟨6, 0, none⟩ = some (.int .i64 mx)) :
    Calls Tryz.prog 67 #[.string s, .string ⟨#[10]⟩] w fun e w' => e = .returned (.tuple #[.string ⟨(Lib.cut s.data.toList [10]).1.toArray⟩, .string ⟨(Lib.cut s.data.toList [10]).2.1.toArray⟩, .bool (Lib.cut s.data.toList [10]).2.2]) ∧ ∃ n, w' = w.drewN n := by
  have L := Tryz.laysM145
  exact Any.strings_Cut { L with } s ⟨#[10]⟩ mx w (by omega) hm

/-- What is read while a body runs: the library's own number, and the error of an open line. -/
structure Wn (p1 : Option Addr) (mx : Int) (n₀ : Nat) (W : World) : Prop where
  mxc : W.cell? ⟨6, 0, none⟩ = some (.int .i64 mx)
  opn : W.cell? ⟨2, 0, none⟩ = some (.iface 179 (.pointer p1))
  l1 : 6 < n₀
  l2 : 2 < n₀
theorem Wn.keep {p1 : Option Addr} {mx : Int} {n₀ : Nat} {W W' : World} (h : Wn p1 mx n₀ W) (k : Below n₀ W W') : Wn p1 mx n₀ W' :=
  ⟨(k.cell (p := ⟨_, 0, none⟩) h.l1).trans h.mxc, (k.cell (p := ⟨_, 0, none⟩) h.l2).trans h.opn, h.l1, h.l2⟩

set_option maxHeartbeats 2000000 in
set_option maxRecDepth 100000 in
theorem lines_in (n : Nat) (hn : 3 ≤ n) (l Bt n₀ : Nat) (p1 : Option Addr) (mx : Int) (s : ByteArray) (hs : s.size ≤ 200) (J Jx : List Ln → World → Prop)
    (hJ : ∀ pre W k, J pre W → J pre (W.drewN k))
    (hY : ∀ pre x W, J pre W → pre.length < 201 → YieldAt Fence.wide (n - 1) Tryz.prog l #[.string x.1.1, if x.2 then .iface 179 (.pointer p1) else .nilIface] W fun e W' =>
      (e = .returned (.bool true) ∧ J (pre ++ [x]) W' ∧ Below n₀ W W') ∨ (e = .returned (.bool false) ∧ Jx (pre ++ [x]) W'))
    (W : World) (hBt : W.cell? ⟨Bt, 0, none⟩ = some (.string s)) (hw : Wn p1 mx n₀ W) (h0 : J [] W) :
    CallsIn Fence.wide n Tryz.prog 66 #[.func (.yield l) #[] #[], .pointer (some ⟨Bt, 0, none⟩)] W fun e W' => (∃ v, e = .returned v) ∧
      ((∃ ys, ys = lns 201 s hs ∧ J ys W') ∨ (∃ pre, pre <+: lns 201 s hs ∧ Jx pre W')) := by
  obtain ⟨LL, hLL⟩ : ∃ LL, lns 201 s hs = LL := ⟨_, rfl⟩
  rw [hLL]
  refine callsIn_of_wp Tryz.func66 rfl trivial ?_ rfl
  simp only [Tryz.ntmps66, List.size_toArray, List.length_cons, List.length_nil, Nat.reduceAdd, Nat.reduceSub, Array.replicate_succ, Array.replicate_zero, List.push_toArray, List.append_toArray, List.nil_append, List.cons_append]
  gi_wp2
  gi_loopw [3, 4, 5, 6] (fun r _ _ _ wr => ∃ (j : Nat) (rest : ByteArray) (hr : rest.size ≤ 200) (pre : List Ln), r = .string rest ∧ j ≤ 200 ∧ rest.size ≤ 200 - j ∧ pre.length = j ∧ LL = pre ++ lns (201 - j) rest hr ∧ Wn p1 mx n₀ wr ∧ J pre wr)
    (fun r _ _ _ _ => strLen r)
  case atStart =>
    exact ⟨0, s, hs, [], rfl, by omega, by omega, rfl, by simp [hLL], hw, h0⟩
  case round =>
    obtain ⟨j, rest, hr, pre, rfl, hj, hrj, hpl, hx, hwr, hJs⟩ := hrel
    by_cases he : rest.data.toList = []
    · have he1 : rest.toList = [] := by rw [ByteArray.toList_eq]; exact he
      have he2 : rest.toList.isEmpty = true := by rw [he1]; rfl
      gi_wp2
      go_end0
      refine ⟨⟨_, rfl⟩, .inl ⟨pre, ?_, hJs⟩⟩
      rw [hx]
      obtain ⟨q, hq⟩ : ∃ q, 201 - j = q + 1 := ⟨200 - j, by omega⟩
      rw [hq, lns, if_pos he, List.append_nil]
    · have he1 : ¬ rest.toList = [] := by rw [ByteArray.toList_eq]; exact he
      have he2 : rest.toList.isEmpty = false := by cases h : rest.toList with | nil => exact absurd h he1 | cons => rfl
      obtain ⟨q, hq⟩ : ∃ q, 201 - j = q + 1 := ⟨200 - j, by omega⟩
      rw [hq, lns, if_neg he] at hx
      have hrp : 0 < rest.size := by rw [← len_size]; exact List.length_pos_iff.2 he
      have hcl := cut_le rest.data.toList 200 (by rw [len_size]; exact hr)
      have hct := cut_lt rest.data.toList he
      have hcut := callsIn_wide (n := n - 1) |>.2 (cutNl_any rest hr mx wr hwr.mxc)
      obtain ⟨X, hX⟩ : ∃ X : ByteArray, X = ⟨(Lib.cut rest.data.toList [10]).1.toArray⟩ := ⟨_, rfl⟩
      obtain ⟨Y, hY2⟩ : ∃ Y : ByteArray, Y = ⟨(Lib.cut rest.data.toList [10]).2.1.toArray⟩ := ⟨_, rfl⟩
      have hXs : X.size ≤ 200 := by rw [hX]; exact hcl.1
      have hYs : Y.size ≤ 200 := by rw [hY2]; exact hcl.2
      rw [← hX, ← hY2] at hcut
      cases hc : (Lib.cut rest.data.toList [10]).2.2
      · have hx1 : LL = pre ++ [(⟨X, hXs⟩, true)] := by rw [hx, hc, if_neg (by simp)]; subst hX; rfl
        rw [hc] at hcut
        clear hx hct hcl hX hY2 hc
        gi_wp2_with fail
        refine ⟨trivial, fun _ => by omega, ?_⟩
        refine hcut.mono ?_
        rintro e w2 ⟨rfl, k, rfl⟩
        clear hcut
        have hw2 : Wn p1 mx n₀ (wr.drewN k) := ⟨hwr.mxc, hwr.opn, hwr.l1, hwr.l2⟩
        have ho := hw2.opn
        obtain ⟨fn, tmps, assign, body, hy, hR⟩ := hY pre (⟨X, hXs⟩, true) (wr.drewN k) (hJ _ _ _ hJs) (by omega)
        simp only [if_true] at hy
        gi_wp2_with fail
        refine ⟨fun _ => by omega, ?_⟩
        refine hR.mono ?_
        rintro e W3 (⟨rfl, hJ3, hk3⟩ | ⟨rfl, hJx3⟩)
        · gi_wp2
          refine bodyPost_ret (results_none rfl _ _ _) rfl ?_
          exact ⟨⟨_, rfl⟩, .inl ⟨_, hx1.symm, hJ3⟩⟩
        · gi_wp2
          refine bodyPost_ret (results_none rfl _ _ _) rfl ?_
          exact ⟨⟨_, rfl⟩, .inr ⟨_, ⟨[], by rw [hx1, List.append_nil]⟩, hJx3⟩⟩
      · have hx1 : LL = (pre ++ [(⟨X, hXs⟩, false)]) ++ lns q Y hYs := by rw [hx, hc, if_pos rfl, List.append_assoc]; subst hX hY2; rfl
        have hlt : Y.size < rest.size := by rw [hY2, ← len_size rest]; exact hct hc
        rw [hc] at hcut
        clear hx hct hcl hX hY2 hc
        gi_wp2_with fail
        refine ⟨trivial, fun _ => by omega, ?_⟩
        refine hcut.mono ?_
        rintro e w2 ⟨rfl, k, rfl⟩
        clear hcut
        have hw2 : Wn p1 mx n₀ (wr.drewN k) := ⟨hwr.mxc, hwr.opn, hwr.l1, hwr.l2⟩
        obtain ⟨fn, tmps, assign, body, hy, hR⟩ := hY pre (⟨X, hXs⟩, false) (wr.drewN k) (hJ _ _ _ hJs) (by omega)
        simp only [Bool.false_eq_true, if_false] at hy
        gi_wp2_with fail
        refine ⟨fun _ => by omega, ?_⟩
        refine hR.mono ?_
        rintro e W3 (⟨rfl, hJ3, hk3⟩ | ⟨rfl, hJx3⟩)
        · gi_wp2
          go_roundw
          case rel =>
            refine ⟨j + 1, Y, hYs, _, rfl, by omega, by omega, by simp [hpl], ?_, hw2.keep hk3, hJ3⟩
            rw [show 201 - (j + 1) = q by omega]; exact hx1
          case measure => exact hlt
        · gi_wp2
          refine bodyPost_ret (results_none rfl _ _ _) rfl ?_
          exact ⟨⟨_, rfl⟩, .inr ⟨_, ⟨_, hx1.symm⟩, hJx3⟩⟩

end Go.Proofs.YtopikapamfmalaaGreatDoor
