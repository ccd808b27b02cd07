/-
  Who asks for a first ticket: what the program and the specification answer.
-/
import Derived.Test.YtaokgbdddgoonaaClCopy
import Derived.Test.YtaokgbdddgoonaaClOkJ
import Derived.Test.YtaokgbdddgoonaaClSpecB
import Derived.Test.YtaokgbdddgoonaaExLaw
import Derived.Test.YtaokgbdddgoonaaCaIndex
namespace Go.Proofs.Ytaokgbdddgoonaa
open Go.RowKit
attribute [local go_sem ↓] Go.wp_at_zero Go.wp_at_succ

/-- Stands ahead of a goal that is walked by hand. -/
theorem stopHere {p : Prop} (h : True → p) : p := h trivial
theorem clientB_num {i n : Int} {ws : List Wn} {cs : List Cd} {ss ms : List Ca} (h : clientB i n ws cs ss ms = true) : 0 ≤ n ∧ n ≤ 60 ∧ 1 ≤ i ∧ i ≤ 3 := by
  unfold clientB at h
  simp [inB] at h
  omega
/-- What a user answers: himself, a word, and whether he does. -/
structure ClA where
  i : Int
  n : Int
  W : List Wn
  C : List Cd
  S : List Ca
  M : List Ca
  k : Int
  c : Int
  s : Int
  f : Int
  Y : List Sl
  T : Bool
/-- This is answered, in memory of the call's own. -/
def ClRet (B : Nat) (w w' : World) (A : ClA) (r : Ending) : Prop := ∃ (b00 : Option Addr) (e00 : Nat) (b01 : Option Addr) (e01 : Nat) (b02 : Option Addr) (e02 : Nat) (b03 : Option Addr) (e03 : Nat) (b10 : Option Addr) (e10 : Nat), r = .returned (.tuple #[.agg #[.int .i64 A.i, .int .i64 A.n, .slice b00 A.W.length e00, .slice b01 A.C.length e01, .slice b02 A.S.length e02, .slice b03 A.M.length e03], .agg #[.int .i64 A.k, .int .i64 A.c, .int .i64 A.s, .int .i64 A.f, .slice b10 A.Y.length e10], .bool A.T]) ∧ Own4 w' B (.slice b00 A.W.length e00) (.slice b01 A.C.length e01) (.slice b02 A.S.length e02) (.slice b03 A.M.length e03) A.W A.C A.S A.M ∧ OwnS w' B (.slice b10 A.Y.length e10) A.Y ∧ Below B w w'
theorem OwnN.lessB {X : Type} {C : Cel X} {T : TypeId} {w : World} {B B' : Nat} {v : Value} {zs : List X} (h : OwnN C T w B v zs) (hb : B' ≤ B) : OwnN C T w B' v zs :=
  ⟨h.1, h.2.imp id fun ⟨g, cap, cur, e, h2, r⟩ => ⟨g, cap, cur, e, Nat.le_trans hb h2, r⟩⟩
theorem OwnS.lessB {w : World} {B B' : Nat} {v : Value} {zs : List Sl} (h : OwnS w B v zs) (hb : B' ≤ B) : OwnS w B' v zs :=
  ⟨h.1, h.2.imp id fun ⟨g, cap, cur, e, h2, r⟩ => ⟨g, cap, cur, e, Nat.le_trans hb h2, r⟩⟩
theorem Own4.lessB {w : World} {B B' : Nat} {v1 v2 v3 v4 : Value} {ws : List Wn} {cs : List Cd} {ss ms : List Ca} (h : Own4 w B v1 v2 v3 v4 ws cs ss ms) (hb : B' ≤ B) : Own4 w B' v1 v2 v3 v4 ws cs ss ms := ⟨h.o1.lessB hb, h.o2.lessB hb, h.o3.lessB hb, h.o4.lessB hb, h.ne⟩
theorem Own4.nil (w : World) (B : Nat) : Own4 w B (.slice none 0 0) (.slice none 0 0) (.slice none 0 0) (.slice none 0 0) [] [] [] [] := ⟨OwnN.zero _ _ _ _, OwnN.zero _ _ _ _, OwnN.zero _ _ _ _, OwnN.zero _ _ _ _, fun _ h => by cases h⟩
theorem OwnS.nilB (w : World) (B : Nat) : OwnS w B (.slice none 0 0) [] := World.ownsRow_nil _ _ _ _
/-- A user who does nothing, and one who is none. -/
def noA : ClA := ⟨0, 0, [], [], [], [], 0, 0, 0, 0, [], false⟩
def keepA (i n : Int) (ws : List Wn) (cs : List Cd) (ss ms : List Ca) : ClA := ⟨i, n, ws, cs, ss, ms, 0, 0, 0, 0, [], false⟩
/-- What is answered of who asks for a first ticket. -/
def askA (i n : Int) (ws : List Wn) (cs : List Cd) (ss ms : List Ca) : ClA := if n + 1 > 60 then keepA i n ws cs ss ms else ⟨i, n + 1, ws ++ [⟨6, n + 1⟩], cs, ss, ms, 1, i, 0, n + 1, [], true⟩
def asA (i n : Int) (ws : List Wn) (cs : List Cd) (ss ms : List Ca) : ClA := if clientB i n ws cs ss ms = true then (if n + 1 > 60 then keepA i n ws cs ss ms else ⟨i, n + 1, ws ++ [⟨6, n + 1⟩], cs, ss, ms, 1, i, 0, n + 1, [], true⟩) else noA
theorem bldMsg (w : World) (k c f : Int) : (Instr.build 41 #[(0, .int .i64 k), (1, .int .i64 c), (3, .int .i64 f)]).run Try.prog w = .ok (.agg #[.int .i64 k, .int .i64 c, .int .i64 0, .int .i64 f, .slice none 0 0]) w := by kernel_rfl
theorem bldMsgS (w : World) (k c f : Int) (g : Nat) : (Instr.build 41 #[(0, .int .i64 k), (1, .int .i64 c), (3, .int .i64 f), (4, .slice (some ⟨g, 0, none⟩) 0 0)]).run Try.prog w = .ok (.agg #[.int .i64 k, .int .i64 c, .int .i64 0, .int .i64 f, .slice (some ⟨g, 0, none⟩) 0 0]) w := by kernel_rfl
/-- Both results, zeroed or written: what stays. -/
theorem res2 {w : World} {R : Nat} {r0 r1 r2 r3 r4 r5 m0 m1 m2 m3 m4 : Value} (hr : ABlk 36 w R #[r0, r1, r2, r3, r4, r5]) (hm : ABlk 41 w (R + 1) #[m0, m1, m2, m3, m4]) (u0 u1 u2 u3 u4 u5 y0 y1 y2 y3 y4 : Value) :
    ∃ W, W = (((((((((((w.setCell ⟨R, 0, none⟩ u0).setCell ⟨R, 1, none⟩ u1).setCell ⟨R, 2, none⟩ u2).setCell ⟨R, 3, none⟩ u3).setCell ⟨R, 4, none⟩ u4).setCell ⟨R, 5, none⟩ u5).setCell ⟨R + 1, 0, none⟩ y0).setCell ⟨R + 1, 1, none⟩ y1).setCell ⟨R + 1, 2, none⟩ y2).setCell ⟨R + 1, 3, none⟩ y3).setCell ⟨R + 1, 4, none⟩ y4) ∧ GrL w W [some R, some (R + 1)] ∧ ABlk 36 W R #[u0, u1, u2, u3, u4, u5] ∧ ABlk 41 W (R + 1) #[y0, y1, y2, y3, y4] := by
  have g1 := put6_grl w R u0 u1 u2 u3 u4 u5
  have k1 := hr.put6 u0 u1 u2 u3 u4 u5
  have j1 := hm.grl g1 (by simp)
  generalize ((((((w.setCell ⟨R, 0, none⟩ u0).setCell ⟨R, 1, none⟩ u1).setCell ⟨R, 2, none⟩ u2).setCell ⟨R, 3, none⟩ u3).setCell ⟨R, 4, none⟩ u4).setCell ⟨R, 5, none⟩ u5) = V at g1 k1 j1 ⊢
  have g2 := put5_grl V (R + 1) y0 y1 y2 y3 y4
  have j2 := j1.put5 y0 y1 y2 y3 y4
  have k2 := k1.grl g2 (by simp)
  exact ⟨_, rfl, g1.trans g2, k2, j2⟩
theorem Own4.offs {w : World} {B R : Nat} {r m : Array Value} {v1 v2 v3 v4 : Value} {ws : List Wn} {cs : List Cd} {ss ms : List Ca} (h : Own4 w B v1 v2 v3 v4 ws cs ss ms) (hr : ABlk 36 w R r) (hm : ABlk 41 w (R + 1) m) : ∀ k, v1.ownBlock = some k ∨ v2.ownBlock = some k ∨ v3.ownBlock = some k ∨ v4.ownBlock = some k → some k ∉ [some R, some (R + 1)] := by
  intro k e hk
  have h1 := h.off hr (by decide) k e
  have h2 := h.off hm (by decide) k e
  simp at hk h1 h2
  omega
theorem OwnS.offs {w : World} {B R : Nat} {r m : Array Value} {v : Value} {zs : List Sl} (h : OwnS w B v zs) (hr : ABlk 36 w R r) (hm : ABlk 41 w (R + 1) m) : ∀ k, v.ownBlock = some k → some k ∉ [some R, some (R + 1)] := by
  intro k e hk
  have h1 := h.offB hr (by decide) k e
  have h2 := h.offB hm (by decide) k e
  simp at hk h1 h2
  omega

theorem wantNew1 (W : World) (s n : Int) : NRow celW (W.alloc (.cells #[.int .i64 s, .int .i64 n] 54)) (some ⟨W.heap.size, 0, none⟩) [⟨s, n⟩] := by
  refine Or.inr ⟨_, 0, rfl, by simp, fun j x hj => ?_⟩
  have e := numsAt_new W 54 [s, n]
  cases j with
  | zero => simp at hj; subst hj; exact e
  | succ j => simp at hj
theorem wantNew (W : World) (o : Obj) (s n : Int) : NRow celW ((W.alloc o).alloc (.cells #[.int .i64 s, .int .i64 n] 54)) (some ⟨W.heap.size + 1, 0, none⟩) [⟨s, n⟩] := by
  refine Or.inr ⟨_, 0, rfl, by simp, fun j x hj => ?_⟩
  have e := numsAt_new (W.alloc o) 54 [s, n]
  rw [World.size_alloc] at e
  cases j with
  | zero => simp at hj; subst hj; exact e
  | succ j => simp at hj

/-- What is known on the way through a region. -/
structure RgAs (w : World) (X B : Nat) (i n : Int) (a1 a2 a3 a4 b2 b3 b4 b5 : Option Addr) (c1 c2 c3 c4 e2 e3 e4 c5 : Nat) (WS : List Wn) (ws : List Wn) (cs : List Cd) (ss ms : List Ca)  (d : Nat → Bool) (s : Nat → Value) (w' : World) : Prop where
  bel : Below w.heap.size w w'
  ba : ABlk 36 w' (w.heap.size) #[.int .i64 i, .int .i64 n, .slice a1 ws.length c1, .slice a2 cs.length c2, .slice a3 ss.length c3, .slice a4 ms.length c4]
  nb : ABlk 36 w' (X) #[.int .i64 i, .int .i64 (n + 1), .slice b5 WS.length c5, .slice b2 cs.length e2, .slice b3 ss.length e3, .slice b4 ms.length e4]
  o4 : Own4 w' B (.slice b5 WS.length c5) (.slice b2 cs.length e2) (.slice b3 ss.length e3) (.slice b4 ms.length e4) WS cs ss ms
  r : ∃ x0 x1 x2 x3 x4 x5, ABlk 36 w' (w.heap.size + 1) #[x0, x1, x2, x3, x4, x5]
  rv : d 6 = true → ABlk 36 w' (w.heap.size + 1) #[.int .i64 i, .int .i64 (n + 1), .slice b5 WS.length c5, .slice b2 cs.length e2, .slice b3 ss.length e3, .slice b4 ms.length e4]
  m : ∃ y0 y1 y2 y3 y4, ABlk 41 w' (w.heap.size + 1 + 1) #[y0, y1, y2, y3, y4]
  mv : d 7 = true → ABlk 41 w' (w.heap.size + 1 + 1) #[.int .i64 1, .int .i64 i, .int .i64 0, .int .i64 (n + 1), .slice none 0 0]
  fw : d 5 = true → s 36 = Value.agg #[.int .i64 1, .int .i64 i, .int .i64 0, .int .i64 (n + 1), .slice none 0 0]
  ft : d 8 = true → s 4 = Value.bool true
  f0 : d 0 = true → s 31 = Value.agg #[.int .i64 i, .int .i64 (n + 1), .slice b5 WS.length c5, .slice b2 cs.length e2, .slice b3 ss.length e3, .slice b4 ms.length e4]
  f1 : d 1 = true → s 32 = Value.pointer (some ⟨w.heap.size, 0, none⟩)
  f2 : d 2 = true → s 33 = Value.int .i64 i
  f3 : d 3 = true → s 34 = Value.pointer (some ⟨X, 1, none⟩)
  f4 : d 4 = true → s 35 = Value.int .i64 (n + 1)
theorem RgAs.later {w : World} {X B : Nat} {i n : Int} {a1 a2 a3 a4 b2 b3 b4 b5 : Option Addr} {c1 c2 c3 c4 e2 e3 e4 c5 : Nat} {WS : List Wn} {ws : List Wn} {cs : List Cd} {ss ms : List Ca}  {d : Nat → Bool} {s : Nat → Value} {w1 w2 : World} (h : RgAs w X B i n a1 a2 a3 a4 b2 b3 b4 b5 c1 c2 c3 c4 e2 e3 e4 c5 WS ws cs ss ms d s w1) (hb : Below w1.heap.size w1 w2) : RgAs w X B i n a1 a2 a3 a4 b2 b3 b4 b5 c1 c2 c3 c4 e2 e3 e4 c5 WS ws cs ss ms d s w2 := by
  refine ⟨?_, ?_, ?_, ?_, ?_, ?_, ?_, ?_, h.fw, h.ft, h.f0, h.f1, h.f2, h.f3, h.f4⟩
  · exact h.bel.trans (hb.mono (by have h7 := h.bel.size; omega))
  · exact h.ba.later hb
  · exact h.nb.later hb
  · exact h.o4.later hb
  · obtain ⟨x0, x1, x2, x3, x4, x5, h1⟩ := h.r
    exact ⟨x0, x1, x2, x3, x4, x5, h1.later hb⟩
  · intro e
    exact (h.rv e).later hb
  · obtain ⟨y0, y1, y2, y3, y4, h1⟩ := h.m
    exact ⟨y0, y1, y2, y3, y4, h1.later hb⟩
  · intro e
    exact (h.mv e).later hb

end Go.Proofs.Ytaokgbdddgoonaa
