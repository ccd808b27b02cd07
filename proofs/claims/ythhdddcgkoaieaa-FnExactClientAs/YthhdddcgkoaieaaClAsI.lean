/-
  Who asks for a first ticket: what the program and the specification answer.
-/
import Derived.Test.YthhdddcgkoaieaaClCopy
import Derived.Test.YthhdddcgkoaieaaClientOkI
import Derived.Test.YthhdddcgkoaieaaClSpecB
import Derived.Test.YthhdddcgkoaieaaExLaw
import Derived.Test.YthhdddcgkoaieaaCaIndex
namespace Go.Proofs.Ythhdddcgkoaieaa
open Go.RowKit
attribute [local go_sem ↓] Go.wp_at_zero Go.wp_at_succ

/-- Stands ahead of a goal that is walked by hand. -/
theorem stopHere {p : Prop} (h : True → p) : p := h trivial
theorem clientB_num {i n : Int} {ws : List Wn} {cs : List Cd} {ss ms : List Ca} (h : clientB i n ws cs ss ms = true) : 0 ≤ n ∧ n ≤ 60 ∧ 1 ≤ i ∧ i ≤ 3 := by
  unfold clientB at h
  simp [inB] at h
  omega
/-- What a user answers: himself, a word, and whether he does. -/
structure ClA where
  i : Int
  n : Int
  W : List Wn
  C : List Cd
  S : List Ca
  M : List Ca
  k : Int
  c : Int
  s : Int
  f : Int
  Y : List Sl
  T : Bool
/-- This is answered, in memory of the call's own. -/
def ClRet (B : Nat) (w w' : World) (A : ClA) (r : Ending) : Prop := ∃ (b00 : Option Addr) (e00 : Nat) (b01 : Option Addr) (e01 : Nat) (b02 : Option Addr) (e02 : Nat) (b03 : Option Addr) (e03 : Nat) (b10 : Option Addr) (e10 : Nat), r = .returned (.tuple #[.agg #[.int .i64 A.i, .int .i64 A.n, .slice b00 A.W.length e00, .slice b01 A.C.length e01, .slice b02 A.S.length e02, .slice b03 A.M.length e03], .agg #[.int .i64 A.k, .int .i64 A.c, .int .i64 A.s, .int .i64 A.f, .slice b10 A.Y.length e10], .bool A.T]) ∧ Own4 w' B (.slice b00 A.W.length e00) (.slice b01 A.C.length e01) (.slice b02 A.S.length e02) (.slice b03 A.M.length e03) A.W A.C A.S A.M ∧ OwnS w' B (.slice b10 A.Y.length e10) A.Y ∧ Below B w w'
theorem OwnN.lessB {X : Type} {C : Cel X} {T : TypeId} {w : World} {B B' : Nat} {v : Value} {zs : List X} (h : OwnN C T w B v zs) (hb : B' ≤ B) : OwnN C T w B' v zs :=
  ⟨h.1, h.2.imp id fun ⟨g, cap, cur, e, h2, r⟩ => ⟨g, cap, cur, e, Nat.le_trans hb h2, r⟩⟩
theorem OwnS.lessB {w : World} {B B' : Nat} {v : Value} {zs : List Sl} (h : OwnS w B v zs) (hb : B' ≤ B) : OwnS w B' v zs :=
  ⟨h.1, h.2.imp id fun ⟨g, cap, cur, e, h2, r⟩ => ⟨g, cap, cur, e, Nat.le_trans hb h2, r⟩⟩
theorem Own4.lessB {w : World} {B B' : Nat} {v1 v2 v3 v4 : Value} {ws : List Wn} {cs : List Cd} {ss ms : List Ca} (h : Own4 w B v1 v2 v3 v4 ws cs ss ms) (hb : B' ≤ B) : Own4 w B' v1 v2 v3 v4 ws cs ss ms := ⟨h.o1.lessB hb, h.o2.lessB hb, h.o3.lessB hb, h.o4.lessB hb, h.ne⟩
theorem Own4.nil (w : World) (B : Nat) : Own4 w B (.slice none 0 0) (.slice none 0 0) (.slice none 0 0) (.slice none 0 0) [] [] [] [] := ⟨OwnN.zero _ _ _ _, OwnN.zero _ _ _ _, OwnN.zero _ _ _ _, OwnN.zero _ _ _ _, fun _ h => by cases h⟩
theorem OwnS.nilB (w : World) (B : Nat) : OwnS w B (.slice none 0 0) [] := World.ownsRow_nil _ _ _ _
/-- A user who does nothing, and one who is none. -/
def noA : ClA := ⟨0, 0, [], [], [], [], 0, 0, 0, 0, [], false⟩
def keepA (i n : Int) (ws : List Wn) (cs : List Cd) (ss ms : List Ca) : ClA := ⟨i, n, ws, cs, ss, ms, 0, 0, 0, 0, [], false⟩
/-- What is answered of who asks for a first ticket. -/
def askA (i n : Int) (ws : List Wn) (cs : List Cd) (ss ms : List Ca) : ClA := if n + 1 > 60 then keepA i n ws cs ss ms else ⟨i, n + 1, ws ++ [⟨6, n + 1⟩], cs, ss, ms, 1, i, 0, n + 1, [], true⟩
def asA (i n : Int) (ws : List Wn) (cs : List Cd) (ss ms : List Ca) : ClA := if clientB i n ws cs ss ms = true then (if n + 1 > 60 then keepA i n ws cs ss ms else ⟨i, n + 1, ws ++ [⟨6, n + 1⟩], cs, ss, ms, 1, i, 0, n + 1, [], true⟩) else noA
theorem bldMsg (w : World) (k c f : Int) : (Instr.build 35 #[(0, .int .i64 k), (1, .int .i64 c), (3, .int .i64 f)]).run Try.prog w = .ok (.agg #[.int .i64 k, .int .i64 c, .int .i64 0, .int .i64 f, .slice none 0 0]) w := by kernel_rfl
theorem bldMsgS (w : World) (k c f : Int) (g : Nat) : (Instr.build 35 #[(0, .int .i64 k), (1, .int .i64 c), (3, .int .i64 f), (4, .slice (some ⟨g, 0, none⟩) 0 0)]).run Try.prog w = .ok (.agg #[.int .i64 k, .int .i64 c, .int .i64 0, .int .i64 f, .slice (some ⟨g, 0, none⟩) 0 0]) w := by kernel_rfl
/-- Both results, zeroed or written: what stays. -/
theorem res2 {w : World} {R : Nat} {r0 r1 r2 r3 r4 r5 m0 m1 m2 m3 m4 : Value} (hr : ABlk 32 w R #[r0, r1, r2, r3, r4, r5]) (hm : ABlk 35 w (R + 1) #[m0, m1, m2, m3, m4]) (u0 u1 u2 u3 u4 u5 y0 y1 y2 y3 y4 : Value) :
    ∃ W, W = (((((((((((w.setCell ⟨R, 0, none⟩ u0).setCell ⟨R, 1, none⟩ u1).setCell ⟨R, 2, none⟩ u2).setCell ⟨R, 3, none⟩ u3).setCell ⟨R, 4, none⟩ u4).setCell ⟨R, 5, none⟩ u5).setCell ⟨R + 1, 0, none⟩ y0).setCell ⟨R + 1, 1, none⟩ y1).setCell ⟨R + 1, 2, none⟩ y2).setCell ⟨R + 1, 3, none⟩ y3).setCell ⟨R + 1, 4, none⟩ y4) ∧ GrL w W [some R, some (R + 1)] ∧ ABlk 32 W R #[u0, u1, u2, u3, u4, u5] ∧ ABlk 35 W (R + 1) #[y0, y1, y2, y3, y4] := by
  have g1 := put6_grl w R u0 u1 u2 u3 u4 u5
  have k1 := hr.put6 u0 u1 u2 u3 u4 u5
  have j1 := hm.grl g1 (by simp)
  generalize ((((((w.setCell ⟨R, 0, none⟩ u0).setCell ⟨R, 1, none⟩ u1).setCell ⟨R, 2, none⟩ u2).setCell ⟨R, 3, none⟩ u3).setCell ⟨R, 4, none⟩ u4).setCell ⟨R, 5, none⟩ u5) = V at g1 k1 j1 ⊢
  have g2 := put5_grl V (R + 1) y0 y1 y2 y3 y4
  have j2 := j1.put5 y0 y1 y2 y3 y4
  have k2 := k1.grl g2 (by simp)
  exact ⟨_, rfl, g1.trans g2, k2, j2⟩
theorem Own4.offs {w : World} {B R : Nat} {r m : Array Value} {v1 v2 v3 v4 : Value} {ws : List Wn} {cs : List Cd} {ss ms : List Ca} (h : Own4 w B v1 v2 v3 v4 ws cs ss ms) (hr : ABlk 32 w R r) (hm : ABlk 35 w (R + 1) m) : ∀ k, v1.ownBlock = some k ∨ v2.ownBlock = some k ∨ v3.ownBlock = some k ∨ v4.ownBlock = some k → some k ∉ [some R, some (R + 1)] := by
  intro k e hk
  have h1 := h.off hr (by decide) k e
  have h2 := h.off hm (by decide) k e
  simp at hk h1 h2
  omega
theorem OwnS.offs {w : World} {B R : Nat} {r m : Array Value} {v : Value} {zs : List Sl} (h : OwnS w B v zs) (hr : ABlk 32 w R r) (hm : ABlk 35 w (R + 1) m) : ∀ k, v.ownBlock = some k → some k ∉ [some R, some (R + 1)] := by
  intro k e hk
  have h1 := h.offB hr (by decide) k e
  have h2 := h.offB hm (by decide) k e
  simp at hk h1 h2
  omega

theorem wantNew1 (W : World) (s n : Int) : NRow celW (W.alloc (.cells #[.int .i64 s, .int .i64 n] 55)) (some ⟨W.heap.size, 0, none⟩) [⟨s, n⟩] := by
  refine Or.inr ⟨_, 0, rfl, by simp, fun j x hj => ?_⟩
  have e := numsAt_new W 55 [s, n]
  cases j with
  | zero => simp at hj; subst hj; exact e
  | succ j => simp at hj
theorem wantNew (W : World) (o : Obj) (s n : Int) : NRow celW ((W.alloc o).alloc (.cells #[.int .i64 s, .int .i64 n] 55)) (some ⟨W.heap.size + 1, 0, none⟩) [⟨s, n⟩] := by
  refine Or.inr ⟨_, 0, rfl, by simp, fun j x hj => ?_⟩
  have e := numsAt_new (W.alloc o) 55 [s, n]
  rw [World.size_alloc] at e
  cases j with
  | zero => simp at hj; subst hj; exact e
  | succ j => simp at hj

/-- What is known on the way through a region. -/
structure RgAs (w : World) (X B : Nat) (i n : Int) (a1 a2 a3 a4 b2 b3 b4 b5 : Option Addr) (c1 c2 c3 c4 e2 e3 e4 c5 : Nat) (WS : List Wn) (ws : List Wn) (cs : List Cd) (ss ms : List Ca)  (d : Nat → Bool) (s : Nat → Value) (w' : World) : Prop where
  bel : Below w.heap.size w w'
  ba : ABlk 32 w' (w.heap.size) #[.int .i64 i, .int .i64 n, .slice a1 ws.length c1, .slice a2 cs.length c2, .slice a3 ss.length c3, .slice a4 ms.length c4]
  nb : ABlk 32 w' (X) #[.int .i64 i, .int .i64 (n + 1), .slice b5 WS.length c5, .slice b2 cs.length e2, .slice b3 ss.length e3, .slice b4 ms.length e4]
  o4 : Own4 w' B (.slice b5 WS.length c5) (.slice b2 cs.length e2) (.slice b3 ss.length e3) (.slice b4 ms.length e4) WS cs ss ms
  r : ∃ x0 x1 x2 x3 x4 x5, ABlk 32 w' (w.heap.size + 1) #[x0, x1, x2, x3, x4, x5]
  rv : d 6 = true → ABlk 32 w' (w.heap.size + 1) #[.int .i64 i, .int .i64 (n + 1), .slice b5 WS.length c5, .slice b2 cs.length e2, .slice b3 ss.length e3, .slice b4 ms.length e4]
  m : ∃ y0 y1 y2 y3 y4, ABlk 35 w' (w.heap.size + 1 + 1) #[y0, y1, y2, y3, y4]
  mv : d 7 = true → ABlk 35 w' (w.heap.size + 1 + 1) #[.int .i64 1, .int .i64 i, .int .i64 0, .int .i64 (n + 1), .slice none 0 0]
  fw : d 5 = true → s 36 = Value.agg #[.int .i64 1, .int .i64 i, .int .i64 0, .int .i64 (n + 1), .slice none 0 0]
  ft : d 8 = true → s 4 = Value.bool true
  f0 : d 0 = true → s 31 = Value.agg #[.int .i64 i, .int .i64 (n + 1), .slice b5 WS.length c5, .slice b2 cs.length e2, .slice b3 ss.length e3, .slice b4 ms.length e4]
  f1 : d 1 = true → s 32 = Value.pointer (some ⟨w.heap.size, 0, none⟩)
  f2 : d 2 = true → s 33 = Value.int .i64 i
  f3 : d 3 = true → s 34 = Value.pointer (some ⟨X, 1, none⟩)
  f4 : d 4 = true → s 35 = Value.int .i64 (n + 1)
theorem RgAs.later {w : World} {X B : Nat} {i n : Int} {a1 a2 a3 a4 b2 b3 b4 b5 : Option Addr} {c1 c2 c3 c4 e2 e3 e4 c5 : Nat} {WS : List Wn} {ws : List Wn} {cs : List Cd} {ss ms : List Ca}  {d : Nat → Bool} {s : Nat → Value} {w1 w2 : World} (h : RgAs w X B i n a1 a2 a3 a4 b2 b3 b4 b5 c1 c2 c3 c4 e2 e3 e4 c5 WS ws cs ss ms d s w1) (hb : Below w1.heap.size w1 w2) : RgAs w X B i n a1 a2 a3 a4 b2 b3 b4 b5 c1 c2 c3 c4 e2 e3 e4 c5 WS ws cs ss ms d s w2 := by
  refine ⟨?_, ?_, ?_, ?_, ?_, ?_, ?_, ?_, h.fw, h.ft, h.f0, h.f1, h.f2, h.f3, h.f4⟩
  · exact h.bel.trans (hb.mono (by have h7 := h.bel.size; omega))
  · exact h.ba.later hb
  · exact h.nb.later hb
  · exact h.o4.later hb
  · obtain ⟨x0, x1, x2, x3, x4, x5, h1⟩ := h.r
    exact ⟨x0, x1, x2, x3, x4, x5, h1.later hb⟩
  · intro e
    exact (h.rv e).later hb
  · obtain ⟨y0, y1, y2, y3, y4, h1⟩ := h.m
    exact ⟨y0, y1, y2, y3, y4, h1.later hb⟩
  · intro e
    exact (h.mv e).later hb

set_option maxHeartbeats 8000000 in
set_option maxRecDepth 100000 in
theorem implClientAs_any (i n : Int) (a1 a2 a3 a4 : Option Addr) (c1 c2 c3 c4 : Nat) (ws : List Wn) (cs : List Cd) (ss ms : List Ca) (w : World) (h : CRows w a1 a2 a3 a4 ws cs ss ms) (hc4 : ms.length ≤ c4) (hx1 : ws.length ≤ 1048576) (hx2 : cs.length ≤ 1048576) (hx3 : ss.length ≤ 1048576) (hx4 : ms.length ≤ 1048576) :
    Calls Try.prog 9 #[.agg #[.int .i64 i, .int .i64 n, .slice a1 ws.length c1, .slice a2 cs.length c2, .slice a3 ss.length c3, .slice a4 ms.length c4]] w fun r w' => ClRet w.heap.size w w' (asA i n ws cs ss ms) r := by
  obtain ⟨W, hW⟩ : ∃ W, W = (((w.alloc (.cells #[.int .i64 i, .int .i64 n, .slice a1 ws.length c1, .slice a2 cs.length c2, .slice a3 ss.length c3, .slice a4 ms.length c4] 32)).alloc (.cells #[.int .i64 0, .int .i64 0, .slice none 0 0, .slice none 0 0, .slice none 0 0, .slice none 0 0] 32)).alloc (.cells #[.int .i64 0, .int .i64 0, .int .i64 0, .int .i64 0, .slice none 0 0] 35)) := ⟨_, rfl⟩
  have HB : Hid (ABlk 32 W w.heap.size #[.int .i64 i, .int .i64 n, .slice a1 ws.length c1, .slice a2 cs.length c2, .slice a3 ss.length c3, .slice a4 ms.length c4] ∧ ABlk 32 W (w.heap.size + 1) #[.int .i64 0, .int .i64 0, .slice none 0 0, .slice none 0 0, .slice none 0 0, .slice none 0 0] ∧ ABlk 35 W (w.heap.size + 1 + 1) #[.int .i64 0, .int .i64 0, .int .i64 0, .int .i64 0, .slice none 0 0] ∧ Below w.heap.size w W ∧ CRows W a1 a2 a3 a4 ws cs ss ms) := by
    have hb : Below w.heap.size w W := by
      rw [hW]
      exact (((Below.refl _ _).alloc (Nat.le_refl _) _).alloc (by simp) _).alloc (by simp; omega) _
    refine ⟨?_, ?_, ?_, hb, h.later hb⟩
    · rw [hW]
      exact ((ABlk.new _ _ _).later (Below.alloc_ _ _)).later (Below.alloc_ _ _)
    · rw [hW]
      have e := ABlk.new (w.alloc (.cells #[.int .i64 i, .int .i64 n, .slice a1 ws.length c1, .slice a2 cs.length c2, .slice a3 ss.length c3, .slice a4 ms.length c4] 32)) 32 #[.int .i64 0, .int .i64 0, .slice none 0 0, .slice none 0 0, .slice none 0 0, .slice none 0 0]
      rw [World.size_alloc] at e
      exact e.later (Below.alloc_ _ _)
    · rw [hW]
      have e := ABlk.new ((w.alloc (.cells #[.int .i64 i, .int .i64 n, .slice a1 ws.length c1, .slice a2 cs.length c2, .slice a3 ss.length c3, .slice a4 ms.length c4] 32)).alloc (.cells #[.int .i64 0, .int .i64 0, .slice none 0 0, .slice none 0 0, .slice none 0 0, .slice none 0 0] 32)) 35 #[.int .i64 0, .int .i64 0, .int .i64 0, .int .i64 0, .slice none 0 0]
      rw [World.size_alloc, World.size_alloc] at e
      exact e
  clear h
  go_enter Try.func9, Try.ntmps9
  go_wp2_with fail
  rw [← hW]
  clear hW
  refine (implClientOk_any i n _ _ _ _ _ _ _ _ ws cs ss ms _ HB.out.2.2.2.2 hc4 hx1 hx2 hx3 hx4).mono ?_
  rintro r wA ⟨rfl, b9⟩
  have H1 : Hid (ABlk 32 wA w.heap.size #[.int .i64 i, .int .i64 n, .slice a1 ws.length c1, .slice a2 cs.length c2, .slice a3 ss.length c3, .slice a4 ms.length c4] ∧ ABlk 32 wA (w.heap.size + 1) #[.int .i64 0, .int .i64 0, .slice none 0 0, .slice none 0 0, .slice none 0 0, .slice none 0 0] ∧ ABlk 35 wA (w.heap.size + 1 + 1) #[.int .i64 0, .int .i64 0, .int .i64 0, .int .i64 0, .slice none 0 0] ∧ Below w.heap.size w wA ∧ CRows wA a1 a2 a3 a4 ws cs ss ms) := ⟨HB.out.1.later b9, HB.out.2.1.later b9, HB.out.2.2.1.later b9, HB.out.2.2.2.1.trans (b9.mono HB.out.2.2.2.1.size), HB.out.2.2.2.2.later b9⟩
  clear HB b9
  have z0 := (H1.out.2.1).at 0 _ rfl
  have zf0 := (H1.out.2.1).fro 0
  have z1 := (H1.out.2.1).at 1 _ rfl
  have zf1 := (H1.out.2.1).fro 1
  have z2 := (H1.out.2.1).at 2 _ rfl
  have zf2 := (H1.out.2.1).fro 2
  have z3 := (H1.out.2.1).at 3 _ rfl
  have zf3 := (H1.out.2.1).fro 3
  have z4 := (H1.out.2.1).at 4 _ rfl
  have zf4 := (H1.out.2.1).fro 4
  have z5 := (H1.out.2.1).at 5 _ rfl
  have zf5 := (H1.out.2.1).fro 5
  have y0 := (H1.out.2.2.1).at 0 _ rfl
  have yf0 := (H1.out.2.2.1).fro 0
  have y1 := (H1.out.2.2.1).at 1 _ rfl
  have yf1 := (H1.out.2.2.1).fro 1
  have y2 := (H1.out.2.2.1).at 2 _ rfl
  have yf2 := (H1.out.2.2.1).fro 2
  have y3 := (H1.out.2.2.1).at 3 _ rfl
  have yf3 := (H1.out.2.2.1).fro 3
  have y4 := (H1.out.2.2.1).at 4 _ rfl
  have yf4 := (H1.out.2.2.1).fro 4
  cases u1 : clientB i n ws cs ss ms
  · have EA : Hid (asA i n ws cs ss ms = noA) := Hid.mk' (by unfold asA; rw [if_neg (by rw [u1]; decide)])
    obtain ⟨V, hV, gV, rV, mV⟩ := res2 (R := w.heap.size + 1) H1.out.2.1 H1.out.2.2.1 (Value.int .i64 0) (Value.int .i64 0) (Value.slice none 0 0) (Value.slice none 0 0) (Value.slice none 0 0) (Value.slice none 0 0) (Value.int .i64 0) (Value.int .i64 0) (Value.int .i64 0) (Value.int .i64 0) (Value.slice none 0 0)
    have HV : Hid (ABlk 32 V (w.heap.size + 1) #[.int .i64 0, .int .i64 0, .slice none 0 0, .slice none 0 0, .slice none 0 0, .slice none 0 0] ∧ ABlk 35 V (w.heap.size + 1 + 1) #[.int .i64 0, .int .i64 0, .int .i64 0, .int .i64 0, .slice none 0 0] ∧ Below w.heap.size w V) := ⟨rV, mV, H1.out.2.2.2.1.trans (gV.below H1.out.2.2.2.1.size (fun k hk => by simp at hk; omega))⟩
    clear gV rV mV
    go_wp2_with fail
    rw [← hV]
    clear hV z0 zf0 z1 zf1 z2 zf2 z3 zf3 z4 zf4 z5 zf5 y0 yf0 y1 yf1 y2 yf2 y3 yf3 y4 yf4
    have z0 := (HV.out.1).at 0 _ rfl
    have z1 := (HV.out.1).at 1 _ rfl
    have z2 := (HV.out.1).at 2 _ rfl
    have z3 := (HV.out.1).at 3 _ rfl
    have z4 := (HV.out.1).at 4 _ rfl
    have z5 := (HV.out.1).at 5 _ rfl
    have y0 := (HV.out.2.1).at 0 _ rfl
    have y1 := (HV.out.2.1).at 1 _ rfl
    have y2 := (HV.out.2.1).at 2 _ rfl
    have y3 := (HV.out.2.1).at 3 _ rfl
    have y4 := (HV.out.2.1).at 4 _ rfl
    refine bodyPost_ret (v := .tuple #[.agg #[.int .i64 0, .int .i64 0, .slice none 0 0, .slice none 0 0, .slice none 0 0, .slice none 0 0], .agg #[.int .i64 0, .int .i64 0, .int .i64 0, .int .i64 0, .slice none 0 0], .bool false]) (by simp [results, Try.results9, go_sem, *]) rfl ?_
    rw [EA.out]
    exact ⟨none, 0, none, 0, none, 0, none, 0, none, 0, rfl, Own4.nil _ _, OwnS.nilB _ _, HV.out.2.2⟩
  have hb := clientB_num u1
  have p0 := H1.out.1.at 0 _ rfl
  have p1 := H1.out.1.at 1 _ rfl
  have p2 := H1.out.1.at 2 _ rfl
  have p3 := H1.out.1.at 3 _ rfl
  have p4 := H1.out.1.at 4 _ rfl
  have p5 := H1.out.1.at 5 _ rfl
  go_wp2_with fail
  clear p0 p1 p2 p3 p4 p5 z0 zf0 z1 zf1 z2 zf2 z3 zf3 z4 zf4 z5 zf5 y0 yf0 y1 yf1 y2 yf2 y3 yf3 y4 yf4
  refine (copyClient_any i n _ _ _ _ _ _ _ _ ws cs ss ms _ H1.out.2.2.2.2 hx1 hx2 hx3 hx4).mono ?_
  rintro r w2 ⟨b1, b2, b3, b4, e1, e2, e3, e4, rfl, o4, b9⟩
  have hB : w.heap.size ≤ wA.heap.size := H1.out.2.2.2.1.size
  have hB2 : wA.heap.size ≤ w2.heap.size := b9.size
  have H2 : Hid (ABlk 32 w2 w.heap.size #[.int .i64 i, .int .i64 n, .slice a1 ws.length c1, .slice a2 cs.length c2, .slice a3 ss.length c3, .slice a4 ms.length c4] ∧ ABlk 32 w2 (w.heap.size + 1) #[.int .i64 0, .int .i64 0, .slice none 0 0, .slice none 0 0, .slice none 0 0, .slice none 0 0] ∧ ABlk 35 w2 (w.heap.size + 1 + 1) #[.int .i64 0, .int .i64 0, .int .i64 0, .int .i64 0, .slice none 0 0] ∧ Below w.heap.size w w2 ∧ Own4 w2 wA.heap.size (.slice b1 ws.length e1) (.slice b2 cs.length e2) (.slice b3 ss.length e3) (.slice b4 ms.length e4) ws cs ss ms) := ⟨H1.out.1.later b9, H1.out.2.1.later b9, H1.out.2.2.1.later b9, H1.out.2.2.2.1.trans (b9.mono H1.out.2.2.2.1.size), o4⟩
  clear H1 o4 b9
  obtain ⟨l1, l2, l3⟩ : w.heap.size < w2.heap.size ∧ w.heap.size + 1 < w2.heap.size ∧ w.heap.size + 1 + 1 < w2.heap.size := ⟨H2.out.1.lt, H2.out.2.1.lt, H2.out.2.2.1.lt⟩
  have p1 := H2.out.1.at 1 _ rfl
  have z0 := (H2.out.2.1).at 0 _ rfl
  have zf0 := (H2.out.2.1).fro 0
  have z1 := (H2.out.2.1).at 1 _ rfl
  have zf1 := (H2.out.2.1).fro 1
  have z2 := (H2.out.2.1).at 2 _ rfl
  have zf2 := (H2.out.2.1).fro 2
  have z3 := (H2.out.2.1).at 3 _ rfl
  have zf3 := (H2.out.2.1).fro 3
  have z4 := (H2.out.2.1).at 4 _ rfl
  have zf4 := (H2.out.2.1).fro 4
  have z5 := (H2.out.2.1).at 5 _ rfl
  have zf5 := (H2.out.2.1).fro 5
  have y0 := (H2.out.2.2.1).at 0 _ rfl
  have yf0 := (H2.out.2.2.1).fro 0
  have y1 := (H2.out.2.2.1).at 1 _ rfl
  have yf1 := (H2.out.2.2.1).fro 1
  have y2 := (H2.out.2.2.1).at 2 _ rfl
  have yf2 := (H2.out.2.2.1).fro 2
  have y3 := (H2.out.2.2.1).at 3 _ rfl
  have yf3 := (H2.out.2.2.1).fro 3
  have y4 := (H2.out.2.2.1).at 4 _ rfl
  have yf4 := (H2.out.2.2.1).fro 4
  have hw : wrap64 (n + 1) = n + 1 := by unfold wrap64; omega
  by_cases hm : n + 1 > 60
  · have EA : Hid (asA i n ws cs ss ms = keepA i n ws cs ss ms) := Hid.mk' (by unfold asA; rw [if_pos u1, if_pos hm])
    obtain ⟨V, hV, gV, rV, mV⟩ := res2 (R := w.heap.size + 1) H2.out.2.1 H2.out.2.2.1 (Value.int .i64 i) (Value.int .i64 n) (Value.slice b1 ws.length e1) (Value.slice b2 cs.length e2) (Value.slice b3 ss.length e3) (Value.slice b4 ms.length e4) (Value.int .i64 0) (Value.int .i64 0) (Value.int .i64 0) (Value.int .i64 0) (Value.slice none 0 0)
    have b8 : Below w.heap.size w V := H2.out.2.2.2.1.trans (gV.below H2.out.2.2.2.1.size (fun k hk => by simp at hk; omega))
    have oV : Own4 V wA.heap.size (.slice b1 ws.length e1) (.slice b2 cs.length e2) (.slice b3 ss.length e3) (.slice b4 ms.length e4) ws cs ss ms := H2.out.2.2.2.2.grl gV (H2.out.2.2.2.2.offs H2.out.2.1 H2.out.2.2.1)
    have HV : Hid (∀ o : Obj, ABlk 32 (V.alloc o) (w.heap.size + 1) #[.int .i64 i, .int .i64 n, .slice b1 ws.length e1, .slice b2 cs.length e2, .slice b3 ss.length e3, .slice b4 ms.length e4] ∧ ABlk 35 (V.alloc o) (w.heap.size + 1 + 1) #[.int .i64 0, .int .i64 0, .int .i64 0, .int .i64 0, .slice none 0 0] ∧ Below w.heap.size w (V.alloc o) ∧ Own4 (V.alloc o) wA.heap.size (.slice b1 ws.length e1) (.slice b2 cs.length e2) (.slice b3 ss.length e3) (.slice b4 ms.length e4) ws cs ss ms) := fun o => ⟨rV.later (Below.alloc_ _ _), mV.later (Below.alloc_ _ _), b8.trans ((Below.alloc_ _ _).mono b8.size), oV.later (Below.alloc_ _ _)⟩
    clear gV rV mV b8 oV
    go_wp2_with fail
    rw [← hV]
    clear hV p1 z0 zf0 z1 zf1 z2 zf2 z3 zf3 z4 zf4 z5 zf5 y0 yf0 y1 yf1 y2 yf2 y3 yf3 y4 yf4
    generalize hX : V.alloc _ = X
    have HX := HV.out (.cells #[.int .i64 i, .int .i64 n, .slice b1 ws.length e1, .slice b2 cs.length e2, .slice b3 ss.length e3, .slice b4 ms.length e4] 32)
    rw [hX] at HX
    clear hX HV
    have HX : Hid (ABlk 32 X (w.heap.size + 1) #[.int .i64 i, .int .i64 n, .slice b1 ws.length e1, .slice b2 cs.length e2, .slice b3 ss.length e3, .slice b4 ms.length e4] ∧ ABlk 35 X (w.heap.size + 1 + 1) #[.int .i64 0, .int .i64 0, .int .i64 0, .int .i64 0, .slice none 0 0] ∧ Below w.heap.size w X ∧ Own4 X wA.heap.size (.slice b1 ws.length e1) (.slice b2 cs.length e2) (.slice b3 ss.length e3) (.slice b4 ms.length e4) ws cs ss ms) := HX
    have z0 := (HX.out.1).at 0 _ rfl
    have z1 := (HX.out.1).at 1 _ rfl
    have z2 := (HX.out.1).at 2 _ rfl
    have z3 := (HX.out.1).at 3 _ rfl
    have z4 := (HX.out.1).at 4 _ rfl
    have z5 := (HX.out.1).at 5 _ rfl
    have y0 := (HX.out.2.1).at 0 _ rfl
    have y1 := (HX.out.2.1).at 1 _ rfl
    have y2 := (HX.out.2.1).at 2 _ rfl
    have y3 := (HX.out.2.1).at 3 _ rfl
    have y4 := (HX.out.2.1).at 4 _ rfl
    refine bodyPost_ret (v := .tuple #[.agg #[.int .i64 i, .int .i64 n, .slice b1 ws.length e1, .slice b2 cs.length e2, .slice b3 ss.length e3, .slice b4 ms.length e4], .agg #[.int .i64 0, .int .i64 0, .int .i64 0, .int .i64 0, .slice none 0 0], .bool false]) (by simp [results, Try.results9, go_sem, *]) rfl ?_
    rw [EA.out]
    exact ⟨b1, e1, b2, e2, b3, e3, b4, e4, none, 0, rfl, HX.out.2.2.2.lessB hB, OwnS.nilB _ _, HX.out.2.2.1⟩
  have EA : Hid (asA i n ws cs ss ms = ⟨i, n + 1, ws ++ [⟨6, n + 1⟩], cs, ss, ms, 1, i, 0, n + 1, [], true⟩) := Hid.mk' (by unfold asA; rw [if_pos u1, if_neg hm])
  have bb : ∀ o1 o2 : Obj, Below w2.heap.size w2 ((w2.alloc o1).alloc o2) := fun o1 o2 => (Below.alloc_ _ _).trans ((Below.alloc_ _ _).mono (by simp))
  have hN : ∀ (W : World) (o : Obj), NRow celW ((W.alloc o).alloc (.cells #[.int .i64 6, .int .i64 (n + 1)] 55)) (some ⟨W.heap.size + 1, 0, none⟩) [⟨6, n + 1⟩] := fun W o => wantNew W o 6 (n + 1)
  have HO : Hid (OwnN celW 55 w2 wA.heap.size (.slice b1 ws.length e1) ws ∧ (∀ o1 o2 : Obj, Below w2.heap.size w2 ((w2.alloc o1).alloc o2)) ∧ (∀ (W : World) (o : Obj), NRow celW ((W.alloc o).alloc (.cells #[.int .i64 6, .int .i64 (n + 1)] 55)) (some ⟨W.heap.size + 1, 0, none⟩) [⟨6, n + 1⟩])) := ⟨H2.out.2.2.2.2.o1, bb, hN⟩
  clear bb hN
  go_wp2_with (at_builtin; apply stopHere)
  intro
  refine wpList_app_row celW _ 55 28 16 _ Try.underlying28 infoWant rfl (by omega) rfl (.tmp 24) (.tmp 28) rfl wA.heap.size (.slice b1 ws.length e1) ws rfl (HO.out.1.later (HO.out.2.1 _ _)) (some ⟨w2.heap.size + 1, 0, none⟩) [⟨6, n + 1⟩] 1 rfl (HO.out.2.2 _ _) (by simp; omega) (by simp; omega) ?_
  intro b5 c5 w5 o5 g5
  have EA2 := EA.out
  clear EA
  generalize hWS : (ws ++ [(⟨6, n + 1⟩ : Wn)]) = WS at o5 EA2 ⊢
  have EA : Hid (asA i n ws cs ss ms = ⟨i, n + 1, WS, cs, ss, ms, 1, i, 0, n + 1, [], true⟩) := EA2
  clear EA2 hWS
  have g6 := GrL.of g5
  have H5 : Hid (ABlk 32 w5 w.heap.size #[.int .i64 i, .int .i64 n, .slice a1 ws.length c1, .slice a2 cs.length c2, .slice a3 ss.length c3, .slice a4 ms.length c4] ∧ ABlk 32 w5 (w.heap.size + 1) #[.int .i64 0, .int .i64 0, .slice none 0 0, .slice none 0 0, .slice none 0 0, .slice none 0 0] ∧ ABlk 35 w5 (w.heap.size + 1 + 1) #[.int .i64 0, .int .i64 0, .int .i64 0, .int .i64 0, .slice none 0 0] ∧ ABlk 32 w5 w2.heap.size #[.int .i64 i, .int .i64 (n + 1), .slice b1 ws.length e1, .slice b2 cs.length e2, .slice b3 ss.length e3, .slice b4 ms.length e4] ∧ Below w.heap.size w w5 ∧ Own4 w5 wA.heap.size (.slice b5 WS.length c5) (.slice b2 cs.length e2) (.slice b3 ss.length e3) (.slice b4 ms.length e4) WS cs ss ms) := by
    have q4 := H2.out.2.2.2.2.later (HO.out.2.1 (.cells #[.int .i64 i, .int .i64 (n + 1), .slice b1 ws.length e1, .slice b2 cs.length e2, .slice b3 ss.length e3, .slice b4 ms.length e4] 32) (.cells #[.int .i64 6, .int .i64 (n + 1)] 55))
    have q0 := H2.out.1.later (HO.out.2.1 (.cells #[.int .i64 i, .int .i64 (n + 1), .slice b1 ws.length e1, .slice b2 cs.length e2, .slice b3 ss.length e3, .slice b4 ms.length e4] 32) (.cells #[.int .i64 6, .int .i64 (n + 1)] 55))
    have q1 := H2.out.2.1.later (HO.out.2.1 (.cells #[.int .i64 i, .int .i64 (n + 1), .slice b1 ws.length e1, .slice b2 cs.length e2, .slice b3 ss.length e3, .slice b4 ms.length e4] 32) (.cells #[.int .i64 6, .int .i64 (n + 1)] 55))
    have q2 := H2.out.2.2.1.later (HO.out.2.1 (.cells #[.int .i64 i, .int .i64 (n + 1), .slice b1 ws.length e1, .slice b2 cs.length e2, .slice b3 ss.length e3, .slice b4 ms.length e4] 32) (.cells #[.int .i64 6, .int .i64 (n + 1)] 55))
    have q3 : ABlk 32 ((w2.alloc (.cells #[.int .i64 i, .int .i64 (n + 1), .slice b1 ws.length e1, .slice b2 cs.length e2, .slice b3 ss.length e3, .slice b4 ms.length e4] 32)).alloc (.cells #[.int .i64 6, .int .i64 (n + 1)] 55)) w2.heap.size #[.int .i64 i, .int .i64 (n + 1), .slice b1 ws.length e1, .slice b2 cs.length e2, .slice b3 ss.length e3, .slice b4 ms.length e4] := (ABlk.new _ _ _).later (Below.alloc_ _ _)
    have qb := H2.out.2.2.2.1.trans ((HO.out.2.1 (.cells #[.int .i64 i, .int .i64 (n + 1), .slice b1 ws.length e1, .slice b2 cs.length e2, .slice b3 ss.length e3, .slice b4 ms.length e4] 32) (.cells #[.int .i64 6, .int .i64 (n + 1)] 55)).mono H2.out.2.2.2.1.size)
    clear H2 HO
    generalize ((w2.alloc (.cells #[.int .i64 i, .int .i64 (n + 1), .slice b1 ws.length e1, .slice b2 cs.length e2, .slice b3 ss.length e3, .slice b4 ms.length e4] 32)).alloc (.cells #[.int .i64 6, .int .i64 (n + 1)] 55)) = W9 at g6 q0 q1 q2 q3 q4 qb
    exact ⟨q0.grl g6 (by simp only [List.mem_cons, List.not_mem_nil, or_false]; intro e; exact own_off q0 q4.o1 (by decide) e.symm), q1.grl g6 (by simp only [List.mem_cons, List.not_mem_nil, or_false]; intro e; exact own_off q1 q4.o1 (by decide) e.symm), q2.grl g6 (by simp only [List.mem_cons, List.not_mem_nil, or_false]; intro e; exact own_off q2 q4.o1 (by decide) e.symm), q3.grl g6 (by simp only [List.mem_cons, List.not_mem_nil, or_false]; intro e; exact own_off q3 q4.o1 (by decide) e.symm), below_grl qb g6 qb.size (fun k hm => by simp only [List.mem_cons, List.not_mem_nil, or_false] at hm; have h7 := (q4.o1.low k hm.symm).1; omega), ⟨o5, q4.o2.grl g6 (fun k e hm => by simp only [List.mem_cons, List.not_mem_nil, or_false] at hm; exact q4.ne12 k hm.symm e), q4.o3.grl g6 (fun k e hm => by simp only [List.mem_cons, List.not_mem_nil, or_false] at hm; exact q4.ne13 k hm.symm e), q4.o4.grl g6 (fun k e hm => by simp only [List.mem_cons, List.not_mem_nil, or_false] at hm; exact q4.ne14 k hm.symm e), q4.ne⟩⟩
  have l5 : w2.heap.size < w5.heap.size := H5.out.2.2.2.1.lt
  clear H2 HO g5 g6 o5 p1 z0 zf0 z1 zf1 z2 zf2 z3 zf3 z4 zf4 z5 zf5 y0 yf0 y1 yf1 y2 yf2 y3 yf3 y4 yf4
  have n2 := H5.out.2.2.2.1.at 2 _ rfl
  have nf2 := H5.out.2.2.2.1.fro 2
  go_wp2_with fail
  clear n2 nf2
  have H6 : Hid (ABlk 32 (w5.setCell ⟨w2.heap.size, 2, none⟩ (Value.slice b5 WS.length c5)) w.heap.size #[.int .i64 i, .int .i64 n, .slice a1 ws.length c1, .slice a2 cs.length c2, .slice a3 ss.length c3, .slice a4 ms.length c4] ∧ ABlk 32 (w5.setCell ⟨w2.heap.size, 2, none⟩ (Value.slice b5 WS.length c5)) (w.heap.size + 1) #[.int .i64 0, .int .i64 0, .slice none 0 0, .slice none 0 0, .slice none 0 0, .slice none 0 0] ∧ ABlk 35 (w5.setCell ⟨w2.heap.size, 2, none⟩ (Value.slice b5 WS.length c5)) (w.heap.size + 1 + 1) #[.int .i64 0, .int .i64 0, .int .i64 0, .int .i64 0, .slice none 0 0] ∧ ABlk 32 (w5.setCell ⟨w2.heap.size, 2, none⟩ (Value.slice b5 WS.length c5)) w2.heap.size #[.int .i64 i, .int .i64 (n + 1), .slice b5 WS.length c5, .slice b2 cs.length e2, .slice b3 ss.length e3, .slice b4 ms.length e4] ∧ Below w.heap.size w (w5.setCell ⟨w2.heap.size, 2, none⟩ (Value.slice b5 WS.length c5)) ∧ Own4 (w5.setCell ⟨w2.heap.size, 2, none⟩ (Value.slice b5 WS.length c5)) wA.heap.size (.slice b5 WS.length c5) (.slice b2 cs.length e2) (.slice b3 ss.length e3) (.slice b4 ms.length e4) WS cs ss ms) := by
    have g7 := setCell_grl w5 w2.heap.size 2 (Value.slice b5 WS.length c5)
    have k7 := H5.out.2.2.2.1.set 2 (Value.slice b5 WS.length c5)
    exact ⟨H5.out.1.grl g7 (by simp; omega), H5.out.2.1.grl g7 (by simp; omega), H5.out.2.2.1.grl g7 (by simp; omega), k7, below_grl H5.out.2.2.2.2.1 g7 H5.out.2.2.2.2.1.size (fun k hm => by simp at hm; omega), H5.out.2.2.2.2.2.grl g7 (H5.out.2.2.2.2.2.off H5.out.2.2.2.1 (by decide))⟩
  clear H5 l5
  generalize (w5.setCell ⟨w2.heap.size, 2, none⟩ (Value.slice b5 WS.length c5)) = w6 at H6 ⊢
  refine wp_region_walk [31, 32, 33, 34, 35, 36, 4] (RgAs w w2.heap.size wA.heap.size i n a1 a2 a3 a4 b2 b3 b4 b5 c1 c2 c3 c4 e2 e3 e4 c5 WS ws cs ss ms) [0, 1, 2, 3, 4, 5, 6, 7, 8] (by kernel_rfl) (by kernel_rfl) (by kernel_rfl) ?_ ?_ ?_
  · intro s
    exact ⟨H6.out.2.2.2.2.1.drew, H6.out.1, H6.out.2.2.2.1, H6.out.2.2.2.2.2.later (Below.refl _ _).drew, ⟨_, _, _, _, _, _, H6.out.2.1⟩, fun e => (by cases e), ⟨_, _, _, _, _, H6.out.2.2.1⟩, fun e => (by cases e), fun e => (by cases e), fun e => (by cases e), fun e => (by cases e), fun e => (by cases e), fun e => (by cases e), fun e => (by cases e), fun e => (by cases e)⟩
  · refine StepsR.cons (k := 0) [] (by kernel_rfl) ?_ (StepsR.cons (k := 1) [] (by kernel_rfl) ?_ (StepsR.cons (k := 2) [1] (by kernel_rfl) ?_ (StepsR.cons (k := 3) [] (by kernel_rfl) ?_ (StepsR.cons (k := 4) [3] (by kernel_rfl) ?_ (StepsR.cons (k := 5) [2, 4] (by kernel_rfl) ?_ (StepsR.cons (k := 6) [0] (by kernel_rfl) ?_ (StepsR.cons (k := 7) [5] (by kernel_rfl) ?_ (StepsR.cons (k := 8) [] (by kernel_rfl) ?_ (StepsR.nil)))))))))
    · intro d s w1 hd hA hC hF K hK
      have hB9 := hF.bel
      simp only [putL, putT, List.setIfInBounds_toArray, List.set_cons_zero, List.set_cons_succ]
      clear hB9
      as_aux_lemma =>
        have p0 := hF.nb.at 0 _ rfl
        have p1 := hF.nb.at 1 _ rfl
        have p2 := hF.nb.at 2 _ rfl
        have p3 := hF.nb.at 3 _ rfl
        have p4 := hF.nb.at 4 _ rfl
        have p5 := hF.nb.at 5 _ rfl
        go_simp
        clear p0 p1 p2 p3 p4 p5
        refine hK.out (updS s 31 (Value.agg #[.int .i64 i, .int .i64 (n + 1), .slice b5 WS.length c5, .slice b2 cs.length e2, .slice b3 ss.length e3, .slice b4 ms.length e4])) _ _ ?_ ⟨hF.bel, hF.ba, hF.nb, hF.o4, hF.r, hF.rv, hF.m, hF.mv, hF.fw, hF.ft, fun _ => rfl, hF.f1, hF.f2, hF.f3, hF.f4⟩
        (simp only [putL, putT, List.setIfInBounds_toArray, List.set_cons_zero, List.set_cons_succ]); rfl
    · intro d s w1 hd hA hC hF K hK
      have hB9 := hF.bel
      simp only [putL, putT, List.setIfInBounds_toArray, List.set_cons_zero, List.set_cons_succ]
      clear hB9
      as_aux_lemma =>
        go_simp
        refine hK.out (updS s 32 (Value.pointer (some ⟨w.heap.size, 0, none⟩))) _ _ ?_ ⟨hF.bel, hF.ba, hF.nb, hF.o4, hF.r, hF.rv, hF.m, hF.mv, hF.fw, hF.ft, hF.f0, fun _ => rfl, hF.f2, hF.f3, hF.f4⟩
        (simp only [putL, putT, List.setIfInBounds_toArray, List.set_cons_zero, List.set_cons_succ]); rfl
    · intro d s w1 hd hA hC hF K hK
      have hB9 := hF.bel
      simp only [putL, putT, List.setIfInBounds_toArray, List.set_cons_zero, List.set_cons_succ]
      clear hB9
      as_aux_lemma =>
        have p0 := hF.ba.at 0 _ rfl
        have e0 := hF.f1 (hA.1)
        rw [e0]
        go_simp
        clear p0
        refine hK.out (updS s 33 (Value.int .i64 i)) _ _ ?_ ⟨hF.bel, hF.ba, hF.nb, hF.o4, hF.r, hF.rv, hF.m, hF.mv, hF.fw, hF.ft, hF.f0, hF.f1, fun _ => rfl, hF.f3, hF.f4⟩
        (simp only [putL, putT, List.setIfInBounds_toArray, List.set_cons_zero, List.set_cons_succ]); rw [← e0]; (try rfl)
    · intro d s w1 hd hA hC hF K hK
      have hB9 := hF.bel
      simp only [putL, putT, List.setIfInBounds_toArray, List.set_cons_zero, List.set_cons_succ]
      clear hB9
      as_aux_lemma =>
        go_simp
        refine hK.out (updS s 34 (Value.pointer (some ⟨w2.heap.size, 1, none⟩))) _ _ ?_ ⟨hF.bel, hF.ba, hF.nb, hF.o4, hF.r, hF.rv, hF.m, hF.mv, hF.fw, hF.ft, hF.f0, hF.f1, hF.f2, fun _ => rfl, hF.f4⟩
        (simp only [putL, putT, List.setIfInBounds_toArray, List.set_cons_zero, List.set_cons_succ]); rfl
    · intro d s w1 hd hA hC hF K hK
      have hB9 := hF.bel
      simp only [putL, putT, List.setIfInBounds_toArray, List.set_cons_zero, List.set_cons_succ]
      clear hB9
      as_aux_lemma =>
        have p0 := hF.nb.at 1 _ rfl
        have e0 := hF.f3 (hA.1)
        rw [e0]
        go_simp
        clear p0
        refine hK.out (updS s 35 (Value.int .i64 (n + 1))) _ _ ?_ ⟨hF.bel, hF.ba, hF.nb, hF.o4, hF.r, hF.rv, hF.m, hF.mv, hF.fw, hF.ft, hF.f0, hF.f1, hF.f2, hF.f3, fun _ => rfl⟩
        (simp only [putL, putT, List.setIfInBounds_toArray, List.set_cons_zero, List.set_cons_succ]); rw [← e0]; (try rfl)
    · intro d s w1 hd hA hC hF K hK
      have hB9 := hF.bel
      simp only [putL, putT, List.setIfInBounds_toArray, List.set_cons_zero, List.set_cons_succ]
      clear hB9
      as_aux_lemma =>
        have e0 := hF.f2 (hA.1)
        have e1 := hF.f4 (hA.2.1)
        rw [e0, e1]
        simp only [Region.wanted, if_true]
        refine wp_built 35 _ _ _ rfl (by simp only [List.map_toArray, List.map_cons, List.map_nil]; rfl) (bldMsg w1 1 i (n + 1)) ?_
        refine hK.out (updS s 36 (Value.agg #[.int .i64 1, .int .i64 i, .int .i64 0, .int .i64 (n + 1), .slice none 0 0])) _ _ ?_ ⟨hF.bel, hF.ba, hF.nb, hF.o4, hF.r, hF.rv, hF.m, hF.mv, fun _ => rfl, hF.ft, hF.f0, hF.f1, hF.f2, hF.f3, hF.f4⟩
        (simp only [putL, putT, List.setIfInBounds_toArray, List.set_cons_zero, List.set_cons_succ]); rw [← e0, ← e1]; (try rfl)
    · intro d s w1 hd hA hC hF K hK
      have hB9 := hF.bel
      simp only [putL, putT, List.setIfInBounds_toArray, List.set_cons_zero, List.set_cons_succ]
      clear hB9
      as_aux_lemma =>
        obtain ⟨x0, x1, x2, x3, x4, x5, hr⟩ := hF.r
        have e0 := hF.f0 (hA.1)
        have z0 := hr.at 0 _ rfl
        have z1 := hr.at 1 _ rfl
        have z2 := hr.at 2 _ rfl
        have z3 := hr.at 3 _ rfl
        have z4 := hr.at 4 _ rfl
        have z5 := hr.at 5 _ rfl
        have zf0 := hr.fro 0
        have zf1 := hr.fro 1
        have zf2 := hr.fro 2
        have zf3 := hr.fro 3
        have zf4 := hr.fro 4
        have zf5 := hr.fro 5
        have HR : Hid (ABlk 32 w1 (w.heap.size + 1) #[x0, x1, x2, x3, x4, x5]) := hr
        clear hr
        rw [e0]
        go_simp
        clear z0 zf0 z1 zf1 z2 zf2 z3 zf3 z4 zf4 z5 zf5
        have g9 : GrL w1 ((((((w1.setCell ⟨w.heap.size + 1, 0, none⟩ (Value.int .i64 i)).setCell ⟨w.heap.size + 1, 1, none⟩ (Value.int .i64 (n + 1))).setCell ⟨w.heap.size + 1, 2, none⟩ (Value.slice b5 WS.length c5)).setCell ⟨w.heap.size + 1, 3, none⟩ (Value.slice b2 cs.length e2)).setCell ⟨w.heap.size + 1, 4, none⟩ (Value.slice b3 ss.length e3)).setCell ⟨w.heap.size + 1, 5, none⟩ (Value.slice b4 ms.length e4)) [some (w.heap.size + 1)] := put6_grl _ _ _ _ _ _ _ _
        have K1 : ABlk 32 ((((((w1.setCell ⟨w.heap.size + 1, 0, none⟩ (Value.int .i64 i)).setCell ⟨w.heap.size + 1, 1, none⟩ (Value.int .i64 (n + 1))).setCell ⟨w.heap.size + 1, 2, none⟩ (Value.slice b5 WS.length c5)).setCell ⟨w.heap.size + 1, 3, none⟩ (Value.slice b2 cs.length e2)).setCell ⟨w.heap.size + 1, 4, none⟩ (Value.slice b3 ss.length e3)).setCell ⟨w.heap.size + 1, 5, none⟩ (Value.slice b4 ms.length e4)) (w.heap.size + 1) #[Value.int .i64 i, Value.int .i64 (n + 1), Value.slice b5 WS.length c5, Value.slice b2 cs.length e2, Value.slice b3 ss.length e3, Value.slice b4 ms.length e4] := HR.out.put6 _ _ _ _ _ _
        generalize ((((((w1.setCell ⟨w.heap.size + 1, 0, none⟩ (Value.int .i64 i)).setCell ⟨w.heap.size + 1, 1, none⟩ (Value.int .i64 (n + 1))).setCell ⟨w.heap.size + 1, 2, none⟩ (Value.slice b5 WS.length c5)).setCell ⟨w.heap.size + 1, 3, none⟩ (Value.slice b2 cs.length e2)).setCell ⟨w.heap.size + 1, 4, none⟩ (Value.slice b3 ss.length e3)).setCell ⟨w.heap.size + 1, 5, none⟩ (Value.slice b4 ms.length e4)) = W at g9 K1 ⊢
        refine hK.out s _ _ ?_ ⟨hF.bel.trans (g9.below (by have h7 := hF.bel.size; omega) (fun k hk => by simp at hk; omega)), hF.ba.grl g9 (by simp <;> omega), hF.nb.grl g9 (by simp <;> omega), hF.o4.grl g9 (hF.o4.off HR.out ⟨by decide, by decide, by decide⟩), ⟨_, _, _, _, _, _, K1⟩, fun _ => K1, (by obtain ⟨y0, y1, y2, y3, y4, h1⟩ := hF.m; exact ⟨y0, y1, y2, y3, y4, h1.grl g9 (by simp <;> omega)⟩), fun e => (hF.mv e).grl g9 (by simp <;> omega), hF.fw, hF.ft, hF.f0, hF.f1, hF.f2, hF.f3, hF.f4⟩
        (simp only [putL, putT, List.setIfInBounds_toArray, List.set_cons_zero, List.set_cons_succ]); rw [← e0]; (try rfl)
    · intro d s w1 hd hA hC hF K hK
      have hB9 := hF.bel
      simp only [putL, putT, List.setIfInBounds_toArray, List.set_cons_zero, List.set_cons_succ]
      clear hB9
      as_aux_lemma =>
        obtain ⟨y0, y1, y2, y3, y4, hr⟩ := hF.m
        have e0 := hF.fw (hA.1)
        have z0 := hr.at 0 _ rfl
        have z1 := hr.at 1 _ rfl
        have z2 := hr.at 2 _ rfl
        have z3 := hr.at 3 _ rfl
        have z4 := hr.at 4 _ rfl
        have zf0 := hr.fro 0
        have zf1 := hr.fro 1
        have zf2 := hr.fro 2
        have zf3 := hr.fro 3
        have zf4 := hr.fro 4
        have HR : Hid (ABlk 35 w1 (w.heap.size + 1 + 1) #[y0, y1, y2, y3, y4]) := hr
        clear hr
        rw [e0]
        go_simp
        clear z0 zf0 z1 zf1 z2 zf2 z3 zf3 z4 zf4
        have g9 : GrL w1 (((((w1.setCell ⟨w.heap.size + 1 + 1, 0, none⟩ (Value.int .i64 1)).setCell ⟨w.heap.size + 1 + 1, 1, none⟩ (Value.int .i64 i)).setCell ⟨w.heap.size + 1 + 1, 2, none⟩ (Value.int .i64 0)).setCell ⟨w.heap.size + 1 + 1, 3, none⟩ (Value.int .i64 (n + 1))).setCell ⟨w.heap.size + 1 + 1, 4, none⟩ (Value.slice none 0 0)) [some (w.heap.size + 1 + 1)] := put5_grl _ _ _ _ _ _ _
        have K1 : ABlk 35 (((((w1.setCell ⟨w.heap.size + 1 + 1, 0, none⟩ (Value.int .i64 1)).setCell ⟨w.heap.size + 1 + 1, 1, none⟩ (Value.int .i64 i)).setCell ⟨w.heap.size + 1 + 1, 2, none⟩ (Value.int .i64 0)).setCell ⟨w.heap.size + 1 + 1, 3, none⟩ (Value.int .i64 (n + 1))).setCell ⟨w.heap.size + 1 + 1, 4, none⟩ (Value.slice none 0 0)) (w.heap.size + 1 + 1) #[Value.int .i64 1, Value.int .i64 i, Value.int .i64 0, Value.int .i64 (n + 1), Value.slice none 0 0] := HR.out.put5 _ _ _ _ _
        generalize (((((w1.setCell ⟨w.heap.size + 1 + 1, 0, none⟩ (Value.int .i64 1)).setCell ⟨w.heap.size + 1 + 1, 1, none⟩ (Value.int .i64 i)).setCell ⟨w.heap.size + 1 + 1, 2, none⟩ (Value.int .i64 0)).setCell ⟨w.heap.size + 1 + 1, 3, none⟩ (Value.int .i64 (n + 1))).setCell ⟨w.heap.size + 1 + 1, 4, none⟩ (Value.slice none 0 0)) = W at g9 K1 ⊢
        refine hK.out s _ _ ?_ ⟨hF.bel.trans (g9.below (by have h7 := hF.bel.size; omega) (fun k hk => by simp at hk; omega)), hF.ba.grl g9 (by simp <;> omega), hF.nb.grl g9 (by simp <;> omega), hF.o4.grl g9 (hF.o4.off HR.out ⟨by decide, by decide, by decide⟩), (by obtain ⟨x0, x1, x2, x3, x4, x5, h1⟩ := hF.r; exact ⟨x0, x1, x2, x3, x4, x5, h1.grl g9 (by simp <;> omega)⟩), fun e => (hF.rv e).grl g9 (by simp <;> omega), ⟨_, _, _, _, _, K1⟩, fun _ => K1, hF.fw, hF.ft, hF.f0, hF.f1, hF.f2, hF.f3, hF.f4⟩
        (simp only [putL, putT, List.setIfInBounds_toArray, List.set_cons_zero, List.set_cons_succ]); rw [← e0]; (try rfl)
    · intro d s w1 hd hA hC hF K hK
      have hB9 := hF.bel
      simp only [putL, putT, List.setIfInBounds_toArray, List.set_cons_zero, List.set_cons_succ]
      clear hB9
      as_aux_lemma =>
        go_simp
        refine hK.out (updS s 4 (Value.bool true)) _ _ ?_ ⟨hF.bel, hF.ba, hF.nb, hF.o4, hF.r, hF.rv, hF.m, hF.mv, hF.fw, fun _ => rfl, hF.f0, hF.f1, hF.f2, hF.f3, hF.f4⟩
        (simp only [putL, putT, List.setIfInBounds_toArray, List.set_cons_zero, List.set_cons_succ]); rfl
  · intro d s w1 hA hF
    have e0 := hF.ft (hA.2.2.2.2.2.2.2.2.1)
    have hr := hF.rv (hA.2.2.2.2.2.2.1)
    have hm := hF.mv (hA.2.2.2.2.2.2.2.1)
    have z0 := hr.at 0 _ rfl
    have z1 := hr.at 1 _ rfl
    have z2 := hr.at 2 _ rfl
    have z3 := hr.at 3 _ rfl
    have z4 := hr.at 4 _ rfl
    have z5 := hr.at 5 _ rfl
    have y0 := hm.at 0 _ rfl
    have y1 := hm.at 1 _ rfl
    have y2 := hm.at 2 _ rfl
    have y3 := hm.at 3 _ rfl
    have y4 := hm.at 4 _ rfl
    have HE : Hid ((Own4 w1 wA.heap.size (.slice b5 WS.length c5) (.slice b2 cs.length e2) (.slice b3 ss.length e3) (.slice b4 ms.length e4) WS cs ss ms) ∧ Below w.heap.size w w1) := ⟨hF.o4, hF.bel⟩
    clear hF hA hr hm
    simp only [putL, putT, List.setIfInBounds_toArray, List.set_cons_zero, List.set_cons_succ]
    rw [e0]
    clear e0
    go_wp2_with fail
    refine bodyPost_ret (v := .tuple #[.agg #[.int .i64 i, .int .i64 (n + 1), .slice b5 WS.length c5, .slice b2 cs.length e2, .slice b3 ss.length e3, .slice b4 ms.length e4], .agg #[.int .i64 1, .int .i64 i, .int .i64 0, .int .i64 (n + 1), .slice none 0 0], .bool true]) (by simp [results, Try.results9, go_sem, *]) rfl ?_
    rw [EA.out]
    exact ⟨b5, c5, b2, e2, b3, e3, b4, e4, none, 0, rfl, HE.out.1.lessB hB, OwnS.nilB _ _, HE.out.2⟩

end Go.Proofs.Ythhdddcgkoaieaa
