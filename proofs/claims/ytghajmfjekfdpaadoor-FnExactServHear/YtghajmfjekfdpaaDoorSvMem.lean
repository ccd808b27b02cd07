/-
  What a service remembers, as notes one behind the other: memoryOf.
-/
import Derived.RangeFuncNested
import Derived.RangeFuncBound
import Derived.RangeFuncCalls
import Derived.RangeFuncLeaves
import Derived.Shelf.RegionOpen
import Derived.WalkKit
import Derived.OwnWalkIn
import Derived.TacticsInMore
import Derived.LoopNIn
import Derived.LoopIn
import Derived.Test.YtghajmfjekfdpaaDoorSvCopyS
namespace Go.Proofs.YtghajmfjekfdpaaDoor
open Go.RowKit
attribute [local go_sem] Oper.semAt_some

theorem SealAt.later' {w w' : World} {b o : Nat} {s : Sl} {B : Nat} (h : SealAt w b o s) (hb : Below B w w') (hl : b < B) : SealAt w' b o s := by
  have hc := fun o' => hb.cell (p := ⟨b, o', none⟩) hl
  exact ⟨(hc _).trans h.c0, (hc _).trans h.c1, (hc _).trans h.c2, (hc _).trans h.c3, (hc _).trans h.c4, (hc _).trans h.c5, (hc _).trans h.c6⟩
/-- A note's eight cells. -/
def noteC (s : Sl) (nv : Value) : Array Value := #[.int .i64 s.k, .int .i64 s.t, .int .i64 s.a, .int .i64 s.b, .int .i64 s.c, .int .i64 s.d, .int .i64 s.e, nv]
/-- Notes one behind the other: their blocks, and what they hold. -/
def Chain (w : World) : List (Nat × Sl) → Value → Prop
  | [], pv => pv = .pointer none
  | (b, s) :: L, pv => pv = .pointer (some ⟨b, 0, none⟩) ∧ ∃ nv, ABlk 115 w b (noteC s nv) ∧ Chain w L nv
theorem Chain.same {w w' : World} : ∀ {L : List (Nat × Sl)} {pv : Value}, Chain w L pv → (∀ p ∈ L, ∀ cs, ABlk 115 w p.1 cs → ABlk 115 w' p.1 cs) → Chain w' L pv
  | [], _, h, _ => h
  | (b, s) :: L, _, ⟨e, nv, h1, h2⟩, hs => ⟨e, nv, hs (b, s) (by simp) _ h1, h2.same (fun p hp => hs p (by simp [hp]))⟩
theorem Chain.lt {w : World} : ∀ {L : List (Nat × Sl)} {pv : Value}, Chain w L pv → ∀ p ∈ L, p.1 < w.heap.size
  | [], _, _, p, hp => by cases hp
  | (b, s) :: L, _, ⟨_, nv, h1, h2⟩, p, hp => by
    rcases List.mem_cons.1 hp with rfl | hp
    · exact h1.lt
    · exact h2.lt p hp
theorem Chain.later {w w' : World} {L : List (Nat × Sl)} {pv : Value} (h : Chain w L pv) (hb : Below w.heap.size w w') : Chain w' L pv := h.same (fun _ _ _ hc => hc.later hb)
theorem ablk_grown {T : TypeId} {w w' : World} {row : Option Nat} {b : Nat} {cs : Array Value} (h : ABlk T w b cs) (hg : w.grownBy w' row) (hr : ∀ r, row = some r → ∃ o : Obj, w.heap[r]? = some o ∧ o.isCells = false) : ABlk T w' b cs := by
  refine (hg.block b h.lt (fun e => ?_)).trans h
  obtain ⟨o, ho, hc⟩ := hr b e.symm
  unfold ABlk at h
  rw [h] at ho
  cases ho
  cases hc
theorem Chain.grown {w w' : World} {row : Option Nat} {L : List (Nat × Sl)} {pv : Value} (h : Chain w L pv) (hg : w.grownBy w' row) (hr : ∀ r, row = some r → ∃ o : Obj, w.heap[r]? = some o ∧ o.isCells = false) : Chain w' L pv :=
  h.same (fun _ _ _ hc => ablk_grown hc hg hr)
/-- What is remembered: these seals, in notes from a block on, each in its own. -/
def Mem (w : World) (B : Nat) (pv : Value) (xs : List Sl) : Prop := ∃ L : List (Nat × Sl), Chain w L pv ∧ L.map Prod.snd = xs ∧ (∀ p ∈ L, B ≤ p.1) ∧ (L.map Prod.fst).Nodup
theorem Mem.later {w w' : World} {B : Nat} {pv : Value} {xs : List Sl} (h : Mem w B pv xs) (hb : Below w.heap.size w w') : Mem w' B pv xs := by
  obtain ⟨L, h1, h2, h3, h4⟩ := h
  exact ⟨L, h1.later hb, h2, h3, h4⟩
theorem Mem.grown {w w' : World} {B : Nat} {row : Option Nat} {pv : Value} {xs : List Sl} (h : Mem w B pv xs) (hg : w.grownBy w' row) (hr : ∀ r, row = some r → ∃ o : Obj, w.heap[r]? = some o ∧ o.isCells = false) : Mem w' B pv xs := by
  obtain ⟨L, h1, h2, h3, h4⟩ := h
  exact ⟨L, h1.grown hg hr, h2, h3, h4⟩
theorem Mem.nil (w : World) (B : Nat) : Mem w B (.pointer none) [] := ⟨[], rfl, rfl, (fun _ h => by cases h), List.nodup_nil⟩
theorem Mem.cons {w w' : World} {B b : Nat} {pv : Value} {s : Sl} {xs : List Sl} (h : Mem w B pv xs) (hw : Below w.heap.size w w') (hb : ABlk 115 w' b (noteC s pv)) (hB : B ≤ b) (hn : w.heap.size ≤ b) : Mem w' B (.pointer (some ⟨b, 0, none⟩)) (s :: xs) := by
  obtain ⟨L, h1, h2, h3, h4⟩ := h
  refine ⟨(b, s) :: L, ⟨rfl, pv, hb, h1.later hw⟩, by simp [h2], ?_, ?_⟩
  · intro p hp
    rcases List.mem_cons.1 hp with rfl | hp
    · exact hB
    · exact h3 p hp
  · simp only [List.map_cons, List.nodup_cons]
    refine ⟨fun hm => ?_, h4⟩
    obtain ⟨p, hp, e⟩ := List.mem_map.1 hm
    have := h1.lt p hp
    omega

theorem putA7_grl (w : World) (b : Nat) (v0 v1 v2 v3 v4 v5 v6 : Value) : GrL w (((((((w.setCell ⟨b, 0, none⟩ v0).setCell ⟨b, 1, none⟩ v1).setCell ⟨b, 2, none⟩ v2).setCell ⟨b, 3, none⟩ v3).setCell ⟨b, 4, none⟩ v4).setCell ⟨b, 5, none⟩ v5).setCell ⟨b, 6, none⟩ v6) [some b] := putA_grl (vs := [v0, v1, v2, v3, v4, v5, v6]) (o := 0)
theorem ABlk.putA7 {T : TypeId} {w : World} {b : Nat} {u0 u1 u2 u3 u4 u5 u6 : Value} (h : ABlk T w b #[u0, u1, u2, u3, u4, u5, u6]) (v0 v1 v2 v3 v4 v5 v6 : Value) : ABlk T (((((((w.setCell ⟨b, 0, none⟩ v0).setCell ⟨b, 1, none⟩ v1).setCell ⟨b, 2, none⟩ v2).setCell ⟨b, 3, none⟩ v3).setCell ⟨b, 4, none⟩ v4).setCell ⟨b, 5, none⟩ v5).setCell ⟨b, 6, none⟩ v6) b #[v0, v1, v2, v3, v4, v5, v6] := h.put (cs := [u0, u1, u2, u3, u4, u5, u6]) [v0, v1, v2, v3, v4, v5, v6] rfl
theorem Chain.ptr {w : World} : ∀ {L : List (Nat × Sl)} {pv : Value}, Chain w L pv → ∃ p, pv = .pointer p
  | [], _, h => ⟨none, h⟩
  | (b, _) :: _, _, ⟨e, _⟩ => ⟨some ⟨b, 0, none⟩, e⟩
theorem Mem.ptr {w : World} {B : Nat} {pv : Value} {xs : List Sl} (h : Mem w B pv xs) : ∃ p, pv = .pointer p := by
  obtain ⟨L, h1, _⟩ := h
  exact h1.ptr
abbrev IS := Int × Sl
def encIS (x : IS) : Array Value := #[.int .i64 x.1, x.2.v]

/-- What the body of a loop over a row must keep: the row, and where it is told of. -/
def KpB (n₀ Bt : Nat) (A B : World) : Prop := Below n₀ A B ∧ (Bt < A.heap.size → B.heap[Bt]? = A.heap[Bt]?)
theorem KpB.trans {n₀ Bt : Nat} {A B C : World} (h : KpB n₀ Bt A B) (k : KpB n₀ Bt B C) : KpB n₀ Bt A C := ⟨h.1.trans k.1, fun hl => (k.2 (Nat.lt_of_lt_of_le hl h.1.size)).trans (h.2 hl)⟩
theorem kpB_b {n₀ Bt : Nat} {w : World} (hn : n₀ ≤ w.heap.size) (hB : Bt < w.heap.size) (W : World) (l : Nat) (o o' : Obj) (hl : w.heap.size ≤ l) (h : W.heap[l]? = some o) (h1 : o.isCells = false) (h2 : o.isWalk = false) : KpB n₀ Bt W (W.putObj l o') :=
  ⟨belowK_b hn W l o o' hl h h1 h2, fun _ => (grownBy_putObj' W l o').block Bt (by have := (Array.getElem?_eq_some_iff.1 h).1; omega) (fun e => by cases e; omega)⟩
theorem ABlk.kp {T : TypeId} {n₀ Bt : Nat} {A B : World} {cs : Array Value} (h : ABlk T A Bt cs) (k : KpB n₀ Bt A B) : ABlk T B Bt cs := (k.2 h.lt).trans h

set_option maxHeartbeats 2000000 in
set_option maxRecDepth 100000 in
theorem bwd_in (n : Nat) (hn : 3 ≤ n) (l Bt : Nat) (a : Option Addr) (c : Nat) (xs : List Sl) (hx : xs.length ≤ 1048576) (w0 : World) (T : TypeId) (hr : SRow w0 a xs) (J Jx : List IS → World → Prop)
    (hY : ∀ pre x W, J pre W → pre.length < xs.length → YieldAt Fence.wide (n - 1) Tryd.prog l (encIS x) W fun e W' =>
      (e = .returned (.bool true) ∧ J (pre ++ [x]) W' ∧ KpB w0.heap.size Bt W W') ∨ (e = .returned (.bool false) ∧ Jx (pre ++ [x]) W'))
    (W : World) (hW : Below w0.heap.size w0 W) (hbt : ABlk T W Bt #[.slice a xs.length c]) (hj0 : J [] W) :
    CallsIn Fence.wide n Tryd.prog 105 #[.func (.yield l) #[] #[], .pointer (some ⟨Bt, 0, none⟩)] W fun e W' => (∃ v, e = .returned v) ∧
      ((∃ ys, ys.map Prod.snd = xs.reverse ∧ J ys W') ∨ (∃ pre, True ∧ Jx pre W')) := by
  refine callsIn_of_wp Tryd.func105 rfl trivial ?_ rfl
  simp only [Tryd.ntmps105, List.size_toArray, List.length_cons, List.length_nil, Nat.reduceAdd, Nat.reduceSub, Array.replicate_succ, Array.replicate_zero, List.push_toArray, List.append_toArray, List.nil_append, List.cons_append]
  have p0 := hbt.at 0 (.slice a xs.length c) rfl
  gi_wp2
  gi_loopw [3] (fun v wr => ∃ (j : Nat) (pre : List IS), j ≤ xs.length ∧ v = .int .i64 ((j : Int) - 1) ∧ pre.length = xs.length - j ∧ pre.map Prod.snd = xs.reverse.take (xs.length - j) ∧ Below w0.heap.size w0 wr ∧ ABlk T wr Bt #[.slice a xs.length c] ∧ J pre wr)
    (fun v _ => (intOf v + 1).toNat)
  case atStart =>
    exact ⟨xs.length, [], Nat.le_refl _, by go_num, by simp, by simp, hW, hbt, hj0⟩
  case round =>
    obtain ⟨j, pre, hj, rfl, hpl, hpm, hwr, hbr, hJs⟩ := hrel
    have p1 := hbr.at 0 (.slice a xs.length c) rfl
    clear p0
    by_cases hz : j = 0
    · subst hz
      gi_wp2
      go_end0
      refine ⟨⟨_, rfl⟩, .inl ⟨pre, ?_, hJs⟩⟩
      have el : xs.length = xs.reverse.length := by simp
      rw [hpm, Nat.sub_zero, el, List.take_length]
    · obtain ⟨q, rfl⟩ : ∃ q, j = q + 1 := ⟨j - 1, by omega⟩
      obtain ⟨u, hu⟩ : ∃ u, xs[q]? = some u := ⟨xs[q], List.getElem?_eq_getElem (by omega)⟩
      rcases hr with h | ⟨b, off, rfl, hl, h⟩
      · simp [h] at hj
      have hS := (h q u hu).later' hwr hl
      obtain ⟨c0, c1, c2, c3, c4, c5, c6⟩ := hS
      obtain ⟨fn, tmps, assign, body, hy, hR⟩ := hY pre ((q : Int), u) wr hJs (by omega)
      have e1 : ((q + 1 : Nat) : Int) - 1 = q := by omega
      rw [e1]
      have HU : Hid (xs[q]? = some u) := hu
      clear hz h hu
      unfold encIS Sl.v at hy
      gi_wp2_with fail
      refine ⟨fun _ => by omega, ?_⟩
      refine hR.mono ?_
      have hrev : List.map Prod.snd (pre ++ [((q : Int), u)]) = List.take (xs.length - q) xs.reverse := by
        have h9 : xs.length - q = (xs.length - (q + 1)) + 1 := by omega
        have h8 : xs.reverse[xs.length - (q + 1)]? = some u := by
          rw [List.getElem?_reverse (by omega)]
          rw [← HU.out]
          congr 1
          omega
        rw [h9, List.take_add_one, h8, List.map_append, hpm]
        rfl
      rintro e W3 (⟨rfl, hJ3, hk3⟩ | ⟨rfl, hJx3⟩)
      · gi_wp2
        go_roundw
        case rel => exact ⟨q, _, by omega, by go_num, by simp only [List.length_append, List.length_cons, List.length_nil]; omega, hrev, hwr.trans hk3.1, hbr.kp hk3, hJ3⟩
        case measure => simp [intOf]
      · gi_wp2
        refine bodyPost_ret (results_none rfl _ _ _) rfl ?_
        exact ⟨⟨_, rfl⟩, .inr ⟨_, trivial, hJx3⟩⟩

/-- The iterator's contract. -/
theorem bwd_stops (n : Nat) (hn : 3 ≤ n) (Bt : Nat) (a : Option Addr) (c : Nat) (xs : List Sl) (hx : xs.length ≤ 1048576) (w0 W0 : World) (T : TypeId) (hr : SRow w0 a xs) (hb : Below w0.heap.size w0 W0) (hbt : ABlk T W0 Bt #[.slice a xs.length c]) :
    SeqStopsK Fence.wide n Tryd.prog 105 #[.pointer (some ⟨Bt, 0, none⟩)] encIS (KpB w0.heap.size Bt) (fun ys => ys.map Prod.snd = xs.reverse) (fun _ => True) xs.length W0 := fun l J Jx W hW _ _ hY h0J =>
  bwd_in n hn l Bt a c xs hx w0 T hr J Jx hY W (hb.trans (hW.mono hb.size)) (hbt.later hW) h0J

theorem bwd_any (a : Option Addr) (c n : Nat) (w : World) : Calls Tryd.prog 99 #[.slice a n c] w fun r w' => r = .returned (.func (.func 105) #[] #[.pointer (some ⟨w.heap.size, 0, none⟩)]) ∧ w' = w.alloc (.cells #[.slice a n c] 29) := by
  go_enter Tryd.func99, Tryd.ntmps99
  go_wp2
  go_ret
  exact ⟨rfl, rfl⟩
set_option maxHeartbeats 4000000 in
set_option maxRecDepth 100000 in
theorem memoryOf_any (a : Option Addr) (c : Nat) (xs : List Sl) (hx : xs.length ≤ 1048576) (w : World) (hr : SRow w a xs) :
    Calls Tryd.prog 77 #[.slice a xs.length c] w fun r w' => ∃ pv, r = .returned (.agg #[pv]) ∧ Mem w' w.heap.size pv xs ∧ Below w.heap.size w w' := by
  refine callsIn_wide (n := 12) |>.1 ?_
  refine callsIn_of_wp_marks Tryd.func77 rfl trivial ?_ rfl
  simp only [Tryd.ntmps77, List.size_toArray, List.length_cons, List.length_nil, Nat.reduceAdd, Nat.reduceSub, Array.replicate_succ, Array.replicate_zero, List.push_toArray, List.append_toArray, List.nil_append, List.cons_append]
  gi_wp2_with fail
  refine ⟨trivial, callsIn_wide (n := 11) |>.2 ((bwd_any a c xs.length _).mono ?_)⟩
  rintro e w1 ⟨rfl, rfl⟩
  have HW : Hid (Below w.heap.size w (((w.alloc (.cells #[.pointer none] 85)).alloc (.cells #[.pointer none] 85)).alloc (.cells #[.slice a xs.length c] 29)) ∧ ABlk 85 (((w.alloc (.cells #[.pointer none] 85)).alloc (.cells #[.pointer none] 85)).alloc (.cells #[.slice a xs.length c] 29)) w.heap.size #[.pointer none] ∧ ABlk 85 (((w.alloc (.cells #[.pointer none] 85)).alloc (.cells #[.pointer none] 85)).alloc (.cells #[.slice a xs.length c] 29)) (w.heap.size + 1) #[.pointer none] ∧ ABlk 29 (((w.alloc (.cells #[.pointer none] 85)).alloc (.cells #[.pointer none] 85)).alloc (.cells #[.slice a xs.length c] 29)) (w.heap.size + 1 + 1) #[.slice a xs.length c] ∧ (((w.alloc (.cells #[.pointer none] 85)).alloc (.cells #[.pointer none] 85)).alloc (.cells #[.slice a xs.length c] 29)).heap.size = w.heap.size + 3 ∧ SRow (((w.alloc (.cells #[.pointer none] 85)).alloc (.cells #[.pointer none] 85)).alloc (.cells #[.slice a xs.length c] 29)) a xs) := by
    have hb : Below w.heap.size w (((w.alloc (.cells #[.pointer none] 85)).alloc (.cells #[.pointer none] 85)).alloc (.cells #[.slice a xs.length c] 29)) := (((Below.refl _ _).alloc (Nat.le_refl _) _).alloc (by simp) _).alloc (by simp; omega) _
    have e1 := ABlk.new (w.alloc (.cells #[.pointer none] 85)) 85 #[.pointer none]
    have e2 := ABlk.new ((w.alloc (.cells #[.pointer none] 85)).alloc (.cells #[.pointer none] 85)) 29 #[.slice a xs.length c]
    rw [World.size_alloc] at e1
    rw [World.size_alloc, World.size_alloc] at e2
    exact ⟨hb, ((ABlk.new _ _ _).later (Below.alloc_ _ _)).later (Below.alloc_ _ _), e1.later (Below.alloc_ _ _), e2, by simp, hr.later hb⟩
  simp only [World.size_alloc]
  generalize (((w.alloc (.cells #[.pointer none] 85)).alloc (.cells #[.pointer none] 85)).alloc (.cells #[.slice a xs.length c] 29)) = W0 at HW ⊢
  gi_wp2_with fail
  have hsz := HW.out.2.2.2.2.1
  refine wpIn_rangeFunc_ownH rfl (by omega) (gf := 105) (lb := #[.pointer (some ⟨w.heap.size + 1 + 1, 0, none⟩)]) rfl trivial (enters_of Tryd.func105 (by kernel_rfl) rfl)
    (bwd_stops 11 (by omega) (w.heap.size + 1 + 1) a c xs hx w W0 29 hr HW.out.1 HW.out.2.2.2.1) KpB.trans (kpB_b (by omega) (by omega)) (Below.refl _ _) (fun _ => rfl)
    (fun pre W => ∃ pv, Hid (ABlk 85 W w.heap.size #[.pointer none] ∧ ABlk 85 W (w.heap.size + 1) #[pv] ∧ Mem W w.heap.size pv (pre.map Prod.snd).reverse ∧ Below w.heap.size w W ∧ w.heap.size + 3 ≤ W.heap.size))
    (fun _ _ _ => False)
    ?hI
    (fun _ _ _ _ _ hs _ _ => hs)
    ⟨.pointer none, HW.out.2.1, HW.out.2.2.1, Mem.nil _ _, HW.out.1, by omega⟩
    (fun x a' W => ∃ Bx, w.heap.size + 1 < Bx ∧ ABlk 64 W Bx #[.int .i64 x.2.k, .int .i64 x.2.t, .int .i64 x.2.a, .int .i64 x.2.b, .int .i64 x.2.c, .int .i64 x.2.d, .int .i64 x.2.e] ∧ a' = { tmps := #[.slice a xs.length c, undef, .pointer (some ⟨w.heap.size, 0, none⟩), .pointer (some ⟨w.heap.size + 1, 0, none⟩), undef, .pointer (some ⟨Bx, 0, none⟩), .slice a xs.length c, .func (.func 105) #[] #[.pointer (some ⟨w.heap.size + 1 + 1, 0, none⟩)], .int .i64 x.1, x.2.v, undef, undef, undef, undef, undef, undef, undef], defers := [] })
    (fun x a' _ X Y row hs hg hr => by obtain ⟨Bx, h1, h2, h3⟩ := hs; exact ⟨Bx, h1, ablk_grown h2 hg (fun r e => (hr r e).2), h3⟩)
    ?assign ?body ?done ?stop
  case hI =>
    rintro pre X Y row ⟨pv, hs⟩ hg hr
    refine ⟨pv, ablk_grown hs.out.1 hg (fun r e => (hr r e).2), ablk_grown hs.out.2.1 hg (fun r e => (hr r e).2), hs.out.2.2.1.grown hg (fun r e => (hr r e).2), hs.out.2.2.2.1.grown hg ?_ ?_, Nat.le_trans hs.out.2.2.2.2 hg.size⟩
    · exact hs.out.2.2.2.1.size
    · intro k e
      have := (hr k e).1
      omega
  case assign =>
    rintro l pre x W K ⟨pv, H⟩ hK
    unfold encIS Sl.v
    gi_wp2
    have hb := Below.alloc_ W (.cells #[.int .i64 x.2.k, .int .i64 x.2.t, .int .i64 x.2.a, .int .i64 x.2.b, .int .i64 x.2.c, .int .i64 x.2.d, .int .i64 x.2.e] 64)
    have hs := H.out.2.2.2.2
    exact hK _ _ ((KeepsOthers.alloc _ _).from _) ⟨hb.mono (by omega), fun hl => hb.block _ hl⟩ ⟨pv, H.out.1.later hb, H.out.2.1.later hb, H.out.2.2.1.later hb, H.out.2.2.2.1.trans (hb.mono (by omega)), by simp; omega⟩ ⟨W.heap.size, by omega, ABlk.new _ _ _, rfl⟩
  case body =>
    rintro l pre x a' W hl ⟨r, hr9⟩ ⟨pv, H⟩ ⟨Bx, hBx, bX, rfl⟩ hlt
    obtain ⟨p, rfl⟩ := H.out.2.2.1.ptr
    have c0 := bX.at 0 (.int .i64 x.2.k) rfl
    have c1 := bX.at 1 (.int .i64 x.2.t) rfl
    have c2 := bX.at 2 (.int .i64 x.2.a) rfl
    have c3 := bX.at 3 (.int .i64 x.2.b) rfl
    have c4 := bX.at 4 (.int .i64 x.2.c) rfl
    have c5 := bX.at 5 (.int .i64 x.2.d) rfl
    have c6 := bX.at 6 (.int .i64 x.2.e) rfl
    have m0 := H.out.2.1.at 0 (.pointer p) rfl
    have mf := H.out.2.1.fro 0
    have mlt := H.out.2.1.lt
    gi_wp2_with fail
    have hs := H.out.2.2.2.2
    have g1 := setCell_grl W (w.heap.size + 1) 0 (.pointer (some ⟨W.heap.size, 0, none⟩))
    have k1 := H.out.2.1.set 0 (.pointer (some ⟨W.heap.size, 0, none⟩))
    have hk1 : KeepsOthers W (W.setCell ⟨w.heap.size + 1, 0, none⟩ (.pointer (some ⟨W.heap.size, 0, none⟩))) := KeepsOthers.setCell _ _ _
    have hz1 : (W.setCell ⟨w.heap.size + 1, 0, none⟩ (.pointer (some ⟨W.heap.size, 0, none⟩))).heap.size = W.heap.size := by simp
    have HM : Mem (W.setCell ⟨w.heap.size + 1, 0, none⟩ (.pointer (some ⟨W.heap.size, 0, none⟩))) w.heap.size (.pointer p) (pre.map Prod.snd).reverse := by
      obtain ⟨L, m1, m2, m3, m4⟩ := H.out.2.2.1
      exact ⟨L, m1.same (fun q _ cs hc => hc.grl g1 (fun hm => by simp at hm; exact hc.ne H.out.2.1 (by decide) hm)), m2, m3, m4⟩
    have r1 := H.out.1.grl g1 (by simp)
    have b2 := Below.alloc_ (W.setCell ⟨w.heap.size + 1, 0, none⟩ (.pointer (some ⟨W.heap.size, 0, none⟩))) (.cells (noteC x.2 (.pointer p)) 115)
    have n2 := ABlk.new (W.setCell ⟨w.heap.size + 1, 0, none⟩ (.pointer (some ⟨W.heap.size, 0, none⟩))) 115 (noteC x.2 (.pointer p))
    unfold noteC at b2 n2
    generalize (W.setCell ⟨w.heap.size + 1, 0, none⟩ (.pointer (some ⟨W.heap.size, 0, none⟩))) = V at g1 k1 hk1 hz1 HM r1 b2 n2 ⊢
    have bw : Below w.heap.size W V := g1.below (by omega) (fun k hk => by simp at hk; omega)
    refine ⟨(hk1.trans (KeepsOthers.alloc _ _)).from _, ⟨bw.trans (b2.mono (by omega)), fun hl => ?_⟩, .pointer (some ⟨W.heap.size, 0, none⟩), r1.later b2, k1.later b2, ?_, H.out.2.2.2.1.trans (bw.trans (b2.mono (by omega))), ?_⟩
    · exact (b2.block _ (by omega)).trans (g1.block _ hl (by simp))
    · rw [← hz1]
      have e : (List.map Prod.snd (pre ++ [x])).reverse = x.2 :: (pre.map Prod.snd).reverse := by simp
      rw [e]
      exact HM.cons b2 n2 (by omega) (Nat.le_refl _)
    · simp; omega
  case done =>
    rintro D zs W hD hzs ⟨pv, H⟩ hK
    obtain ⟨p, rfl⟩ := H.out.2.2.1.ptr
    have m0 := H.out.2.1.at 0 (.pointer p) rfl
    have q0 := H.out.1.at 0 (.pointer none) rfl
    have qf := H.out.1.fro 0
    have qm : w.heap.size ≠ w.heap.size + 1 := by omega
    gi_wp2
    have g1 := setCell_grl W w.heap.size 0 (.pointer p)
    have hr1 := H.out.1.set 0 (.pointer p)
    have HM : Mem (W.setCell ⟨w.heap.size, 0, none⟩ (.pointer p)) w.heap.size (.pointer p) xs := by
      obtain ⟨L, m1, m2, m3, m4⟩ := H.out.2.2.1
      rw [hzs, List.reverse_reverse] at m2
      exact ⟨L, m1.same (fun q _ cs hc => hc.grl g1 (fun hm => by simp at hm; exact hc.ne H.out.1 (by decide) hm)), m2, m3, m4⟩
    have hk1 : KeepsOthers W (W.setCell ⟨w.heap.size, 0, none⟩ (.pointer p)) := KeepsOthers.setCell _ _ _
    have hbw : Below w.heap.size w (W.setCell ⟨w.heap.size, 0, none⟩ (.pointer p)) := below_grl H.out.2.2.2.1 g1 H.out.2.2.2.1.size (fun k hk => by simp at hk; omega)
    clear m0 q0 qf g1 H
    generalize (W.setCell ⟨w.heap.size, 0, none⟩ (.pointer p)) = V at hk1 hbw hr1 HM ⊢
    have hK' := hk1.same D _ hK rfl
    refine ⟨by simp, .inl ⟨_, _, rfl, run_takeDeferred hK', ?_⟩⟩
    have hp := grownBy_putObj' V D (.deferred none)
    have hr9 : ∀ r, some D = some r → ∃ o : Obj, V.heap[r]? = some o ∧ o.isCells = false := fun r e => by cases e; exact ⟨_, hK', rfl⟩
    have HM2 := HM.grown hp hr9
    have hr2 := (ablk_grown hr1 hp hr9).at 0 (.pointer p) rfl
    refine ⟨.agg #[.pointer p], ?_, .pointer p, rfl, HM2, hbw.trans (belowK_b (w := w) (Nat.le_refl _) V D _ _ (by omega) hK' rfl rfl)⟩
    simp [results, Tryd.f77, go_sem, hr2]
  case stop =>
    rintro D c pre W _ _ h _
    exact h.elim

end Go.Proofs.YtghajmfjekfdpaaDoor
