/-
  The laws' own ways with a user: a copy, whether two are the same, how long, marks.
-/
import Derived.Test.YtghajmfjekfdpaaDoorNRowJ
namespace Go.Proofs.YtghajmfjekfdpaaDoor
open Go.RowKit

/-- The lists of a user. -/
structure CRows (w : World) (a1 a2 a3 a4 : Option Addr) (ws : List Wn) (cs : List Cd) (ss ms : List Ca) : Prop where
  w1 : NRow celW w a1 ws
  w2 : NRow celD w a2 cs
  w3 : NRow celC w a3 ss
  w4 : NRow celC w a4 ms
theorem CRows.later {w w' : World} {a1 a2 a3 a4 : Option Addr} {ws : List Wn} {cs : List Cd} {ss ms : List Ca} (h : CRows w a1 a2 a3 a4 ws cs ss ms) (hb : Below w.heap.size w w') : CRows w' a1 a2 a3 a4 ws cs ss ms := ⟨h.w1.later hb, h.w2.later hb, h.w3.later hb, h.w4.later hb⟩

theorem WB.else {w : World} {g n p o : Nat} {u : Value} (h : WB w g n) (hp : p ≠ g) : WB (w.setCell ⟨p, o, none⟩ u) g n := h.same (by simp [World.setCell, Array.getElem?_modify, hp])
theorem WB.later {w w' : World} {g n : Nat} (h : WB w g n) (hb : Below w.heap.size w w') : WB w' g n := h.same (hb.block _ h.lt)

theorem restI_neg {q : Int} {len : Nat} (h : restI q len < 0) : restI q len = -1 := by
  unfold restI at h ⊢
  split at h
  · rw [if_pos (by assumption)]
  · omega
/-- What is left behind the four lists of a user. -/
def restC (q : Int) (l1 l2 l3 l4 : Nat) : Int := if q - l1 < 0 then -1 else if q - l1 - l2 < 0 then -1 else if q - l1 - l2 - l3 < 0 then -1 else if q - l1 - l2 - l3 - l4 < 0 then -1 else q - l1 - l2 - l3 - l4
end Go.Proofs.YtghajmfjekfdpaaDoor

namespace Go.Proofs.YtghajmfjekfdpaaDoor
open Go.RowKit

/-- Just these blocks are turned. -/
structure GrL (w w' : World) (bs : List (Option Nat)) : Prop where
  os : w'.os = w.os
  tape : w'.tape = w.tape
  output : w'.output = w.output
  size : w.heap.size ≤ w'.heap.size
  block : ∀ k, k < w.heap.size → some k ∉ bs → w'.heap[k]? = w.heap[k]?
theorem GrL.of {w w' : World} {r : Option Nat} (h : w.grownBy w' r) : GrL w w' [r] := ⟨h.os, h.tape, h.output, h.size, fun k hk hn => h.block k hk (by simpa using hn)⟩
theorem GrL.ofB {w w' : World} (h : Below w.heap.size w w') : GrL w w' [] := ⟨h.os, h.tape, h.output, h.size, fun k hk _ => h.block k hk⟩
theorem GrL.trans {w w' w'' : World} {ls bs : List (Option Nat)} (h : GrL w w' ls) (h' : GrL w' w'' bs) : GrL w w'' (ls ++ bs) :=
  ⟨h'.os.trans h.os, h'.tape.trans h.tape, h'.output.trans h.output, Nat.le_trans h.size h'.size, fun k hk hn => by
    simp only [List.mem_append, not_or] at hn
    exact (h'.block k (Nat.lt_of_lt_of_le hk h.size) hn.2).trans (h.block k hk hn.1)⟩
theorem GrL.below {w w' : World} {bs : List (Option Nat)} {B : Nat} (h : GrL w w' bs) (hB : B ≤ w.heap.size) (hn : ∀ k, some k ∈ bs → B ≤ k) : Below B w w' :=
  ⟨h.os, h.tape, h.output, h.size, fun k hk => h.block k (by omega) (fun hm => by have := hn k hm; omega)⟩
theorem OwnN.grl {X : Type} {C : Cel X} {T : TypeId} {w w' : World} {base : Nat} {v : Value} {zs : List X} {bs : List (Option Nat)} (h : OwnN C T w base v zs) (hg : GrL w w' bs) (hne : ∀ k, v.ownBlock = some k → some k ∉ bs) : OwnN C T w' base v zs :=
  h.keep fun g e => hg.block g (h.lt g e).2 (hne g e)
theorem MkN.grl {n : Nat} {w w' : World} {v : Value} {l : Nat} {k0 : Int} {bs : List (Option Nat)} (h : MkN n w v l k0) (hg : GrL w w' bs) (hne : ∀ k, v.ownBlock = some k → some k ∉ bs) : MkN n w' v l k0 := by
  obtain ⟨a, cap, rfl, h | ⟨g, rfl, hl, h⟩⟩ := h
  · exact ⟨a, cap, rfl, Or.inl h⟩
  · exact ⟨_, cap, rfl, Or.inr ⟨g, rfl, Nat.lt_of_lt_of_le hl hg.size, fun i hi => (World.cell?_of_block (hg.block g hl (hne g rfl))).trans (h i hi)⟩⟩
theorem NRow.grl {X : Type} {C : Cel X} {w w' : World} {a : Option Addr} {xs : List X} {bs : List (Option Nat)} (h : NRow C w a xs) (hg : GrL w w' bs) (hne : ∀ b off, a = some ⟨b, off, none⟩ → some b ∉ bs) : NRow C w' a xs := by
  rcases h with h | ⟨b, off, rfl, hl, h⟩
  · exact Or.inl h
  · exact Or.inr ⟨b, off, rfl, Nat.lt_of_lt_of_le hl hg.size, fun i x hx => (h i x hx).same (hg.block b hl (hne b off rfl))⟩

/-- Marks lie in them. -/
structure Mk4 (w : World) (v1 v2 v3 v4 : Value) (l1 l2 l3 l4 : Nat) (k0 : Int) : Prop where
  m1 : MkN 2 w v1 l1 k0
  m2 : MkN 10 w v2 l2 (k0 + 2 * l1)
  m3 : MkN 4 w v3 l3 (k0 + 2 * l1 + 10 * l2)
  m4 : MkN 4 w v4 l4 (k0 + 2 * l1 + 10 * l2 + 4 * l3)
theorem Mk4.later {w w' : World} {v1 v2 v3 v4 : Value} {l1 l2 l3 l4 : Nat} {k0 : Int} (h : Mk4 w v1 v2 v3 v4 l1 l2 l3 l4 k0) (hb : Below w.heap.size w w') : Mk4 w' v1 v2 v3 v4 l1 l2 l3 l4 k0 := ⟨h.m1.later hb, h.m2.later hb, h.m3.later hb, h.m4.later hb⟩
theorem Mk4.grl {w w' : World} {v1 v2 v3 v4 : Value} {l1 l2 l3 l4 : Nat} {k0 : Int} {bs : List (Option Nat)} (h : Mk4 w v1 v2 v3 v4 l1 l2 l3 l4 k0) (hg : GrL w w' bs) (hn : ∀ k, v1.ownBlock = some k ∨ v2.ownBlock = some k ∨ v3.ownBlock = some k ∨ v4.ownBlock = some k → some k ∉ bs) : Mk4 w' v1 v2 v3 v4 l1 l2 l3 l4 k0 :=
  ⟨h.m1.grl hg (fun k e => hn k (Or.inl e)), h.m2.grl hg (fun k e => hn k (Or.inr (Or.inl e))), h.m3.grl hg (fun k e => hn k (Or.inr (Or.inr (Or.inl e)))), h.m4.grl hg (fun k e => hn k (Or.inr (Or.inr (Or.inr e))))⟩

end Go.Proofs.YtghajmfjekfdpaaDoor

namespace Go.Proofs.YtghajmfjekfdpaaDoor
open Go.RowKit

/-- A block that holds these cells. -/
def ABlk (T : TypeId) (w : World) (b : Nat) (cs : Array Value) : Prop := w.heap[b]? = some (.cells cs T (0, 0))
theorem ABlk.lt {T : TypeId} {w : World} {b : Nat} {cs : Array Value} (h : ABlk T w b cs) : b < w.heap.size := (Array.getElem?_eq_some_iff.1 h).1
theorem ABlk.later {T : TypeId} {w w' : World} {b : Nat} {cs : Array Value} (h : ABlk T w b cs) (hb : Below w.heap.size w w') : ABlk T w' b cs := (hb.block _ h.lt).trans h
theorem ABlk.base {T : TypeId} {w w' : World} {b B : Nat} {cs : Array Value} (h : ABlk T w b cs) (hb : Below B w w') (hB : b < B) : ABlk T w' b cs := (hb.block _ hB).trans h
theorem ABlk.grl {T : TypeId} {w w' : World} {b : Nat} {cs : Array Value} {bs : List (Option Nat)} (h : ABlk T w b cs) (hg : GrL w w' bs) (hn : some b ∉ bs) : ABlk T w' b cs := (hg.block _ h.lt hn).trans h
theorem ABlk.new (w : World) (T : TypeId) (cs : Array Value) : ABlk T (w.alloc (.cells cs T)) w.heap.size cs := heap_alloc_new _ _
theorem ABlk.at {T : TypeId} {w : World} {b : Nat} {cs : Array Value} (h : ABlk T w b cs) (q : Nat) (v : Value) (hq : cs[q]? = some v) : w.cell? ⟨b, q, none⟩ = some v := by
  unfold ABlk at h
  simp [World.cell?, h, hq]
theorem ABlk.fro {T : TypeId} {w : World} {b : Nat} {cs : Array Value} (h : ABlk T w b cs) (q : Nat) : w.frozen? ⟨b, q, none⟩ = false := by
  unfold ABlk at h
  simp [World.frozen?, h]
theorem ABlk.ne {T T' : TypeId} {w : World} {b b' : Nat} {cs cs' : Array Value} (h : ABlk T w b cs) (h' : ABlk T' w b' cs') (hT : T ≠ T') : b ≠ b' := typeN_ne h h' hT
theorem ABlk.off {X : Type} {C : Cel X} {T T' : TypeId} {w : World} {b base : Nat} {cs : Array Value} {v : Value} {zs : List X} (h : ABlk T w b cs) (h' : OwnN C T' w base v zs) (hT : T' ≠ T) : ∀ k, v.ownBlock = some k → k ≠ b := fun k e => by
  obtain ⟨cur, hc⟩ := h'.type e
  exact typeN_ne hc h hT
theorem Touch.grl {g : Nat} {w w' : World} (h : Touch g w w') : GrL w w' [some g] := ⟨h.os, h.tape, h.output, Nat.le_of_eq h.size.symm, fun k _ hn => h.block k (fun e => hn (by simp [e]))⟩
theorem GrL.sub' {w w' : World} {ls bs : List (Option Nat)} (h : GrL w w' ls) (hs : ∀ k, k ∈ ls → k ∈ bs) : GrL w w' bs := ⟨h.os, h.tape, h.output, h.size, fun k hk hn => h.block k hk (fun q => hn (hs _ q))⟩
/-- Cells of a block, written one behind the other. -/
def putA (w : World) (b o : Nat) : List Value → World
  | [] => w
  | v :: vs => putA (w.setCell ⟨b, o, none⟩ v) b (o + 1) vs
theorem setCell_grl (w : World) (b o : Nat) (v : Value) : GrL w (w.setCell ⟨b, o, none⟩ v) [some b] :=
  ⟨rfl, rfl, rfl, by simp [World.setCell], fun k _ hn => by
    have : b ≠ k := fun e => hn (by simp [e])
    simp [World.setCell, Array.getElem?_modify, this]⟩
theorem putA_grl : ∀ {vs : List Value} {w : World} {b o : Nat}, GrL w (putA w b o vs) [some b]
  | [], w, b, o => ⟨rfl, rfl, rfl, Nat.le_refl _, fun _ _ _ => rfl⟩
  | v :: vs, w, b, o => (GrL.trans (setCell_grl w b o v) (putA_grl (vs := vs) (w := w.setCell ⟨b, o, none⟩ v) (b := b) (o := o + 1))).sub' (fun k hk => by simpa using hk)
theorem putA_blk {T : TypeId} {b : Nat} : ∀ {vs : List Value} {w : World} {pre old : List Value}, ABlk T w b (pre ++ old).toArray → old.length = vs.length → ABlk T (putA w b pre.length vs) b (pre ++ vs).toArray
  | [], w, pre, old, h, hl => by
    have : old = [] := List.eq_nil_of_length_eq_zero hl
    subst this
    exact h
  | v :: vs, w, pre, [], h, hl => by cases hl
  | v :: vs, w, pre, x :: old, h, hl => by
    have h1 : ABlk T (w.setCell ⟨b, pre.length, none⟩ v) b ((pre ++ [v]) ++ old).toArray := by
      unfold ABlk at h ⊢
      simp [World.setCell, Array.getElem?_modify, h]
    have h2 := putA_blk (vs := vs) h1 (by simpa using hl)
    rw [List.length_append] at h2
    show ABlk T (putA (w.setCell ⟨b, pre.length, none⟩ v) b (pre.length + 1) vs) b _
    have e : pre ++ v :: vs = (pre ++ [v]) ++ vs := by simp
    rw [e]
    exact h2
theorem ABlk.put {T : TypeId} {w : World} {b : Nat} {cs : List Value} (h : ABlk T w b cs.toArray) (vs : List Value) (hl : cs.length = vs.length) : ABlk T (putA w b 0 vs) b vs.toArray :=
  putA_blk (pre := []) h hl
theorem GrL.one {w w' : World} {b : Nat} {B : Nat} (h : GrL w w' [some b]) (hB : B ≤ w.heap.size) (hb : B ≤ b) : Below B w w' := h.below hB (fun k hk => by simp at hk; omega)

theorem put1_grl (w : World) (b : Nat) (v0 : Value) : GrL w (w.setCell ⟨b, 0, none⟩ v0) [some b] := putA_grl (vs := [v0]) (o := 0)
theorem ABlk.put1 {T : TypeId} {w : World} {b : Nat} {u0 : Value} (h : ABlk T w b #[u0]) (v0 : Value) : ABlk T (w.setCell ⟨b, 0, none⟩ v0) b #[v0] := h.put (cs := [u0]) [v0] rfl
theorem put2_grl (w : World) (b : Nat) (v0 v1 : Value) : GrL w ((w.setCell ⟨b, 0, none⟩ v0).setCell ⟨b, 1, none⟩ v1) [some b] := putA_grl (vs := [v0, v1]) (o := 0)
theorem ABlk.put2 {T : TypeId} {w : World} {b : Nat} {u0 u1 : Value} (h : ABlk T w b #[u0, u1]) (v0 v1 : Value) : ABlk T ((w.setCell ⟨b, 0, none⟩ v0).setCell ⟨b, 1, none⟩ v1) b #[v0, v1] := h.put (cs := [u0, u1]) [v0, v1] rfl
theorem put3_grl (w : World) (b : Nat) (v0 v1 v2 : Value) : GrL w (((w.setCell ⟨b, 0, none⟩ v0).setCell ⟨b, 1, none⟩ v1).setCell ⟨b, 2, none⟩ v2) [some b] := putA_grl (vs := [v0, v1, v2]) (o := 0)
theorem ABlk.put3 {T : TypeId} {w : World} {b : Nat} {u0 u1 u2 : Value} (h : ABlk T w b #[u0, u1, u2]) (v0 v1 v2 : Value) : ABlk T (((w.setCell ⟨b, 0, none⟩ v0).setCell ⟨b, 1, none⟩ v1).setCell ⟨b, 2, none⟩ v2) b #[v0, v1, v2] := h.put (cs := [u0, u1, u2]) [v0, v1, v2] rfl
theorem put4_grl (w : World) (b : Nat) (v0 v1 v2 v3 : Value) : GrL w ((((w.setCell ⟨b, 0, none⟩ v0).setCell ⟨b, 1, none⟩ v1).setCell ⟨b, 2, none⟩ v2).setCell ⟨b, 3, none⟩ v3) [some b] := putA_grl (vs := [v0, v1, v2, v3]) (o := 0)
theorem ABlk.put4 {T : TypeId} {w : World} {b : Nat} {u0 u1 u2 u3 : Value} (h : ABlk T w b #[u0, u1, u2, u3]) (v0 v1 v2 v3 : Value) : ABlk T ((((w.setCell ⟨b, 0, none⟩ v0).setCell ⟨b, 1, none⟩ v1).setCell ⟨b, 2, none⟩ v2).setCell ⟨b, 3, none⟩ v3) b #[v0, v1, v2, v3] := h.put (cs := [u0, u1, u2, u3]) [v0, v1, v2, v3] rfl
theorem put5_grl (w : World) (b : Nat) (v0 v1 v2 v3 v4 : Value) : GrL w (((((w.setCell ⟨b, 0, none⟩ v0).setCell ⟨b, 1, none⟩ v1).setCell ⟨b, 2, none⟩ v2).setCell ⟨b, 3, none⟩ v3).setCell ⟨b, 4, none⟩ v4) [some b] := putA_grl (vs := [v0, v1, v2, v3, v4]) (o := 0)
theorem ABlk.put5 {T : TypeId} {w : World} {b : Nat} {u0 u1 u2 u3 u4 : Value} (h : ABlk T w b #[u0, u1, u2, u3, u4]) (v0 v1 v2 v3 v4 : Value) : ABlk T (((((w.setCell ⟨b, 0, none⟩ v0).setCell ⟨b, 1, none⟩ v1).setCell ⟨b, 2, none⟩ v2).setCell ⟨b, 3, none⟩ v3).setCell ⟨b, 4, none⟩ v4) b #[v0, v1, v2, v3, v4] := h.put (cs := [u0, u1, u2, u3, u4]) [v0, v1, v2, v3, v4] rfl
theorem put6_grl (w : World) (b : Nat) (v0 v1 v2 v3 v4 v5 : Value) : GrL w ((((((w.setCell ⟨b, 0, none⟩ v0).setCell ⟨b, 1, none⟩ v1).setCell ⟨b, 2, none⟩ v2).setCell ⟨b, 3, none⟩ v3).setCell ⟨b, 4, none⟩ v4).setCell ⟨b, 5, none⟩ v5) [some b] := putA_grl (vs := [v0, v1, v2, v3, v4, v5]) (o := 0)
theorem ABlk.put6 {T : TypeId} {w : World} {b : Nat} {u0 u1 u2 u3 u4 u5 : Value} (h : ABlk T w b #[u0, u1, u2, u3, u4, u5]) (v0 v1 v2 v3 v4 v5 : Value) : ABlk T ((((((w.setCell ⟨b, 0, none⟩ v0).setCell ⟨b, 1, none⟩ v1).setCell ⟨b, 2, none⟩ v2).setCell ⟨b, 3, none⟩ v3).setCell ⟨b, 4, none⟩ v4).setCell ⟨b, 5, none⟩ v5) b #[v0, v1, v2, v3, v4, v5] := h.put (cs := [u0, u1, u2, u3, u4, u5]) [v0, v1, v2, v3, v4, v5] rfl
theorem put8_grl (w : World) (b : Nat) (v0 v1 v2 v3 v4 v5 v6 v7 : Value) : GrL w ((((((((w.setCell ⟨b, 0, none⟩ v0).setCell ⟨b, 1, none⟩ v1).setCell ⟨b, 2, none⟩ v2).setCell ⟨b, 3, none⟩ v3).setCell ⟨b, 4, none⟩ v4).setCell ⟨b, 5, none⟩ v5).setCell ⟨b, 6, none⟩ v6).setCell ⟨b, 7, none⟩ v7) [some b] := putA_grl (vs := [v0, v1, v2, v3, v4, v5, v6, v7]) (o := 0)
theorem ABlk.put8 {T : TypeId} {w : World} {b : Nat} {u0 u1 u2 u3 u4 u5 u6 u7 : Value} (h : ABlk T w b #[u0, u1, u2, u3, u4, u5, u6, u7]) (v0 v1 v2 v3 v4 v5 v6 v7 : Value) : ABlk T ((((((((w.setCell ⟨b, 0, none⟩ v0).setCell ⟨b, 1, none⟩ v1).setCell ⟨b, 2, none⟩ v2).setCell ⟨b, 3, none⟩ v3).setCell ⟨b, 4, none⟩ v4).setCell ⟨b, 5, none⟩ v5).setCell ⟨b, 6, none⟩ v6).setCell ⟨b, 7, none⟩ v7) b #[v0, v1, v2, v3, v4, v5, v6, v7] := h.put (cs := [u0, u1, u2, u3, u4, u5, u6, u7]) [v0, v1, v2, v3, v4, v5, v6, v7] rfl
/-- A struct, built of what the slots hold. -/
theorem wp_built {P : Program} {o : Oper} {a : Act} {w : World} {K : Act → World → Prop} {Q : Exit → Act → World → Prop} (t : TypeId) (parts : Array (Nat × Operand)) (vs : Array (Nat × Value)) (cells : Array Value) (ho : o.op = .build t parts)
    (hv : (parts.map fun (i, x) => (i, a.eval x)) = vs) (hrun : (Instr.build t vs).run P w = .ok (.agg cells) w) (h : K (a.put o.dst (.agg cells)) w) : o.wp P a w K Q := by
  unfold Oper.wp execOp
  simp only [ho, Sem.run_bind, hv, hrun, Result.andThen_ok]
  exact h

end Go.Proofs.YtghajmfjekfdpaaDoor
