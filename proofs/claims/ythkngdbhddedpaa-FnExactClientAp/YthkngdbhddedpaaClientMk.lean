/-
  The laws' own marks in a user's lists: they are held there.
-/
import Derived.Test.YthkngdbhddedpaaClientTo
namespace Go.Proofs.Ythkngdbhddedpaa
open Go.RowKit

/-- Just these blocks are turned. -/
structure GrL (w w' : World) (bs : List (Option Nat)) : Prop where
  os : w'.os = w.os
  tape : w'.tape = w.tape
  output : w'.output = w.output
  size : w.heap.size ≤ w'.heap.size
  block : ∀ k, k < w.heap.size → some k ∉ bs → w'.heap[k]? = w.heap[k]?
theorem GrL.of {w w' : World} {r : Option Nat} (h : w.grownBy w' r) : GrL w w' [r] := ⟨h.os, h.tape, h.output, h.size, fun k hk hn => h.block k hk (by simpa using hn)⟩
theorem GrL.ofB {w w' : World} (h : Below w.heap.size w w') : GrL w w' [] := ⟨h.os, h.tape, h.output, h.size, fun k hk _ => h.block k hk⟩
theorem GrL.trans {w w' w'' : World} {ls bs : List (Option Nat)} (h : GrL w w' ls) (h' : GrL w' w'' bs) : GrL w w'' (ls ++ bs) :=
  ⟨h'.os.trans h.os, h'.tape.trans h.tape, h'.output.trans h.output, Nat.le_trans h.size h'.size, fun k hk hn => by
    simp only [List.mem_append, not_or] at hn
    exact (h'.block k (Nat.lt_of_lt_of_le hk h.size) hn.2).trans (h.block k hk hn.1)⟩
theorem GrL.below {w w' : World} {bs : List (Option Nat)} {B : Nat} (h : GrL w w' bs) (hB : B ≤ w.heap.size) (hn : ∀ k, some k ∈ bs → B ≤ k) : Below B w w' :=
  ⟨h.os, h.tape, h.output, h.size, fun k hk => h.block k (by omega) (fun hm => by have := hn k hm; omega)⟩
theorem CBlk.grl {w w' : World} {b : Nat} {i n : Int} {v1 v2 v3 v4 : Value} {bs : List (Option Nat)} (h : CBlk w b i n v1 v2 v3 v4) (hg : GrL w w' bs) (hn : some b ∉ bs) : CBlk w' b i n v1 v2 v3 v4 := (hg.block _ h.lt hn).trans h
theorem OwnN.grl {X : Type} {C : Cel X} {T : TypeId} {w w' : World} {base : Nat} {v : Value} {zs : List X} {bs : List (Option Nat)} (h : OwnN C T w base v zs) (hg : GrL w w' bs) (hne : ∀ k, v.ownBlock = some k → some k ∉ bs) : OwnN C T w' base v zs :=
  h.keep fun g e => hg.block g (h.lt g e).2 (hne g e)
theorem MkN.grl {n : Nat} {w w' : World} {v : Value} {l : Nat} {k0 : Int} {bs : List (Option Nat)} (h : MkN n w v l k0) (hg : GrL w w' bs) (hne : ∀ k, v.ownBlock = some k → some k ∉ bs) : MkN n w' v l k0 := by
  obtain ⟨a, cap, rfl, h | ⟨g, rfl, hl, h⟩⟩ := h
  · exact ⟨a, cap, rfl, Or.inl h⟩
  · exact ⟨_, cap, rfl, Or.inr ⟨g, rfl, Nat.lt_of_lt_of_le hl hg.size, fun i hi => (World.cell?_of_block (hg.block g hl (hne g rfl))).trans (h i hi)⟩⟩
theorem NRow.grl {X : Type} {C : Cel X} {w w' : World} {a : Option Addr} {xs : List X} {bs : List (Option Nat)} (h : NRow C w a xs) (hg : GrL w w' bs) (hne : ∀ b off, a = some ⟨b, off, none⟩ → some b ∉ bs) : NRow C w' a xs := by
  rcases h with h | ⟨b, off, rfl, hl, h⟩
  · exact Or.inl h
  · exact Or.inr ⟨b, off, rfl, Nat.lt_of_lt_of_le hl hg.size, fun i x hx => (h i x hx).same (hg.block b hl (hne b off rfl))⟩

/-- The four lists of a user lie in blocks of the call's own, each in another one. -/
structure Own4 (w : World) (B : Nat) (v1 v2 v3 v4 : Value) (ws : List Wn) (cs : List Cd) (ss ms : List Ca) : Prop where
  o1 : OwnN celW 60 w B v1 ws
  o2 : OwnN celD 56 w B v2 cs
  o3 : OwnN celC 71 w B v3 ss
  o4 : OwnN celC 71 w B v4 ms
  ne : ∀ k, v3.ownBlock = some k → v4.ownBlock ≠ some k
theorem Own4.ne12 {w : World} {B : Nat} {v1 v2 v3 v4 : Value} {ws : List Wn} {cs : List Cd} {ss ms : List Ca} (h : Own4 w B v1 v2 v3 v4 ws cs ss ms) : ∀ k, v1.ownBlock = some k → v2.ownBlock ≠ some k := fun k e1 e2 => by
  obtain ⟨x, hx⟩ := h.o1.type e1
  obtain ⟨y, hy⟩ := h.o2.type e2
  exact typeN_ne hx hy (by decide) rfl
theorem Own4.ne13 {w : World} {B : Nat} {v1 v2 v3 v4 : Value} {ws : List Wn} {cs : List Cd} {ss ms : List Ca} (h : Own4 w B v1 v2 v3 v4 ws cs ss ms) : ∀ k, v1.ownBlock = some k → v3.ownBlock ≠ some k := fun k e1 e2 => by
  obtain ⟨x, hx⟩ := h.o1.type e1
  obtain ⟨y, hy⟩ := h.o3.type e2
  exact typeN_ne hx hy (by decide) rfl
theorem Own4.ne14 {w : World} {B : Nat} {v1 v2 v3 v4 : Value} {ws : List Wn} {cs : List Cd} {ss ms : List Ca} (h : Own4 w B v1 v2 v3 v4 ws cs ss ms) : ∀ k, v1.ownBlock = some k → v4.ownBlock ≠ some k := fun k e1 e2 => by
  obtain ⟨x, hx⟩ := h.o1.type e1
  obtain ⟨y, hy⟩ := h.o4.type e2
  exact typeN_ne hx hy (by decide) rfl
theorem Own4.ne23 {w : World} {B : Nat} {v1 v2 v3 v4 : Value} {ws : List Wn} {cs : List Cd} {ss ms : List Ca} (h : Own4 w B v1 v2 v3 v4 ws cs ss ms) : ∀ k, v2.ownBlock = some k → v3.ownBlock ≠ some k := fun k e1 e2 => by
  obtain ⟨x, hx⟩ := h.o2.type e1
  obtain ⟨y, hy⟩ := h.o3.type e2
  exact typeN_ne hx hy (by decide) rfl
theorem Own4.ne24 {w : World} {B : Nat} {v1 v2 v3 v4 : Value} {ws : List Wn} {cs : List Cd} {ss ms : List Ca} (h : Own4 w B v1 v2 v3 v4 ws cs ss ms) : ∀ k, v2.ownBlock = some k → v4.ownBlock ≠ some k := fun k e1 e2 => by
  obtain ⟨x, hx⟩ := h.o2.type e1
  obtain ⟨y, hy⟩ := h.o4.type e2
  exact typeN_ne hx hy (by decide) rfl
theorem Own4.grl {w w' : World} {B : Nat} {v1 v2 v3 v4 : Value} {ws : List Wn} {cs : List Cd} {ss ms : List Ca} {bs : List (Option Nat)} (h : Own4 w B v1 v2 v3 v4 ws cs ss ms) (hg : GrL w w' bs) (hn : ∀ k, v1.ownBlock = some k ∨ v2.ownBlock = some k ∨ v3.ownBlock = some k ∨ v4.ownBlock = some k → some k ∉ bs) : Own4 w' B v1 v2 v3 v4 ws cs ss ms :=
  ⟨h.o1.grl hg (fun k e => hn k (Or.inl e)), h.o2.grl hg (fun k e => hn k (Or.inr (Or.inl e))), h.o3.grl hg (fun k e => hn k (Or.inr (Or.inr (Or.inl e)))), h.o4.grl hg (fun k e => hn k (Or.inr (Or.inr (Or.inr e)))), h.ne⟩
theorem Own4.later {w w' : World} {B : Nat} {v1 v2 v3 v4 : Value} {ws : List Wn} {cs : List Cd} {ss ms : List Ca} (h : Own4 w B v1 v2 v3 v4 ws cs ss ms) (hb : Below w.heap.size w w') : Own4 w' B v1 v2 v3 v4 ws cs ss ms := h.grl (GrL.ofB hb) (fun _ _ hm => by cases hm)
theorem Own4.lt {w : World} {B : Nat} {v1 v2 v3 v4 : Value} {ws : List Wn} {cs : List Cd} {ss ms : List Ca} (h : Own4 w B v1 v2 v3 v4 ws cs ss ms) : ∀ k, some k ∈ [v1.ownBlock, v2.ownBlock, v3.ownBlock, v4.ownBlock] → B ≤ k ∧ k < w.heap.size := by
  intro k hk
  simp only [List.mem_cons, List.not_mem_nil, or_false] at hk
  rcases hk with e | e | e | e
  · exact h.o1.lt k e.symm
  · exact h.o2.lt k e.symm
  · exact h.o3.lt k e.symm
  · exact h.o4.lt k e.symm
/-- Marks lie in them. -/
structure Mk4 (w : World) (v1 v2 v3 v4 : Value) (l1 l2 l3 l4 : Nat) (k0 : Int) : Prop where
  m1 : MkN 2 w v1 l1 k0
  m2 : MkN 10 w v2 l2 (k0 + 2 * l1)
  m3 : MkN 4 w v3 l3 (k0 + 2 * l1 + 10 * l2)
  m4 : MkN 4 w v4 l4 (k0 + 2 * l1 + 10 * l2 + 4 * l3)
theorem Mk4.later {w w' : World} {v1 v2 v3 v4 : Value} {l1 l2 l3 l4 : Nat} {k0 : Int} (h : Mk4 w v1 v2 v3 v4 l1 l2 l3 l4 k0) (hb : Below w.heap.size w w') : Mk4 w' v1 v2 v3 v4 l1 l2 l3 l4 k0 := ⟨h.m1.later hb, h.m2.later hb, h.m3.later hb, h.m4.later hb⟩
theorem Mk4.grl {w w' : World} {v1 v2 v3 v4 : Value} {l1 l2 l3 l4 : Nat} {k0 : Int} {bs : List (Option Nat)} (h : Mk4 w v1 v2 v3 v4 l1 l2 l3 l4 k0) (hg : GrL w w' bs) (hn : ∀ k, v1.ownBlock = some k ∨ v2.ownBlock = some k ∨ v3.ownBlock = some k ∨ v4.ownBlock = some k → some k ∉ bs) : Mk4 w' v1 v2 v3 v4 l1 l2 l3 l4 k0 :=
  ⟨h.m1.grl hg (fun k e => hn k (Or.inl e)), h.m2.grl hg (fun k e => hn k (Or.inr (Or.inl e))), h.m3.grl hg (fun k e => hn k (Or.inr (Or.inr (Or.inl e)))), h.m4.grl hg (fun k e => hn k (Or.inr (Or.inr (Or.inr e))))⟩

set_option maxHeartbeats 2000000 in
/-- Marks in a user's lists. -/
theorem markClient_own (i n : Int) {w : World} {B : Nat} {v1 v2 v3 v4 : Value} {ws : List Wn} {cs : List Cd} {ss ms : List Ca} (k0 : Int) (h : Own4 w B v1 v2 v3 v4 ws cs ss ms) (hn1 : ws.length ≤ 2000000) (hn2 : cs.length ≤ 2000000) (hn3 : ss.length ≤ 2000000) (hn4 : ms.length ≤ 2000000) (h0 : 0 ≤ k0) (h1 : k0 ≤ 10000000) :
    Calls Try.prog 11 #[.agg #[.int .i64 i, .int .i64 n, v1, v2, v3, v4], .int .i64 k0] w fun r w' => r = .returned (.int .i64 (k0 + 2 * ws.length + 10 * cs.length + 4 * ss.length + 4 * ms.length)) ∧ GrL w w' [v1.ownBlock, v2.ownBlock, v3.ownBlock, v4.ownBlock] ∧ Mk4 w' v1 v2 v3 v4 ws.length cs.length ss.length ms.length k0 := by
  have HA : Hid (Own4 (w.alloc (.cells #[.int .i64 i, .int .i64 n, v1, v2, v3, v4] 32)) B v1 v2 v3 v4 ws cs ss ms ∧ CBlk (w.alloc (.cells #[.int .i64 i, .int .i64 n, v1, v2, v3, v4] 32)) w.heap.size i n v1 v2 v3 v4 ∧ GrL w (w.alloc (.cells #[.int .i64 i, .int .i64 n, v1, v2, v3, v4] 32)) []) := ⟨h.later (Below.alloc_ _ _), CBlk.new _ _ _ _ _ _ _, GrL.ofB (Below.alloc_ _ _)⟩
  have HL : Hid (∀ k, some k ∈ [v1.ownBlock, v2.ownBlock, v3.ownBlock, v4.ownBlock] → k < w.heap.size) := fun k e => (h.lt k e).2
  obtain ⟨a1, c1, rfl, _⟩ := h.o1.rows
  obtain ⟨a2, c2, rfl, _⟩ := h.o2.rows
  obtain ⟨a3, c3, rfl, _⟩ := h.o3.rows
  obtain ⟨a4, c4, rfl, _⟩ := h.o4.rows
  have NE : Hid ((∀ k, (Value.slice a1 ws.length c1).ownBlock = some k → (Value.slice a2 cs.length c2).ownBlock ≠ some k) ∧ (∀ k, (Value.slice a1 ws.length c1).ownBlock = some k → (Value.slice a3 ss.length c3).ownBlock ≠ some k) ∧ (∀ k, (Value.slice a1 ws.length c1).ownBlock = some k → (Value.slice a4 ms.length c4).ownBlock ≠ some k) ∧ (∀ k, (Value.slice a2 cs.length c2).ownBlock = some k → (Value.slice a3 ss.length c3).ownBlock ≠ some k) ∧ (∀ k, (Value.slice a2 cs.length c2).ownBlock = some k → (Value.slice a4 ms.length c4).ownBlock ≠ some k) ∧ (∀ k, (Value.slice a3 ss.length c3).ownBlock = some k → (Value.slice a4 ms.length c4).ownBlock ≠ some k)) := ⟨h.ne12, h.ne13, h.ne14, h.ne23, h.ne24, h.ne⟩
  clear h
  go_enter Try.func11, Try.ntmps11
  go_wp2_with fail
  generalize (w.alloc (.cells #[.int .i64 i, .int .i64 n, .slice a1 ws.length c1, .slice a2 cs.length c2, .slice a3 ss.length c3, .slice a4 ms.length c4] 32)) = W at HA ⊢
  have H0 : Hid (OwnN celW 60 W B (Value.slice a1 ws.length c1) ws ∧ OwnN celD 56 W B (Value.slice a2 cs.length c2) cs ∧ OwnN celC 71 W B (Value.slice a3 ss.length c3) ss ∧ OwnN celC 71 W B (Value.slice a4 ms.length c4) ms ∧ CBlk W w.heap.size i n (Value.slice a1 ws.length c1) (Value.slice a2 cs.length c2) (Value.slice a3 ss.length c3) (Value.slice a4 ms.length c4) ∧ GrL w W []) := ⟨HA.out.1.o1, HA.out.1.o2, HA.out.1.o3, HA.out.1.o4, HA.out.2.1, HA.out.2.2⟩
  clear HA
  refine (markWant_own (k0) H0.out.1 hn1 (by omega) (by omega)).mono ?_
  rintro r w1 ⟨rfl, g9, m9⟩
  have H1 : Hid (MkN 2 w1 (Value.slice a1 ws.length c1) ws.length (k0) ∧ OwnN celD 56 w1 B (Value.slice a2 cs.length c2) cs ∧ OwnN celC 71 w1 B (Value.slice a3 ss.length c3) ss ∧ OwnN celC 71 w1 B (Value.slice a4 ms.length c4) ms ∧ CBlk w1 w.heap.size i n (Value.slice a1 ws.length c1) (Value.slice a2 cs.length c2) (Value.slice a3 ss.length c3) (Value.slice a4 ms.length c4) ∧ GrL w w1 [(Value.slice a1 ws.length c1).ownBlock]) := ⟨m9, H0.out.2.1.gr g9 (fun k e e2 => NE.out.1 k e2.symm e), H0.out.2.2.1.gr g9 (fun k e e2 => NE.out.2.1 k e2.symm e), H0.out.2.2.2.1.gr g9 (fun k e e2 => NE.out.2.2.1 k e2.symm e), H0.out.2.2.2.2.1.gr g9 (fun e => by have := HL.out w.heap.size (by rw [e]; simp); omega), H0.out.2.2.2.2.2.trans (GrL.of g9)⟩
  clear H0 g9 m9
  obtain ⟨p0, p1, p2, p3, p4, p5⟩ := H1.out.2.2.2.2.1.cells
  go_wp2_with fail
  clear p0 p1 p2 p3 p4 p5
  refine (markCred_own (k0 + 2 * (ws.length : Int)) H1.out.2.1 hn2 (by omega) (by omega)).mono ?_
  rintro r w2 ⟨rfl, g9, m9⟩
  have H2 : Hid (MkN 2 w2 (Value.slice a1 ws.length c1) ws.length (k0) ∧ MkN 10 w2 (Value.slice a2 cs.length c2) cs.length (k0 + 2 * (ws.length : Int)) ∧ OwnN celC 71 w2 B (Value.slice a3 ss.length c3) ss ∧ OwnN celC 71 w2 B (Value.slice a4 ms.length c4) ms ∧ CBlk w2 w.heap.size i n (Value.slice a1 ws.length c1) (Value.slice a2 cs.length c2) (Value.slice a3 ss.length c3) (Value.slice a4 ms.length c4) ∧ GrL w w2 [(Value.slice a1 ws.length c1).ownBlock, (Value.slice a2 cs.length c2).ownBlock]) := ⟨H1.out.1.gr g9 (fun k e e2 => NE.out.1 k e e2.symm), m9, H1.out.2.2.1.gr g9 (fun k e e2 => NE.out.2.2.2.1 k e2.symm e), H1.out.2.2.2.1.gr g9 (fun k e e2 => NE.out.2.2.2.2.1 k e2.symm e), H1.out.2.2.2.2.1.gr g9 (fun e => by have := HL.out w.heap.size (by rw [e]; simp); omega), H1.out.2.2.2.2.2.trans (GrL.of g9)⟩
  clear H1 g9 m9
  obtain ⟨p0, p1, p2, p3, p4, p5⟩ := H2.out.2.2.2.2.1.cells
  go_wp2_with fail
  clear p0 p1 p2 p3 p4 p5
  refine (markCall_own (k0 + 2 * (ws.length : Int) + 10 * (cs.length : Int)) H2.out.2.2.1 hn3 (by omega) (by omega)).mono ?_
  rintro r w3 ⟨rfl, g9, m9⟩
  have H3 : Hid (MkN 2 w3 (Value.slice a1 ws.length c1) ws.length (k0) ∧ MkN 10 w3 (Value.slice a2 cs.length c2) cs.length (k0 + 2 * (ws.length : Int)) ∧ MkN 4 w3 (Value.slice a3 ss.length c3) ss.length (k0 + 2 * (ws.length : Int) + 10 * (cs.length : Int)) ∧ OwnN celC 71 w3 B (Value.slice a4 ms.length c4) ms ∧ CBlk w3 w.heap.size i n (Value.slice a1 ws.length c1) (Value.slice a2 cs.length c2) (Value.slice a3 ss.length c3) (Value.slice a4 ms.length c4) ∧ GrL w w3 [(Value.slice a1 ws.length c1).ownBlock, (Value.slice a2 cs.length c2).ownBlock, (Value.slice a3 ss.length c3).ownBlock]) := ⟨H2.out.1.gr g9 (fun k e e2 => NE.out.2.1 k e e2.symm), H2.out.2.1.gr g9 (fun k e e2 => NE.out.2.2.2.1 k e e2.symm), m9, H2.out.2.2.2.1.gr g9 (fun k e e2 => NE.out.2.2.2.2.2 k e2.symm e), H2.out.2.2.2.2.1.gr g9 (fun e => by have := HL.out w.heap.size (by rw [e]; simp); omega), H2.out.2.2.2.2.2.trans (GrL.of g9)⟩
  clear H2 g9 m9
  obtain ⟨p0, p1, p2, p3, p4, p5⟩ := H3.out.2.2.2.2.1.cells
  go_wp2_with fail
  clear p0 p1 p2 p3 p4 p5
  refine (markCall_own (k0 + 2 * (ws.length : Int) + 10 * (cs.length : Int) + 4 * (ss.length : Int)) H3.out.2.2.2.1 hn4 (by omega) (by omega)).mono ?_
  rintro r w4 ⟨rfl, g9, m9⟩
  have H4 : Hid (MkN 2 w4 (Value.slice a1 ws.length c1) ws.length (k0) ∧ MkN 10 w4 (Value.slice a2 cs.length c2) cs.length (k0 + 2 * (ws.length : Int)) ∧ MkN 4 w4 (Value.slice a3 ss.length c3) ss.length (k0 + 2 * (ws.length : Int) + 10 * (cs.length : Int)) ∧ MkN 4 w4 (Value.slice a4 ms.length c4) ms.length (k0 + 2 * (ws.length : Int) + 10 * (cs.length : Int) + 4 * (ss.length : Int)) ∧ CBlk w4 w.heap.size i n (Value.slice a1 ws.length c1) (Value.slice a2 cs.length c2) (Value.slice a3 ss.length c3) (Value.slice a4 ms.length c4) ∧ GrL w w4 [(Value.slice a1 ws.length c1).ownBlock, (Value.slice a2 cs.length c2).ownBlock, (Value.slice a3 ss.length c3).ownBlock, (Value.slice a4 ms.length c4).ownBlock]) := ⟨H3.out.1.gr g9 (fun k e e2 => NE.out.2.2.1 k e e2.symm), H3.out.2.1.gr g9 (fun k e e2 => NE.out.2.2.2.2.1 k e e2.symm), H3.out.2.2.1.gr g9 (fun k e e2 => NE.out.2.2.2.2.2 k e e2.symm), m9, H3.out.2.2.2.2.1.gr g9 (fun e => by have := HL.out w.heap.size (by rw [e]; simp); omega), H3.out.2.2.2.2.2.trans (GrL.of g9)⟩
  clear H3 g9 m9
  go_wp2_with fail
  go_ret
  exact ⟨rfl, H4.out.2.2.2.2.2, H4.out.1, H4.out.2.1, H4.out.2.2.1, H4.out.2.2.2.1⟩

set_option maxHeartbeats 2000000 in
/-- The marks are held. -/
theorem heldClient_own (i n : Int) {w : World} {v1 v2 v3 v4 : Value} {l1 l2 l3 l4 : Nat} (k0 : Int) (h : Mk4 w v1 v2 v3 v4 l1 l2 l3 l4 k0) (hn1 : l1 ≤ 2000000) (hn2 : l2 ≤ 2000000) (hn3 : l3 ≤ 2000000) (hn4 : l4 ≤ 2000000) (h0 : 0 ≤ k0) (h1 : k0 ≤ 10000000) :
    Calls Try.prog 13 #[.agg #[.int .i64 i, .int .i64 n, v1, v2, v3, v4], .int .i64 k0] w fun r w' => r = .returned (.int .i64 (k0 + 2 * l1 + 10 * l2 + 4 * l3 + 4 * l4)) ∧ Below w.heap.size w w' := by
  have HM : Hid (Mk4 (w.alloc (.cells #[.int .i64 i, .int .i64 n, v1, v2, v3, v4] 32)) v1 v2 v3 v4 l1 l2 l3 l4 k0) := h.later (Below.alloc_ _ _)
  have hk1 : ¬ (k0 + 2 * (l1 : Int)) < 0 := by omega
  have hk2 : ¬ (k0 + 2 * (l1 : Int) + 10 * (l2 : Int)) < 0 := by omega
  have hk3 : ¬ (k0 + 2 * (l1 : Int) + 10 * (l2 : Int) + 4 * (l3 : Int)) < 0 := by omega
  have hk4 : ¬ (k0 + 2 * (l1 : Int) + 10 * (l2 : Int) + 4 * (l3 : Int) + 4 * (l4 : Int)) < 0 := by omega
  obtain ⟨a1, c1, rfl, _⟩ := h.m1
  obtain ⟨a2, c2, rfl, _⟩ := h.m2
  obtain ⟨a3, c3, rfl, _⟩ := h.m3
  obtain ⟨a4, c4, rfl, _⟩ := h.m4
  clear h
  go_enter Try.func13, Try.ntmps13
  go_wp2_with fail
  refine (heldWant_own k0 HM.out.m1 hn1 h0 (by omega)).mono ?_
  rintro r w1 ⟨rfl, rfl⟩
  go_wp2_with fail
  refine (heldCred_own _ HM.out.m2 hn2 (by omega) (by omega)).mono ?_
  rintro r w1 ⟨rfl, rfl⟩
  go_wp2_with fail
  refine (heldCall_own _ HM.out.m3 hn3 (by omega) (by omega)).mono ?_
  rintro r w1 ⟨rfl, rfl⟩
  go_wp2_with fail
  refine (heldCall_own _ HM.out.m4 hn4 (by omega) (by omega)).mono ?_
  rintro r w1 ⟨rfl, rfl⟩
  go_wp2_with fail
  go_ret
  exact ⟨rfl, Below.alloc_ _ _⟩

end Go.Proofs.Ythkngdbhddedpaa
