/-
  What is known of memory on the way: blocks and what stands in them, rows beside them; how it goes on when memory is turned.
-/
import Derived.Test.YtaokgbdddgoonaaExLaw
import Derived.Test.YtaokgbdddgoonaaRegInv
import Derived.Test.YtaokgbdddgoonaaSOwn
namespace Go.Proofs.Ytaokgbdddgoonaa
open Go.RowKit

/-- A block and what stands in it. -/
structure BF where
  b : Nat
  T : TypeId
  cs : Array Value
/-- Blocks of a type. -/
def selT (T : TypeId) : Obj → Bool
  | .cells _ t _ => Nat.beq t T
  | _ => false
/-- What hangs on such objects alone. -/
def Keep (sel : Obj → Bool) (P : World → Prop) : Prop := ∀ w w' : World, P w → w.heap.size ≤ w'.heap.size → (∀ (g : Nat) o, w.heap[g]? = some o → sel o = true → w'.heap[g]? = some o) → P w'
/-- A fact beside the blocks. -/
structure RF where
  sel : Obj → Bool
  P : World → Prop
/-- What is known: since w0 nothing elder was turned; blocks; facts beside them. -/
structure St (B : Nat) (w0 : World) (F : List BF) (R : List RF) (w : World) : Prop where
  bs : B ≤ w0.heap.size
  bel : Below B w0 w
  blk : ∀ x ∈ F, ABlk x.T w x.b x.cs
  ge : ∀ x ∈ F, B ≤ x.b
  nd : (F.map BF.b).Nodup
  keep : ∀ p ∈ R, Keep p.sel p.P
  row : ∀ p ∈ R, p.P w

theorem St.newB {B : Nat} {w : World} (h : B ≤ w.heap.size) : St B w [] [] w := ⟨h, Below.refl _ _, (fun _ h => by cases h), (fun _ h => by cases h), List.nodup_nil, (fun _ h => by cases h), (fun _ h => by cases h)⟩
theorem St.new (w : World) : St w.heap.size w [] [] w := St.newB (Nat.le_refl _)
theorem St.sz {B : Nat} {w0 : World} {F : List BF} {R : List RF} {w : World} (h : St B w0 F R w) : B ≤ w.heap.size := Nat.le_trans h.bs h.bel.size
theorem St.grow {B : Nat} {w0 : World} {F : List BF} {R : List RF} {w w' : World} (hb : Below w.heap.size w w') (h : St B w0 F R w) : St B w0 F R w' :=
  ⟨h.bs, h.bel.trans (hb.mono h.sz), fun x hx => (h.blk x hx).later hb, h.ge, h.nd, h.keep, fun p hp => h.keep p hp w w' (h.row p hp) hb.size (fun g _ ho _ => (hb.block g (Array.getElem?_eq_some_iff.1 ho).1).trans ho)⟩
theorem St.drew {B : Nat} {w0 : World} {F : List BF} {R : List RF} {w : World} (h : St B w0 F R w) : St B w0 F R w.drew := h.grow (Below.refl _ w).drew
theorem St.alloc {B : Nat} {w0 : World} {F : List BF} {R : List RF} {w : World} (cs : Array Value) (T : TypeId) (h : St B w0 F R w) : St B w0 (F ++ [⟨w.heap.size, T, cs⟩]) R (w.alloc (.cells cs T)) := by
  have hb := Below.alloc_ w (.cells cs T)
  have h1 := h.grow hb
  refine ⟨h.bs, h1.bel, fun x hx => ?_, fun x hx => ?_, ?_, h1.keep, h1.row⟩
  · rcases List.mem_append.1 hx with hx | hx
    · exact h1.blk x hx
    · obtain rfl := List.mem_singleton.1 hx
      exact ABlk.new _ _ _
  · rcases List.mem_append.1 hx with hx | hx
    · exact h.ge x hx
    · obtain rfl := List.mem_singleton.1 hx
      exact h.sz
  · rw [List.map_append, List.nodup_append]
    refine ⟨h.nd, by simp, fun a ha b hb e => ?_⟩
    obtain ⟨x, hx, rfl⟩ := List.mem_map.1 ha
    have h2 := (h.blk x hx).lt
    simp at hb
    omega
/-- Any object is laid. -/
theorem St.lay {B : Nat} {w0 : World} {F : List BF} {R : List RF} {w : World} (o : Obj) (h : St B w0 F R w) : St B w0 F R (w.alloc o) := h.grow (Below.alloc_ w o)
theorem nodup_inj : ∀ {l : List Nat}, l.Nodup → ∀ {i k x : Nat}, l[i]? = some x → l[k]? = some x → i = k
  | [], _, i, _, _, h, _ => by simp at h
  | a :: l, _, 0, 0, _, _, _ => rfl
  | a :: l, hn, 0, k + 1, x, h, h' => by
    simp at h h'
    exact absurd (h ▸ List.mem_of_getElem? h') (List.nodup_cons.1 hn).1
  | a :: l, hn, i + 1, 0, x, h, h' => by
    simp at h h'
    exact absurd (h' ▸ List.mem_of_getElem? h) (List.nodup_cons.1 hn).1
  | a :: l, hn, i + 1, k + 1, x, h, h' => by
    simp at h h'
    rw [nodup_inj (List.nodup_cons.1 hn).2 h h']
theorem set_mem {F : List BF} {i : Nat} {x y z : BF} (h : F[i]? = some x) (hn : (F.map BF.b).Nodup) (hy : y ∈ F.set i z) : y = z ∨ (y ∈ F ∧ y.b ≠ x.b) := by
  obtain ⟨k, hk, e⟩ := List.mem_iff_getElem.1 hy
  rw [List.getElem_set] at e
  split at e
  · exact Or.inl e.symm
  · rename_i hik
    right
    have hk' : k < F.length := by simpa using hk
    refine ⟨e ▸ List.getElem_mem hk', fun he => hik ?_⟩
    obtain ⟨hi, ex⟩ := List.getElem?_eq_some_iff.1 h
    have h1 : (F.map BF.b)[i]? = some x.b := by rw [List.getElem?_map, h]; rfl
    have h2 : (F.map BF.b)[k]? = some x.b := by rw [List.getElem?_map, List.getElem?_eq_getElem hk', e, Option.map_some, he]
    exact nodup_inj hn h1 h2
theorem map_set_b {F : List BF} {i : Nat} {x z : BF} (h : F[i]? = some x) (hb : z.b = x.b) : (F.set i z).map BF.b = F.map BF.b := by
  apply List.ext_getElem?
  intro k
  rw [List.getElem?_map, List.getElem?_map, List.getElem?_set]
  split
  · rename_i hik
    subst hik
    rw [h]
    have : i < F.length := (List.getElem?_eq_some_iff.1 h).1
    simp [this, hb]
  · rfl
/-- A block is turned. -/
theorem St.turn {B : Nat} {w0 : World} {F : List BF} {R : List RF} {w w' : World} (i : Nat) {b : Nat} {T : TypeId} {cs : Array Value} (cs' : Array Value) (h : St B w0 F R w) (e : F[i]? = some ⟨b, T, cs⟩) (hR : R.all (fun p => !p.sel (.cells cs T (0, 0))) = true)
    (hg : GrL w w' [some b]) (hk : ABlk T w' b cs') : St B w0 (F.set i ⟨b, T, cs'⟩) R w' := by
  have hm : (⟨b, T, cs⟩ : BF) ∈ F := List.mem_of_getElem? e
  have hge := h.ge _ hm
  refine ⟨h.bs, below_grl h.bel hg h.sz (fun k hk => ?_), fun x hx => ?_, fun x hx => ?_, ?_, h.keep, fun p hp => ?_⟩
  · have : k = b := by simpa using hk
    rw [this]; exact hge
  · rcases set_mem e h.nd hx with rfl | ⟨hx, hne⟩
    · exact hk
    · exact (h.blk x hx).grl hg (by simpa using hne)
  · rcases set_mem e h.nd hx with rfl | ⟨hx, _⟩
    · exact hge
    · exact h.ge x hx
  · rw [map_set_b (z := ⟨b, T, cs'⟩) e rfl]
    exact h.nd
  · refine h.keep p hp w w' (h.row p hp) hg.size (fun g o ho hs => ?_)
    refine (hg.block g (Array.getElem?_eq_some_iff.1 ho).1 (fun hm' => ?_)).trans ho
    have hgb : g = b := by simpa using hm'
    subst hgb
    have h1 := h.blk _ hm
    unfold ABlk at h1
    rw [h1] at ho
    cases ho
    have := List.all_eq_true.1 hR p hp
    rw [hs] at this
    cases this
theorem St.set {B : Nat} {w0 : World} {F : List BF} {R : List RF} {w : World} (i : Nat) {b q : Nat} {v : Value} {T : TypeId} {cs : Array Value} (h : St B w0 F R w) (e : F[i]? = some ⟨b, T, cs⟩) (hR : R.all (fun p => !p.sel (.cells cs T (0, 0))) = true) : St B w0 (F.set i ⟨b, T, cs.setIfInBounds q v⟩) R (w.setCell ⟨b, q, none⟩ v) :=
  h.turn i _ e hR (setCell_grl w b q v) ((h.blk _ (List.mem_of_getElem? e)).set q v)
theorem St.at {B : Nat} {w0 : World} {F : List BF} {R : List RF} {w : World} (h : St B w0 F R w) (i : Nat) {b : Nat} {T : TypeId} {cs : Array Value} (e : F[i]? = some ⟨b, T, cs⟩) : ABlk T w b cs := h.blk _ (List.mem_of_getElem? e)
theorem St.cell {B : Nat} {w0 : World} {F : List BF} {R : List RF} {w : World} (h : St B w0 F R w) (i : Nat) {b : Nat} {T : TypeId} {cs : Array Value} (e : F[i]? = some ⟨b, T, cs⟩) (q : Nat) (v : Value) (hq : cs[q]? = some v) : w.cell? ⟨b, q, none⟩ = some v := (h.at i e).at q v hq
theorem St.fro {B : Nat} {w0 : World} {F : List BF} {R : List RF} {w : World} (h : St B w0 F R w) (i : Nat) {b : Nat} {T : TypeId} {cs : Array Value} (e : F[i]? = some ⟨b, T, cs⟩) (q : Nat) : w.frozen? ⟨b, q, none⟩ = false := (h.at i e).fro q
theorem St.lt {B : Nat} {w0 : World} {F : List BF} {R : List RF} {w : World} (h : St B w0 F R w) (i : Nat) {x : BF} (e : F[i]? = some x) : B ≤ x.b ∧ x.b < w.heap.size := ⟨h.ge _ (List.mem_of_getElem? e), (h.blk _ (List.mem_of_getElem? e)).lt⟩
theorem St.of {B : Nat} {w0 : World} {F : List BF} {R : List RF} {w : World} (h : St B w0 F R w) (j : Nat) {sel : Obj → Bool} {P : World → Prop} (e : R[j]? = some ⟨sel, P⟩) : P w := h.row _ (List.mem_of_getElem? e)
/-- One fact more. -/
theorem St.add {B : Nat} {w0 : World} {F : List BF} {R : List RF} {w : World} (sel : Obj → Bool) (P : World → Prop) (hk : Keep sel P) (hp : P w) (h : St B w0 F R w) : St B w0 F (R ++ [⟨sel, P⟩]) w :=
  ⟨h.bs, h.bel, h.blk, h.ge, h.nd, fun p hp => by
    rcases List.mem_append.1 hp with hp | hp
    · exact h.keep p hp
    · obtain rfl := List.mem_singleton.1 hp
      exact hk, fun p hp' => by
    rcases List.mem_append.1 hp' with hp' | hp'
    · exact h.row p hp'
    · obtain rfl := List.mem_singleton.1 hp'
      exact hp⟩
/-- One block more. -/
theorem St.addB {B : Nat} {w0 : World} {F : List BF} {R : List RF} {w : World} (x : BF) (hx : ABlk x.T w x.b x.cs) (hg : B ≤ x.b) (hn : ∀ y ∈ F, y.b ≠ x.b) (h : St B w0 F R w) : St B w0 (F ++ [x]) R w :=
  ⟨h.bs, h.bel, fun y hy => by
    rcases List.mem_append.1 hy with hy | hy
    · exact h.blk y hy
    · obtain rfl := List.mem_singleton.1 hy
      exact hx, fun y hy => by
    rcases List.mem_append.1 hy with hy | hy
    · exact h.ge y hy
    · obtain rfl := List.mem_singleton.1 hy
      exact hg, by
    rw [List.map_append, List.nodup_append]
    refine ⟨h.nd, by simp, fun a ha b hb e => ?_⟩
    obtain ⟨y, hy, rfl⟩ := List.mem_map.1 ha
    have : b = x.b := by simpa using hb
    exact hn y hy (e.trans this), h.keep, h.row⟩
/-- A block that came up since w: it is none of those. -/
theorem St.fresh {B : Nat} {w0 : World} {F : List BF} {R : List RF} {w : World} (h : St B w0 F R w) {b : Nat} (hb : w.heap.size ≤ b) : ∀ y ∈ F, y.b ≠ b := fun y hy e => by
  have := (h.blk y hy).lt
  omega
/-- Facts alone. -/
theorem St.facts {B : Nat} {w0 : World} {F : List BF} {R R' : List RF} {w : World} (h : St B w0 F R w) (hk : ∀ p ∈ R', Keep p.sel p.P) (hr : ∀ p ∈ R', p.P w) : St B w0 F R' w := ⟨h.bs, h.bel, h.blk, h.ge, h.nd, hk, hr⟩
theorem St.sub {B : Nat} {w0 : World} {F F' : List BF} {R R' : List RF} {w : World} (hF : F'.Sublist F) (hR : R'.Sublist R) (h : St B w0 F R w) : St B w0 F' R' w :=
  ⟨h.bs, h.bel, fun x hx => h.blk x (hF.subset hx), fun x hx => h.ge x (hF.subset hx), h.nd.sublist (hF.map _), fun p hp => h.keep p (hR.subset hp), fun p hp => h.row p (hR.subset hp)⟩
/-- A row of the call's own is a fact of its type's blocks. -/
theorem keep_own {X : Type} (C : Cel X) (T : TypeId) (B : Nat) (v : Value) (xs : List X) : Keep (selT T) (fun w => OwnN C T w B v xs) := fun w w' h _ hk => h.keep (fun g e => by
  obtain ⟨cur, hc⟩ := h.type e
  exact (hk g _ hc (by simp [selT])).trans hc.symm)
theorem keep_owns (B : Nat) (v : Value) (xs : List Sl) : Keep (selT 56) (fun w => OwnS w B v xs) := fun w w' h _ hk => ownN_keep h (fun g e => by
  obtain ⟨cur, hc⟩ := ownN_type h e
  exact (hk g _ hc (by simp [selT])).trans hc.symm)

/-- So many cells of a block are written. -/
theorem St.put {B : Nat} {w0 : World} {F : List BF} {R : List RF} {w : World} (i : Nat) {b : Nat} {T : TypeId} {cs : List Value} (vs : List Value) (h : St B w0 F R w) (e : F[i]? = some ⟨b, T, cs.toArray⟩) (hl : cs.length = vs.length) (hR : R.all (fun p => !p.sel (.cells cs.toArray T (0, 0))) = true) : St B w0 (F.set i ⟨b, T, vs.toArray⟩) R (putA w b 0 vs) :=
  h.turn i _ e hR putA_grl ((h.blk _ (List.mem_of_getElem? e)).put vs hl)
theorem St.put1 {B : Nat} {w0 : World} {F : List BF} {R : List RF} {w : World} (i : Nat) {b : Nat} {T : TypeId} {u0 : Value} (h : St B w0 F R w) (e : F[i]? = some ⟨b, T, #[u0]⟩) (hR : R.all (fun p => !p.sel (.cells #[u0] T (0, 0))) = true) (v0 : Value) : St B w0 (F.set i ⟨b, T, #[v0]⟩) R (w.setCell ⟨b, 0, none⟩ v0) := h.put (cs := [u0]) i [v0] e rfl hR
theorem St.put2 {B : Nat} {w0 : World} {F : List BF} {R : List RF} {w : World} (i : Nat) {b : Nat} {T : TypeId} {u0 u1 : Value} (h : St B w0 F R w) (e : F[i]? = some ⟨b, T, #[u0, u1]⟩) (hR : R.all (fun p => !p.sel (.cells #[u0, u1] T (0, 0))) = true) (v0 v1 : Value) : St B w0 (F.set i ⟨b, T, #[v0, v1]⟩) R ((w.setCell ⟨b, 0, none⟩ v0).setCell ⟨b, 1, none⟩ v1) := h.put (cs := [u0, u1]) i [v0, v1] e rfl hR
theorem St.put3 {B : Nat} {w0 : World} {F : List BF} {R : List RF} {w : World} (i : Nat) {b : Nat} {T : TypeId} {u0 u1 u2 : Value} (h : St B w0 F R w) (e : F[i]? = some ⟨b, T, #[u0, u1, u2]⟩) (hR : R.all (fun p => !p.sel (.cells #[u0, u1, u2] T (0, 0))) = true) (v0 v1 v2 : Value) : St B w0 (F.set i ⟨b, T, #[v0, v1, v2]⟩) R (((w.setCell ⟨b, 0, none⟩ v0).setCell ⟨b, 1, none⟩ v1).setCell ⟨b, 2, none⟩ v2) := h.put (cs := [u0, u1, u2]) i [v0, v1, v2] e rfl hR
theorem St.put4 {B : Nat} {w0 : World} {F : List BF} {R : List RF} {w : World} (i : Nat) {b : Nat} {T : TypeId} {u0 u1 u2 u3 : Value} (h : St B w0 F R w) (e : F[i]? = some ⟨b, T, #[u0, u1, u2, u3]⟩) (hR : R.all (fun p => !p.sel (.cells #[u0, u1, u2, u3] T (0, 0))) = true) (v0 v1 v2 v3 : Value) : St B w0 (F.set i ⟨b, T, #[v0, v1, v2, v3]⟩) R ((((w.setCell ⟨b, 0, none⟩ v0).setCell ⟨b, 1, none⟩ v1).setCell ⟨b, 2, none⟩ v2).setCell ⟨b, 3, none⟩ v3) := h.put (cs := [u0, u1, u2, u3]) i [v0, v1, v2, v3] e rfl hR
theorem St.put5 {B : Nat} {w0 : World} {F : List BF} {R : List RF} {w : World} (i : Nat) {b : Nat} {T : TypeId} {u0 u1 u2 u3 u4 : Value} (h : St B w0 F R w) (e : F[i]? = some ⟨b, T, #[u0, u1, u2, u3, u4]⟩) (hR : R.all (fun p => !p.sel (.cells #[u0, u1, u2, u3, u4] T (0, 0))) = true) (v0 v1 v2 v3 v4 : Value) : St B w0 (F.set i ⟨b, T, #[v0, v1, v2, v3, v4]⟩) R (((((w.setCell ⟨b, 0, none⟩ v0).setCell ⟨b, 1, none⟩ v1).setCell ⟨b, 2, none⟩ v2).setCell ⟨b, 3, none⟩ v3).setCell ⟨b, 4, none⟩ v4) := h.put (cs := [u0, u1, u2, u3, u4]) i [v0, v1, v2, v3, v4] e rfl hR
theorem St.put6 {B : Nat} {w0 : World} {F : List BF} {R : List RF} {w : World} (i : Nat) {b : Nat} {T : TypeId} {u0 u1 u2 u3 u4 u5 : Value} (h : St B w0 F R w) (e : F[i]? = some ⟨b, T, #[u0, u1, u2, u3, u4, u5]⟩) (hR : R.all (fun p => !p.sel (.cells #[u0, u1, u2, u3, u4, u5] T (0, 0))) = true) (v0 v1 v2 v3 v4 v5 : Value) : St B w0 (F.set i ⟨b, T, #[v0, v1, v2, v3, v4, v5]⟩) R ((((((w.setCell ⟨b, 0, none⟩ v0).setCell ⟨b, 1, none⟩ v1).setCell ⟨b, 2, none⟩ v2).setCell ⟨b, 3, none⟩ v3).setCell ⟨b, 4, none⟩ v4).setCell ⟨b, 5, none⟩ v5) := h.put (cs := [u0, u1, u2, u3, u4, u5]) i [v0, v1, v2, v3, v4, v5] e rfl hR
theorem St.put7 {B : Nat} {w0 : World} {F : List BF} {R : List RF} {w : World} (i : Nat) {b : Nat} {T : TypeId} {u0 u1 u2 u3 u4 u5 u6 : Value} (h : St B w0 F R w) (e : F[i]? = some ⟨b, T, #[u0, u1, u2, u3, u4, u5, u6]⟩) (hR : R.all (fun p => !p.sel (.cells #[u0, u1, u2, u3, u4, u5, u6] T (0, 0))) = true) (v0 v1 v2 v3 v4 v5 v6 : Value) : St B w0 (F.set i ⟨b, T, #[v0, v1, v2, v3, v4, v5, v6]⟩) R (((((((w.setCell ⟨b, 0, none⟩ v0).setCell ⟨b, 1, none⟩ v1).setCell ⟨b, 2, none⟩ v2).setCell ⟨b, 3, none⟩ v3).setCell ⟨b, 4, none⟩ v4).setCell ⟨b, 5, none⟩ v5).setCell ⟨b, 6, none⟩ v6) := h.put (cs := [u0, u1, u2, u3, u4, u5, u6]) i [v0, v1, v2, v3, v4, v5, v6] e rfl hR
theorem St.put10 {B : Nat} {w0 : World} {F : List BF} {R : List RF} {w : World} (i : Nat) {b : Nat} {T : TypeId} {u0 u1 u2 u3 u4 u5 u6 u7 u8 u9 : Value} (h : St B w0 F R w) (e : F[i]? = some ⟨b, T, #[u0, u1, u2, u3, u4, u5, u6, u7, u8, u9]⟩) (hR : R.all (fun p => !p.sel (.cells #[u0, u1, u2, u3, u4, u5, u6, u7, u8, u9] T (0, 0))) = true) (v0 v1 v2 v3 v4 v5 v6 v7 v8 v9 : Value) : St B w0 (F.set i ⟨b, T, #[v0, v1, v2, v3, v4, v5, v6, v7, v8, v9]⟩) R ((((((((((w.setCell ⟨b, 0, none⟩ v0).setCell ⟨b, 1, none⟩ v1).setCell ⟨b, 2, none⟩ v2).setCell ⟨b, 3, none⟩ v3).setCell ⟨b, 4, none⟩ v4).setCell ⟨b, 5, none⟩ v5).setCell ⟨b, 6, none⟩ v6).setCell ⟨b, 7, none⟩ v7).setCell ⟨b, 8, none⟩ v8).setCell ⟨b, 9, none⟩ v9) := h.put (cs := [u0, u1, u2, u3, u4, u5, u6, u7, u8, u9]) i [v0, v1, v2, v3, v4, v5, v6, v7, v8, v9] e rfl hR

/-- What the slots hold, of those that were carried out: number, slot, value. -/
def Looks (L : List (Nat × Nat × Value)) (d : Nat → Bool) (s : Nat → Value) : Prop := ∀ p ∈ L, d p.1 = true → s p.2.1 = p.2.2
theorem Looks.none (L : List (Nat × Nat × Value)) (s : Nat → Value) : Looks L (fun _ => false) s := fun _ _ h => by cases h
/-- One more is told. -/
theorem Looks.put {L : List (Nat × Nat × Value)} {d : Nat → Bool} {s : Nat → Value} (h : Looks L d s) (k j : Nat) (v : Value) (hL : L.all (fun p => bif Nat.beq p.1 k then Nat.beq p.2.1 j else !Nat.beq p.2.1 j) = true) (hv : ∀ p ∈ L, Nat.beq p.1 k = true → p.2.2 = v) : Looks L (upd d k) (updS s j v) := by
  intro p hp hd
  have h1 := List.all_eq_true.1 hL p hp
  unfold updS
  cases hb : Nat.beq p.1 k
  · rw [hb] at h1
    simp only [cond_false] at h1
    unfold upd at hd
    rw [hb] at hd
    simp only [cond_false] at hd
    have h2 : Nat.beq p.2.1 j = false := by simpa using h1
    rw [h2]
    exact h p hp hd
  · rw [hb] at h1
    simp only [cond_true] at h1
    rw [h1]
    exact (hv p hp hb).symm
/-- Nothing of these is told by it. -/
theorem Looks.skip {L : List (Nat × Nat × Value)} {d : Nat → Bool} {s : Nat → Value} (h : Looks L d s) (k : Nat) (hL : L.all (fun p => !Nat.beq p.1 k) = true) : Looks L (upd d k) s := by
  intro p hp hd
  have h1 := List.all_eq_true.1 hL p hp
  have h2 : Nat.beq p.1 k = false := by simpa using h1
  unfold upd at hd
  rw [h2] at hd
  exact h p hp hd
theorem Looks.skipS {L : List (Nat × Nat × Value)} {d : Nat → Bool} {s : Nat → Value} (h : Looks L d s) (k j : Nat) (v : Value) (hL : L.all (fun p => !Nat.beq p.1 k && !Nat.beq p.2.1 j) = true) : Looks L (upd d k) (updS s j v) := by
  intro p hp hd
  have h1 := List.all_eq_true.1 hL p hp
  simp only [Bool.and_eq_true, Bool.not_eq_true'] at h1
  unfold upd at hd
  rw [h1.1] at hd
  unfold updS
  rw [h1.2]
  exact h p hp hd

end Go.Proofs.Ytaokgbdddgoonaa
