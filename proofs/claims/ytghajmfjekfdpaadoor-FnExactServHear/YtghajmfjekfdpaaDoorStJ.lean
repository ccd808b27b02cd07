/-
  Orders of evaluation that Go leaves open, walked operation by operation and not order by order: what is known is said of which operations were carried out.
-/
import Derived.Test.YtghajmfjekfdpaaDoorBaseJ
import Derived.Test.YtghajmfjekfdpaaDoorExLaw
import Derived.Test.YtghajmfjekfdpaaDoorMarksJ
import Derived.Test.YtghajmfjekfdpaaDoorNRowJ
namespace Go.Proofs.YtghajmfjekfdpaaDoor
open Go.RowKit

/-- One more was carried out. -/
def upd (d : Nat → Bool) (i : Nat) : Nat → Bool := fun k => bif Nat.beq k i then true else d k
/-- One more slot was written. -/
def updS (s : Nat → Value) (i : Nat) (v : Value) : Nat → Value := fun k => bif Nat.beq k i then v else s k
/-- All of these were carried out. -/
def AllT (d : Nat → Bool) : List Nat → Prop
  | [] => True
  | k :: ks => d k = true ∧ AllT d ks
/-- On which an operation waits. -/
def depsOf (o : Oper) : List Nat := (o.after.toList.filter (fun e => Region.binds .any e)).map (·.on)
/-- The slots of a region, written. -/
def putT (t : Array Value) : List Nat → (Nat → Value) → Array Value
  | [], _ => t
  | i :: is, s => putT (t.setIfInBounds i (s i)) is s
/-- The state behind that. -/
def putL (a : Act) (is : List Nat) (s : Nat → Value) : Act := { a with tmps := putT a.tmps is s }
/-- Each waits on elder ones alone. -/
def elders (ops : Array Oper) : Bool := (List.range ops.size).all fun i => match ops[i]? with
  | none => true
  | some o => (depsOf o).all fun k => decide (k < i)

theorem nbeq_ne {k i : Nat} (h : k ≠ i) : Nat.beq k i = false := by
  cases e : Nat.beq k i
  · rfl
  · exact absurd (Nat.eq_of_beq_eq_true e) h
/-- One waits on another. -/
def hasDep (ops : Array Oper) (j i : Nat) : Bool := match ops[j]? with
  | none => false
  | some o => (depsOf o).contains i
/-- Behind each that was carried out those were on which it waits. -/
def ClD (ops : Array Oper) (d : Nat → Bool) : Prop := ∀ j i, hasDep ops j i = true → d j = true → d i = true
theorem ClD.off {ops : Array Oper} {d : Nat → Bool} (h : ClD ops d) (j i : Nat) (hd : hasDep ops j i = true) (hi : d i = false) : d j = false := by
  cases e : d j
  · rfl
  · rw [h j i hd e] at hi; cases hi

theorem allT_of {d : Nat → Bool} : ∀ {ks : List Nat}, (∀ k ∈ ks, d k = true) → AllT d ks
  | [], _ => trivial
  | k :: ks, h => ⟨h k (by simp), allT_of (fun j hj => h j (by simp [hj]))⟩

theorem allT_mem {d : Nat → Bool} : ∀ {ks : List Nat}, AllT d ks → ∀ {k : Nat}, k ∈ ks → d k = true
  | [], _, _, h => by cases h
  | x :: ks, hA, k, h => by
    rcases List.mem_cons.1 h with rfl | h
    · exact hA.1
    · exact allT_mem hA.2 h

theorem putT_self {t : Array Value} {s : Nat → Value} : ∀ (is : List Nat), (∀ i ∈ is, t[i]? = none ∨ t[i]? = some (s i)) → putT t is s = t
  | [], _ => rfl
  | i :: is, h => by
    have e : t.setIfInBounds i (s i) = t := by
      apply Array.ext_getElem?
      intro j
      rw [Array.getElem?_setIfInBounds]
      split
      · rename_i hij
        subst hij
        split
        · rename_i hlt
          rcases h i (by simp) with h | h
          · rw [Array.getElem?_eq_none_iff] at h; omega
          · exact h.symm
        · rename_i hlt
          exact (Array.getElem?_eq_none (by omega)).symm
      · rfl
    show putT (t.setIfInBounds i (s i)) is s = t
    rw [e]
    exact putT_self is (fun j hj => h j (by simp [hj]))
theorem putL_self {a : Act} {s : Nat → Value} (is : List Nat) (h : ∀ i ∈ is, a.tmps[i]? = none ∨ a.tmps[i]? = some (s i)) : putL a is s = a := by
  unfold putL
  rw [putT_self is h]

/-- How many are left. -/
def leftN (n : Nat) (listed : Array Bool) : Nat := (List.range n).countP fun i => !listed.getD i true

theorem countP_lt {p q : Nat → Bool} {i : Nat} : ∀ {l : List Nat}, i ∈ l → (∀ k, q k = true → p k = true) → p i = true → q i = false → l.countP q < l.countP p
  | [], h, _, _, _ => by cases h
  | x :: l, h, hpq, hp, hq => by
    have hle : l.countP q ≤ l.countP p := List.countP_mono_left (fun x _ hx => hpq x hx)
    rw [List.countP_cons, List.countP_cons]
    rcases List.mem_cons.1 h with rfl | h'
    · rw [if_pos hp, if_neg (by rw [hq]; decide)]; omega
    · have h1 := countP_lt h' hpq hp hq
      by_cases hx : q x = true
      · rw [if_pos hx, if_pos (hpq x hx)]; omega
      · rw [if_neg hx]; omega

section
variable {P : Program} {ops : Array Oper} {Q : Exit → Act → World → Prop}

theorem ready_nil_all {listed : Array Bool} (he : elders ops = true) (hz : listed.size = ops.size) (h : Region.ready .any ops listed = []) : ∀ i, i < ops.size → listed.getD i true = true := by
  intro i
  induction i using Nat.strongRecOn with
  | ind i ih =>
    intro hi
    cases hl : listed.getD i true
    · exfalso
      have hm : i ∈ Region.ready .any ops listed := by
        rw [mem_ready]
        refine ⟨hl, ops[i], by simp [hi], fun e hin hb => ?_⟩
        have h1 := List.all_eq_true.1 he i (List.mem_range.2 hi)
        simp only [Array.getElem?_eq_getElem hi] at h1
        have h2 := List.all_eq_true.1 h1 e.on (by unfold depsOf; exact List.mem_map.2 ⟨e, List.mem_filter.2 ⟨by simpa using hin, hb⟩, rfl⟩)
        have h3 : e.on < i := of_decide_eq_true h2
        have h4 := ih _ h3 (by omega)
        have hlt : e.on < listed.size := by omega
        simp [hlt] at h4 ⊢
        exact h4
      rw [h] at hm
      cases hm
    · rfl

/-- What is known of a state of the region: which were carried out, what the slots hold, the world. -/
def StI (ds : List Nat) (a0 : Act) (F : (Nat → Bool) → (Nat → Value) → World → Prop) (d : Nat → Bool) (a : Act) (w : World) : Prop := ∃ s, a = putL a0 ds s ∧ F d s w

/-- Each of these, wherever it comes up, keeps what is known. -/
def StepsI (P : Program) (ops : Array Oper) (Q : Exit → Act → World → Prop) (ds : List Nat) (a0 : Act) (F : (Nat → Bool) → (Nat → Value) → World → Prop) (rs : List Nat) : Prop :=
  ∀ i ∈ rs, ∀ o, ops[i]? = some o → ∀ d s w, d i = false → AllT d (depsOf o) → ClD ops d → F d s w → wpOp P ops Q i (fun a' w' => StI ds a0 F (upd d i) a' w') (putL a0 ds s) w

theorem StepsI.nil {ds : List Nat} {a0 : Act} {F : (Nat → Bool) → (Nat → Value) → World → Prop} : StepsI P ops Q ds a0 F [] := fun _ h => by cases h

theorem StepsI.cons {ds : List Nat} {a0 : Act} {F : (Nat → Bool) → (Nat → Value) → World → Prop} {i : Nat} {o : Oper} {rs : List Nat} (dp : List Nat) (ho : ops[i]? = some o) (hdp : dp.all (fun k => (depsOf o).contains k) = true)
    (h : ∀ (d : Nat → Bool) (s : Nat → Value) (w : World), d i = false → AllT d dp → ClD ops d → F d s w → ∀ K' : Act → World → Prop, Shut (∀ s' a w, a = putL a0 ds s' → F (upd d i) s' w → K' a w) →
      if Region.wanted o (yielded ops (putL a0 ds s).tmps) = true then Oper.wp P o (putL a0 ds s) w K' Q else K' ((putL a0 ds s).put o.dst undef) w)
    (hs : StepsI P ops Q ds a0 F rs) : StepsI P ops Q ds a0 F (i :: rs) := by
  intro j hj
  rcases List.mem_cons.1 hj with rfl | hj
  · intro o' ho' d s w hd hA hC hF
    rw [ho] at ho'
    cases ho'
    exact wpOp_step ho (fun K' hK => h d s w hd (allT_of (fun k hk => allT_mem hA (by simpa using List.all_eq_true.1 hdp k hk))) hC hF K' (fun s' a w e hF' => hK a w ⟨s', e, hF'⟩))
  · exact hs j hj

/-- The same, one behind the other along the list of the operations. -/
def StepsR (P : Program) (ops : Array Oper) (Q : Exit → Act → World → Prop) (ds : List Nat) (a0 : Act) (F : (Nat → Bool) → (Nat → Value) → World → Prop) : Nat → List Oper → Prop
  | _, [] => True
  | k, o :: l => (∀ d s w, d k = false → AllT d (depsOf o) → ClD ops d → F d s w → ∀ K' : Act → World → Prop, Shut (∀ s' a w, a = putL a0 ds s' → F (upd d k) s' w → K' a w) →
      if Region.wanted o (yielded ops (putL a0 ds s).tmps) = true then Oper.wp P o (putL a0 ds s) w K' Q else K' ((putL a0 ds s).put o.dst undef) w) ∧ StepsR P ops Q ds a0 F (k + 1) l
theorem StepsR.nil {ds : List Nat} {a0 : Act} {F : (Nat → Bool) → (Nat → Value) → World → Prop} {k : Nat} : StepsR P ops Q ds a0 F k [] := trivial
theorem StepsR.cons {ds : List Nat} {a0 : Act} {F : (Nat → Bool) → (Nat → Value) → World → Prop} {k : Nat} {o : Oper} {l : List Oper} (dp : List Nat) (hdp : dp.all (fun k => (depsOf o).contains k) = true)
    (h : ∀ (d : Nat → Bool) (s : Nat → Value) (w : World), d k = false → AllT d dp → ClD ops d → F d s w → ∀ K' : Act → World → Prop, Shut (∀ s' a w, a = putL a0 ds s' → F (upd d k) s' w → K' a w) →
      if Region.wanted o (yielded ops (putL a0 ds s).tmps) = true then Oper.wp P o (putL a0 ds s) w K' Q else K' ((putL a0 ds s).put o.dst undef) w)
    (hs : StepsR P ops Q ds a0 F (k + 1) l) : StepsR P ops Q ds a0 F k (o :: l) :=
  ⟨fun d s w hd hA hC hF => h d s w hd (allT_of (fun k hk => allT_mem hA (by simpa using List.all_eq_true.1 hdp k hk))) hC hF, hs⟩
theorem StepsR.at {ds : List Nat} {a0 : Act} {F : (Nat → Bool) → (Nat → Value) → World → Prop} : ∀ {l : List Oper} {k : Nat}, StepsR P ops Q ds a0 F k l → ∀ (j : Nat) o, l[j]? = some o → ∀ d s w, d (k + j) = false → AllT d (depsOf o) → ClD ops d → F d s w → ∀ K' : Act → World → Prop, Shut (∀ s' a w, a = putL a0 ds s' → F (upd d (k + j)) s' w → K' a w) →
      if Region.wanted o (yielded ops (putL a0 ds s).tmps) = true then Oper.wp P o (putL a0 ds s) w K' Q else K' ((putL a0 ds s).put o.dst undef) w
  | [], _, _, _, _, h => by simp at h
  | o :: l, k, hS, 0, o', h => by
    simp at h
    subst h
    exact hS.1
  | o :: l, k, hS, j + 1, o', h => by
    have h1 := StepsR.at hS.2 j o' (by simpa using h)
    have e : k + 1 + j = k + (j + 1) := by omega
    rw [e] at h1
    exact h1
theorem stepsI_of {ds : List Nat} {a0 : Act} {F : (Nat → Bool) → (Nat → Value) → World → Prop} {rs : List Nat} (h : StepsR P ops Q ds a0 F 0 ops.toList) : StepsI P ops Q ds a0 F rs := by
  intro i _ o ho d s w hd hA hC hF
  have ho' : ops.toList[i]? = some o := by simpa using ho
  have h1 := StepsR.at h i o ho' d s w (by simpa using hd) hA hC hF
  simp only [Nat.zero_add] at h1
  exact wpOp_step ho (fun K' hK => h1 K' (fun s' a w e hF' => hK a w ⟨s', e, hF'⟩))

/-- A region that draws its order, by what is known of its states. -/
theorem wp_region_inv {id : Nat} {a : Act} {w : World} (ds : List Nat) (F : (Nat → Bool) → (Nat → Value) → World → Prop) (rs : List Nat) (hm : P.follows .mixedOrders = true) (he : elders ops = true) (hrs : List.range ops.size = rs)
    (h0 : ∀ s, F (fun _ => false) s w.drew)
    (hs : StepsI P ops Q ds a F rs)
    (hq : ∀ (d : Nat → Bool) (s : Nat → Value) (w' : World), AllT d rs → F d s w' → Q .normal (putL a ds s) w') : (Code.region id ops true).wp P Q a w := by
  have key : ∀ (fuel : Nat) (listed : Array Bool) (a' : Act) (w' : World) (d : Nat → Bool), listed.size = ops.size → (∀ i, i < ops.size → d i = listed.getD i true) → ClD ops d → leftN ops.size listed ≤ fuel → StI ds a F d a' w' → wpAny P .any ops Q fuel listed a' w' := by
    intro fuel
    induction fuel with
    | zero =>
      intro listed a' w' d hz hd hC hl ⟨s, ea, hF⟩
      have hall : ∀ i, i < ops.size → listed.getD i true = true := by
        intro i hi
        cases hx : listed.getD i true
        · exfalso
          have : 0 < leftN ops.size listed := List.countP_pos_iff.2 ⟨i, List.mem_range.2 hi, by rw [hx]; rfl⟩
          omega
        · rfl
      refine ⟨?_, ?_⟩
      · refine List.eq_nil_iff_forall_not_mem.2 (fun i hi => ?_)
        obtain ⟨h1, o, ho, _⟩ := mem_ready.1 hi
        rw [hall i (Array.getElem?_eq_some_iff.1 ho).1] at h1
        cases h1
      · rw [ea]
        exact hq d s w' (allT_of (fun k hk => by rw [← hrs] at hk; have := List.mem_range.1 hk; rw [hd k this, hall k this])) hF
    | succ fuel ih =>
      intro listed a' w' d hz hd hC hl ⟨s, ea, hF⟩
      refine ⟨fun hr => ?_, fun i hi => ?_⟩
      · have hall := ready_nil_all he hz hr
        rw [ea]
        exact hq d s w' (allT_of (fun k hk => by rw [← hrs] at hk; have := List.mem_range.1 hk; rw [hd k this, hall k this])) hF
      · obtain ⟨h1, o, ho, hdep⟩ := mem_ready.1 hi
        have hlt := (Array.getElem?_eq_some_iff.1 ho).1
        rw [ea]
        refine wpOp_mono (fun a2 w2 h2 => ?_) (hs i (hrs ▸ List.mem_range.2 hlt) o ho d s w' (by rw [hd i hlt, h1]) (allT_of (fun k hk => ?_)) hC hF)
        · refine ih _ a2 w2 (upd d i) (by simp [hz]) (fun k hk => ?_) ?_ ?_ h2
          · unfold upd
            by_cases hki : k = i
            · subst hki; simp [hz, hlt]
            · rw [nbeq_ne hki, getD_set_ne true (Ne.symm hki)]; exact hd k hk
          · intro j k hjk hj
            have hk : d k = true := by
              by_cases hji : j = i
              · subst hji
                unfold hasDep at hjk
                rw [ho] at hjk
                have hk' : k ∈ depsOf o := by simpa using hjk
                unfold depsOf at hk'
                obtain ⟨e, he1, rfl⟩ := List.mem_map.1 hk'
                obtain ⟨he2, he3⟩ := List.mem_filter.1 he1
                have h3 := hdep e (by simpa using he2) he3
                have h4 : e.on < ops.size := by
                  rcases Nat.lt_or_ge e.on listed.size with h' | h'
                  · omega
                  · simp [Array.getElem?_eq_none h'] at h3
                rw [hd _ h4]
                have hlt' : e.on < listed.size := by omega
                simp [hlt'] at h3 ⊢
                exact h3
              · unfold upd at hj
                rw [nbeq_ne hji] at hj
                exact hC j k hjk hj
            unfold upd
            rw [hk]
            cases Nat.beq k i <;> rfl
          · have : leftN ops.size (listed.setIfInBounds i true) < leftN ops.size listed := by
              refine countP_lt (i := i) (List.mem_range.2 hlt) (fun k hk => ?_) (by rw [h1]; rfl) (by simp [hz, hlt])
              by_cases hki : k = i
              · subst hki; simp [hz, hlt] at hk
              · rw [getD_set_ne true (Ne.symm hki)] at hk; exact hk
            omega
        · unfold depsOf at hk
          obtain ⟨e, he1, rfl⟩ := List.mem_map.1 hk
          obtain ⟨he2, he3⟩ := List.mem_filter.1 he1
          have h3 := hdep e (by simpa using he2) he3
          have h4 : e.on < ops.size := by
            rcases Nat.lt_or_ge e.on listed.size with h' | h'
            · omega
            · simp [Array.getElem?_eq_none h'] at h3
          rw [hd _ h4]
          have hlt' : e.on < listed.size := by omega
          simp [hlt'] at h3 ⊢
          exact h3
  refine wp_region_any hm ?_
  refine key _ _ _ _ (fun _ => false) (by simp) (fun i hi => by simp [hi]) (fun _ _ _ h => by cases h) ?_ ⟨fun i => a.tmps.getD i undef, ?_, h0 _⟩
  · unfold leftN
    have h5 := List.countP_le_length (p := fun i => !(Array.replicate ops.size false).getD i true) (l := List.range ops.size)
    rw [List.length_range] at h5
    exact h5
  · refine (putL_self ds (fun i _ => ?_)).symm
    rcases Nat.lt_or_ge i a.tmps.size with h | h
    · right; simp [h]
    · left; exact Array.getElem?_eq_none h

/-- The same, its operations walked along their list. -/
theorem wp_region_walk {id : Nat} {a : Act} {w : World} {l : List Oper} (ds : List Nat) (F : (Nat → Bool) → (Nat → Value) → World → Prop) (rs : List Nat) (hm : P.follows .mixedOrders = true) (he : elders l.toArray = true) (hrs : List.range l.toArray.size = rs)
    (h0 : ∀ s, F (fun _ => false) s w.drew)
    (hs : StepsR P l.toArray Q ds a F 0 l)
    (hq : ∀ (d : Nat → Bool) (s : Nat → Value) (w' : World), AllT d rs → F d s w' → Q .normal (putL a ds s) w') : (Code.region id l.toArray true).wp P Q a w :=
  wp_region_inv ds F rs hm he hrs h0 (stepsI_of hs) hq

end
end Go.Proofs.YtghajmfjekfdpaaDoor

namespace Go.Proofs.YtghajmfjekfdpaaDoor
open Go.RowKit

/-- A block and what stands in it. -/
structure BF where
  b : Nat
  T : TypeId
  cs : Array Value
/-- Blocks of a type. -/
def selT (T : TypeId) : Obj → Bool
  | .cells _ t _ => Nat.beq t T
  | _ => false
/-- What hangs on such objects alone. -/
def Keep (sel : Obj → Bool) (P : World → Prop) : Prop := ∀ w w' : World, P w → w.heap.size ≤ w'.heap.size → (∀ (g : Nat) o, w.heap[g]? = some o → sel o = true → w'.heap[g]? = some o) → P w'
/-- A fact beside the blocks. -/
structure RF where
  sel : Obj → Bool
  P : World → Prop
/-- What is known: since w0 nothing elder was turned; blocks; facts beside them. -/
structure St (B : Nat) (w0 : World) (F : List BF) (R : List RF) (w : World) : Prop where
  bs : B ≤ w0.heap.size
  bel : Below B w0 w
  blk : ∀ x ∈ F, ABlk x.T w x.b x.cs
  ge : ∀ x ∈ F, B ≤ x.b
  nd : (F.map BF.b).Nodup
  keep : ∀ p ∈ R, Keep p.sel p.P
  row : ∀ p ∈ R, p.P w

theorem St.newB {B : Nat} {w : World} (h : B ≤ w.heap.size) : St B w [] [] w := ⟨h, Below.refl _ _, (fun _ h => by cases h), (fun _ h => by cases h), List.nodup_nil, (fun _ h => by cases h), (fun _ h => by cases h)⟩
theorem St.new (w : World) : St w.heap.size w [] [] w := St.newB (Nat.le_refl _)
theorem St.sz {B : Nat} {w0 : World} {F : List BF} {R : List RF} {w : World} (h : St B w0 F R w) : B ≤ w.heap.size := Nat.le_trans h.bs h.bel.size
theorem St.grow {B : Nat} {w0 : World} {F : List BF} {R : List RF} {w w' : World} (hb : Below w.heap.size w w') (h : St B w0 F R w) : St B w0 F R w' :=
  ⟨h.bs, h.bel.trans (hb.mono h.sz), fun x hx => (h.blk x hx).later hb, h.ge, h.nd, h.keep, fun p hp => h.keep p hp w w' (h.row p hp) hb.size (fun g _ ho _ => (hb.block g (Array.getElem?_eq_some_iff.1 ho).1).trans ho)⟩
theorem St.drew {B : Nat} {w0 : World} {F : List BF} {R : List RF} {w : World} (h : St B w0 F R w) : St B w0 F R w.drew := h.grow (Below.refl _ w).drew
theorem St.alloc {B : Nat} {w0 : World} {F : List BF} {R : List RF} {w : World} (cs : Array Value) (T : TypeId) (h : St B w0 F R w) : St B w0 (F ++ [⟨w.heap.size, T, cs⟩]) R (w.alloc (.cells cs T)) := by
  have hb := Below.alloc_ w (.cells cs T)
  have h1 := h.grow hb
  refine ⟨h.bs, h1.bel, fun x hx => ?_, fun x hx => ?_, ?_, h1.keep, h1.row⟩
  · rcases List.mem_append.1 hx with hx | hx
    · exact h1.blk x hx
    · obtain rfl := List.mem_singleton.1 hx
      exact ABlk.new _ _ _
  · rcases List.mem_append.1 hx with hx | hx
    · exact h.ge x hx
    · obtain rfl := List.mem_singleton.1 hx
      exact h.sz
  · rw [List.map_append, List.nodup_append]
    refine ⟨h.nd, by simp, fun a ha b hb e => ?_⟩
    obtain ⟨x, hx, rfl⟩ := List.mem_map.1 ha
    have h2 := (h.blk x hx).lt
    simp at hb
    omega
/-- Any object is laid. -/
theorem St.lay {B : Nat} {w0 : World} {F : List BF} {R : List RF} {w : World} (o : Obj) (h : St B w0 F R w) : St B w0 F R (w.alloc o) := h.grow (Below.alloc_ w o)
theorem nodup_inj : ∀ {l : List Nat}, l.Nodup → ∀ {i k x : Nat}, l[i]? = some x → l[k]? = some x → i = k
  | [], _, i, _, _, h, _ => by simp at h
  | a :: l, _, 0, 0, _, _, _ => rfl
  | a :: l, hn, 0, k + 1, x, h, h' => by
    simp at h h'
    exact absurd (h ▸ List.mem_of_getElem? h') (List.nodup_cons.1 hn).1
  | a :: l, hn, i + 1, 0, x, h, h' => by
    simp at h h'
    exact absurd (h' ▸ List.mem_of_getElem? h) (List.nodup_cons.1 hn).1
  | a :: l, hn, i + 1, k + 1, x, h, h' => by
    simp at h h'
    rw [nodup_inj (List.nodup_cons.1 hn).2 h h']
theorem set_mem {F : List BF} {i : Nat} {x y z : BF} (h : F[i]? = some x) (hn : (F.map BF.b).Nodup) (hy : y ∈ F.set i z) : y = z ∨ (y ∈ F ∧ y.b ≠ x.b) := by
  obtain ⟨k, hk, e⟩ := List.mem_iff_getElem.1 hy
  rw [List.getElem_set] at e
  split at e
  · exact Or.inl e.symm
  · rename_i hik
    right
    have hk' : k < F.length := by simpa using hk
    refine ⟨e ▸ List.getElem_mem hk', fun he => hik ?_⟩
    obtain ⟨hi, ex⟩ := List.getElem?_eq_some_iff.1 h
    have h1 : (F.map BF.b)[i]? = some x.b := by rw [List.getElem?_map, h]; rfl
    have h2 : (F.map BF.b)[k]? = some x.b := by rw [List.getElem?_map, List.getElem?_eq_getElem hk', e, Option.map_some, he]
    exact nodup_inj hn h1 h2
theorem map_set_b {F : List BF} {i : Nat} {x z : BF} (h : F[i]? = some x) (hb : z.b = x.b) : (F.set i z).map BF.b = F.map BF.b := by
  apply List.ext_getElem?
  intro k
  rw [List.getElem?_map, List.getElem?_map, List.getElem?_set]
  split
  · rename_i hik
    subst hik
    rw [h]
    have : i < F.length := (List.getElem?_eq_some_iff.1 h).1
    simp [this, hb]
  · rfl
/-- A block is turned. -/
theorem St.turn {B : Nat} {w0 : World} {F : List BF} {R : List RF} {w w' : World} (i : Nat) {b : Nat} {T : TypeId} {cs : Array Value} (cs' : Array Value) (h : St B w0 F R w) (e : F[i]? = some ⟨b, T, cs⟩) (hR : R.all (fun p => !p.sel (.cells cs T (0, 0))) = true)
    (hg : GrL w w' [some b]) (hk : ABlk T w' b cs') : St B w0 (F.set i ⟨b, T, cs'⟩) R w' := by
  have hm : (⟨b, T, cs⟩ : BF) ∈ F := List.mem_of_getElem? e
  have hge := h.ge _ hm
  refine ⟨h.bs, below_grl h.bel hg h.sz (fun k hk => ?_), fun x hx => ?_, fun x hx => ?_, ?_, h.keep, fun p hp => ?_⟩
  · have : k = b := by simpa using hk
    rw [this]; exact hge
  · rcases set_mem e h.nd hx with rfl | ⟨hx, hne⟩
    · exact hk
    · exact (h.blk x hx).grl hg (by simpa using hne)
  · rcases set_mem e h.nd hx with rfl | ⟨hx, _⟩
    · exact hge
    · exact h.ge x hx
  · rw [map_set_b (z := ⟨b, T, cs'⟩) e rfl]
    exact h.nd
  · refine h.keep p hp w w' (h.row p hp) hg.size (fun g o ho hs => ?_)
    refine (hg.block g (Array.getElem?_eq_some_iff.1 ho).1 (fun hm' => ?_)).trans ho
    have hgb : g = b := by simpa using hm'
    subst hgb
    have h1 := h.blk _ hm
    unfold ABlk at h1
    rw [h1] at ho
    cases ho
    have := List.all_eq_true.1 hR p hp
    rw [hs] at this
    cases this
theorem St.set {B : Nat} {w0 : World} {F : List BF} {R : List RF} {w : World} (i : Nat) {b q : Nat} {v : Value} {T : TypeId} {cs : Array Value} (h : St B w0 F R w) (e : F[i]? = some ⟨b, T, cs⟩) (hR : R.all (fun p => !p.sel (.cells cs T (0, 0))) = true) : St B w0 (F.set i ⟨b, T, cs.setIfInBounds q v⟩) R (w.setCell ⟨b, q, none⟩ v) :=
  h.turn i _ e hR (setCell_grl w b q v) ((h.blk _ (List.mem_of_getElem? e)).set q v)
theorem St.at {B : Nat} {w0 : World} {F : List BF} {R : List RF} {w : World} (h : St B w0 F R w) (i : Nat) {b : Nat} {T : TypeId} {cs : Array Value} (e : F[i]? = some ⟨b, T, cs⟩) : ABlk T w b cs := h.blk _ (List.mem_of_getElem? e)
theorem St.cell {B : Nat} {w0 : World} {F : List BF} {R : List RF} {w : World} (h : St B w0 F R w) (i : Nat) {b : Nat} {T : TypeId} {cs : Array Value} (e : F[i]? = some ⟨b, T, cs⟩) (q : Nat) (v : Value) (hq : cs[q]? = some v) : w.cell? ⟨b, q, none⟩ = some v := (h.at i e).at q v hq
theorem St.fro {B : Nat} {w0 : World} {F : List BF} {R : List RF} {w : World} (h : St B w0 F R w) (i : Nat) {b : Nat} {T : TypeId} {cs : Array Value} (e : F[i]? = some ⟨b, T, cs⟩) (q : Nat) : w.frozen? ⟨b, q, none⟩ = false := (h.at i e).fro q
theorem St.lt {B : Nat} {w0 : World} {F : List BF} {R : List RF} {w : World} (h : St B w0 F R w) (i : Nat) {x : BF} (e : F[i]? = some x) : B ≤ x.b ∧ x.b < w.heap.size := ⟨h.ge _ (List.mem_of_getElem? e), (h.blk _ (List.mem_of_getElem? e)).lt⟩
theorem St.of {B : Nat} {w0 : World} {F : List BF} {R : List RF} {w : World} (h : St B w0 F R w) (j : Nat) {sel : Obj → Bool} {P : World → Prop} (e : R[j]? = some ⟨sel, P⟩) : P w := h.row _ (List.mem_of_getElem? e)
/-- One fact more. -/
theorem St.add {B : Nat} {w0 : World} {F : List BF} {R : List RF} {w : World} (sel : Obj → Bool) (P : World → Prop) (hk : Keep sel P) (hp : P w) (h : St B w0 F R w) : St B w0 F (R ++ [⟨sel, P⟩]) w :=
  ⟨h.bs, h.bel, h.blk, h.ge, h.nd, fun p hp => by
    rcases List.mem_append.1 hp with hp | hp
    · exact h.keep p hp
    · obtain rfl := List.mem_singleton.1 hp
      exact hk, fun p hp' => by
    rcases List.mem_append.1 hp' with hp' | hp'
    · exact h.row p hp'
    · obtain rfl := List.mem_singleton.1 hp'
      exact hp⟩
/-- One block more. -/
theorem St.addB {B : Nat} {w0 : World} {F : List BF} {R : List RF} {w : World} (x : BF) (hx : ABlk x.T w x.b x.cs) (hg : B ≤ x.b) (hn : ∀ y ∈ F, y.b ≠ x.b) (h : St B w0 F R w) : St B w0 (F ++ [x]) R w :=
  ⟨h.bs, h.bel, fun y hy => by
    rcases List.mem_append.1 hy with hy | hy
    · exact h.blk y hy
    · obtain rfl := List.mem_singleton.1 hy
      exact hx, fun y hy => by
    rcases List.mem_append.1 hy with hy | hy
    · exact h.ge y hy
    · obtain rfl := List.mem_singleton.1 hy
      exact hg, by
    rw [List.map_append, List.nodup_append]
    refine ⟨h.nd, by simp, fun a ha b hb e => ?_⟩
    obtain ⟨y, hy, rfl⟩ := List.mem_map.1 ha
    have : b = x.b := by simpa using hb
    exact hn y hy (e.trans this), h.keep, h.row⟩
/-- A block that came up since w: it is none of those. -/
theorem St.fresh {B : Nat} {w0 : World} {F : List BF} {R : List RF} {w : World} (h : St B w0 F R w) {b : Nat} (hb : w.heap.size ≤ b) : ∀ y ∈ F, y.b ≠ b := fun y hy e => by
  have := (h.blk y hy).lt
  omega
/-- Facts alone. -/
theorem St.facts {B : Nat} {w0 : World} {F : List BF} {R R' : List RF} {w : World} (h : St B w0 F R w) (hk : ∀ p ∈ R', Keep p.sel p.P) (hr : ∀ p ∈ R', p.P w) : St B w0 F R' w := ⟨h.bs, h.bel, h.blk, h.ge, h.nd, hk, hr⟩
theorem St.sub {B : Nat} {w0 : World} {F F' : List BF} {R R' : List RF} {w : World} (hF : F'.Sublist F) (hR : R'.Sublist R) (h : St B w0 F R w) : St B w0 F' R' w :=
  ⟨h.bs, h.bel, fun x hx => h.blk x (hF.subset hx), fun x hx => h.ge x (hF.subset hx), h.nd.sublist (hF.map _), fun p hp => h.keep p (hR.subset hp), fun p hp => h.row p (hR.subset hp)⟩
/-- A row of the call's own is a fact of its type's blocks. -/
theorem keep_own {X : Type} (C : Cel X) (T : TypeId) (B : Nat) (v : Value) (xs : List X) : Keep (selT T) (fun w => OwnN C T w B v xs) := fun w w' h _ hk => h.keep (fun g e => by
  obtain ⟨cur, hc⟩ := h.type e
  exact (hk g _ hc (by simp [selT])).trans hc.symm)
theorem keep_owns (B : Nat) (v : Value) (xs : List Sl) : Keep (selT 64) (fun w => OwnS w B v xs) := fun w w' h _ hk => ownN_keep h (fun g e => by
  obtain ⟨cur, hc⟩ := ownN_type h e
  exact (hk g _ hc (by simp [selT])).trans hc.symm)

/-- So many cells of a block are written. -/
theorem St.put {B : Nat} {w0 : World} {F : List BF} {R : List RF} {w : World} (i : Nat) {b : Nat} {T : TypeId} {cs : List Value} (vs : List Value) (h : St B w0 F R w) (e : F[i]? = some ⟨b, T, cs.toArray⟩) (hl : cs.length = vs.length) (hR : R.all (fun p => !p.sel (.cells cs.toArray T (0, 0))) = true) : St B w0 (F.set i ⟨b, T, vs.toArray⟩) R (putA w b 0 vs) :=
  h.turn i _ e hR putA_grl ((h.blk _ (List.mem_of_getElem? e)).put vs hl)
theorem St.put1 {B : Nat} {w0 : World} {F : List BF} {R : List RF} {w : World} (i : Nat) {b : Nat} {T : TypeId} {u0 : Value} (h : St B w0 F R w) (e : F[i]? = some ⟨b, T, #[u0]⟩) (hR : R.all (fun p => !p.sel (.cells #[u0] T (0, 0))) = true) (v0 : Value) : St B w0 (F.set i ⟨b, T, #[v0]⟩) R (w.setCell ⟨b, 0, none⟩ v0) := h.put (cs := [u0]) i [v0] e rfl hR
theorem St.put2 {B : Nat} {w0 : World} {F : List BF} {R : List RF} {w : World} (i : Nat) {b : Nat} {T : TypeId} {u0 u1 : Value} (h : St B w0 F R w) (e : F[i]? = some ⟨b, T, #[u0, u1]⟩) (hR : R.all (fun p => !p.sel (.cells #[u0, u1] T (0, 0))) = true) (v0 v1 : Value) : St B w0 (F.set i ⟨b, T, #[v0, v1]⟩) R ((w.setCell ⟨b, 0, none⟩ v0).setCell ⟨b, 1, none⟩ v1) := h.put (cs := [u0, u1]) i [v0, v1] e rfl hR
theorem St.put3 {B : Nat} {w0 : World} {F : List BF} {R : List RF} {w : World} (i : Nat) {b : Nat} {T : TypeId} {u0 u1 u2 : Value} (h : St B w0 F R w) (e : F[i]? = some ⟨b, T, #[u0, u1, u2]⟩) (hR : R.all (fun p => !p.sel (.cells #[u0, u1, u2] T (0, 0))) = true) (v0 v1 v2 : Value) : St B w0 (F.set i ⟨b, T, #[v0, v1, v2]⟩) R (((w.setCell ⟨b, 0, none⟩ v0).setCell ⟨b, 1, none⟩ v1).setCell ⟨b, 2, none⟩ v2) := h.put (cs := [u0, u1, u2]) i [v0, v1, v2] e rfl hR
theorem St.put4 {B : Nat} {w0 : World} {F : List BF} {R : List RF} {w : World} (i : Nat) {b : Nat} {T : TypeId} {u0 u1 u2 u3 : Value} (h : St B w0 F R w) (e : F[i]? = some ⟨b, T, #[u0, u1, u2, u3]⟩) (hR : R.all (fun p => !p.sel (.cells #[u0, u1, u2, u3] T (0, 0))) = true) (v0 v1 v2 v3 : Value) : St B w0 (F.set i ⟨b, T, #[v0, v1, v2, v3]⟩) R ((((w.setCell ⟨b, 0, none⟩ v0).setCell ⟨b, 1, none⟩ v1).setCell ⟨b, 2, none⟩ v2).setCell ⟨b, 3, none⟩ v3) := h.put (cs := [u0, u1, u2, u3]) i [v0, v1, v2, v3] e rfl hR
theorem St.put5 {B : Nat} {w0 : World} {F : List BF} {R : List RF} {w : World} (i : Nat) {b : Nat} {T : TypeId} {u0 u1 u2 u3 u4 : Value} (h : St B w0 F R w) (e : F[i]? = some ⟨b, T, #[u0, u1, u2, u3, u4]⟩) (hR : R.all (fun p => !p.sel (.cells #[u0, u1, u2, u3, u4] T (0, 0))) = true) (v0 v1 v2 v3 v4 : Value) : St B w0 (F.set i ⟨b, T, #[v0, v1, v2, v3, v4]⟩) R (((((w.setCell ⟨b, 0, none⟩ v0).setCell ⟨b, 1, none⟩ v1).setCell ⟨b, 2, none⟩ v2).setCell ⟨b, 3, none⟩ v3).setCell ⟨b, 4, none⟩ v4) := h.put (cs := [u0, u1, u2, u3, u4]) i [v0, v1, v2, v3, v4] e rfl hR
theorem St.put6 {B : Nat} {w0 : World} {F : List BF} {R : List RF} {w : World} (i : Nat) {b : Nat} {T : TypeId} {u0 u1 u2 u3 u4 u5 : Value} (h : St B w0 F R w) (e : F[i]? = some ⟨b, T, #[u0, u1, u2, u3, u4, u5]⟩) (hR : R.all (fun p => !p.sel (.cells #[u0, u1, u2, u3, u4, u5] T (0, 0))) = true) (v0 v1 v2 v3 v4 v5 : Value) : St B w0 (F.set i ⟨b, T, #[v0, v1, v2, v3, v4, v5]⟩) R ((((((w.setCell ⟨b, 0, none⟩ v0).setCell ⟨b, 1, none⟩ v1).setCell ⟨b, 2, none⟩ v2).setCell ⟨b, 3, none⟩ v3).setCell ⟨b, 4, none⟩ v4).setCell ⟨b, 5, none⟩ v5) := h.put (cs := [u0, u1, u2, u3, u4, u5]) i [v0, v1, v2, v3, v4, v5] e rfl hR
theorem St.put7 {B : Nat} {w0 : World} {F : List BF} {R : List RF} {w : World} (i : Nat) {b : Nat} {T : TypeId} {u0 u1 u2 u3 u4 u5 u6 : Value} (h : St B w0 F R w) (e : F[i]? = some ⟨b, T, #[u0, u1, u2, u3, u4, u5, u6]⟩) (hR : R.all (fun p => !p.sel (.cells #[u0, u1, u2, u3, u4, u5, u6] T (0, 0))) = true) (v0 v1 v2 v3 v4 v5 v6 : Value) : St B w0 (F.set i ⟨b, T, #[v0, v1, v2, v3, v4, v5, v6]⟩) R (((((((w.setCell ⟨b, 0, none⟩ v0).setCell ⟨b, 1, none⟩ v1).setCell ⟨b, 2, none⟩ v2).setCell ⟨b, 3, none⟩ v3).setCell ⟨b, 4, none⟩ v4).setCell ⟨b, 5, none⟩ v5).setCell ⟨b, 6, none⟩ v6) := h.put (cs := [u0, u1, u2, u3, u4, u5, u6]) i [v0, v1, v2, v3, v4, v5, v6] e rfl hR
theorem St.put10 {B : Nat} {w0 : World} {F : List BF} {R : List RF} {w : World} (i : Nat) {b : Nat} {T : TypeId} {u0 u1 u2 u3 u4 u5 u6 u7 u8 u9 : Value} (h : St B w0 F R w) (e : F[i]? = some ⟨b, T, #[u0, u1, u2, u3, u4, u5, u6, u7, u8, u9]⟩) (hR : R.all (fun p => !p.sel (.cells #[u0, u1, u2, u3, u4, u5, u6, u7, u8, u9] T (0, 0))) = true) (v0 v1 v2 v3 v4 v5 v6 v7 v8 v9 : Value) : St B w0 (F.set i ⟨b, T, #[v0, v1, v2, v3, v4, v5, v6, v7, v8, v9]⟩) R ((((((((((w.setCell ⟨b, 0, none⟩ v0).setCell ⟨b, 1, none⟩ v1).setCell ⟨b, 2, none⟩ v2).setCell ⟨b, 3, none⟩ v3).setCell ⟨b, 4, none⟩ v4).setCell ⟨b, 5, none⟩ v5).setCell ⟨b, 6, none⟩ v6).setCell ⟨b, 7, none⟩ v7).setCell ⟨b, 8, none⟩ v8).setCell ⟨b, 9, none⟩ v9) := h.put (cs := [u0, u1, u2, u3, u4, u5, u6, u7, u8, u9]) i [v0, v1, v2, v3, v4, v5, v6, v7, v8, v9] e rfl hR

/-- What the slots hold, of those that were carried out: number, slot, value. -/
def Looks (L : List (Nat × Nat × Value)) (d : Nat → Bool) (s : Nat → Value) : Prop := ∀ p ∈ L, d p.1 = true → s p.2.1 = p.2.2
theorem Looks.none (L : List (Nat × Nat × Value)) (s : Nat → Value) : Looks L (fun _ => false) s := fun _ _ h => by cases h
/-- One more is told. -/
theorem Looks.put {L : List (Nat × Nat × Value)} {d : Nat → Bool} {s : Nat → Value} (h : Looks L d s) (k j : Nat) (v : Value) (hL : L.all (fun p => bif Nat.beq p.1 k then Nat.beq p.2.1 j else !Nat.beq p.2.1 j) = true) (hv : ∀ p ∈ L, Nat.beq p.1 k = true → p.2.2 = v) : Looks L (upd d k) (updS s j v) := by
  intro p hp hd
  have h1 := List.all_eq_true.1 hL p hp
  unfold updS
  cases hb : Nat.beq p.1 k
  · rw [hb] at h1
    simp only [cond_false] at h1
    unfold upd at hd
    rw [hb] at hd
    simp only [cond_false] at hd
    have h2 : Nat.beq p.2.1 j = false := by simpa using h1
    rw [h2]
    exact h p hp hd
  · rw [hb] at h1
    simp only [cond_true] at h1
    rw [h1]
    exact (hv p hp hb).symm
/-- Nothing of these is told by it. -/
theorem Looks.skip {L : List (Nat × Nat × Value)} {d : Nat → Bool} {s : Nat → Value} (h : Looks L d s) (k : Nat) (hL : L.all (fun p => !Nat.beq p.1 k) = true) : Looks L (upd d k) s := by
  intro p hp hd
  have h1 := List.all_eq_true.1 hL p hp
  have h2 : Nat.beq p.1 k = false := by simpa using h1
  unfold upd at hd
  rw [h2] at hd
  exact h p hp hd
theorem Looks.skipS {L : List (Nat × Nat × Value)} {d : Nat → Bool} {s : Nat → Value} (h : Looks L d s) (k j : Nat) (v : Value) (hL : L.all (fun p => !Nat.beq p.1 k && !Nat.beq p.2.1 j) = true) : Looks L (upd d k) (updS s j v) := by
  intro p hp hd
  have h1 := List.all_eq_true.1 hL p hp
  simp only [Bool.and_eq_true, Bool.not_eq_true'] at h1
  unfold upd at hd
  rw [h1.1] at hd
  unfold updS
  rw [h1.2]
  exact h p hp hd

end Go.Proofs.YtghajmfjekfdpaaDoor

namespace Go.Proofs.YtghajmfjekfdpaaDoor
open Go.RowKit

theorem appendN_none {P : Program} (w : World) (t ty e : TypeId) (i : TypeInfo) (ht : P.underlying t = some (.slice e)) (hi : P.info? e = some i) (g c : Nat) (a : Option Addr) :
    (Builtin.append_ #[t, t] ty #[.slice (some ⟨g, 0, none⟩) 0 0, .slice a 0 c]).run P w = .ok (.slice (some ⟨g, 0, none⟩) 0 0) w := by
  cases a with
  | none => simp [Builtin.append_, run_underlying ht, sizeOf, typeInfo, hi, Builtin.lenOf, Builtin.firstCells, storeCells]
  | some a => simp [Builtin.append_, run_underlying ht, sizeOf, typeInfo, hi, Builtin.lenOf, Builtin.firstCells, storeCells, loadCells, loadCellsFrom]

theorem appendN_nil0 {P : Program} (w : World) (t ty e : TypeId) (i : TypeInfo) (ht : P.underlying t = some (.slice e)) (hi : P.info? e = some i) (c : Nat) (a : Option Addr) :
    (Builtin.append_ #[t, t] ty #[.slice none 0 0, .slice a 0 c]).run P w = .ok (.slice none 0 0) w := by
  cases a with
  | none => simp [Builtin.append_, run_underlying ht, sizeOf, typeInfo, hi, Builtin.lenOf, Builtin.firstCells]
  | some a => simp [Builtin.append_, run_underlying ht, sizeOf, typeInfo, hi, Builtin.lenOf, Builtin.firstCells, loadCells, loadCellsFrom]
theorem appendN_fresh {P : Program} (w : World) (base : Nat) (t ty e : TypeId) (i : TypeInfo) (z : Value) (size bytes : Nat) (ht : P.underlying t = some (.slice e)) (hi : P.info? e = some i) (hz : i.zero = some z)
    (hsize : i.size = size) (hby : i.bytes = bytes) (hzs : z.cells.size = size) (hsz : 0 < size) (b : Option Addr) (hown : w.ownsRow base e size (.slice b 0 0) 0 [])
    (a : Option Addr) (m c : Nat) (news : List Value) (hl : news.length = m * size) (hsrc : m = 0 ∨ ∃ ad, a = some ad ∧ ∀ j u, news[j]? = some u → w.cell? (ad.add j) = some u) (h1 : ∀ u ∈ news, u.oneCell' = true)
    (h63 : m ≤ maxLen) (hbytes : m * bytes ≤ 140737488355328) (hbase : base ≤ w.heap.size) :
    ∃ v' w', (Builtin.append_ #[t, t] ty #[.slice b 0 0, .slice a m c]).run P w = .ok v' w' ∧ w'.ownsRow base e size v' m news ∧ Below w.heap.size w w' ∧ (v'.ownBlock = (Value.slice b 0 0).ownBlock ∨ v'.ownBlock = some w.heap.size) := by
  by_cases hm : m = 0
  · subst hm
    have hn : news = [] := List.eq_nil_of_length_eq_zero (by simpa using hl)
    subst hn
    rcases hown.2 with ⟨e0, _⟩ | ⟨g, cap, cur, e0, _⟩
    · cases e0
      exact ⟨.slice none 0 0, w, appendN_nil0 w t ty e i ht hi c a, hown, Below.refl _ _, Or.inl rfl⟩
    · cases e0
      exact ⟨_, w, appendN_none w t ty e i ht hi g c a, hown, Below.refl _ _, Or.inl rfl⟩
  · obtain ⟨ad, rfl, hnews⟩ : ∃ ad, a = some ad ∧ ∀ j u, news[j]? = some u → w.cell? (ad.add j) = some u := by
      rcases hsrc with h | h
      · exact absurd h hm
      · exact h
    rcases hown.2 with ⟨e0, _⟩ | ⟨g, cap, cur, e0, hbg, hg, _⟩
    · cases e0
      obtain ⟨v', w', hr, h2, h3, h4, h5⟩ := run_append_own_at (P := P) w base t ty e i z size bytes ht hi hz hsize hby hzs hsz (.slice none 0 0) 0 [] hown ad m c news hl hnews h1 (by simpa using h63) (by simpa using hbytes) hbase
      exact ⟨v', w', hr, by simpa using h2, ⟨h3.os, h3.tape, h3.output, h3.size, fun k hk => h3.block k hk (by simp [Value.ownBlock])⟩, h5⟩
    · cases e0
      subst hsize hby
      have hr := run_append_grow (P := P) w t ty e i z ht hi hz ⟨g, 0, none⟩ 0 0 [] (by simp) (by simp) ad m c news hl hnews (by omega) (by simp only [maxLen] at h63; omega) (growslice_fits (by omega) (by simpa using hbytes))
      simp only [Nat.zero_add] at hr
      refine ⟨_, _, hr, ⟨hl, .inr ⟨w.heap.size, _, _, rfl, hbase, heap_alloc_new w.drew _, grownCap_ge w m 0 e, grownCap_le_maxLen w m 0 e h63, ?_, ?_⟩⟩, ⟨rfl, rfl, rfl, by simp, fun k hk => heap_alloc_old w.drew _ hk⟩, Or.inr rfl⟩
      · simp only [Array.size_append, List.size_toArray, size_zeroCells, hzs, hl, ← Nat.add_mul, List.length_nil, Nat.zero_add]
        congr 1
        have := grownCap_ge w m 0 e
        omega
      · simp only [Array.toList_append, List.nil_append]
        rw [← hl]
        exact List.take_left

/-- A row behind a new row: what comes of it. -/
theorem wp_app_new {X : Type} (C : Cel X) (P : Program) (T sT bytes : Nat) (z : Value) {w : World} {o : Oper} {a : Act} {K : Act → World → Prop} {Q : Exit → Act → World → Prop} (hu : P.underlying sT = some (.slice T)) (hinf : (P.info? T).map (fun i => (i.zero, i.size, i.bytes)) = some (some z, C.n, bytes)) (hz : z.cells.size = C.n) (hby : bytes ≤ 1000) (s x : Operand)
    (ho : o.op = .call { callee := .builtin .append, args := #[s, x], argTypes := #[sT, sT] }) (base : Nat) (b0 : Option Addr) (hs : a.eval s = .slice b0 0 0) (h : OwnN C T w base (.slice b0 0 0) []) (b : Option Addr) (xs : List X) (c : Nat) (hx : a.eval x = .slice b xs.length c) (hr : NRow C w b xs)
    (hq : xs.length ≤ 2000000) (hB : base ≤ w.heap.size)
    (hK : ∀ b' c' w', OwnN C T w' base (.slice b' xs.length c') xs → Below w.heap.size w w' → ((Value.slice b' xs.length c').ownBlock = (Value.slice b0 0 0).ownBlock ∨ (Value.slice b' xs.length c').ownBlock = some w.heap.size) → K (a.put o.dst (.slice b' xs.length c')) w') : Oper.wp P o a w K Q := by
  obtain ⟨i0, hi, hz0, hz1, hz2⟩ := info_parts hinf
  obtain ⟨v', w', hrun, h1, h2, h3⟩ := appendN_fresh w base sT o.type T i0 z C.n bytes hu hi hz0 hz1 hz2 hz C.pos b0 h b xs.length c (cellsN C xs) (cellsN_length C xs)
    (by
      rcases hr with hr | ⟨g, off, rfl, _, hr⟩
      · exact Or.inl (by rw [hr]; rfl)
      · exact Or.inr ⟨_, rfl, NRow.src hr⟩)
    (cellsN_one C xs) (by unfold maxLen; omega) (by have := Nat.mul_le_mul hq hby; omega) hB
  have ho1 : OwnN C T w' base v' xs := h1
  obtain ⟨b', c', rfl, _⟩ := ho1.rows
  unfold Oper.wp execOp
  simp only [ho, resolve, invoke, builtin, Sem.run_bind, Sem.run_pure, Result.andThen_ok, List.map_toArray, List.map_cons, List.map_nil, hs, hx, hrun]
  exact hK b' c' w' ho1 h2 h3

end Go.Proofs.YtghajmfjekfdpaaDoor

namespace Go.Proofs.YtghajmfjekfdpaaDoor
open Go.RowKit

theorem mem_set_erase {X : Type} {l : List X} {j : Nat} {z p : X} (h : p ∈ l.set j z) : p = z ∨ p ∈ l.eraseIdx j := by
  obtain ⟨k, hk, e⟩ := List.mem_iff_getElem.1 h
  rw [List.getElem_set] at e
  split at e
  · exact Or.inl e.symm
  · rename_i hne
    have hk' : k < l.length := by simpa using hk
    exact Or.inr (List.mem_eraseIdx_iff_getElem?.2 ⟨k, fun q => hne q.symm, by rw [List.getElem?_eq_getElem hk', e]⟩)
/-- A row of the call's own grew: another fact in its place. -/
theorem St.appR {B : Nat} {w0 : World} {F : List BF} {R : List RF} {w w' : World} (h : St B w0 F R w) (j : Nat) (T : TypeId) {v : Value} (hT : ∀ b, v.ownBlock = some b → B ≤ b ∧ ∃ cur, w.heap[b]? = some (.cells cur T (0, 0))) (g : w.grownBy w' v.ownBlock)
    (hF : F.all (fun x => !Nat.beq x.T T) = true) (hR : ∀ cur, (R.eraseIdx j).all (fun p => !p.sel (.cells cur T (0, 0))) = true) (sel' : Obj → Bool) (P' : World → Prop) (hk' : Keep sel' P') (hp' : P' w') : St B w0 F (R.set j ⟨sel', P'⟩) w' := by
  refine ⟨h.bs, below_grl h.bel (GrL.of g) h.sz (fun k hk => (hT k (List.mem_singleton.1 hk).symm).1), fun x hx => ?_, h.ge, h.nd, fun p hp => ?_, fun p hp => ?_⟩
  · refine (h.blk x hx).grl (GrL.of g) (fun hm => ?_)
    obtain ⟨_, cur, hc⟩ := hT x.b (List.mem_singleton.1 hm).symm
    have h1 := h.blk x hx
    unfold ABlk at h1
    rw [hc] at h1
    injection h1 with h1
    injection h1 with _ h2
    have h3 := List.all_eq_true.1 hF x hx
    rw [← h2, Nat.beq_refl] at h3
    cases h3
  · rcases mem_set_erase hp with rfl | hp
    · exact hk'
    · exact h.keep p ((List.eraseIdx_sublist _ _).subset hp)
  · rcases mem_set_erase hp with rfl | hp
    · exact hp'
    · refine h.keep p ((List.eraseIdx_sublist _ _).subset hp) w w' (h.row p ((List.eraseIdx_sublist _ _).subset hp)) g.size (fun k o ho hs => (g.block k (Array.getElem?_eq_some_iff.1 ho).1 (fun e => ?_)).trans ho)
      obtain ⟨_, cur, hc⟩ := hT k e.symm
      rw [hc] at ho
      cases ho
      have h3 := List.all_eq_true.1 (hR cur) p hp
      rw [hs] at h3
      cases h3
/-- Another fact in the place of one. -/
theorem St.setR {B : Nat} {w0 : World} {F : List BF} {R : List RF} {w : World} (h : St B w0 F R w) (j : Nat) (sel : Obj → Bool) (P : World → Prop) (hk : Keep sel P) (hp : P w) : St B w0 F (R.set j ⟨sel, P⟩) w :=
  h.facts (fun p hm => by
    rcases mem_set_erase hm with rfl | hm
    · exact hk
    · exact h.keep p ((List.eraseIdx_sublist _ _).subset hm)) (fun p hm => by
    rcases mem_set_erase hm with rfl | hm
    · exact hp
    · exact h.row p ((List.eraseIdx_sublist _ _).subset hm))
/-- A block that a fact alone speaks of is turned. -/
theorem St.turnR {B : Nat} {w0 : World} {F : List BF} {R : List RF} {w w' : World} (h : St B w0 F R w) (j : Nat) (T : TypeId) {b : Nat} {cur : Array Value} (hB : B ≤ b) (hT : ABlk T w b cur) (g : GrL w w' [some b])
    (hF : F.all (fun x => !Nat.beq x.T T) = true) (hR : ∀ cur, (R.eraseIdx j).all (fun p => !p.sel (.cells cur T (0, 0))) = true) (sel' : Obj → Bool) (P' : World → Prop) (hk' : Keep sel' P') (hp' : P' w') : St B w0 F (R.set j ⟨sel', P'⟩) w' := by
  refine ⟨h.bs, below_grl h.bel g h.sz (fun k hk => (show k = b by simpa using hk) ▸ hB), fun x hx => ?_, h.ge, h.nd, fun p hp => ?_, fun p hp => ?_⟩
  · refine (h.blk x hx).grl g (fun hm => ?_)
    have hxb : x.b = b := by simpa using hm
    have h1 := h.blk x hx
    unfold ABlk at h1 hT
    rw [hxb, hT] at h1
    injection h1 with h1
    injection h1 with _ h2
    have h3 := List.all_eq_true.1 hF x hx
    rw [← h2, Nat.beq_refl] at h3
    cases h3
  · rcases mem_set_erase hp with rfl | hp
    · exact hk'
    · exact h.keep p ((List.eraseIdx_sublist _ _).subset hp)
  · rcases mem_set_erase hp with rfl | hp
    · exact hp'
    · refine h.keep p ((List.eraseIdx_sublist _ _).subset hp) w w' (h.row p ((List.eraseIdx_sublist _ _).subset hp)) g.size (fun k o ho hs => (g.block k (Array.getElem?_eq_some_iff.1 ho).1 (fun e => ?_)).trans ho)
      have hkb : k = b := by simpa using e
      subst hkb
      unfold ABlk at hT
      rw [hT] at ho
      cases ho
      have h3 := List.all_eq_true.1 (hR cur) p hp
      rw [hs] at h3
      cases h3
theorem St.dropB {B : Nat} {w0 : World} {F : List BF} {R : List RF} {w : World} (i : Nat) (h : St B w0 F R w) : St B w0 (F.eraseIdx i) R w := h.sub (List.eraseIdx_sublist _ _) (List.Sublist.refl _)
/-- A block of a type, wherever it lies. -/
theorem keep_blk (T : TypeId) (P : Nat → Prop) (cs : Array Value) : Keep (selT T) (fun w => ∃ g, P g ∧ ABlk T w g cs) := fun w w' ⟨g, h1, h2⟩ _ hk => ⟨g, h1, hk g _ h2 (by simp [selT])⟩
theorem keep_blkI (T : TypeId) (c : Prop) (A : Nat → Prop) (B : Nat) (cs : Array Value) : Keep (selT T) (fun w => c → ∃ g, A g ∧ B ≤ g ∧ ABlk T w g cs) := fun w w' h _ hk hc => by
  obtain ⟨g, h1, h2, h3⟩ := h hc
  exact ⟨g, h1, h2, hk g _ h3 (by simp [selT])⟩
theorem put7S_grl (w : World) (b : Nat) (v0 v1 v2 v3 v4 v5 v6 : Value) : GrL w (((((((w.setCell ⟨b, 0, none⟩ v0).setCell ⟨b, 1, none⟩ v1).setCell ⟨b, 2, none⟩ v2).setCell ⟨b, 3, none⟩ v3).setCell ⟨b, 4, none⟩ v4).setCell ⟨b, 5, none⟩ v5).setCell ⟨b, 6, none⟩ v6) [some b] := putA_grl (vs := [v0, v1, v2, v3, v4, v5, v6]) (o := 0)
theorem ABlk.put7S {T : TypeId} {w : World} {b : Nat} {u0 u1 u2 u3 u4 u5 u6 : Value} (h : ABlk T w b #[u0, u1, u2, u3, u4, u5, u6]) (v0 v1 v2 v3 v4 v5 v6 : Value) : ABlk T (((((((w.setCell ⟨b, 0, none⟩ v0).setCell ⟨b, 1, none⟩ v1).setCell ⟨b, 2, none⟩ v2).setCell ⟨b, 3, none⟩ v3).setCell ⟨b, 4, none⟩ v4).setCell ⟨b, 5, none⟩ v5).setCell ⟨b, 6, none⟩ v6) b #[v0, v1, v2, v3, v4, v5, v6] := h.put (cs := [u0, u1, u2, u3, u4, u5, u6]) [v0, v1, v2, v3, v4, v5, v6] rfl
/-- A block beside those, of another type. -/
theorem St.addT {B : Nat} {w0 : World} {F : List BF} {R : List RF} {w : World} (h : St B w0 F R w) (g : Nat) (T : TypeId) (cs : Array Value) (hb : ABlk T w g cs) (hg : B ≤ g) (hF : F.all (fun x => !Nat.beq x.T T) = true) : St B w0 (F ++ [⟨g, T, cs⟩]) R w :=
  h.addB ⟨g, T, cs⟩ hb hg (fun y hy e => by
    have h1 := h.blk y hy
    have h2 : ABlk T w y.b cs := by rw [e]; exact hb
    unfold ABlk at h1 h2
    rw [h2] at h1
    injection h1 with h1
    injection h1 with _ h4
    have h3 := List.all_eq_true.1 hF y hy
    rw [← h4, Nat.beq_refl] at h3
    cases h3)
theorem St.dropR {B : Nat} {w0 : World} {F : List BF} {R : List RF} {w : World} (j : Nat) (h : St B w0 F R w) : St B w0 F (R.eraseIdx j) w := h.sub (List.Sublist.refl _) (List.eraseIdx_sublist _ _)
/-- Blocks of seals, and of words. -/
def selSM (o : Obj) : Bool := selT 64 o || selT 33 o
theorem keep_SM (c : Prop) (A : Nat → Prop) (v : Nat → Value) (l : List Sl) (B mb : Nat) (Q : Nat → Array Value → Prop) : Keep selSM (fun w => ∃ g cs, (c → A g ∧ OwnS w B (v g) l) ∧ ABlk 33 w mb cs ∧ Q g cs) := fun w w' h hs hk => by
  obtain ⟨g, cs, h1, h2, h3⟩ := h
  refine ⟨g, cs, fun hc => ⟨(h1 hc).1, ?_⟩, hk mb _ h2 (by simp [selSM, selT]), h3⟩
  exact keep_owns B (v g) l w w' (h1 hc).2 hs (fun g o ho hso => hk g o ho (by simp [selSM, hso]))
/-- A seal is stored into a block. -/
theorem wp_store7 {o : Oper} {a : Act} {w : World} {K : Act → World → Prop} {Q : Exit → Act → World → Prop} (x y : Operand) {b : Nat} {T : TypeId} {u0 u1 u2 u3 u4 u5 u6 : Value} {n0 n1 n2 n3 n4 n5 n6 : Int} (ho : o.op = .store 64 x y) (hd : o.dst = none) (hx : a.eval x = .pointer (some ⟨b, 0, none⟩)) (hy : a.eval y = .agg #[.int .i64 n0, .int .i64 n1, .int .i64 n2, .int .i64 n3, .int .i64 n4, .int .i64 n5, .int .i64 n6]) (hb : ABlk T w b #[u0, u1, u2, u3, u4, u5, u6])
    (hK : K a (((((((w.setCell ⟨b, 0, none⟩ (.int .i64 n0)).setCell ⟨b, 1, none⟩ (.int .i64 n1)).setCell ⟨b, 2, none⟩ (.int .i64 n2)).setCell ⟨b, 3, none⟩ (.int .i64 n3)).setCell ⟨b, 4, none⟩ (.int .i64 n4)).setCell ⟨b, 5, none⟩ (.int .i64 n5)).setCell ⟨b, 6, none⟩ (.int .i64 n6))) : o.wp Tryd.prog a w K Q := by
  have p0 := hb.at 0 u0 rfl
  have p1 := hb.at 1 u1 rfl
  have p2 := hb.at 2 u2 rfl
  have p3 := hb.at 3 u3 rfl
  have p4 := hb.at 4 u4 rfl
  have p5 := hb.at 5 u5 rfl
  have p6 := hb.at 6 u6 rfl
  have f0 := hb.fro 0
  have f1 := hb.fro 1
  have f2 := hb.fro 2
  have f3 := hb.fro 3
  have f4 := hb.fro 4
  have f5 := hb.fro 5
  have f6 := hb.fro 6
  clear hb
  unfold Oper.wp execOp
  simp only [ho, hx, hy]
  go_simp
  exact hK
/-- A new row of two seals. -/
theorem wp_two {o : Oper} {a : Act} {w : World} {K : Act → World → Prop} {Q : Exit → Act → World → Prop} (x y : Operand) {a0 a1 a2 a3 a4 a5 a6 b0 b1 b2 b3 b4 b5 b6 : Int} {d : Tmp} (ho : o.op = .buildSlice 29 2 #[(0, x), (1, y)]) (hd : o.dst = some d) (hx : a.eval x = .agg #[.int .i64 a0, .int .i64 a1, .int .i64 a2, .int .i64 a3, .int .i64 a4, .int .i64 a5, .int .i64 a6]) (hy : a.eval y = .agg #[.int .i64 b0, .int .i64 b1, .int .i64 b2, .int .i64 b3, .int .i64 b4, .int .i64 b5, .int .i64 b6])
    (hK : K (a.put (some d) (.slice (some ⟨w.heap.size, 0, none⟩) 2 2)) (w.alloc (.cells #[.int .i64 a0, .int .i64 a1, .int .i64 a2, .int .i64 a3, .int .i64 a4, .int .i64 a5, .int .i64 a6, .int .i64 b0, .int .i64 b1, .int .i64 b2, .int .i64 b3, .int .i64 b4, .int .i64 b5, .int .i64 b6] 64))) : o.wp Tryd.prog a w K Q := by
  unfold Oper.wp execOp
  simp only [ho, hx, hy, List.map_toArray, List.map_cons, List.map_nil]
  go_simp
  exact hK
theorem keep_if {sel : Obj → Bool} {P : World → Prop} {c : Prop} (h : Keep sel P) : Keep sel (fun w => c → P w) := fun w w' hp hs hk hc => h w w' (hp hc) hs hk
theorem appendN_rowB {P : Program} (w : World) (base : Nat) (t ty e : TypeId) (i : TypeInfo) (z : Value) (size bytes : Nat) (ht : P.underlying t = some (.slice e)) (hi : P.info? e = some i) (hz : i.zero = some z)
    (hsize : i.size = size) (hby : i.bytes = bytes) (hzs : z.cells.size = size) (hsz : 0 < size) (v : Value) (n : Nat) (xs : List Value) (hown : w.ownsRow base e size v n xs)
    (ad : Addr) (m c : Nat) (news : List Value) (hl : news.length = m * size) (hnews : ∀ j u, news[j]? = some u → w.cell? (ad.add j) = some u) (h1 : ∀ u ∈ news, u.oneCell' = true)
    (h63 : n + m ≤ maxLen) (hbytes : (n + m) * bytes ≤ 140737488355328) (hbase : base ≤ w.heap.size) :
    ∃ v' w', (Builtin.append_ #[t, t] ty #[v, .slice (some ad) m c]).run P w = .ok v' w' ∧ w'.ownsRow base e size v' (n + m) (xs ++ news) ∧ w.grownBy w' v.ownBlock ∧ (v'.ownBlock = v.ownBlock ∨ v'.ownBlock = some w.heap.size) := by
  obtain ⟨v', w', hr, h2, h3, _, h5⟩ := run_append_own_at (P := P) w base t ty e i z size bytes ht hi hz hsize hby hzs hsz v n xs hown ad m c news hl hnews h1 h63 hbytes hbase
  exact ⟨v', w', hr, h2, h3, h5⟩
/-- One element behind a row of the call's own, and where the row lies then. -/
theorem wpList_app_one {X : Type} (C : Cel X) (P : Program) (T sT bytes : Nat) (z : Value) {w : World} {ops : Array Oper} {rest : List Oper} {o : Oper} {a : Act} {Q : Exit → Act → World → Prop} (hu : P.underlying sT = some (.slice T)) (hinf : (P.info? T).map (fun i => (i.zero, i.size, i.bytes)) = some (some z, C.n, bytes)) (hz : z.cells.size = C.n) (hby : 2000000 * bytes ≤ 140737488355328) (hgd : o.guard = none) (s x : Operand)
    (ho : o.op = .call { callee := .builtin .append, args := #[s, x], argTypes := #[sT, sT] }) (base : Nat) (v : Value) (zs : List X) (hs : a.eval s = v) (h : OwnN C T w base v zs) (b : Option Addr) (y : X) (c : Nat) (hx : a.eval x = .slice b 1 c) (hr : NRow C w b [y])
    (hq : zs.length + 1 ≤ 2000000) (hB : base ≤ w.heap.size)
    (hK : ∀ b' c' w', OwnN C T w' base (.slice b' (zs ++ [y]).length c') (zs ++ [y]) → w.grownBy w' v.ownBlock → ((Value.slice b' (zs ++ [y]).length c').ownBlock = v.ownBlock ∨ (Value.slice b' (zs ++ [y]).length c').ownBlock = some w.heap.size) → wpList P ops Q rest (a.put o.dst (.slice b' (zs ++ [y]).length c')) w') : wpList P ops Q (o :: rest) a w := by
  refine wpList_plain hgd fun K hK' => ?_
  obtain ⟨i0, hi, hz0, hz1, hz2⟩ := info_parts hinf
  obtain ⟨g, off, rfl, hsrc⟩ : ∃ g off, b = some ⟨g, off, none⟩ ∧ ∀ (i : Nat) s, [y][i]? = some s → NumsAt w g (off + i * C.n) (C.cs s) := by
    rcases hr with hr | ⟨g, off, e, _, hr⟩
    · cases hr
    · exact ⟨g, off, e, hr⟩
  obtain ⟨v', w', hrun, h1, h2, h3⟩ := appendN_rowB w base sT o.type T i0 z C.n bytes hu hi hz0 hz1 hz2 hz C.pos v zs.length (cellsN C zs) h ⟨g, off, none⟩ 1 c (cellsN C [y]) (cellsN_length C [y]) (NRow.src hsrc)
    (cellsN_one C [y]) (by unfold maxLen; omega) (by have := Nat.mul_le_mul hq (Nat.le_refl bytes); omega) hB
  have ho1 : OwnN C T w' base v' (zs ++ [y]) := by unfold OwnN; rw [cellsN_app, List.length_append]; exact h1
  obtain ⟨b', c', rfl, _⟩ := ho1.rows
  unfold Oper.wp execOp
  simp only [ho, resolve, invoke, builtin, Sem.run_bind, Sem.run_pure, Result.andThen_ok, List.map_toArray, List.map_cons, List.map_nil, hs, hx, hrun]
  exact hK' _ _ (hK b' c' w' ho1 h2 h3)
end Go.Proofs.YtghajmfjekfdpaaDoor
