/-
  Orders of evaluation that Go leaves open, walked operation by operation and not order by order: what is known is said of which operations were carried out.
-/
import Derived.Test.YtopikapamfmalaaGreatDoorBaseJ
namespace Go.Proofs.YtopikapamfmalaaGreatDoor
open Go.RowKit

/-- One more was carried out. -/
def upd (d : Nat → Bool) (i : Nat) : Nat → Bool := fun k => bif Nat.beq k i then true else d k
/-- One more slot was written. -/
def updS (s : Nat → Value) (i : Nat) (v : Value) : Nat → Value := fun k => bif Nat.beq k i then v else s k
/-- All of these were carried out. -/
def AllT (d : Nat → Bool) : List Nat → Prop
  | [] => True
  | k :: ks => d k = true ∧ AllT d ks
/-- On which an operation waits. -/
def depsOf (o : Oper) : List Nat := (o.after.toList.filter (fun e => Region.binds .any e)).map (·.on)
/-- The slots of a region, written. -/
def putT (t : Array Value) : List Nat → (Nat → Value) → Array Value
  | [], _ => t
  | i :: is, s => putT (t.setIfInBounds i (s i)) is s
/-- The state behind that. -/
def putL (a : Act) (is : List Nat) (s : Nat → Value) : Act := { a with tmps := putT a.tmps is s }
/-- Each waits on elder ones alone. -/
def elders (ops : Array Oper) : Bool := (List.range ops.size).all fun i => match ops[i]? with
  | none => true
  | some o => (depsOf o).all fun k => decide (k < i)

theorem nbeq_ne {k i : Nat} (h : k ≠ i) : Nat.beq k i = false := by
  cases e : Nat.beq k i
  · rfl
  · exact absurd (Nat.eq_of_beq_eq_true e) h
/-- One waits on another. -/
def hasDep (ops : Array Oper) (j i : Nat) : Bool := match ops[j]? with
  | none => false
  | some o => (depsOf o).contains i
/-- Behind each that was carried out those were on which it waits. -/
def ClD (ops : Array Oper) (d : Nat → Bool) : Prop := ∀ j i, hasDep ops j i = true → d j = true → d i = true
theorem ClD.off {ops : Array Oper} {d : Nat → Bool} (h : ClD ops d) (j i : Nat) (hd : hasDep ops j i = true) (hi : d i = false) : d j = false := by
  cases e : d j
  · rfl
  · rw [h j i hd e] at hi; cases hi

theorem allT_of {d : Nat → Bool} : ∀ {ks : List Nat}, (∀ k ∈ ks, d k = true) → AllT d ks
  | [], _ => trivial
  | k :: ks, h => ⟨h k (by simp), allT_of (fun j hj => h j (by simp [hj]))⟩

theorem allT_mem {d : Nat → Bool} : ∀ {ks : List Nat}, AllT d ks → ∀ {k : Nat}, k ∈ ks → d k = true
  | [], _, _, h => by cases h
  | x :: ks, hA, k, h => by
    rcases List.mem_cons.1 h with rfl | h
    · exact hA.1
    · exact allT_mem hA.2 h

theorem putT_self {t : Array Value} {s : Nat → Value} : ∀ (is : List Nat), (∀ i ∈ is, t[i]? = none ∨ t[i]? = some (s i)) → putT t is s = t
  | [], _ => rfl
  | i :: is, h => by
    have e : t.setIfInBounds i (s i) = t := by
      apply Array.ext_getElem?
      intro j
      rw [Array.getElem?_setIfInBounds]
      split
      · rename_i hij
        subst hij
        split
        · rename_i hlt
          rcases h i (by simp) with h | h
          · rw [Array.getElem?_eq_none_iff] at h; omega
          · exact h.symm
        · rename_i hlt
          exact (Array.getElem?_eq_none (by omega)).symm
      · rfl
    show putT (t.setIfInBounds i (s i)) is s = t
    rw [e]
    exact putT_self is (fun j hj => h j (by simp [hj]))
theorem putL_self {a : Act} {s : Nat → Value} (is : List Nat) (h : ∀ i ∈ is, a.tmps[i]? = none ∨ a.tmps[i]? = some (s i)) : putL a is s = a := by
  unfold putL
  rw [putT_self is h]

/-- How many are left. -/
def leftN (n : Nat) (listed : Array Bool) : Nat := (List.range n).countP fun i => !listed.getD i true

theorem countP_lt {p q : Nat → Bool} {i : Nat} : ∀ {l : List Nat}, i ∈ l → (∀ k, q k = true → p k = true) → p i = true → q i = false → l.countP q < l.countP p
  | [], h, _, _, _ => by cases h
  | x :: l, h, hpq, hp, hq => by
    have hle : l.countP q ≤ l.countP p := List.countP_mono_left (fun x _ hx => hpq x hx)
    rw [List.countP_cons, List.countP_cons]
    rcases List.mem_cons.1 h with rfl | h'
    · rw [if_pos hp, if_neg (by rw [hq]; decide)]; omega
    · have h1 := countP_lt h' hpq hp hq
      by_cases hx : q x = true
      · rw [if_pos hx, if_pos (hpq x hx)]; omega
      · rw [if_neg hx]; omega

section
variable {P : Program} {ops : Array Oper} {Q : Exit → Act → World → Prop}

theorem ready_nil_all {listed : Array Bool} (he : elders ops = true) (hz : listed.size = ops.size) (h : Region.ready .any ops listed = []) : ∀ i, i < ops.size → listed.getD i true = true := by
  intro i
  induction i using Nat.strongRecOn with
  | ind i ih =>
    intro hi
    cases hl : listed.getD i true
    · exfalso
      have hm : i ∈ Region.ready .any ops listed := by
        rw [mem_ready]
        refine ⟨hl, ops[i], by simp [hi], fun e hin hb => ?_⟩
        have h1 := List.all_eq_true.1 he i (List.mem_range.2 hi)
        simp only [Array.getElem?_eq_getElem hi] at h1
        have h2 := List.all_eq_true.1 h1 e.on (by unfold depsOf; exact List.mem_map.2 ⟨e, List.mem_filter.2 ⟨by simpa using hin, hb⟩, rfl⟩)
        have h3 : e.on < i := of_decide_eq_true h2
        have h4 := ih _ h3 (by omega)
        have hlt : e.on < listed.size := by omega
        simp [hlt] at h4 ⊢
        exact h4
      rw [h] at hm
      cases hm
    · rfl

/-- What is known of a state of the region: which were carried out, what the slots hold, the world. -/
def StI (ds : List Nat) (a0 : Act) (F : (Nat → Bool) → (Nat → Value) → World → Prop) (d : Nat → Bool) (a : Act) (w : World) : Prop := ∃ s, a = putL a0 ds s ∧ F d s w

/-- Each of these, wherever it comes up, keeps what is known. -/
def StepsI (P : Program) (ops : Array Oper) (Q : Exit → Act → World → Prop) (ds : List Nat) (a0 : Act) (F : (Nat → Bool) → (Nat → Value) → World → Prop) (rs : List Nat) : Prop :=
  ∀ i ∈ rs, ∀ o, ops[i]? = some o → ∀ d s w, d i = false → AllT d (depsOf o) → ClD ops d → F d s w → wpOp P ops Q i (fun a' w' => StI ds a0 F (upd d i) a' w') (putL a0 ds s) w

theorem StepsI.nil {ds : List Nat} {a0 : Act} {F : (Nat → Bool) → (Nat → Value) → World → Prop} : StepsI P ops Q ds a0 F [] := fun _ h => by cases h

theorem StepsI.cons {ds : List Nat} {a0 : Act} {F : (Nat → Bool) → (Nat → Value) → World → Prop} {i : Nat} {o : Oper} {rs : List Nat} (dp : List Nat) (ho : ops[i]? = some o) (hdp : dp.all (fun k => (depsOf o).contains k) = true)
    (h : ∀ (d : Nat → Bool) (s : Nat → Value) (w : World), d i = false → AllT d dp → ClD ops d → F d s w → ∀ K' : Act → World → Prop, Shut (∀ s' a w, a = putL a0 ds s' → F (upd d i) s' w → K' a w) →
      if Region.wanted o (yielded ops (putL a0 ds s).tmps) = true then Oper.wp P o (putL a0 ds s) w K' Q else K' ((putL a0 ds s).put o.dst undef) w)
    (hs : StepsI P ops Q ds a0 F rs) : StepsI P ops Q ds a0 F (i :: rs) := by
  intro j hj
  rcases List.mem_cons.1 hj with rfl | hj
  · intro o' ho' d s w hd hA hC hF
    rw [ho] at ho'
    cases ho'
    exact wpOp_step ho (fun K' hK => h d s w hd (allT_of (fun k hk => allT_mem hA (by simpa using List.all_eq_true.1 hdp k hk))) hC hF K' (fun s' a w e hF' => hK a w ⟨s', e, hF'⟩))
  · exact hs j hj

/-- The same, one behind the other along the list of the operations. -/
def StepsR (P : Program) (ops : Array Oper) (Q : Exit → Act → World → Prop) (ds : List Nat) (a0 : Act) (F : (Nat → Bool) → (Nat → Value) → World → Prop) : Nat → List Oper → Prop
  | _, [] => True
  | k, o :: l => (∀ d s w, d k = false → AllT d (depsOf o) → ClD ops d → F d s w → ∀ K' : Act → World → Prop, Shut (∀ s' a w, a = putL a0 ds s' → F (upd d k) s' w → K' a w) →
      if Region.wanted o (yielded ops (putL a0 ds s).tmps) = true then Oper.wp P o (putL a0 ds s) w K' Q else K' ((putL a0 ds s).put o.dst undef) w) ∧ StepsR P ops Q ds a0 F (k + 1) l
theorem StepsR.nil {ds : List Nat} {a0 : Act} {F : (Nat → Bool) → (Nat → Value) → World → Prop} {k : Nat} : StepsR P ops Q ds a0 F k [] := trivial
theorem StepsR.cons {ds : List Nat} {a0 : Act} {F : (Nat → Bool) → (Nat → Value) → World → Prop} {k : Nat} {o : Oper} {l : List Oper} (dp : List Nat) (hdp : dp.all (fun k => (depsOf o).contains k) = true)
    (h : ∀ (d : Nat → Bool) (s : Nat → Value) (w : World), d k = false → AllT d dp → ClD ops d → F d s w → ∀ K' : Act → World → Prop, Shut (∀ s' a w, a = putL a0 ds s' → F (upd d k) s' w → K' a w) →
      if Region.wanted o (yielded ops (putL a0 ds s).tmps) = true then Oper.wp P o (putL a0 ds s) w K' Q else K' ((putL a0 ds s).put o.dst undef) w)
    (hs : StepsR P ops Q ds a0 F (k + 1) l) : StepsR P ops Q ds a0 F k (o :: l) :=
  ⟨fun d s w hd hA hC hF => h d s w hd (allT_of (fun k hk => allT_mem hA (by simpa using List.all_eq_true.1 hdp k hk))) hC hF, hs⟩
theorem StepsR.at {ds : List Nat} {a0 : Act} {F : (Nat → Bool) → (Nat → Value) → World → Prop} : ∀ {l : List Oper} {k : Nat}, StepsR P ops Q ds a0 F k l → ∀ (j : Nat) o, l[j]? = some o → ∀ d s w, d (k + j) = false → AllT d (depsOf o) → ClD ops d → F d s w → ∀ K' : Act → World → Prop, Shut (∀ s' a w, a = putL a0 ds s' → F (upd d (k + j)) s' w → K' a w) →
      if Region.wanted o (yielded ops (putL a0 ds s).tmps) = true then Oper.wp P o (putL a0 ds s) w K' Q else K' ((putL a0 ds s).put o.dst undef) w
  | [], _, _, _, _, h => by simp at h
  | o :: l, k, hS, 0, o', h => by
    simp at h
    subst h
    exact hS.1
  | o :: l, k, hS, j + 1, o', h => by
    have h1 := StepsR.at hS.2 j o' (by simpa using h)
    have e : k + 1 + j = k + (j + 1) := by omega
    rw [e] at h1
    exact h1
theorem stepsI_of {ds : List Nat} {a0 : Act} {F : (Nat → Bool) → (Nat → Value) → World → Prop} {rs : List Nat} (h : StepsR P ops Q ds a0 F 0 ops.toList) : StepsI P ops Q ds a0 F rs := by
  intro i _ o ho d s w hd hA hC hF
  have ho' : ops.toList[i]? = some o := by simpa using ho
  have h1 := StepsR.at h i o ho' d s w (by simpa using hd) hA hC hF
  simp only [Nat.zero_add] at h1
  exact wpOp_step ho (fun K' hK => h1 K' (fun s' a w e hF' => hK a w ⟨s', e, hF'⟩))

/-- A region that draws its order, by what is known of its states. -/
theorem wp_region_inv {id : Nat} {a : Act} {w : World} (ds : List Nat) (F : (Nat → Bool) → (Nat → Value) → World → Prop) (rs : List Nat) (hm : P.follows .mixedOrders = true) (he : elders ops = true) (hrs : List.range ops.size = rs)
    (h0 : ∀ s, F (fun _ => false) s w.drew)
    (hs : StepsI P ops Q ds a F rs)
    (hq : ∀ (d : Nat → Bool) (s : Nat → Value) (w' : World), AllT d rs → F d s w' → Q .normal (putL a ds s) w') : (Code.region id ops true).wp P Q a w := by
  have key : ∀ (fuel : Nat) (listed : Array Bool) (a' : Act) (w' : World) (d : Nat → Bool), listed.size = ops.size → (∀ i, i < ops.size → d i = listed.getD i true) → ClD ops d → leftN ops.size listed ≤ fuel → StI ds a F d a' w' → wpAny P .any ops Q fuel listed a' w' := by
    intro fuel
    induction fuel with
    | zero =>
      intro listed a' w' d hz hd hC hl ⟨s, ea, hF⟩
      have hall : ∀ i, i < ops.size → listed.getD i true = true := by
        intro i hi
        cases hx : listed.getD i true
        · exfalso
          have : 0 < leftN ops.size listed := List.countP_pos_iff.2 ⟨i, List.mem_range.2 hi, by rw [hx]; rfl⟩
          omega
        · rfl
      refine ⟨?_, ?_⟩
      · refine List.eq_nil_iff_forall_not_mem.2 (fun i hi => ?_)
        obtain ⟨h1, o, ho, _⟩ := mem_ready.1 hi
        rw [hall i (Array.getElem?_eq_some_iff.1 ho).1] at h1
        cases h1
      · rw [ea]
        exact hq d s w' (allT_of (fun k hk => by rw [← hrs] at hk; have := List.mem_range.1 hk; rw [hd k this, hall k this])) hF
    | succ fuel ih =>
      intro listed a' w' d hz hd hC hl ⟨s, ea, hF⟩
      refine ⟨fun hr => ?_, fun i hi => ?_⟩
      · have hall := ready_nil_all he hz hr
        rw [ea]
        exact hq d s w' (allT_of (fun k hk => by rw [← hrs] at hk; have := List.mem_range.1 hk; rw [hd k this, hall k this])) hF
      · obtain ⟨h1, o, ho, hdep⟩ := mem_ready.1 hi
        have hlt := (Array.getElem?_eq_some_iff.1 ho).1
        rw [ea]
        refine wpOp_mono (fun a2 w2 h2 => ?_) (hs i (hrs ▸ List.mem_range.2 hlt) o ho d s w' (by rw [hd i hlt, h1]) (allT_of (fun k hk => ?_)) hC hF)
        · refine ih _ a2 w2 (upd d i) (by simp [hz]) (fun k hk => ?_) ?_ ?_ h2
          · unfold upd
            by_cases hki : k = i
            · subst hki; simp [hz, hlt]
            · rw [nbeq_ne hki, getD_set_ne true (Ne.symm hki)]; exact hd k hk
          · intro j k hjk hj
            have hk : d k = true := by
              by_cases hji : j = i
              · subst hji
                unfold hasDep at hjk
                rw [ho] at hjk
                have hk' : k ∈ depsOf o := by simpa using hjk
                unfold depsOf at hk'
                obtain ⟨e, he1, rfl⟩ := List.mem_map.1 hk'
                obtain ⟨he2, he3⟩ := List.mem_filter.1 he1
                have h3 := hdep e (by simpa using he2) he3
                have h4 : e.on < ops.size := by
                  rcases Nat.lt_or_ge e.on listed.size with h' | h'
                  · omega
                  · simp [Array.getElem?_eq_none h'] at h3
                rw [hd _ h4]
                have hlt' : e.on < listed.size := by omega
                simp [hlt'] at h3 ⊢
                exact h3
              · unfold upd at hj
                rw [nbeq_ne hji] at hj
                exact hC j k hjk hj
            unfold upd
            rw [hk]
            cases Nat.beq k i <;> rfl
          · have : leftN ops.size (listed.setIfInBounds i true) < leftN ops.size listed := by
              refine countP_lt (i := i) (List.mem_range.2 hlt) (fun k hk => ?_) (by rw [h1]; rfl) (by simp [hz, hlt])
              by_cases hki : k = i
              · subst hki; simp [hz, hlt] at hk
              · rw [getD_set_ne true (Ne.symm hki)] at hk; exact hk
            omega
        · unfold depsOf at hk
          obtain ⟨e, he1, rfl⟩ := List.mem_map.1 hk
          obtain ⟨he2, he3⟩ := List.mem_filter.1 he1
          have h3 := hdep e (by simpa using he2) he3
          have h4 : e.on < ops.size := by
            rcases Nat.lt_or_ge e.on listed.size with h' | h'
            · omega
            · simp [Array.getElem?_eq_none h'] at h3
          rw [hd _ h4]
          have hlt' : e.on < listed.size := by omega
          simp [hlt'] at h3 ⊢
          exact h3
  refine wp_region_any hm ?_
  refine key _ _ _ _ (fun _ => false) (by simp) (fun i hi => by simp [hi]) (fun _ _ _ h => by cases h) ?_ ⟨fun i => a.tmps.getD i undef, ?_, h0 _⟩
  · unfold leftN
    have h5 := List.countP_le_length (p := fun i => !(Array.replicate ops.size false).getD i true) (l := List.range ops.size)
    rw [List.length_range] at h5
    exact h5
  · refine (putL_self ds (fun i _ => ?_)).symm
    rcases Nat.lt_or_ge i a.tmps.size with h | h
    · right; simp [h]
    · left; exact Array.getElem?_eq_none h

/-- The same, its operations walked along their list. -/
theorem wp_region_walk {id : Nat} {a : Act} {w : World} {l : List Oper} (ds : List Nat) (F : (Nat → Bool) → (Nat → Value) → World → Prop) (rs : List Nat) (hm : P.follows .mixedOrders = true) (he : elders l.toArray = true) (hrs : List.range l.toArray.size = rs)
    (h0 : ∀ s, F (fun _ => false) s w.drew)
    (hs : StepsR P l.toArray Q ds a F 0 l)
    (hq : ∀ (d : Nat → Bool) (s : Nat → Value) (w' : World), AllT d rs → F d s w' → Q .normal (putL a ds s) w') : (Code.region id l.toArray true).wp P Q a w :=
  wp_region_inv ds F rs hm he hrs h0 (stepsI_of hs) hq

end
end Go.Proofs.YtopikapamfmalaaGreatDoor
