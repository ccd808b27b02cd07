/-
  What one can come to, as plain mathematics: the keys that one had, and, again and again, what is in seals whose key one has come to. A row of 61 truth values that is right about it is the only one. Nothing of the program's functions is in this text.
-/
import Derived.Test.YthgglnjjbpjonaaKRow
namespace Go.Proofs.Ythgglnjjbpjonaa

/-- The key in a seal; 0, if there is none, or the seal is not ok. -/
def Sl.inn (s : Sl) : Int := if s.ok then holdsI s.t s.b s.c else 0

theorem inB_iff {n lo hi : Int} : inB n lo hi = true ↔ lo ≤ n ∧ n ≤ hi := by simp [inB]

theorem Sl.key_of_ok {s : Sl} (h : s.ok = true) : 1 ≤ s.k ∧ s.k ≤ 60 := by
  unfold Sl.ok okB at h
  split at h
  · simp only [ok1, Bool.and_eq_true, inB_iff, beq_iff_eq] at h; omega
  · split at h
    · simp only [ok2, Bool.and_eq_true, Bool.or_eq_true, inB_iff, beq_iff_eq] at h; omega
    · split at h
      · simp only [ok3, Bool.and_eq_true, inB_iff, beq_iff_eq] at h; omega
      · split at h
        · simp only [ok4, Bool.and_eq_true, inB_iff, beq_iff_eq] at h; omega
        · cases h
theorem Sl.ok_of_inn {s : Sl} (h : s.inn ≠ 0) : s.ok = true := by
  unfold Sl.inn at h
  split at h
  · assumption
  · exact absurd rfl h
theorem Sl.key_of_inn {s : Sl} (h : s.inn ≠ 0) : 1 ≤ s.k ∧ s.k ≤ 60 := key_of_ok (ok_of_inn h)
theorem Sl.inn_cases (s : Sl) : s.inn = 0 ∨ (10 ≤ s.inn ∧ s.inn ≤ 60) := by
  by_cases h : s.inn = 0
  · exact Or.inl h
  · right
    have hk := ok_of_inn h
    unfold Sl.inn at h ⊢
    rw [if_pos hk] at h ⊢
    unfold holdsI at h ⊢
    unfold Sl.ok okB at hk
    split at hk
    · rename_i h1
      rw [if_pos h1]
      simp only [ok1, Bool.and_eq_true, inB_iff, beq_iff_eq] at hk; omega
    · rename_i h1
      rw [if_neg h1] at h ⊢
      split at hk
      · rename_i h2
        rw [if_pos h2]
        simp only [ok2, Bool.and_eq_true, Bool.or_eq_true, inB_iff, beq_iff_eq] at hk; omega
      · rename_i h2
        rw [if_neg h2] at h
        exact absurd rfl h
theorem Sl.inn_nonneg (s : Sl) : 0 ≤ s.inn ∧ s.inn ≤ 60 := by rcases s.inn_cases with h | h <;> omega

/-- What one can come to: all that is in whatever has what one had, and what is in seals whose key it has. -/
def Come (ks : List Int) (xs : List Sl) (n : Int) : Prop := ∀ P : Int → Prop, (∀ m, m ∈ ks → 1 ≤ m → m ≤ 60 → P m) → (∀ s : Sl, s ∈ xs → P s.k → s.inn ≠ 0 → P s.inn) → P n
theorem Come.had {ks : List Int} {xs : List Sl} {n : Int} (h : n ∈ ks) (h1 : 1 ≤ n) (h2 : n ≤ 60) : Come ks xs n := fun _ a _ => a n h h1 h2
theorem Come.read {ks : List Int} {xs : List Sl} {s : Sl} (hs : s ∈ xs) (hc : Come ks xs s.k) (hi : s.inn ≠ 0) : Come ks xs s.inn := fun P a b => b s hs (hc P a b) hi
theorem Come.ind {ks : List Int} {xs : List Sl} {n : Int} {P : Int → Prop} (h : Come ks xs n) (a : ∀ m, m ∈ ks → 1 ≤ m → m ≤ 60 → P m) (b : ∀ s : Sl, s ∈ xs → Come ks xs s.k → P s.k → s.inn ≠ 0 → P s.inn) : P n :=
  (h (fun m => Come ks xs m ∧ P m) (fun m h h1 h2 => ⟨.had h h1 h2, a m h h1 h2⟩) (fun s hs hc hi => ⟨.read hs hc.1 hi, b s hs hc.1 hc.2 hi⟩)).2
theorem Come.inv {ks : List Int} {xs : List Sl} {n : Int} (h : Come ks xs n) : (n ∈ ks ∧ 1 ≤ n ∧ n ≤ 60) ∨ ∃ s : Sl, s ∈ xs ∧ Come ks xs s.k ∧ s.inn ≠ 0 ∧ s.inn = n :=
  h.ind (P := fun n => (n ∈ ks ∧ 1 ≤ n ∧ n ≤ 60) ∨ ∃ s : Sl, s ∈ xs ∧ Come ks xs s.k ∧ s.inn ≠ 0 ∧ s.inn = n) (fun _ h h1 h2 => Or.inl ⟨h, h1, h2⟩) (fun s hs hc _ hi => Or.inr ⟨s, hs, hc, hi, rfl⟩)

theorem Come.range {ks : List Int} {xs : List Sl} {n : Int} (h : Come ks xs n) : 1 ≤ n ∧ n ≤ 60 := by
  rcases h.inv with ⟨_, h1, h2⟩ | ⟨s, _, _, hi, rfl⟩
  · exact ⟨h1, h2⟩
  · rcases s.inn_cases with h | h <;> omega

/-- With more keys and seals one comes to no less. -/
theorem Come.mono {ks ks' : List Int} {xs xs' : List Sl} (hk : ∀ n ∈ ks, n ∈ ks') (hx : ∀ s ∈ xs, s ∈ xs') {n : Int} (h : Come ks xs n) : Come ks' xs' n :=
  h.ind (fun _ h h1 h2 => .had (hk _ h) h1 h2) (fun _ hs _ ih hi => .read (hx _ hs) ih hi)

/-- What one had anyway, or could come to, one may as well have; so with what is in seals that tell nothing new. -/
theorem Come.back {ks ks' : List Int} {xs xs' : List Sl} (hk : ∀ n ∈ ks', n ∈ ks ∨ Come ks xs n) (hx : ∀ s ∈ xs', s ∈ xs ∨ (s.inn ≠ 0 → Come ks xs s.k → Come ks xs s.inn)) {n : Int} (h : Come ks' xs' n) : Come ks xs n := by
  refine h.ind (fun _ h h1 h2 => ?_) (fun s hs _ ih hi => ?_)
  · rcases hk _ h with h | h
    · exact .had h h1 h2
    · exact h
  · rcases hx _ hs with h | h
    · exact .read h ih hi
    · exact h hi ih

/-- A row of 61 truth values that is right about what one can come to. -/
structure Right (ks : List Int) (xs : List Sl) (H : List Bool) : Prop where
  len : H.length = 61
  iff : ∀ n : Nat, n < 61 → (H.getD n false = true ↔ Come ks xs n)

theorem Right.one {ks ks' : List Int} {xs xs' : List Sl} {H H' : List Bool} (h : Right ks xs H) (h' : Right ks' xs' H') (e : ∀ n, Come ks xs n ↔ Come ks' xs' n) : H = H' := by
  apply List.ext_getElem (by rw [h.len, h'.len])
  intro n h1 h2
  have hn : n < 61 := by rw [h.len] at h1; exact h1
  have a := h.iff n hn
  have b := h'.iff n hn
  rw [List.getD_eq_getElem?_getD, List.getElem?_eq_getElem h1, Option.getD_some] at a
  rw [List.getD_eq_getElem?_getD, List.getElem?_eq_getElem h2, Option.getD_some] at b
  have := a.trans ((e n).trans b.symm)
  cases hx : H[n] <;> cases hy : H'[n] <;> simp_all

/-- A row that has what one had, is closed, and has nothing that one cannot come to, is right. -/
theorem Right.of {ks : List Int} {xs : List Sl} {H : List Bool} (hl : H.length = 61) (sound : ∀ n : Nat, n < 61 → H.getD n false = true → Come ks xs n)
    (had : ∀ n ∈ ks, 1 ≤ n → n ≤ 60 → H.getD n.toNat false = true) (closed : ∀ s ∈ xs, s.inn ≠ 0 → H.getD s.k.toNat false = true → H.getD s.inn.toNat false = true) : Right ks xs H := by
  refine ⟨hl, fun n hn => ⟨sound n hn, fun h => ?_⟩⟩
  have key : ∀ m : Int, Come ks xs m → H.getD m.toNat false = true := by
    intro m hm
    exact hm.ind (fun _ h h1 h2 => had _ h h1 h2) (fun _ hs _ ih hi => closed _ hs hi ih)
  simpa using key n h

/-- The keys of a row, ascending. -/
def keysOf (H : List Bool) (m : Nat) : List Int := List.map (fun n : Nat => (n : Int)) (List.filter (fun n : Nat => H.getD n false) (List.range m))
theorem keysOf_zero (H : List Bool) : keysOf H 0 = [] := rfl
theorem keysOf_succ (H : List Bool) (m : Nat) : keysOf H (m + 1) = keysOf H m ++ (if H.getD m false then [(m : Int)] else []) := by
  unfold keysOf
  rw [List.range_succ, List.filter_append, List.map_append]
  congr 1
  cases h : H.getD m false
  · rw [List.filter_cons_of_neg (by rw [h]; decide)]; rfl
  · rw [List.filter_cons_of_pos (by exact h)]; rfl
theorem keysOf_len (H : List Bool) (m : Nat) : (keysOf H m).length ≤ m := by
  unfold keysOf
  rw [List.length_map]
  exact Nat.le_trans (List.length_filter_le _ _) (by simp)
theorem mem_keysOf {H : List Bool} {m : Nat} {n : Int} : n ∈ keysOf H m ↔ 0 ≤ n ∧ n.toNat < m ∧ H.getD n.toNat false = true := by
  unfold keysOf
  simp only [List.mem_map, List.mem_filter, List.mem_range]
  constructor
  · rintro ⟨k, ⟨h1, h2⟩, rfl⟩
    exact ⟨by omega, by simpa using h1, by simpa using h2⟩
  · rintro ⟨h0, h1, h2⟩
    exact ⟨n.toNat, ⟨h1, h2⟩, by omega⟩
theorem Right.mem {ks : List Int} {xs : List Sl} {H : List Bool} (h : Right ks xs H) {n : Int} : n ∈ keysOf H 61 ↔ Come ks xs n := by
  rw [mem_keysOf]
  constructor
  · rintro ⟨h0, h1, h2⟩
    have := (h.iff n.toNat h1).1 h2
    rwa [Int.toNat_of_nonneg h0] at this
  · intro hc
    obtain ⟨h1, h2⟩ := hc.range
    refine ⟨by omega, by omega, (h.iff n.toNat (by omega)).2 ?_⟩
    rwa [Int.toNat_of_nonneg (by omega)]
theorem keysOf_range {H : List Bool} {n : Int} (h : n ∈ keysOf H 61) : 0 ≤ n ∧ n ≤ 60 := by
  obtain ⟨h0, h1, _⟩ := mem_keysOf.1 h
  omega
/-- Ascending. -/
theorem keysOf_sorted (H : List Bool) (m : Nat) : (keysOf H m).Pairwise (· < ·) := by
  unfold keysOf
  rw [List.pairwise_map]
  refine (List.Pairwise.filter _ List.pairwise_lt_range).imp ?_
  intro a b hab
  omega

/-- A truth value set. -/
theorem set_getD (H : List Bool) (n m : Nat) (hn : n < H.length) : (H.set n true).getD m false = if m = n then true else H.getD m false := by
  simp only [List.getD_eq_getElem?_getD, List.getElem?_set]
  by_cases h : n = m
  · subst h; simp [hn]
  · rw [if_neg h, if_neg (fun e => h e.symm)]
theorem count_set : ∀ (H : List Bool) (n : Nat), n < H.length → H.getD n false = false → (H.set n true).count false + 1 = H.count false
  | [], n, h, _ => by simp at h
  | b :: H, 0, _, h => by
    simp at h
    subst h
    simp
  | b :: H, n + 1, h, h' => by
    have := count_set H n (by simpa using h) (by simpa using h')
    rw [List.set_cons_succ, List.count_cons, List.count_cons]
    omega
theorem count_len (H : List Bool) : H.count false ≤ H.length := List.count_le_length

end Go.Proofs.Ythgglnjjbpjonaa
