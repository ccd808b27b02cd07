/-
  The specification's cutting of a text of at most 200 bytes at a byte: its pieces, in a row of their own; nothing that was in memory is turned.
-/
import Derived.Test.YtopikapamfmalaaGreatDoorSpecDec
import Derived.Test.YtopikapamfmalaaGreatDoorReadNums
import Derived.Test.YtopikapamfmalaaGreatDoorBaseJ
import Derived.WalkKit
namespace Go.Proofs.YtopikapamfmalaaGreatDoor
open Go.RowKit
attribute [local go_sem ↓] Go.wp_at_zero Go.wp_at_succ

/-- One byte more: a blank begins a piece, another one makes the last piece longer. -/
def cutStep (p : UInt8) (acc : List ByteArray) (c : UInt8) : List ByteArray := if c = p then acc ++ [⟨#[]⟩] else acc.dropLast ++ [acc.getLast?.getD ⟨#[]⟩ ++ ⟨#[c]⟩]
/-- The pieces of a text that is cut at blanks. -/
def cutL (p : UInt8) (l : List UInt8) : List ByteArray := l.foldl (cutStep p) [⟨#[]⟩]
variable {p : UInt8}

theorem info9 : (Tryz.prog.info? 9).map (fun i => (i.zero, i.size, i.bytes)) = some (some (.string ⟨#[]⟩), 1, 16) := by kernel_rfl

theorem cutL_next (s : ByteArray) (j : Nat) (h : j < s.size) : cutL p (s.data.toList.take (j + 1)) = cutStep p (cutL p (s.data.toList.take j)) s[j] := by
  have e : s.data.toList.take (j + 1) = s.data.toList.take j ++ [s[j]] := List.take_succ_eq_append_getElem (by simpa using h)
  rw [e, cutL, List.foldl_append]; rfl
theorem cutStep_length (acc : List ByteArray) (c : UInt8) : 1 ≤ (cutStep p acc c).length ∧ (cutStep p acc c).length ≤ acc.length + 1 := by
  unfold cutStep; split <;> simp <;> omega
theorem cutStep_size (acc : List ByteArray) (c : UInt8) (n : Nat) (h : ∀ x ∈ acc, x.size ≤ n) : ∀ x ∈ cutStep p acc c, x.size ≤ n + 1 := by
  intro x hx
  unfold cutStep at hx
  split at hx
  · rcases List.mem_append.1 hx with hx | hx
    · have := h x hx; omega
    · simp at hx; subst hx; simp [ByteArray.size]
  · rcases List.mem_append.1 hx with hx | hx
    · have := h x (List.dropLast_subset _ hx); omega
    · simp at hx; subst hx
      rw [ByteArray.size_append, size1]
      cases acc with
      | nil => simp [ByteArray.size]
      | cons a l =>
        have : (a :: l).getLast?.getD ⟨#[]⟩ ∈ a :: l := by
          rw [List.getLast?_eq_some_getLast (by simp)]; exact List.getLast_mem _
        have := h _ this; omega
theorem cutL_bounds : ∀ (j : Nat) (s : ByteArray), j ≤ s.size → 1 ≤ (cutL p (s.data.toList.take j)).length ∧ (cutL p (s.data.toList.take j)).length ≤ j + 1 ∧ ∀ x ∈ cutL p (s.data.toList.take j), x.size ≤ j
  | 0, s, _ => by
    have e : cutL p (s.data.toList.take 0) = [⟨#[]⟩] := rfl
    rw [e]
    exact ⟨Nat.le_refl _, Nat.le_refl _, fun x hx => by rw [List.mem_singleton.1 hx]; exact Nat.le_refl _⟩
  | j + 1, s, h => by
    obtain ⟨h1, h2, h3⟩ := cutL_bounds j s (by omega)
    rw [cutL_next s j (by omega)]
    have := cutStep_length (p := p) (cutL p (s.data.toList.take j)) s[j]
    exact ⟨this.1, by omega, cutStep_size _ _ _ h3⟩

/-- The last cell of an own row, written. -/
theorem owns_last {w : World} {base g n cap e : Nat} {xs : List Value} {u : Value} (h : w.ownsRow base e 1 (.slice (some ⟨g, 0, none⟩) n cap) n xs) (hn : 1 ≤ n) :
    (w.setCell ⟨g, n - 1, none⟩ u).ownsRow base e 1 (.slice (some ⟨g, 0, none⟩) n cap) n (xs.dropLast ++ [u]) := by
  obtain ⟨hl, ⟨hv, h0⟩ | ⟨g', cap', cur, hv, hb, hh, hc, hm, hs, ht⟩⟩ := h
  · cases hv
  · simp only [Value.slice.injEq, Option.some.injEq, Addr.mk.injEq, and_true, true_and] at hv
    obtain ⟨rfl, rfl⟩ := hv
    refine ⟨by simp; omega, Or.inr ⟨g, cap, cur.setIfInBounds (n - 1) u, rfl, hb, ?_, hc, hm, by simpa using hs, ?_⟩⟩
    · have := heap_set (v := u) (o := n - 1) hh
      exact this
    · rw [← ht]
      apply List.ext_getElem?
      intro i
      have hsz : cur.size = cap := by simpa using hs
      simp only [Array.toList_setIfInBounds, Nat.mul_one, List.getElem?_take, List.getElem?_set, List.dropLast_eq_take, List.length_take, Array.length_toList]
      rw [show min n cur.size = n from by omega, List.take_take, show min (n - 1) n = n - 1 from by omega]
      rcases Nat.lt_trichotomy i (n - 1) with h | h | h
      · rw [if_pos (by omega), if_neg (by omega), List.getElem?_append_left (by simp; omega), List.getElem?_take, if_pos h]
      · subst h
        rw [if_pos (by omega), if_pos rfl, if_pos (by omega), List.getElem?_append_right (by simp; omega)]
        rw [show n - 1 - (List.take (n - 1) cur.toList).length = 0 from by simp; omega]; rfl
      · rw [if_neg (by omega), List.getElem?_eq_none (by simp; omega)]

/-- One byte, turned into a text. -/
theorem conv8 (c : UInt8) (b : Nat) (w : World) (hc : w.cell? ⟨b, 0, none⟩ = some (.int .u8 (c.toNat : Int))) :
    (convert 30 9 (.slice (some ⟨b, 0, none⟩) 1 1)).run Tryz.prog w = .ok (.string ⟨#[c]⟩) w := by
  refine run_convert_bytes_back w 30 9 5 ⟨b, 0, none⟩ 1 [c] Tryz.underlying30 Tryz.underlying5 Tryz.underlying9 ?_
  intro j hj
  obtain rfl : j = 0 := by simpa using hj
  exact hc

/-- On the way: the pieces so far, in a row of the call's own. -/
structure Cs (p : UInt8) (W : World) (s : ByteArray) (w : World) (j g cap : Nat) : Prop where
  below : Below W.heap.size W w
  own : w.ownsRow W.heap.size 9 1 (.slice (some ⟨g, 0, none⟩) (cutL p (s.data.toList.take j)).length cap) (cutL p (s.data.toList.take j)).length ((cutL p (s.data.toList.take j)).map .string)

theorem Cs.start (W : World) (s : ByteArray) : Cs p W s (W.alloc (.cells #[.string ⟨#[]⟩] 9)) 0 W.heap.size 1 :=
  ⟨(Below.refl _ _).alloc (Nat.le_refl _) _, rfl, Or.inr ⟨W.heap.size, 1, #[.string ⟨#[]⟩], rfl, Nat.le_refl _, heap_alloc_new W _, Nat.le_refl _, by decide, rfl, rfl⟩⟩

theorem Cs.last {W : World} {s : ByteArray} {w : World} {j g cap m : Nat} {X : ByteArray} (h : Cs p W s w j g cap) (hX : (cutL p (s.data.toList.take j))[m]? = some X) :
    w.cell? ⟨g, m, none⟩ = some (.string X) ∧ w.frozen? ⟨g, m, none⟩ = false ∧ g < w.heap.size := by
  have hc := h.own.cells (g := g) rfl m (.string X) (by rw [List.getElem?_map, hX]; rfl)
  refine ⟨?_, ?_, (h.own.lt g rfl).2⟩
  · by_cases e : m = 0
    · subst e; simpa [Addr.add] using hc
    · simpa [Addr.add, e] using hc
  · obtain ⟨_, ⟨hv, _⟩ | ⟨g', cap', cur, hv, _, hh, _⟩⟩ := h.own
    · cases hv
    · simp only [Value.slice.injEq, Option.some.injEq, Addr.mk.injEq, and_true, true_and] at hv
      obtain ⟨rfl, rfl⟩ := hv
      simp [World.frozen?, hh]

theorem Cs.alloc {W : World} {s : ByteArray} {w : World} {j g cap : Nat} (h : Cs p W s w j g cap) (o : Obj) : Cs p W s (w.alloc o) j g cap := ⟨h.below.alloc h.below.size o, h.own.alloc o⟩
theorem Cs.drew {W : World} {s : ByteArray} {w : World} {j g cap : Nat} (h : Cs p W s w j g cap) : Cs p W s w.drew j g cap := ⟨h.below.drew, h.own.drew⟩
theorem Cs.more {W : World} {s : ByteArray} {w : World} {j g cap m : Nat} {L : List ByteArray} {X Y : ByteArray} (h : Cs p W s w j g cap) (hj : j < s.size) (hc : ¬ s[j] = p) (hL : L = cutL p (s.data.toList.take j)) (hm : L.length = m + 1) (hX : L[m]? = some X) (hY : Y = X ++ ⟨#[s[j]]⟩) :
    Cs p W s (w.setCell ⟨g, m, none⟩ (.string Y)) (j + 1) g cap ∧ (cutL p (s.data.toList.take (j + 1))).length = m + 1 := by
  have hx : L.getLast?.getD ⟨#[]⟩ = X := by rw [List.getLast?_eq_getElem?, hm, show m + 1 - 1 = m from rfl, hX]; rfl
  have e : cutL p (s.data.toList.take (j + 1)) = L.dropLast ++ [Y] := by rw [cutL_next s j hj, ← hL, cutStep, if_neg hc, hx, hY]
  have el : (L.dropLast ++ [Y]).length = m + 1 := by simp [hm]
  have ho := h.own
  rw [← hL, hm] at ho
  have hn := owns_last (u := .string Y) ho (by omega)
  refine ⟨⟨h.below.setCell (ho.lt g rfl).1 _, ?_⟩, by rw [e, el]⟩
  rw [e, el, List.map_append, List.map_dropLast]
  exact hn

theorem Cs.blank {W : World} {s : ByteArray} {w w1 : World} {j g cap : Nat} {o : Obj} {v : Value} (h : Cs p W s w j g cap) (hj : j < s.size) (hc : s[j] = p) (L : List ByteArray) (hL : L = cutL p (s.data.toList.take j))
    (ho : w1.ownsRow W.heap.size 9 1 v (L.length + 1) (L.map .string ++ [.string ⟨#[]⟩])) (hg : (w.alloc o).grownBy w1 (some g)) :
    ∃ g' cap', v = .slice (some ⟨g', 0, none⟩) (cutL p (s.data.toList.take (j + 1))).length cap' ∧ Cs p W s w1 (j + 1) g' cap' := by
  have e : cutL p (s.data.toList.take (j + 1)) = L ++ [⟨#[]⟩] := by rw [cutL_next s j hj, hL, cutStep, if_pos hc]
  have hge := (h.own.lt g rfl).1
  have hbw : Below W.heap.size W w1 := (h.below.alloc h.below.size o).grown hg (by have := h.below.size; simp; omega) (fun k hk => by cases hk; exact hge)
  obtain ⟨hl, ⟨rfl, h0⟩ | ⟨g', cap', cur, rfl, r⟩⟩ := ho
  · omega
  · refine ⟨g', cap', by rw [e]; simp, hbw, ?_⟩
    rw [e]
    simp only [List.length_append, List.length_cons, List.length_nil, List.map_append, List.map_cons, List.map_nil]
    exact ⟨hl, Or.inr ⟨g', cap', cur, rfl, r⟩⟩

set_option maxHeartbeats 1000000 in
set_option maxRecDepth 100000 in
theorem l1Cut_any (p : UInt8) (s : ByteArray) (hs : s.size ≤ 200) (w : World) :
    Calls Tryz.prog 14 #[.string s, .int .u8 p.toNat] w fun r w' => (∃ g cap, r = .returned (.slice (some ⟨g, 0, none⟩) (cutL p s.data.toList).length cap) ∧ w.heap.size ≤ g ∧ ∀ (j : Nat) x, (cutL p s.data.toList)[j]? = some x → w'.cell? ⟨g, j, none⟩ = some (.string x)) ∧ Below w.heap.size w w' := by
  obtain ⟨i0, hi, hz0, hz1, hz2⟩ := info_parts info9
  go_enter Tryz.func14, Tryz.ntmps14
  go_wp2_with fail
  go_loopw [5, 6] (fun v i wr => ∃ (j g cap : Nat), j ≤ s.size ∧ i = .int .i64 j ∧ v = .slice (some ⟨g, 0, none⟩) (cutL p (s.data.toList.take j)).length cap ∧ Hid (Cs p w s wr j g cap)) (fun _ i _ => s.size - (intOf i).toNat)
  case atStart => exact ⟨0, w.heap.size, 1, Nat.zero_le _, rfl, rfl, Cs.start w s⟩
  case round =>
    obtain ⟨j, g, cap, hj, rfl, rfl, C⟩ := hrel
    have bd := cutL_bounds (p := p) j s hj
    by_cases hlt : j < s.size
    · by_cases hc : s[j] = p
      · have he : (s[j].toNat : Int) = p.toNat := by rw [hc]
        obtain ⟨L, hL⟩ : ∃ L, L = cutL p (s.data.toList.take j) := ⟨_, rfl⟩
        rw [← hL] at bd ⊢
        have hown : wr.ownsRow w.heap.size 9 1 (.slice (some ⟨g, 0, none⟩) L.length cap) L.length (L.map .string) := hL ▸ C.out.own
        have HL : Hid (L = cutL p (s.data.toList.take j)) := hL
        have hbs := C.out.below.size
        have b1 := bd.1
        have b2 := bd.2.1
        clear bd hL
        go_wp2_with (at_builtin; refine wpList_append_own _ rfl _ _ 35 rfl w.heap.size 9 i0 (.string ⟨#[]⟩) 1 16 Tryz.underlying35 hi hz0 hz1 hz2 rfl (by decide) _ _ _ rfl (hown.alloc _) ⟨wr.heap.size, 0, none⟩ 1 1 [.string ⟨#[]⟩] rfl rfl ?c1 ?c2 ?c3 ?c4 ?c5 ?_)
        case c1 =>
          intro k u hk
          match k, hk with
          | 0, hk => simp at hk; subst hk; simp [Addr.add]
        case c2 => intro u hu; simp at hu; subst hu; rfl
        case c3 => unfold maxLen; omega
        case c4 => omega
        case c5 => simp; omega
        · intro v' w1 hown' hgrow hnil
          obtain ⟨g', cap', rfl, C'⟩ := C.out.blank hlt hc L HL.out hown' hgrow
          have C1 : Hid (Cs p w s w1 (j + 1) g' cap') := C'
          clear C' hown' hgrow hnil hown C HL he
          go_wp2_with fail
          go_roundw
          case rel => exact ⟨j + 1, g', cap', by omega, by go_num, rfl, C1⟩
          case measure => simp [intOf]; omega
      · have he : ((s[j].toNat : Int) == (p.toNat : Int)) = false := by
          rw [beq_eq_false_iff_ne]; intro h; exact hc (UInt8.toNat_inj.1 (by omega))
        -- REGION
        obtain ⟨L, hL⟩ : ∃ L, L = cutL p (s.data.toList.take j) := ⟨_, rfl⟩
        rw [← hL] at bd ⊢
        obtain ⟨b1, b2, b3⟩ := bd
        obtain ⟨m, hm⟩ : ∃ m, L.length = m + 1 := ⟨L.length - 1, by omega⟩
        rw [hm]
        obtain ⟨X, hX, hXm⟩ : ∃ X, L[m]? = some X ∧ X.size ≤ j := by
          have hlt2 : m < L.length := by omega
          exact ⟨L[m], List.getElem?_eq_getElem hlt2, b3 _ (List.getElem_mem hlt2)⟩
        have hcell : wr.cell? ⟨g, m, none⟩ = some (.string X) ∧ wr.frozen? ⟨g, m, none⟩ = false ∧ g < wr.heap.size := C.out.last (hL ▸ hX)
        have hgl := hcell.2.2
        have hadd : ∀ w : World, (Op.stringOp .add X ⟨#[s[j]]⟩).run Tryz.prog w = .ok (.string (X ++ ⟨#[s[j]]⟩)) w := fun w => run_string_add_sum w _ _ (by rw [size1]; omega)
        obtain ⟨Y, hY⟩ : ∃ Y, Y = X ++ ⟨#[s[j]]⟩ := ⟨_, rfl⟩
        rw [← hY] at hadd
        have C2 : Hid (Cs p w s wr j g cap ∧ L = cutL p (s.data.toList.take j) ∧ L.length = m + 1 ∧ L[m]? = some X ∧ Y = X ++ ⟨#[s[j]]⟩) := ⟨C.out, hL, hm, hX, hY⟩
        have HC : Hid (wr.cell? ⟨g, m, none⟩ = some (.string X) ∧ wr.frozen? ⟨g, m, none⟩ = false) := ⟨hcell.1, hcell.2.1⟩
        have HF : Hid (((wr.alloc (.cells #[.int .u8 (s[j].toNat : Int)] 5)).drew).frozen? ⟨g, m, none⟩ = false) := (((Below.refl wr.heap.size wr).alloc (Nat.le_refl _) _).frozen (p := ⟨g, m, none⟩) hgl).trans hcell.2.1
        have hcv := conv8 s[j]
        have hwm : IntKind.i64.wrap (m : Int) = m := wrapS (by omega) (by omega)
        have hml : (m : Int) < (m : Int) + 1 := by omega
        clear C hL hm hX hY b1 b3 hcell hi hz0 hz1 hz2
        go_wp2_with fail
        refine wp_region_held_drew (S := fun _ => True) (by kernel_rfl) trivial (fun hS => ?_)
        refine take1 0 22 (.slice (some ⟨g, 0, none⟩) (m + 1) cap) rfl rfl (by kernel_rfl) (by kernel_rfl) (by kernel_rfl) (by rfl) (fun _ _ _ h => h) hS (fun w' hS' => ?_) ?_
        · go_simp
        simp only [Act.put, List.setIfInBounds_toArray, List.set_cons_zero, List.set_cons_succ]
        refine take1 1 23 (.slice (some ⟨g, 0, none⟩) (m + 1) cap) rfl rfl (by kernel_rfl) (by kernel_rfl) (by kernel_rfl) (by rfl) (fun _ _ _ h => h) hS (fun w' hS' => ?_) ?_
        · go_simp
        simp only [Act.put, List.setIfInBounds_toArray, List.set_cons_zero, List.set_cons_succ]
        refine take1 2 24 (.int .i64 (m + 1 : Nat)) rfl rfl (by kernel_rfl) (by kernel_rfl) (by kernel_rfl) (by rfl) (fun _ _ _ h => h) hS (fun w' hS' => ?_) ?_
        · go_simp
        simp only [Act.put, List.setIfInBounds_toArray, List.set_cons_zero, List.set_cons_succ]
        refine take1 3 25 (.int .i64 m) rfl rfl (by kernel_rfl) (by kernel_rfl) (by kernel_rfl) (by rfl) (fun _ _ _ h => h) hS (fun w' hS' => ?_) ?_
        · go_simp
        simp only [Act.put, List.setIfInBounds_toArray, List.set_cons_zero, List.set_cons_succ]
        refine take1 4 26 (.slice (some ⟨g, 0, none⟩) (m + 1) cap) rfl rfl (by kernel_rfl) (by kernel_rfl) (by kernel_rfl) (by rfl) (fun _ _ _ h => h) hS (fun w' hS' => ?_) ?_
        · go_simp
        simp only [Act.put, List.setIfInBounds_toArray, List.set_cons_zero, List.set_cons_succ]
        refine take1 5 27 (.slice (some ⟨g, 0, none⟩) (m + 1) cap) rfl rfl (by kernel_rfl) (by kernel_rfl) (by kernel_rfl) (by rfl) (fun _ _ _ h => h) hS (fun w' hS' => ?_) ?_
        · go_simp
        simp only [Act.put, List.setIfInBounds_toArray, List.set_cons_zero, List.set_cons_succ]
        refine take1 6 28 (.int .i64 (m + 1 : Nat)) rfl rfl (by kernel_rfl) (by kernel_rfl) (by kernel_rfl) (by rfl) (fun _ _ _ h => h) hS (fun w' hS' => ?_) ?_
        · go_simp
        simp only [Act.put, List.setIfInBounds_toArray, List.set_cons_zero, List.set_cons_succ]
        refine take1 7 29 (.int .i64 m) rfl rfl (by kernel_rfl) (by kernel_rfl) (by kernel_rfl) (by rfl) (fun _ _ _ h => h) hS (fun w' hS' => ?_) ?_
        · go_simp
        simp only [Act.put, List.setIfInBounds_toArray, List.set_cons_zero, List.set_cons_succ]
        refine take1 8 30 (.pointer (some ⟨g, m, none⟩)) rfl rfl (by kernel_rfl) (by kernel_rfl) (by kernel_rfl) (by rfl) (fun _ _ _ h => h) hS (fun w' hS' => ?_) ?_
        · go_simp
        simp only [Act.put, List.setIfInBounds_toArray, List.set_cons_zero, List.set_cons_succ]
        refine take1 10 32 (.string s) rfl rfl (by kernel_rfl) (by kernel_rfl) (by kernel_rfl) (by rfl) (fun _ _ _ h => h) hS (fun w' hS' => ?_) ?_
        · go_simp
        simp only [Act.put, List.setIfInBounds_toArray, List.set_cons_zero, List.set_cons_succ]
        refine take1 11 33 (.int .i64 j) rfl rfl (by kernel_rfl) (by kernel_rfl) (by kernel_rfl) (by rfl) (fun _ _ _ h => h) hS (fun w' hS' => ?_) ?_
        · go_simp
        simp only [Act.put, List.setIfInBounds_toArray, List.set_cons_zero, List.set_cons_succ]
        refine take1 12 34 (.int .u8 (s[j].toNat : Int)) rfl rfl (by kernel_rfl) (by kernel_rfl) (by kernel_rfl) (by rfl) (fun _ _ _ h => h) hS (fun w' hS' => ?_) ?_
        · go_simp
        simp only [Act.put, List.setIfInBounds_toArray, List.set_cons_zero, List.set_cons_succ]
        refine wpAnyH_ready (rs := [9, 13]) (by kernel_rfl) (by simp) ?_
        refine AllReadyH.cons rfl (fun K hK => ?_) (AllReadyH.cons rfl (fun K hK => ?_) AllReadyH.nil)
        · have hc1 : wr.drew.cell? ⟨g, m, none⟩ = some (.string X) := HC.out.1
          go_simp
          refine hK.out _ _ trivial (fun _ => ?_)
          clear hK K hc1
          refine wpAnyH_ready (rs := [13]) (by kernel_rfl) (by simp) ?_
          refine AllReadyH.cons rfl (fun K hK => ?_) AllReadyH.nil
          go_simp
          refine hK.out _ _ trivial (fun _ => ?_)
          clear hK K
          refine held_mono (S' := fun w' => w'.cell? ⟨wr.heap.size, 0, none⟩ = some (.int .u8 (s[j].toNat : Int))) (fun _ _ => trivial) _ _ _ _ ?_
          have hS2 : ((wr.alloc (.cells #[.int .u8 (s[j].toNat : Int)] 5)).drew).cell? ⟨wr.heap.size, 0, none⟩ = some (.int .u8 (s[j].toNat : Int)) := by go_simp
          refine take1 14 36 (.string ⟨#[s[j]]⟩) rfl rfl (by kernel_rfl) (by kernel_rfl) (by kernel_rfl) (by rfl) (fun _ _ _ h => h) hS2 (fun w' hS' => ?_) ?_
          · go_simp
          simp only [Act.put, List.setIfInBounds_toArray, List.set_cons_zero, List.set_cons_succ]
          refine take1 15 37 (.string Y) rfl rfl (by kernel_rfl) (by kernel_rfl) (by kernel_rfl) (by rfl) (fun _ _ _ h => h) hS2 (fun w' hS' => ?_) ?_
          · go_simp
          simp only [Act.put, List.setIfInBounds_toArray, List.set_cons_zero, List.set_cons_succ]
          refine take1 16 38 (.pointer (some ⟨g, m, none⟩)) rfl rfl (by kernel_rfl) (by kernel_rfl) (by kernel_rfl) (by rfl) (fun _ _ _ h => h) hS2 (fun w' hS' => ?_) ?_
          · go_simp
          simp only [Act.put, List.setIfInBounds_toArray, List.set_cons_zero, List.set_cons_succ]
          refine wpAnyH_ready (rs := [17]) (by kernel_rfl) (by simp) ?_
          refine AllReadyH.cons rfl (fun K hK => ?_) AllReadyH.nil
          have hc1 : ((wr.alloc (.cells #[.int .u8 (s[j].toNat : Int)] 5)).drew).cell? ⟨g, m, none⟩ = some (.string X) := (cell_later (((Below.refl _ _).alloc (Nat.le_refl _) _).drew) HC.out.1)
          have hf1 : ((wr.alloc (.cells #[.int .u8 (s[j].toNat : Int)] 5)).drew).frozen? ⟨g, m, none⟩ = false := HF.out
          go_simp
          refine hK.out _ _ (by have hgn : ¬ wr.heap.size = g := by omega
                                go_simp) (fun _ => ?_)
          clear hK K
          refine wpAnyH_done (by kernel_rfl) ?_ _
          have C3 : Hid (Cs p w s (((wr.setCell ⟨g, m, none⟩ (.string Y)).alloc (.cells #[.int .u8 (s[j].toNat : Int)] 5)).drew) (j + 1) g cap ∧ (cutL p (s.data.toList.take (j + 1))).length = m + 1) := ⟨((C2.out.1.more hlt hc C2.out.2.1 C2.out.2.2.1 C2.out.2.2.2.1 C2.out.2.2.2.2).1.alloc _).drew, (C2.out.1.more hlt hc C2.out.2.1 C2.out.2.2.1 C2.out.2.2.2.1 C2.out.2.2.2.2).2⟩
          clear hS hS2 hc1 hf1 HC HF C2 hcv hadd
          go_wp2_with fail
          go_roundw
          case rel => exact ⟨j + 1, g, cap, by omega, by go_num, by rw [C3.out.2], C3.out.1⟩
          case measure => simp [intOf]; omega
        · go_simp
          refine hK.out _ _ trivial (fun _ => ?_)
          clear hK K
          refine held_mono (S' := fun w' => w'.cell? ⟨wr.heap.size, 0, none⟩ = some (.int .u8 (s[j].toNat : Int))) (fun _ _ => trivial) _ _ _ _ ?_
          have hS2 : ((wr.alloc (.cells #[.int .u8 (s[j].toNat : Int)] 5)).drew).cell? ⟨wr.heap.size, 0, none⟩ = some (.int .u8 (s[j].toNat : Int)) := by go_simp
          refine take1 14 36 (.string ⟨#[s[j]]⟩) rfl rfl (by kernel_rfl) (by kernel_rfl) (by kernel_rfl) (by rfl) (fun _ _ _ h => h) hS2 (fun w' hS' => ?_) ?_
          · go_simp
          simp only [Act.put, List.setIfInBounds_toArray, List.set_cons_zero, List.set_cons_succ]
          refine wpAnyH_ready (rs := [9]) (by kernel_rfl) (by simp) ?_
          refine AllReadyH.cons rfl (fun K hK => ?_) AllReadyH.nil
          have hc1 : ((wr.alloc (.cells #[.int .u8 (s[j].toNat : Int)] 5)).drew).cell? ⟨g, m, none⟩ = some (.string X) := (cell_later (((Below.refl _ _).alloc (Nat.le_refl _) _).drew) HC.out.1)
          go_simp
          refine hK.out _ _ hS2 (fun _ => ?_)
          clear hK K hc1
          refine take1 15 37 (.string Y) rfl rfl (by kernel_rfl) (by kernel_rfl) (by kernel_rfl) (by rfl) (fun _ _ _ h => h) hS2 (fun w' hS' => ?_) ?_
          · go_simp
          simp only [Act.put, List.setIfInBounds_toArray, List.set_cons_zero, List.set_cons_succ]
          refine take1 16 38 (.pointer (some ⟨g, m, none⟩)) rfl rfl (by kernel_rfl) (by kernel_rfl) (by kernel_rfl) (by rfl) (fun _ _ _ h => h) hS2 (fun w' hS' => ?_) ?_
          · go_simp
          simp only [Act.put, List.setIfInBounds_toArray, List.set_cons_zero, List.set_cons_succ]
          refine wpAnyH_ready (rs := [17]) (by kernel_rfl) (by simp) ?_
          refine AllReadyH.cons rfl (fun K hK => ?_) AllReadyH.nil
          have hc1 : ((wr.alloc (.cells #[.int .u8 (s[j].toNat : Int)] 5)).drew).cell? ⟨g, m, none⟩ = some (.string X) := (cell_later (((Below.refl _ _).alloc (Nat.le_refl _) _).drew) HC.out.1)
          have hf1 : ((wr.alloc (.cells #[.int .u8 (s[j].toNat : Int)] 5)).drew).frozen? ⟨g, m, none⟩ = false := HF.out
          go_simp
          refine hK.out _ _ (by have hgn : ¬ wr.heap.size = g := by omega
                                go_simp) (fun _ => ?_)
          clear hK K
          refine wpAnyH_done (by kernel_rfl) ?_ _
          have C3 : Hid (Cs p w s (((wr.setCell ⟨g, m, none⟩ (.string Y)).alloc (.cells #[.int .u8 (s[j].toNat : Int)] 5)).drew) (j + 1) g cap ∧ (cutL p (s.data.toList.take (j + 1))).length = m + 1) := ⟨((C2.out.1.more hlt hc C2.out.2.1 C2.out.2.2.1 C2.out.2.2.2.1 C2.out.2.2.2.2).1.alloc _).drew, (C2.out.1.more hlt hc C2.out.2.1 C2.out.2.2.1 C2.out.2.2.2.1 C2.out.2.2.2.2).2⟩
          clear hS hS2 hc1 hf1 HC HF C2 hcv hadd
          go_wp2_with fail
          go_roundw
          case rel => exact ⟨j + 1, g, cap, by omega, by go_num, by rw [C3.out.2], C3.out.1⟩
          case measure => simp [intOf]; omega
    · obtain rfl : j = s.size := by omega
      have hfull : s.data.toList.take s.size = s.data.toList := List.take_of_length_le (by simp)
      rw [hfull]
      have hown := C.out.own
      rw [hfull] at hown
      have hbel := C.out.below
      clear C
      have hcells : ∀ (i : Nat) x, (cutL p s.data.toList)[i]? = some x → wr.cell? ⟨g, i, none⟩ = some (.string x) := fun i x hx => by
        have := hown.cells (g := g) rfl i (.string x) (by rw [List.getElem?_map, hx]; rfl)
        by_cases h : i = 0
        · subst h; simpa [Addr.add] using this
        · simpa [Addr.add, h] using this
      have hg := (hown.lt g rfl).1
      clear hown
      have HF : Hid (w.heap.size ≤ g ∧ (∀ (i : Nat) x, (cutL p s.data.toList)[i]? = some x → wr.cell? ⟨g, i, none⟩ = some (.string x)) ∧ Below w.heap.size w wr) := ⟨hg, hcells, hbel⟩
      clear hg hcells hbel
      go_wp2_with fail
      go_ret
      exact ⟨⟨g, cap, rfl, HF.out.1, HF.out.2.1⟩, HF.out.2.2⟩

end Go.Proofs.YtopikapamfmalaaGreatDoor
