/-
  What the specification remembers: as the plain mathematics says, in a row of its own; nothing that was in memory is turned.
-/
import Derived.Test.YtghajmfjekfdpaaDoorKdcSpec
namespace Go.Proofs.YtghajmfjekfdpaaDoor
open Go.RowKit
attribute [local go_sem ↓] Go.wp_at_zero Go.wp_at_succ

theorem freshT (w : World) (s : Sl) : Below w.heap.size w (w.alloc (.cells #[.int .i64 s.k, .int .i64 s.t, .int .i64 s.a, .int .i64 s.b, .int .i64 s.c, .int .i64 s.d, .int .i64 s.e] 64)) ∧ SealAt (w.alloc (.cells #[.int .i64 s.k, .int .i64 s.t, .int .i64 s.a, .int .i64 s.b, .int .i64 s.c, .int .i64 s.d, .int .i64 s.e] 64)) w.heap.size 0 s ∧ w.heap.size < (w.alloc (.cells #[.int .i64 s.k, .int .i64 s.t, .int .i64 s.a, .int .i64 s.b, .int .i64 s.c, .int .i64 s.d, .int .i64 s.e] 64)).heap.size :=
  ⟨Below.alloc_ _ _, ⟨by go_simp, by go_simp, by go_simp, by go_simp, by go_simp, by go_simp, by go_simp⟩, by simp⟩
theorem ret2 {v : Value} {a b : Bool} (h : a = b) : Ending.returned (.tuple #[v, .bool a]) = .returned (.tuple #[v, .bool b]) := by rw [h]
theorem OwnS.less2 {w : World} {base base' : Nat} {v : Value} {zs : List Sl} (h : OwnS w base v zs) (hb : base' ≤ base) : OwnS w base' v zs :=
  ⟨h.1, h.2.imp id fun ⟨g, cap, cur, q1, q2, q3⟩ => ⟨g, cap, cur, q1, Nat.le_trans hb q2, q3⟩⟩

/-- On the way: what is fresh of the first so many, in a row of the call's own; what is told lies in a block. -/
structure Wt (W : World) (now : Int) (xs : List Sl) (s : Sl) (j : Nat) (v : Value) (w : World) : Prop where
  own : OwnS w (W.heap.size + 1) v (keep now (xs.take j))
  told : SealAt w W.heap.size 0 s
  below : Below W.heap.size W w
  lt : W.heap.size < w.heap.size
theorem Wt.later {W : World} {now : Int} {xs : List Sl} {s : Sl} {j : Nat} {v : Value} {w w' : World} (h : Wt W now xs s j v w) (hb : Below w.heap.size w w') : Wt W now xs s j v w' :=
  ⟨h.own.later hb, h.told.later hb h.lt, h.below.trans (hb.mono h.below.size), Nat.lt_of_lt_of_le h.lt hb.size⟩
theorem Wt.app {W : World} {now : Int} {xs : List Sl} {s u : Sl} {j : Nat} {v v' : Value} {w w1 : World} {o : Obj} (h : Wt W now xs s j v w) (hs : xs[j]? = some u) (hf : freshB u.b now = true)
    (ho : w1.ownsRow (W.heap.size + 1) 64 7 v' ((keep now (xs.take j)).length + 1) (cellsL (keep now (xs.take j)) ++ u.cs)) (hg : (w.alloc o).grownBy w1 v.ownBlock) : Wt W now xs s (j + 1) v' w1 := by
  have hal := (World.grownBy_alloc w o v.ownBlock).trans hg
  have hne : some W.heap.size ≠ v.ownBlock := fun e => by have := (World.ownsRow.lt h.own _ e.symm).1; omega
  refine ⟨?_, ?_, h.below.grown hal h.below.size (fun k hk => ?_), Nat.lt_of_lt_of_le h.lt hal.size⟩
  · unfold OwnS
    rw [keep_take hs, hf, if_pos rfl, cellsL_add, List.length_append, List.length_singleton]
    exact ho
  · have e := hal.block _ h.lt hne
    have hc : ∀ o, w1.cell? ⟨W.heap.size, o, none⟩ = w.cell? ⟨W.heap.size, o, none⟩ := fun o => World.cell?_of_block (a := ⟨W.heap.size, o, none⟩) e
    have d := h.told
    exact ⟨(hc _).trans d.c0, (hc _).trans d.c1, (hc _).trans d.c2, (hc _).trans d.c3, (hc _).trans d.c4, (hc _).trans d.c5, (hc _).trans d.c6⟩
  · have := (World.ownsRow.lt h.own k hk).1
    omega

set_option maxHeartbeats 4000000 in
set_option maxRecDepth 100000 in
theorem l11With_any (a : Option Addr) (cap : Nat) (xs : List Sl) (s : Sl) (now : Int) (w : World) (h : SRow w a xs) (hn : 0 ≤ now ∧ now ≤ 100) (hx : xs.length ≤ 2000000) (ha : ∀ u ∈ xs, 0 ≤ u.b ∧ u.b ≤ 100) (hb : 0 ≤ s.b ∧ s.b ≤ 100) :
    Calls Tryd.prog 59 #[.slice a xs.length cap, .agg #[.int .i64 s.k, .int .i64 s.t, .int .i64 s.a, .int .i64 s.b, .int .i64 s.c, .int .i64 s.d, .int .i64 s.e], .int .i64 now] w fun r w' => (∃ v, r = .returned (.tuple #[v, .bool (takes now xs s)]) ∧ OwnS w' w.heap.size v (withL now xs s)) ∧ Below w.heap.size w w' := by
  obtain ⟨i0, hi, hz0, hz1, hz2⟩ := info_parts infoSealM
  go_enter Tryd.func59, Tryd.ntmps59
  have T0 : Hid (Wt w now xs s 0 (.slice (some ⟨w.heap.size + 1, 0, none⟩) 0 0) ((w.alloc (.cells #[.int .i64 s.k, .int .i64 s.t, .int .i64 s.a, .int .i64 s.b, .int .i64 s.c, .int .i64 s.d, .int .i64 s.e] 64)).alloc (.cells #[] 64))) := by
    obtain ⟨F1, F2, F3⟩ := freshT w s
    refine ⟨?_, F2.later (Below.alloc_ _ _) F3, F1.trans ((Below.alloc_ _ _).mono F1.size), by simp; omega⟩
    have := OwnS.zero (w.alloc (.cells #[.int .i64 s.k, .int .i64 s.t, .int .i64 s.a, .int .i64 s.b, .int .i64 s.c, .int .i64 s.d, .int .i64 s.e] 64)) (base := w.heap.size + 1) (by simp)
    simpa [keep] using this
  have HA : Hid (∀ u ∈ xs, 0 ≤ u.b ∧ u.b ≤ 100) := ha
  clear ha
  go_wp2_with fail
  go_loopw [8, 9] (fun v i wr => ∃ (j : Nat), j ≤ xs.length ∧ i = .int .i64 j ∧ Hid (Wt w now xs s j v wr)) (fun _ i _ => xs.length - (intOf i).toNat)
  case atStart => exact ⟨0, Nat.zero_le _, rfl, T0⟩
  case round =>
    obtain ⟨j, hj, rfl, C⟩ := hrel
    clear T0
    by_cases hlt : j < xs.length
    · obtain ⟨u, hu⟩ : ∃ u, xs[j]? = some u := ⟨xs[j], List.getElem?_eq_getElem hlt⟩
      have hub := HA.out u (List.mem_of_getElem? hu)
      have HU : Hid (xs[j]? = some u) := hu
      rcases h.later C.out.below with h | ⟨b, off, rfl, hlb, hat⟩
      · simp [h] at hlt
      obtain ⟨c0, c1, c2, c3, c4, c5, c6⟩ := hat j u hu
      clear hat hu
      go_wp2_with fail
      refine (l11Fresh_any u.b now _ ⟨hub.1, by omega⟩ hn).mono ?_
      rintro r w2 ⟨rfl, rfl⟩
      cases hfr : freshB u.b now
      · have C2 : Hid (Wt w now xs s (j + 1) u8 w2) := by
          refine ⟨?_, C.out.told, C.out.below, C.out.lt⟩
          rw [keep_take HU.out, hfr]
          simpa using C.out.own
        clear C c0 c1 c2 c3 c4 c5 c6
        go_wp2_with fail
        exact ⟨⟨j + 1, by omega, by go_num, C2⟩, by simp [intOf]; omega⟩
      · have hkl := keep_len now (xs.take j)
        have hcs : u.cs = [.int .i64 u.k, .int .i64 u.t, .int .i64 u.a, .int .i64 u.b, .int .i64 u.c, .int .i64 u.d, .int .i64 u.e] := rfl
        have hlw := C.out.lt
        rw [List.length_take] at hkl
        go_wp2_with (first
          | (at_builtin; refine wpList_append_own_at _ rfl _ _ 29 rfl (w.heap.size + 1) 64 i0 (.agg #[.int .i64 0, .int .i64 0, .int .i64 0, .int .i64 0, .int .i64 0, .int .i64 0, .int .i64 0]) 7 56 Tryd.underlying29 hi hz0 hz1 hz2 rfl (by decide) _ _ _ rfl (C.out.own.alloc _) ⟨w2.heap.size, 0, none⟩ 1 1 u.cs rfl (by rw [hcs]; rfl) (cs_at ⟨by go_simp, by go_simp, by go_simp, by go_simp, by go_simp, by go_simp, by go_simp⟩) (cs_one u) (by unfold maxLen; omega) (by omega) (by simp; omega) ?_; intro v' w6 hown' hgrow hnil hloc)
          | go_in)
        have C2 := C.out.app HU.out hfr hown' hgrow
        exact ⟨⟨j + 1, by omega, by go_num, C2⟩, by simp [intOf]; omega⟩
    · obtain rfl : j = xs.length := by omega
      have D : Hid (Wt w now xs s xs.length u8 wr) := C
      obtain ⟨c0, c1, c2, c3, c4, c5, c6⟩ := id C.out.told
      simp only [Nat.zero_add] at c1 c2 c3 c4 c5 c6
      have hkl := keep_len now xs
      have hlw := C.out.lt
      have O0 : OwnS wr (w.heap.size + 1) u8 (keep now xs) := by have := C.out.own; rwa [List.take_length] at this
      obtain ⟨a8, c8, rfl, r8⟩ := O0.row
      have HO : Hid (OwnS wr (w.heap.size + 1) (.slice a8 (keep now xs).length c8) (keep now xs) ∧ SRow wr a8 (keep now xs)) := ⟨O0, r8⟩
      clear C h HA O0 r8
      go_wp2_with fail
      refine (l11Fresh_any s.b now _ ⟨hb.1, by omega⟩ hn).mono ?_
      rintro r w2 ⟨rfl, rfl⟩
      cases hfr : freshB s.b now
      · have E : Hid (takes now xs s = false ∧ withL now xs s = keep now xs) := ⟨by simp [takes, hfr], by simp [withL, takes, hfr]⟩
        clear c0 c1 c2 c3 c4 c5 c6
        go_wp2_with fail
        go_ret2
        refine ⟨⟨.slice a8 (keep now xs).length c8, ret2 E.out.1.symm, ?_⟩, D.out.below⟩
        rw [E.out.2]
        exact HO.out.1.less2 (by omega)
      · go_wp2_with fail
        refine (l3Among_any a8 c8 (keep now xs) s _ HO.out.2 (by omega)).mono ?_
        rintro r w3 ⟨rfl, b3⟩
        have D3 : Hid (OwnS w3 (w.heap.size + 1) (.slice a8 (keep now xs).length c8) (keep now xs) ∧ Below w.heap.size w w3 ∧ SealAt w3 w.heap.size 0 s ∧ w.heap.size < w3.heap.size) := ⟨HO.out.1.later b3, D.out.below.trans (b3.mono D.out.below.size), D.out.told.later b3 D.out.lt, by have := b3.size; omega⟩
        clear c0 c1 c2 c3 c4 c5 c6 b3 D HO hlw
        cases hin : inS s (keep now xs)
        · by_cases hfull : (keep now xs).length = 20
          · have HF : Hid ((keep now xs).length = 20) := hfull
            have hfi : ((keep now xs).length : Int) = 20 := by omega
            have E : Hid (takes now xs s = false ∧ withL now xs s = keep now xs) := ⟨by simp [takes, HF.out], by simp [withL, takes, HF.out]⟩
            clear hfull
            go_wp2_with fail
            go_ret2
            refine ⟨⟨.slice a8 (keep now xs).length c8, ?_, ?_⟩, D3.out.2.1⟩
            · rw [E.out.1, HF.out]; rfl
            · rw [E.out.2]
              exact D3.out.1.less2 (by omega)
          · have hfi : ¬ (((keep now xs).length : Int) = 20) := by omega
            have E : Hid (takes now xs s = true ∧ withL now xs s = keep now xs ++ [s]) := ⟨by simp [takes, hfr, hin, hfull], by simp [withL, takes, hfr, hin, hfull]⟩
            have hcs : s.cs = [.int .i64 s.k, .int .i64 s.t, .int .i64 s.a, .int .i64 s.b, .int .i64 s.c, .int .i64 s.d, .int .i64 s.e] := rfl
            obtain ⟨c0, c1, c2, c3, c4, c5, c6⟩ := D3.out.2.2.1
            simp only [Nat.zero_add] at c1 c2 c3 c4 c5 c6
            have hlw := D3.out.2.2.2
            go_wp2_with (first
              | (at_builtin; refine wpList_append_own_at _ rfl _ _ 29 rfl (w.heap.size + 1) 64 i0 (.agg #[.int .i64 0, .int .i64 0, .int .i64 0, .int .i64 0, .int .i64 0, .int .i64 0, .int .i64 0]) 7 56 Tryd.underlying29 hi hz0 hz1 hz2 rfl (by decide) _ _ _ rfl (D3.out.1.alloc _) ⟨w3.heap.size, 0, none⟩ 1 1 s.cs rfl (by rw [hcs]; rfl) (cs_at ⟨by go_simp, by go_simp, by go_simp, by go_simp, by go_simp, by go_simp, by go_simp⟩) (cs_one s) (by unfold maxLen; omega) (by omega) (by simp; omega) ?_; intro v' w6 hown' hgrow hnil hloc)
              | go_in)
            go_ret2
            have hal := (World.grownBy_alloc w3 (.cells #[.int .i64 s.k, .int .i64 s.t, .int .i64 s.a, .int .i64 s.b, .int .i64 s.c, .int .i64 s.d, .int .i64 s.e] 64) (Value.slice a8 (keep now xs).length c8).ownBlock).trans hgrow
            refine ⟨⟨v', ret2 E.out.1.symm, ?_⟩, D3.out.2.1.grown hal D3.out.2.1.size (fun k hk => by have := (World.ownsRow.lt D3.out.1 k hk).1; omega)⟩
            rw [E.out.2]
            refine OwnS.less2 (base := w.heap.size + 1) ?_ (by omega)
            unfold OwnS
            rw [cellsL_add, List.length_append, List.length_singleton]
            exact hown'
        · have E : Hid (takes now xs s = false ∧ withL now xs s = keep now xs) := ⟨by simp [takes, hin], by simp [withL, takes, hin]⟩
          go_wp2_with fail
          go_ret2
          refine ⟨⟨.slice a8 (keep now xs).length c8, ret2 E.out.1.symm, ?_⟩, D3.out.2.1⟩
          rw [E.out.2]
          exact D3.out.1.less2 (by omega)

end Go.Proofs.YtghajmfjekfdpaaDoor
