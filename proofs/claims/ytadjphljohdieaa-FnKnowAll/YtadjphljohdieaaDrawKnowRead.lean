/-
  DrawKnowRead: keys and seals in new memory, few of them; nothing that was there is turned.
-/
import Derived.Test.YtadjphljohdieaaDrawKnowKeys
import Derived.Test.YtadjphljohdieaaKnowApp
namespace Go.Proofs.Ytadjphljohdieaa
open Go.RowKit
attribute [local go_sem ↓] Go.wp_at_zero Go.wp_at_succ

/-- On the way: the reader, a row of numbers and a row of seals. -/
structure Rk (W W1 W2 : World) (sv : Value) (L : Nat) (a1 : Option Addr) (c1 : Nat) (ks : List Int) (a2 : Option Addr) (c2 : Nat) (xs : List Sl) (q : Int) (w : World) : Prop where
  rd : Rd w W.heap.size sv L q
  keys : OwnI w W1.heap.size (.slice a1 ks.length c1) ks
  seals : OwnS w W2.heap.size (.slice a2 xs.length c2) xs
  below : Below W.heap.size W w
section
variable {W W1 W2 : World} {sv : Value} {L : Nat} {a1 : Option Addr} {c1 : Nat} {ks : List Int} {a2 : Option Addr} {c2 : Nat} {xs : List Sl} {q q' : Int} {w w' : World}
theorem Rk.go (h : Rk W W1 W2 sv L a1 c1 ks a2 c2 xs q w) (hr : Rd w' W.heap.size sv L q') (ho : Only W.heap.size w w') (h1 : W.heap.size < W1.heap.size) (h2 : W1.heap.size ≤ W2.heap.size) : Rk W W1 W2 sv L a1 c1 ks a2 c2 xs q' w' :=
  ⟨hr, owns_grew h.keys ho.grew h1, owns_grew h.seals ho.grew (Nat.lt_of_lt_of_le h1 h2), h.below.trans (ho.grew.below (Nat.le_refl _) h.below.size)⟩
theorem Rk.drawn (h : Rk W W1 W2 sv L a1 c1 ks a2 c2 xs q w) (h1 : ks.length ≤ 10) (h2 : xs.length ≤ 8) : Drawn W a1 ks a2 xs w := ⟨OwnI.rowAt h.keys, OwnS.rowAt h.seals, h1, h2, h.below⟩
end

set_option maxRecDepth 100000 in
set_option maxHeartbeats 4000000 in
theorem drawRead_any (a : Option Addr) (len cap : Nat) (w : World) (h : Code w a len cap) :
    Calls Try.prog 22 #[.slice a len cap] w fun r w' => ∃ (a1 : Option Addr) (c1 : Nat) (ks : List Int) (a2 : Option Addr) (c2 : Nat) (xs : List Sl), r = .returned (.tuple #[.slice a1 ks.length c1, .slice a2 xs.length c2]) ∧ Drawn w a1 ks a2 xs w' := by
  obtain ⟨i0, hi, hz0, hz1, hz2⟩ := info_parts infoInt
  go_enter Try.func22, Try.ntmps22
  go_wp2_with fail
  refine (l6Open_any a len cap w h).mono ?_
  rintro r w1 ⟨rfl, ⟨sv, L, R1⟩, b1⟩
  have HR : Hid (Rd w1 w.heap.size sv L 0 ∧ Below w.heap.size w w1) := ⟨R1, b1⟩
  clear h R1 b1
  go_wp2_with fail
  refine (l71Keys_any w.heap.size sv L w1 HR.out.1).mono ?_
  rintro r w2 ⟨v1, ks, q, rfl, hk, hq0, hq1, D2⟩
  have H2 : Hid (Dr w1 w.heap.size sv L 3 1 w2 q v1 ks.length (ks.map (Value.int .i64))) := D2
  clear D2
  go_wp2_with fail
  refine (l71Seals_any w.heap.size sv L q w2 H2.out.rd (by omega) (by omega)).mono ?_
  rintro r w3 ⟨v2, xs, q2, rfl, hx, hq20, hq21, D3⟩
  have O3 : OwnI w3 w1.heap.size v1 ks := owns_grew H2.out.own D3.grew H2.out.hbr
  have N3 : Hid (∀ k, v1.ownBlock = some k → w1.heap.size ≤ k ∧ k < w2.heap.size) := fun k hk => H2.out.own.lt k hk
  obtain ⟨a1, c1, rfl, _⟩ := O3.row
  obtain ⟨a2, c2, rfl, _, _, _⟩ := own_row D3.own
  have B3 : Below w.heap.size w w3 := HR.out.2.trans (((H2.out.grew.below (Nat.le_refl _) HR.out.2.size)).trans (D3.grew.below (Nat.le_refl _) (Nat.le_trans HR.out.2.size H2.out.grew.size)))
  have HS : Hid (w.heap.size < w1.heap.size ∧ w1.heap.size ≤ w2.heap.size ∧ w2.heap.size ≤ w3.heap.size) := ⟨H2.out.hbr, H2.out.grew.size, D3.grew.size⟩
  have H3 : Hid (Rk w w1 w2 sv L a1 c1 ks a2 c2 xs q2 w3) := ⟨D3.rd, O3, D3.own, B3⟩
  clear D3 B3 O3 H2 HR
  by_cases hxz : xs.length = 0
  · have hxb : (xs.length : Int) = 0 := by omega
    go_wp2_with fail
    go_ret2
    exact ⟨a1, c1, ks, a2, c2, xs, by rw [hxz]; rfl, H3.out.drawn (by omega) hx⟩
  · have hxb : (0 : Int) < xs.length := by omega
    go_wp2_with fail
    refine (pick_any 3 (by omega) _ _ _ _ _ H3.out.rd (by omega) (by omega)).mono ?_
    rintro r w4 ⟨⟨x, x0, x1, rfl⟩, R4, O4⟩
    have H4 : Hid (Rk w w1 w2 sv L a1 c1 ks a2 c2 xs (q2 + 1) w4) := H3.out.go R4 O4 HS.out.1 HS.out.2.1
    have Z4 : Hid (w3.heap.size ≤ w4.heap.size) := Nat.le_of_eq O4.size.symm
    clear R4 O4 H3
    by_cases hx0 : x = 0
    · subst hx0
      go_wp2_with fail
      go_ret2
      exact ⟨a1, c1, ks, a2, c2, xs, rfl, H4.out.drawn (by omega) hx⟩
    · have hxp : 0 < x := by omega
      go_wp2_with fail
      refine (pick_any (xs.length : Int) (by omega) _ _ _ _ _ H4.out.rd (by omega) (by omega)).mono ?_
      rintro r w5 ⟨⟨y, y0, y1, rfl⟩, R5, O5⟩
      have H5 : Hid (Rk w w1 w2 sv L a1 c1 ks a2 c2 xs (q2 + 1 + 1) w5) := H4.out.go R5 O5 HS.out.1 HS.out.2.1
      have Z5 : Hid (w3.heap.size ≤ w5.heap.size) := Nat.le_trans Z4.out (Nat.le_of_eq O5.size.symm)
      clear R5 O5 H4
      obtain ⟨yn, rfl⟩ : ∃ yn : Nat, y = yn := ⟨y.toNat, by omega⟩
      have hyl : yn < xs.length := by omega
      obtain ⟨s, hs⟩ : ∃ s, xs[yn]? = some s := ⟨xs[yn], List.getElem?_eq_getElem hyl⟩
      rcases OwnS.rowAt H5.out.seals with hz | ⟨b2, off2, rfl, hl2, hr2⟩
      · simp [hz] at hyl
      have c0 := (hr2 yn s hs).c0
      clear hr2
      go_wp2_with (first
        | (at_builtin; refine wpList_append_own_at _ rfl _ _ 22 rfl w1.heap.size 3 i0 (.int .i64 0) 1 8 Try.underlying22 hi hz0 hz1 hz2 rfl (by decide) _ _ _ rfl (World.ownsRow.alloc H5.out.keys _) ⟨w5.heap.size, 0, none⟩ 1 1 [.int .i64 s.k] rfl rfl (cell_one_new _ _ _) (ints_one .i64 s.k) (by unfold maxLen; omega) (by omega) (by have := HS.out; have := Z5.out; simp; omega) ?_; intro v' w6 hown' hgrow hnil hloc)
        | go_in)
      go_ret2
      have o6 : OwnI w6 w1.heap.size v' (ks ++ [s.k]) := by simpa [OwnI] using hown'
      obtain ⟨a6, c6, rfl, r6⟩ := o6.row
      refine ⟨a6, c6, ks ++ [s.k], _, c2, xs, rfl, r6, OwnS.rowAt (World.ownsRow.kept (World.ownsRow.alloc H5.out.seals _) hgrow (Or.inr fun e => ?_)), by simp; omega, hx, (H5.out.below.alloc (by have := HS.out; have := Z5.out; omega) _).grown hgrow (by have := HS.out; have := Z5.out; simp; omega) (fun k hk => by have := (N3.out k hk).1; have := HS.out; omega)⟩
      have q1 := (N3.out b2 (e.symm.trans rfl)).2
      have q2 := (World.ownsRow.lt H5.out.seals b2 rfl).1
      omega

end Go.Proofs.Ytadjphljohdieaa
