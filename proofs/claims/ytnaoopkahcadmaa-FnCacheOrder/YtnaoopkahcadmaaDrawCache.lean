/-
  What is remembered, told, and when, drawn: few seals in new memory; nothing that was there is turned.
-/
import Derived.Test.YtnaoopkahcadmaaKdcMath
import Derived.Test.YtnaoopkahcadmaaAmong
import Derived.Test.YtnaoopkahcadmaaSOwn
import Derived.Test.YtnaoopkahcadmaaKdcRing
import Derived.Test.YtnaoopkahcadmaaDrawRow
import Derived.Deep.DeepCutAuto
import Derived.Deep.CutBlock
namespace Go.Proofs.Ytnaoopkahcadmaa
open Go.RowKit
attribute [local go_sem ↓] Go.wp_at_zero Go.wp_at_succ

/-- On the way: the reader, the row, and where the answer will lie. -/
structure Dc (w : World) (br B : Nat) (sv : Value) (L : Nat) (wr : World) (q : Int) (v : Value) (xs : List Sl) : Prop where
  rd : Rd wr br sv L q
  own : OwnS wr B v xs
  below : Below w.heap.size w wr
  res : wr.heap[w.heap.size]? = some (.cells #[.int .i64 0, .int .i64 0, .int .i64 0, .int .i64 0, .int .i64 0, .int .i64 0, .int .i64 0] 25 (0, 0))
  hb : w.heap.size < br ∧ br < B ∧ B ≤ wr.heap.size
/-- A seal lies in a block of its own. -/
def SBlk (w : World) (b : Nat) (s : Sl) : Prop := w.heap[b]? = some (.cells #[.int .i64 s.k, .int .i64 s.t, .int .i64 s.a, .int .i64 s.b, .int .i64 s.c, .int .i64 s.d, .int .i64 s.e] 25 (0, 0))
theorem SBlk.lt {w : World} {b : Nat} {s : Sl} (h : SBlk w b s) : b < w.heap.size := (Array.getElem?_eq_some_iff.1 h).1
section
variable {w wr w' : World} {br B : Nat} {sv : Value} {L : Nat} {q q' : Int} {v : Value} {xs : List Sl}
theorem Dc.grew (h : Dc w br B sv L wr q v xs) (R : Rd w' br sv L q') (g : Grew br wr w') : Dc w br B sv L w' q' v xs :=
  ⟨R, own_keep h.own fun k hk => g.block k ((World.ownsRow.lt h.own k hk).2) (by have := (World.ownsRow.lt h.own k hk).1; have := h.hb; omega), h.below.trans (g.below (by have := h.hb; omega) h.below.size), (g.block _ (by have := h.hb; omega) (by have := h.hb; omega)).trans h.res, by have := h.hb; have := g.size; omega⟩
theorem Dc.later (h : Dc w br B sv L wr q v xs) (g : Below wr.heap.size wr w') : Dc w br B sv L w' q v xs := h.grew (h.rd.below g) (Below.grew br g)
theorem Dc.alloc (h : Dc w br B sv L wr q v xs) (o : Obj) : Dc w br B sv L (wr.alloc o) q v xs := h.later (Below.alloc_ _ _)
theorem Dc.app {v' : Value} {s : Sl} (h : Dc w br B sv L wr q v xs) (ho : w'.ownsRow B 25 7 v' (xs.length + 1) (cellsL xs ++ s.cs)) (g : wr.grownBy w' v.ownBlock) : Dc w br B sv L w' q v' (xs ++ [s]) := by
  have hlo : ∀ k, v.ownBlock = some k → B ≤ k := fun k hk => (World.ownsRow.lt h.own k hk).1
  have hb := h.hb
  refine ⟨h.rd.stay fun k hk => g.block k (by omega) (fun e => by have := hlo k e.symm; omega), ?_, h.below.grown g h.below.size (fun k hk => by have := hlo k hk; omega), (g.block _ (by omega) (fun e => by have := hlo _ e.symm; omega)).trans h.res, by have := g.size; omega⟩
  unfold OwnS
  rw [cellsL_add, List.length_append, List.length_singleton]
  exact ho
theorem SBlk.grew {b : Nat} {s : Sl} (h : SBlk wr b s) (g : Grew br wr w') (hb : b ≠ br) : SBlk w' b s := (g.block _ h.lt hb).trans h
theorem SBlk.later {b : Nat} {s : Sl} (h : SBlk wr b s) (g : Below wr.heap.size wr w') : SBlk w' b s := (g.block _ h.lt).trans h
theorem SBlk.grown {b : Nat} {s : Sl} {r : Option Nat} (h : SBlk wr b s) (g : wr.grownBy w' r) (hb : some b ≠ r) : SBlk w' b s := (g.block _ h.lt hb).trans h
theorem SBlk.cells {b : Nat} {s : Sl} (h : SBlk wr b s) : SealAt wr b 0 s ∧ ∀ i, wr.frozen? ⟨b, i, none⟩ = false := by
  unfold SBlk at h
  refine ⟨⟨?_, ?_, ?_, ?_, ?_, ?_, ?_⟩, fun i => ?_⟩ <;> simp [World.cell?, World.frozen?, h]
end
theorem Dc.touch {w wr w' : World} {br B : Nat} {sv : Value} {L : Nat} {q : Int} {v : Value} {xs : List Sl} {ab : Nat} (h : Dc w br B sv L wr q v xs) (g : wr.grownBy w' (some ab)) (hab : B ≤ ab) (hne : v.ownBlock ≠ some ab) : Dc w br B sv L w' q v xs := by
  have hb := h.hb
  have hh : ∀ k, k < wr.heap.size → k ≠ ab → w'.heap[k]? = wr.heap[k]? := fun k hk hn => g.block k hk (fun e => hn (by injection e))
  exact ⟨h.rd.stay fun k hk => hh k (by omega) (by omega), own_keep h.own fun k hk => hh k ((World.ownsRow.lt h.own k hk).2) (fun e => hne (e ▸ hk)), h.below.grown g h.below.size (fun k hk => by injection hk with hk; omega), (hh _ (by omega) (by omega)).trans h.res, by have := g.size; omega⟩
theorem below_gr (w : World) (ab : Nat) : w.grownBy w (some ab) := ⟨rfl, rfl, rfl, Nat.le_refl _, fun _ _ _ => rfl⟩
theorem SBlk.put {w : World} {b : Nat} {s : Sl} (h : SBlk w b s) (u : Sl) : SBlk (put7 w b 0 u) b u := by
  unfold SBlk at h ⊢
  simp [put7, World.setCell, Array.getElem?_modify, h]
theorem SBlk.put3 {w : World} {b : Nat} {s : Sl} (h : SBlk w b s) (n : Int) : SBlk (w.setCell ⟨b, 3, none⟩ (.int .i64 n)) b ⟨s.k, s.t, s.a, n, s.c, s.d, s.e⟩ := by
  unfold SBlk at h ⊢
  simp [World.setCell, Array.getElem?_modify, h]
theorem slice_own {w : World} {B g off n c : Nat} {xs : List Sl} (h : OwnS w B (.slice (some ⟨g, off, none⟩) n c) xs) : (Value.slice (some ⟨g, off, none⟩) n c).ownBlock = some g := by
  rcases h.2 with ⟨e, _⟩ | ⟨g', cp, cu, e, _⟩
  · cases e
  · cases e; rfl
/-- How long a row is. -/
def lenOf (v : Value) : Nat := match v with | .slice _ n _ => n | _ => 0
theorem SBlk.new (w : World) (s : Sl) : SBlk (w.alloc (.cells #[.int .i64 s.k, .int .i64 s.t, .int .i64 s.a, .int .i64 s.b, .int .i64 s.c, .int .i64 s.d, .int .i64 s.e] 25)) w.heap.size s := heap_alloc_new _ _
/-- What was drawn: a row of few seals. -/
structure DrawnC (w : World) (a : Option Addr) (c : Nat) (xs : List Sl) (w' : World) : Prop where
  row : SRow w' a xs
  len : xs.length ≤ 40
  cap : xs.length ≤ c
  below : Below w.heap.size w w'
theorem wmax (a b : Int) (h1 : -1000000 ≤ a) (h2 : a ≤ 1000000) (h3 : 0 ≤ b) (h4 : b ≤ 1000) : IntKind.i64.wrap (a - b) = a - b := wrapM (by omega) (by omega)

set_option maxRecDepth 100000 in
set_option maxHeartbeats 8000000 in
theorem drawCache_any (a : Option Addr) (len cap : Nat) (w : World) (h : Code w a len cap) :
    Calls Try.prog 9 #[.slice a len cap] w fun r w' => ∃ (a1 : Option Addr) (c1 : Nat) (xs : List Sl) (s : Sl) (now : Int), r = .returned (.tuple #[.slice a1 xs.length c1, .agg #[.int .i64 s.k, .int .i64 s.t, .int .i64 s.a, .int .i64 s.b, .int .i64 s.c, .int .i64 s.d, .int .i64 s.e], .int .i64 now]) ∧ DrawnC w a1 c1 xs w' := by
  obtain ⟨i0, hi, hz0, hz1, hz2⟩ := info_parts infoSealM
  go_enter Try.func9, Try.ntmps9
  have h0 : Hid (Code (w.alloc (.cells #[.int .i64 0, .int .i64 0, .int .i64 0, .int .i64 0, .int .i64 0, .int .i64 0, .int .i64 0] 25)) a len cap) := h.below (Below.alloc_ _ _)
  clear h
  go_wp2_with fail
  refine (l6Open_any a len cap _ h0.out).mono ?_
  rintro r w1 ⟨rfl, ⟨sv, L, R1⟩, b1⟩
  obtain ⟨br, hbr⟩ : ∃ br, br = w.heap.size + 1 := ⟨_, rfl⟩
  have e1 : (w.alloc (.cells #[.int .i64 0, .int .i64 0, .int .i64 0, .int .i64 0, .int .i64 0, .int .i64 0, .int .i64 0] 25)).heap.size = br := by simp [hbr]
  rw [e1] at R1 b1 ⊢
  have hlt1 := R1.lt
  have T1 : Hid (Rd w1 br sv L 0 ∧ Below w.heap.size w w1 ∧ w1.heap[w.heap.size]? = some (.cells #[.int .i64 0, .int .i64 0, .int .i64 0, .int .i64 0, .int .i64 0, .int .i64 0, .int .i64 0] 25 (0, 0))) := ⟨R1, (Below.alloc_ _ _).trans (b1.mono (by omega)), (b1.block _ (by omega)).trans (heap_alloc_new _ _)⟩
  have hbw : w.heap.size < br := by omega
  clear R1 b1 e1 hbr h0
  go_wp2_with fail
  refine (pick_any 9 (by omega) _ _ _ _ _ T1.out.1 (by omega) (by omega)).mono ?_
  rintro r w2 ⟨⟨now, n0, n1, rfl⟩, R2, O2⟩
  have hz2' : w2.heap.size = w1.heap.size := O2.size
  obtain ⟨B, hB⟩ : ∃ B, B = w2.heap.size := ⟨_, rfl⟩
  have T2 : Hid (Dc w br B sv L (w2.alloc (.cells #[] 25)) 1 (.slice (some ⟨B, 0, none⟩) 0 0) []) := by
    have q2 : Dc w br B sv L w2 1 (.slice none 0 0) [] := ⟨R2, World.ownsRow_nil _ _ _ _, T1.out.2.1.trans (O2.grew.below (by omega) T1.out.2.1.size), (O2.block _ (by omega)).trans T1.out.2.2, by omega⟩
    refine ⟨(q2.alloc _).rd, ?_, (q2.alloc _).below, (q2.alloc _).res, (q2.alloc _).hb⟩
    rw [hB]
    exact OwnS.zero w2 (Nat.le_refl _)
  have HBB : Hid (B = w2.heap.size) := hB
  clear T1 R2 O2 hz2' hB
  go_wp2_with fail
  rw [← HBB.out]
  refine (pick_any 5 (by omega) _ _ _ _ _ T2.out.rd (by omega) (by omega)).mono ?_
  rintro r w3 ⟨⟨m, m0, m1, rfl⟩, R3, O3⟩
  have T3 : Hid (Dc w br B sv L w3 (1 + 1) (.slice (some ⟨B, 0, none⟩) 0 0) []) := T2.out.grew R3 O3.grew
  clear T2 R3 O3 HBB hlt1
  go_wp2_with fail
  go_loopw [7, 8] (fun v i wr => ∃ (m : Nat) (xs : List Sl) (q : Int), i = .int .i64 m ∧ m + xs.length ≤ 4 ∧ 0 ≤ q ∧ q ≤ 2 + 4 * (4 - (m : Int)) ∧ Hid (Dc w br B sv L wr q v xs)) (fun _ i _ => (intOf i).toNat)
  case atStart => exact ⟨m.toNat, [], 1 + 1, by simp; omega, by simp; omega, by omega, by omega, T3⟩
  case round =>
    clear T3
    obtain ⟨m, xs, q, rfl, hm, hq0, hq1, C⟩ := hrel
    by_cases hz : m = 0
    · subst hz
      go_upto_region 10 with fail
      go_cut [10] (fun v10 wc => ∃ (ab : Nat) (s : Sl) (q : Int), v10 = .pointer (some ⟨ab, 0, none⟩) ∧ 0 ≤ q ∧ q ≤ 40 ∧ Hid (Dc w br B sv L wc q u7 xs ∧ SBlk wc ab s ∧ B ≤ ab ∧ u7.ownBlock ≠ some ab))
      case first =>
        go_wp2_with fail
        refine (l71Key_any _ _ _ _ _ C.out.rd (by omega) (by omega)).mono ?_
        rintro r w4 ⟨⟨k, rfl⟩, R4, O4⟩
        have C4 : Hid (Dc w br B sv L w4 (q + 1) u7 xs) := C.out.grew R4 O4.grew
        clear C R4 O4
        go_wp2_with fail
        refine (pick_any 3 (by omega) _ _ _ _ _ C4.out.rd (by omega) (by omega)).mono ?_
        rintro r w5 ⟨⟨x5, x50, x51, rfl⟩, R5, O5⟩
        have C5 : Hid (Dc w br B sv L w5 (q + 1 + 1) u7 xs) := C4.out.grew R5 O5.grew
        clear C4 R5 O5
        have hx5 : IntKind.i64.wrap (1 + x5) = 1 + x5 := wrapM (by omega) (by omega)
        go_wp2_with fail
        refine (pick_any 3 (by omega) _ _ _ _ _ C5.out.rd (by omega) (by omega)).mono ?_
        rintro r w6 ⟨⟨x6, x60, x61, rfl⟩, R6, O6⟩
        have C6 : Hid (Dc w br B sv L w6 (q + 1 + 1 + 1) u7 xs) := C5.out.grew R6 O6.grew
        clear C5 R6 O6
        have hx6 : IntKind.i64.wrap (now - x6) = now - x6 := wrapM (by omega) (by omega)
        by_cases hmx : now - x6 < 0
        · go_wp2_with fail
          refine (pick_any 9 (by omega) _ _ _ _ _ C6.out.rd (by omega) (by omega)).mono ?_
          rintro r w7 ⟨⟨x7, x70, x71, rfl⟩, R7, O7⟩
          have C7 : Hid (Dc w br B sv L w7 (q + 1 + 1 + 1 + 1) u7 xs) := C6.out.grew R7 O7.grew
          clear C6 R7 O7
          have hx7 : IntKind.i64.wrap (1 + x7) = 1 + x7 := wrapM (by omega) (by omega)
          go_wp2_with fail
          go_meet
          case rel => exact ⟨w7.heap.size, ⟨k, 3, 1 + x5, 0, 1 + x7, 0, 0⟩, q + 1 + 1 + 1 + 1, rfl, by omega, by omega, C7.out.alloc _, SBlk.new w7 ⟨k, 3, 1 + x5, 0, 1 + x7, 0, 0⟩, C7.out.hb.2.2, fun e => by have := (World.ownsRow.lt C7.out.own _ e).2; omega⟩
        · go_wp2_with fail
          refine (pick_any 9 (by omega) _ _ _ _ _ C6.out.rd (by omega) (by omega)).mono ?_
          rintro r w7 ⟨⟨x7, x70, x71, rfl⟩, R7, O7⟩
          have C7 : Hid (Dc w br B sv L w7 (q + 1 + 1 + 1 + 1) u7 xs) := C6.out.grew R7 O7.grew
          clear C6 R7 O7
          have hx7 : IntKind.i64.wrap (1 + x7) = 1 + x7 := wrapM (by omega) (by omega)
          go_wp2_with fail
          go_meet
          case rel => exact ⟨w7.heap.size, ⟨k, 3, 1 + x5, now - x6, 1 + x7, 0, 0⟩, q + 1 + 1 + 1 + 1, rfl, by omega, by omega, C7.out.alloc _, SBlk.new w7 ⟨k, 3, 1 + x5, now - x6, 1 + x7, 0, 0⟩, C7.out.hb.2.2, fun e => by have := (World.ownsRow.lt C7.out.own _ e).2; omega⟩
      case rest =>
        clear C
        obtain ⟨ab, s, q, rfl, hq0, hq1, C⟩ := hcut
        go_wp2_with fail
        refine (pick_any 12 (by omega) _ _ _ _ _ C.out.1.rd (by omega) (by omega)).mono ?_
        rintro r w8 ⟨⟨x8, x80, x81, rfl⟩, R8, O8⟩
        have C8 : Hid (Dc w br B sv L w8 (q + 1) u7 xs ∧ SBlk w8 ab s ∧ B ≤ ab ∧ u7.ownBlock ≠ some ab) := ⟨C.out.1.grew R8 O8.grew, C.out.2.1.grew O8.grew (by have := C.out.1.hb; have := C.out.2.2.1; omega), C.out.2.2⟩
        clear C R8 O8
        go_upto_block 2 with fail
        go_cut [7] (fun v7 wc => ∃ (xs' : List Sl) (s' : Sl) (q' : Int), 0 ≤ q' ∧ q' ≤ 100 ∧ xs'.length ≤ 30 ∧ Hid (Dc w br B sv L wc q' v7 xs' ∧ SBlk wc ab s' ∧ B ≤ ab))
        case first =>
          obtain ⟨c0, fz⟩ := C8.out.2.1.cells
          obtain ⟨c0, c1, c2, c3, c4, c5, c6⟩ := c0
          simp only [Nat.zero_add] at c1 c2 c3 c4 c5 c6
          have hbb := C8.out.1.hb
          have hab := C8.out.2.2.1
          have hal := C8.out.2.1.lt
          by_cases y0 : x8 = 0
          · subst y0
            clear c0 c1 c2 c3 c4 c5 c6 fz
            go_wp2_with fail
            refine (l71Seal_any _ _ _ _ _ C8.out.1.rd (by omega) (by omega)).mono ?_
            rintro r w9 ⟨⟨k, t, sa, sb, sc, sd, se, rfl⟩, q9, hq90, hq91, R9, G9⟩
            have C9 : Hid (Dc w br B sv L w9 q9 u7 xs ∧ SBlk w9 ab s ∧ B ≤ ab ∧ u7.ownBlock ≠ some ab) := ⟨C8.out.1.grew R9 G9, C8.out.2.1.grew G9 (by omega), C8.out.2.2⟩
            clear C8 R9 G9
            obtain ⟨c0, fz⟩ := C9.out.2.1.cells
            obtain ⟨c0, c1, c2, c3, c4, c5, c6⟩ := c0
            simp only [Nat.zero_add] at c1 c2 c3 c4 c5 c6
            go_wp2_with fail
            go_meet
            case rel => exact ⟨xs, ⟨k, t, sa, sb, sc, sd, se⟩, q9, hq90, by omega, by omega, Dc.touch C9.out.1 (put7_grown (s := ⟨k, t, sa, sb, sc, sd, se⟩) (o := 0) (below_gr w9 ab)) hab C9.out.2.2.2, C9.out.2.1.put ⟨k, t, sa, sb, sc, sd, se⟩, hab⟩
          by_cases y1 : x8 = 1
          · subst y1
            obtain ⟨a7, c7, hv7, r7⟩ := C8.out.1.own.row
            have HV : Hid (u7 = .slice a7 xs.length c7) := hv7
            rw [HV.out]
            by_cases hxz : xs.length = 0
            · have hxb : (xs.length : Int) = 0 := by omega
              have HX : Hid (xs.length = 0) := hxz
              clear c0 c1 c2 c3 c4 c5 c6 fz hxz
              go_wp2_with fail
              go_meet
              case rel => exact ⟨xs, s, q + 1, by omega, by omega, by omega, HV.out ▸ C8.out.1, C8.out.2.1, hab⟩
            · have hxb : (0 : Int) < xs.length := by omega
              clear c0 c1 c2 c3 c4 c5 c6 fz
              go_wp2_with fail
              refine (pick_any (xs.length : Int) (by omega) _ _ _ _ _ C8.out.1.rd (by omega) (by omega)).mono ?_
              rintro r w9 ⟨⟨y, hy0, hy1, rfl⟩, R9, O9⟩
              have C9 : Hid (Dc w br B sv L w9 (q + 1 + 1) u7 xs ∧ SBlk w9 ab s ∧ B ≤ ab ∧ u7.ownBlock ≠ some ab) := ⟨C8.out.1.grew R9 O9.grew, C8.out.2.1.grew O9.grew (by omega), C8.out.2.2⟩
              clear C8 R9 O9
              obtain ⟨yn, rfl⟩ : ∃ yn : Nat, y = yn := ⟨y.toNat, by omega⟩
              have hyl : yn < xs.length := by omega
              obtain ⟨u, hu⟩ : ∃ u, xs[yn]? = some u := ⟨xs[yn], List.getElem?_eq_getElem hyl⟩
              have r9 : SRow w9 a7 xs := OwnS.rowAt (HV.out ▸ C9.out.1.own)
              rcases r9 with hz | ⟨b2, off2, rfl, hl2, hr2⟩
              · simp [hz] at hyl
              have hne2 : b2 ≠ ab := by
                rintro rfl
                exact C9.out.2.2.2 (by rw [HV.out]; exact slice_own (HV.out ▸ C9.out.1.own : OwnS w9 B (.slice (some ⟨b2, off2, none⟩) xs.length c7) xs))
              obtain ⟨g0, g1, g2, g3, g4, g5, g6⟩ := hr2 yn u hu
              clear hr2
              obtain ⟨c0, fz⟩ := C9.out.2.1.cells
              obtain ⟨c0, c1, c2, c3, c4, c5, c6⟩ := c0
              simp only [Nat.zero_add] at c1 c2 c3 c4 c5 c6
              go_wp2_with fail
              go_meet
              case rel => exact ⟨xs, u, q + 1 + 1, by omega, by omega, by omega, HV.out ▸ Dc.touch C9.out.1 (put7_grown (s := u) (o := 0) (below_gr w9 ab)) hab C9.out.2.2.2, C9.out.2.1.put u, hab⟩
          by_cases y2 : x8 = 2
          · subst y2
            have hwn : IntKind.i64.wrap (now + 1) = now + 1 := wrapM (by omega) (by omega)
            go_wp2_with fail
            go_meet
            case rel => exact ⟨xs, ⟨s.k, s.t, s.a, now + 1, s.c, s.d, s.e⟩, q + 1, by omega, by omega, by omega, Dc.touch C8.out.1 (set_grown (below_gr w8 ab)) hab C8.out.2.2.2, C8.out.2.1.put3 (now + 1), hab⟩
          by_cases y3 : x8 = 3
          · subst y3
            clear c0 c1 c2 c3 c4 c5 c6 fz
            go_wp2_with fail
            go_loopw [7] (fun v wr => ∃ (ys : List Sl) (p : Int), ys.length ≤ 21 ∧ 0 ≤ p ∧ p ≤ 42 + (ys.length : Int) ∧ Hid (Dc w br B sv L wr p v ys ∧ SBlk wr ab s ∧ B ≤ ab ∧ v.ownBlock ≠ some ab)) (fun v _ => 22 - lenOf v)
            case atStart => exact ⟨xs, q + 1, by omega, by omega, by omega, C8⟩
            case round =>
              clear C8
              obtain ⟨ys, p, hy, hp0, hp1, C⟩ := hrel
              obtain ⟨a9, c9, rfl, r9⟩ := C.out.1.own.row
              clear r9
              go_wp2_with fail
              refine (pick_any 2 (by omega) _ _ _ _ _ C.out.1.rd (by omega) (by omega)).mono ?_
              rintro r w9 ⟨⟨y, hy0, hy1, rfl⟩, R9, O9⟩
              have C9 : Hid (Dc w br B sv L w9 (p + 1) (.slice a9 ys.length c9) ys ∧ SBlk w9 ab s ∧ B ≤ ab ∧ (Value.slice a9 ys.length c9).ownBlock ≠ some ab) := ⟨C.out.1.grew R9 O9.grew, C.out.2.1.grew O9.grew (by omega), C.out.2.2⟩
              have h9 := C9.out.1.hb
              clear C R9 O9
              have hw20 : IntKind.i64.wrap (20 + y) = 20 + y := wrapM (by omega) (by omega)
              have hw30 : IntKind.i64.wrap (30 + (ys.length : Int)) = 30 + (ys.length : Int) := wrapM (by omega) (by omega)
              by_cases hyl : (ys.length : Int) < 20 + y
              · obtain ⟨u, hs⟩ : ∃ u : Sl, u = ⟨30 + (ys.length : Int), 3, 1, now, 1, 0, 0⟩ := ⟨_, rfl⟩
                have HS : Hid (u = ⟨30 + (ys.length : Int), 3, 1, now, 1, 0, 0⟩) := hs
                have hcs : u.cs = [.int .i64 (30 + (ys.length : Int)), .int .i64 3, .int .i64 1, .int .i64 now, .int .i64 1, .int .i64 0, .int .i64 0] := by rw [hs]; rfl
                clear hs
                go_wp2_with (first
                  | (at_builtin; refine wpList_append_own_at _ rfl _ _ 23 rfl B 25 i0 (.agg #[.int .i64 0, .int .i64 0, .int .i64 0, .int .i64 0, .int .i64 0, .int .i64 0, .int .i64 0]) 7 56 Try.underlying23 hi hz0 hz1 hz2 rfl (by decide) _ _ _ rfl (C9.out.1.own.alloc _) ⟨w9.heap.size, 0, none⟩ 1 1 u.cs rfl (by rw [hcs]; rfl) (cs_at ⟨by go_simp; rw [HS.out], by go_simp; rw [HS.out], by go_simp; rw [HS.out], by go_simp; rw [HS.out], by go_simp; rw [HS.out], by go_simp; rw [HS.out], by go_simp; rw [HS.out]⟩) (cs_one u) (by unfold maxLen; omega) (by omega) (by simp; omega) ?_; intro v' w6 hown' hgrow hnil hloc)
                  | go_in)
                have C10 := (C9.out.1.alloc _).app hown' hgrow
                obtain ⟨a10, c10, hv10, _⟩ := C10.own.row
                have hl10 : lenOf v' = ys.length + 1 := by rw [hv10]; simp [lenOf]
                have hl9 : lenOf (.slice a9 ys.length c9) = ys.length := rfl
                have hne : v'.ownBlock ≠ some ab := by
                  rcases hloc with e | e
                  · rw [e]; exact C9.out.2.2.2
                  · rw [e]
                    intro e2
                    have := C9.out.2.1.lt
                    simp at e2
                    omega
                have K10 := (C9.out.2.1.later (Below.alloc_ w9 (.cells #[.int .i64 (30 + (ys.length : Int)), .int .i64 3, .int .i64 1, .int .i64 now, .int .i64 1, .int .i64 0, .int .i64 0] 25))).grown hgrow (Ne.symm C9.out.2.2.2)
                refine ⟨⟨ys ++ [u], p + 1, by simp; omega, by omega, by simp; omega, C10, K10, C9.out.2.2.1, hne⟩, ?_⟩
                simp only [hl9]
                simp [hl10]
                omega
              · go_wp2_with fail
                go_meet
                case rel => exact ⟨ys, s, p + 1, by omega, by omega, by omega, C9.out.1, C9.out.2.1, hab⟩
          by_cases y4 : x8 = 4
          · subst y4
            clear c0 c1 c2 c3 c4 c5 c6 fz
            go_wp2_with fail
            refine (l71Seal_any _ _ _ _ _ C8.out.1.rd (by omega) (by omega)).mono ?_
            rintro r w9 ⟨⟨k, t, sa, sb, sc, sd, se, rfl⟩, q9, hq90, hq91, R9, G9⟩
            have C9 : Hid (Dc w br B sv L w9 q9 u7 xs ∧ SBlk w9 ab s ∧ B ≤ ab ∧ u7.ownBlock ≠ some ab) := ⟨C8.out.1.grew R9 G9, C8.out.2.1.grew G9 (by omega), C8.out.2.2⟩
            have h9 := C9.out.1.hb
            clear C8 R9 G9
            obtain ⟨u, hs⟩ : ∃ u : Sl, u = ⟨k, t, sa, sb, sc, sd, se⟩ := ⟨_, rfl⟩
            have HS : Hid (u = ⟨k, t, sa, sb, sc, sd, se⟩) := hs
            have hcs : u.cs = [.int .i64 k, .int .i64 t, .int .i64 sa, .int .i64 sb, .int .i64 sc, .int .i64 sd, .int .i64 se] := by rw [hs]; rfl
            clear hs
            go_wp2_with (first
              | (at_builtin; refine wpList_append_own_at _ rfl _ _ 23 rfl B 25 i0 (.agg #[.int .i64 0, .int .i64 0, .int .i64 0, .int .i64 0, .int .i64 0, .int .i64 0, .int .i64 0]) 7 56 Try.underlying23 hi hz0 hz1 hz2 rfl (by decide) _ _ _ rfl (C9.out.1.own.alloc _) ⟨w9.heap.size, 0, none⟩ 1 1 u.cs rfl (by rw [hcs]; rfl) (cs_at ⟨by go_simp; rw [HS.out], by go_simp; rw [HS.out], by go_simp; rw [HS.out], by go_simp; rw [HS.out], by go_simp; rw [HS.out], by go_simp; rw [HS.out], by go_simp; rw [HS.out]⟩) (cs_one u) (by unfold maxLen; omega) (by omega) (by simp; omega) ?_; intro v' w6 hown' hgrow hnil hloc)
              | go_in)
            go_meet
            case rel =>
              have C10 := (C9.out.1.alloc _).app hown' hgrow
              exact ⟨xs ++ [u], s, q9, hq90, by omega, by simp; omega, C10, (C9.out.2.1.later (Below.alloc_ _ _)).grown hgrow (Ne.symm C9.out.2.2.2), hab⟩
          have d0 : ¬ x8 = 0 := y0
          clear c0 c1 c2 c3 c4 c5 c6 fz
          go_wp2_with fail
          go_meet
          case rel => exact ⟨xs, s, q + 1, by omega, by omega, by omega, C8.out.1, C8.out.2.1, hab⟩
        case rest =>
          clear C8
          obtain ⟨xs', s', q', hq'0, hq'1, hx', C⟩ := hcut
          have hab := C.out.2.2
          obtain ⟨a7, c7, hv7, r7⟩ := C.out.1.own.row
          obtain ⟨_, _, hcc, hcap, _⟩ := own_row C.out.1.own
          have HV : Hid (u7 = .slice a7 xs'.length c7 ∧ xs'.length ≤ c7) := ⟨hv7, by rw [hv7] at hcc; injection hcc with e1 e2 e3; omega⟩
          clear hv7 r7 hcc hcap
          have HC := C
          clear C
          go_wp2_with fail
          refine wp_region_held_drew (S := fun w' => SealAt w' ab 0 s') (by kernel_rfl) (HC.out.2.1.later (Below.refl _ _).drew).cells.1 (fun hS => ?_)
          have D : Hid (Dc w br B sv L _ q' u7 xs' ∧ SBlk _ ab s') := ⟨HC.out.1.later (Below.refl _ _).drew, HC.out.2.1.later (Below.refl _ _).drew⟩
          clear HC
          generalize World.drew _ = W4 at hS D ⊢
          refine take1 0 104 (u7) rfl rfl (by kernel_rfl) (by kernel_rfl) (by kernel_rfl) (by rfl) (fun _ _ _ h => h) hS (fun w' hS' => ?_) ?_
          · (go_simp) <;> (intro hx9; omega)
          simp only [Act.put, List.setIfInBounds_toArray, List.set_cons_zero, List.set_cons_succ]
          refine take1 1 105 (Value.agg #[.int .i64 s'.k, .int .i64 s'.t, .int .i64 s'.a, .int .i64 s'.b, .int .i64 s'.c, .int .i64 s'.d, .int .i64 s'.e]) rfl rfl (by kernel_rfl) (by kernel_rfl) (by kernel_rfl) (by rfl) (fun _ _ _ h => h) hS (fun w' hS' => ?_) ?_
          · obtain ⟨c0, c1, c2, c3, c4, c5, c6⟩ := hS'
            simp only [Nat.zero_add] at c1 c2 c3 c4 c5 c6
            (go_simp) <;> (intro hx9; omega)
          simp only [Act.put, List.setIfInBounds_toArray, List.set_cons_zero, List.set_cons_succ]
          refine take1 2 106 (.int .i64 now) rfl rfl (by kernel_rfl) (by kernel_rfl) (by kernel_rfl) (by rfl) (fun _ _ _ h => h) hS (fun w' hS' => ?_) ?_
          · (go_simp) <;> (intro hx9; omega)
          simp only [Act.put, List.setIfInBounds_toArray, List.set_cons_zero, List.set_cons_succ]
          refine take1 3 107 (Value.pointer (some ⟨br, 0, none⟩)) rfl rfl (by kernel_rfl) (by kernel_rfl) (by kernel_rfl) (by rfl) (fun _ _ _ h => h) hS (fun w' hS' => ?_) ?_
          · (go_simp) <;> (intro hx9; omega)
          simp only [Act.put, List.setIfInBounds_toArray, List.set_cons_zero, List.set_cons_succ]
          refine wpAnyH_ready (rs := [4]) (by kernel_rfl) (by simp) ?_
          refine AllReadyH.cons rfl (fun K hK => ?_) AllReadyH.nil
          go_simp
          refine (pick_any 30 (by omega) _ _ _ _ _ D.out.1.rd (by omega) (by omega)).mono ?_
          rintro r w9 ⟨⟨x, hx0, hx1, rfl⟩, R9, O9⟩
          have D9 : Hid (Dc w br B sv L w9 (q' + 1) u7 xs' ∧ SBlk w9 ab s') := ⟨D.out.1.grew R9 O9.grew, D.out.2.grew O9.grew (by have := D.out.1.hb; omega)⟩
          have S9 : SealAt w9 ab 0 s' := D9.out.2.cells.1
          clear D R9 O9
          refine hK.out _ _ S9 (fun hS => ?_)
          clear hK K S9
          obtain ⟨y, hy⟩ : ∃ y, y = x.tdiv 29 := ⟨_, rfl⟩
          have hy0 : 0 ≤ y := by rw [hy]; exact Int.tdiv_nonneg hx0 (by omega)
          have hy1 : y ≤ 1 := by rw [hy, Int.tdiv_eq_ediv_of_nonneg hx0]; omega
          have HY : Hid (y = x.tdiv 29) := hy
          clear hy
          have hw1 : IntKind.i64.wrap (y * 100) = y * 100 := wrapM (by omega) (by omega)
          have hw2 : IntKind.i64.wrap (now + y * 100) = now + y * 100 := wrapM (by omega) (by omega)
          refine take1 5 109 (.int .i64 y) rfl rfl (by kernel_rfl) (by kernel_rfl) (by kernel_rfl) (by rfl) (fun _ _ _ h => h) hS (fun w' hS' => ?_) ?_
          · have hq9 := HY.out
            have hq8 : IntKind.i64.wrap (x.tdiv 29) = x.tdiv 29 := by rw [← HY.out]; exact wrapM (by omega) (by omega)
            (go_simp) <;> (intro hx9; omega)
          simp only [Act.put, List.setIfInBounds_toArray, List.set_cons_zero, List.set_cons_succ]
          refine take1 6 110 (.int .i64 (y * 100)) rfl rfl (by kernel_rfl) (by kernel_rfl) (by kernel_rfl) (by rfl) (fun _ _ _ h => h) hS (fun w' hS' => ?_) ?_
          · (go_simp) <;> (intro hx9; omega)
          simp only [Act.put, List.setIfInBounds_toArray, List.set_cons_zero, List.set_cons_succ]
          refine take1 7 111 (.int .i64 (now + y * 100)) rfl rfl (by kernel_rfl) (by kernel_rfl) (by kernel_rfl) (by rfl) (fun _ _ _ h => h) hS (fun w' hS' => ?_) ?_
          · (go_simp) <;> (intro hx9; omega)
          simp only [Act.put, List.setIfInBounds_toArray, List.set_cons_zero, List.set_cons_succ]
          refine take1 8 2 (u7) rfl rfl (by kernel_rfl) (by kernel_rfl) (by kernel_rfl) (by rfl) (fun _ _ _ h => h) hS (fun w' hS' => ?_) ?_
          · (go_simp) <;> (intro hx9; omega)
          simp only [Act.put, List.setIfInBounds_toArray, List.set_cons_zero, List.set_cons_succ]
          refine wpAnyH_ready (rs := [9]) (by kernel_rfl) (by simp) ?_
          refine AllReadyH.cons rfl (fun K hK => ?_) AllReadyH.nil
          have hR := D9.out.1.res
          obtain ⟨z0, z1, z2, z3, z4, z5, z6, zf⟩ := cells7r hR
          have hbb := D9.out.1.hb
          go_simp
          have E9 : SRow (put7 w9 w.heap.size 0 s') a7 xs' ∧ Below w.heap.size w (put7 w9 w.heap.size 0 s') ∧ SealAt (put7 w9 w.heap.size 0 s') ab 0 s' ∧ SealAt (put7 w9 w.heap.size 0 s') w.heap.size 0 s' := by
            refine ⟨?_, put7_below D9.out.1.below (Nat.le_refl _), ?_, put7_at fun i hi => ?_⟩
            · have ho : OwnS w9 B (.slice a7 xs'.length c7) xs' := HV.out.1 ▸ D9.out.1.own
              exact OwnS.rowAt (own_keep ho fun k hk => put7_heap (by have := (World.ownsRow.lt ho k hk).1; omega))
            · have d := D9.out.2.cells.1
              exact ⟨(put7_else (by omega)).trans d.c0, (put7_else (by omega)).trans d.c1, (put7_else (by omega)).trans d.c2, (put7_else (by omega)).trans d.c3, (put7_else (by omega)).trans d.c4, (put7_else (by omega)).trans d.c5, (put7_else (by omega)).trans d.c6⟩
            · obtain rfl | rfl | rfl | rfl | rfl | rfl | rfl : i = 0 ∨ i = 1 ∨ i = 2 ∨ i = 3 ∨ i = 4 ∨ i = 5 ∨ i = 6 := by omega
              all_goals first | exact ⟨_, z0⟩ | exact ⟨_, z1⟩ | exact ⟨_, z2⟩ | exact ⟨_, z3⟩ | exact ⟨_, z4⟩ | exact ⟨_, z5⟩ | exact ⟨_, z6⟩
          change K _ (put7 w9 w.heap.size 0 s')
          clear hR z0 z1 z2 z3 z4 z5 z6 zf
          generalize put7 w9 w.heap.size 0 s' = WE at E9 ⊢
          refine hK.out _ _ E9.2.2.1 (fun hS => ?_)
          clear hK K
          refine take1 10 4 (.int .i64 (now + y * 100)) rfl rfl (by kernel_rfl) (by kernel_rfl) (by kernel_rfl) (by rfl) (fun _ _ _ h => h) hS (fun w' hS' => ?_) ?_
          · (go_simp) <;> (intro hx9; omega)
          simp only [Act.put, List.setIfInBounds_toArray, List.set_cons_zero, List.set_cons_succ]
          refine wpAnyH_done (by kernel_rfl) ?_ _
          clear hS
          obtain ⟨c0, c1, c2, c3, c4, c5, c6⟩ := E9.2.2.2
          simp only [Nat.zero_add] at c1 c2 c3 c4 c5 c6
          have HE : Hid (SRow WE a7 xs' ∧ Below w.heap.size w WE) := ⟨E9.1, E9.2.1⟩
          clear E9
          go_wp2_with fail
          refine bodyPost_ret (v := .tuple #[.slice a7 xs'.length c7, Value.agg #[.int .i64 s'.k, .int .i64 s'.t, .int .i64 s'.a, .int .i64 s'.b, .int .i64 s'.c, .int .i64 s'.d, .int .i64 s'.e], .int .i64 (now + y * 100)]) ?_ rfl ⟨a7, c7, xs', s', now + y * 100, rfl, HE.out.1, by omega, HV.out.2, HE.out.2⟩
          rw [HV.out.1]
          simp [results, Try.results9, go_sem, c0, c1, c2, c3, c4, c5, c6]
    · go_wp2_with fail
      refine (l71Key_any _ _ _ _ _ C.out.rd (by omega) (by omega)).mono ?_
      rintro r w4 ⟨⟨k, rfl⟩, R4, O4⟩
      have C4 : Hid (Dc w br B sv L w4 (q + 1) u7 xs) := C.out.grew R4 O4.grew
      clear C R4 O4
      go_wp2_with fail
      refine (pick_any 3 (by omega) _ _ _ _ _ C4.out.rd (by omega) (by omega)).mono ?_
      rintro r w5 ⟨⟨x5, x50, x51, rfl⟩, R5, O5⟩
      have C5 : Hid (Dc w br B sv L w5 (q + 1 + 1) u7 xs) := C4.out.grew R5 O5.grew
      clear C4 R5 O5
      have hx5 : IntKind.i64.wrap (1 + x5) = 1 + x5 := wrapM (by omega) (by omega)
      go_wp2_with fail
      refine (pick_any 5 (by omega) _ _ _ _ _ C5.out.rd (by omega) (by omega)).mono ?_
      rintro r w6 ⟨⟨x6, x60, x61, rfl⟩, R6, O6⟩
      have C6 : Hid (Dc w br B sv L w6 (q + 1 + 1 + 1) u7 xs) := C5.out.grew R6 O6.grew
      clear C5 R6 O6
      have hx6 : IntKind.i64.wrap (now - x6) = now - x6 := wrapM (by omega) (by omega)
      by_cases hmx : now - x6 < 0
      · go_wp2_with fail
        refine (pick_any 9 (by omega) _ _ _ _ _ C6.out.rd (by omega) (by omega)).mono ?_
        rintro r w7 ⟨⟨x7, x70, x71, rfl⟩, R7, O7⟩
        have C7 : Hid (Dc w br B sv L w7 (q + 1 + 1 + 1 + 1) u7 xs) := C6.out.grew R7 O7.grew
        clear C6 R7 O7
        have hx7 : IntKind.i64.wrap (1 + x7) = 1 + x7 := wrapM (by omega) (by omega)
        obtain ⟨s, hs⟩ : ∃ s : Sl, s = ⟨k, 3, 1 + x5, 0, 1 + x7, 0, 0⟩ := ⟨_, rfl⟩
        have hcs : s.cs = [.int .i64 k, .int .i64 3, .int .i64 (1 + x5), .int .i64 (0), .int .i64 (1 + x7), .int .i64 0, .int .i64 0] := by rw [hs]; rfl
        have hsb := C7.out.hb
        have C8 : Hid (Dc w br B sv L (w7.alloc (.cells #[.int .i64 k, .int .i64 3, .int .i64 (1 + x5), .int .i64 (0), .int .i64 (1 + x7), .int .i64 0, .int .i64 0] 25)) (q + 1 + 1 + 1 + 1) u7 xs) := C7.out.alloc _
        have K8 : Hid (SBlk (w7.alloc (.cells #[.int .i64 k, .int .i64 3, .int .i64 (1 + x5), .int .i64 (0), .int .i64 (1 + x7), .int .i64 0, .int .i64 0] 25)) w7.heap.size s) := by rw [hs]; exact SBlk.new w7 ⟨k, 3, 1 + x5, 0, 1 + x7, 0, 0⟩
        obtain ⟨a7, c7, hv7, r7⟩ := C8.out.own.row
        have HV : Hid (u7 = .slice a7 xs.length c7 ∧ SRow (w7.alloc (.cells #[.int .i64 k, .int .i64 3, .int .i64 (1 + x5), .int .i64 (0), .int .i64 (1 + x7), .int .i64 0, .int .i64 0] 25)) a7 xs) := ⟨hv7, r7⟩
        have HS : Hid (s = ⟨k, 3, 1 + x5, 0, 1 + x7, 0, 0⟩) := hs
        clear hv7 r7 hs C7
        go_wp2_with fail
        rw [HV.out.1]
        refine (l3Among_any a7 c7 xs ⟨k, 3, 1 + x5, 0, 1 + x7, 0, 0⟩ _ HV.out.2 (by omega)).mono ?_
        rintro r w9 ⟨rfl, b9⟩
        rw [← HV.out.1]
        have C9 : Hid (Dc w br B sv L w9 (q + 1 + 1 + 1 + 1) u7 xs) := C8.out.later b9
        have K9 := (K8.out.later b9).cells.1
        have L9 : w7.heap.size < w9.heap.size := (K8.out.later b9).lt
        rw [HS.out] at K9
        obtain ⟨d0, d1, d2, d3, d4, d5, d6⟩ := K9
        simp only [Nat.zero_add] at d1 d2 d3 d4 d5 d6
        have hb9 := C9.out.hb
        clear b9 C8 K8 HV
        have hwm : IntKind.i64.wrap ((m : Int) - 1) = (m : Int) - 1 := wrapM (by omega) (by omega)
        cases hin : inS ⟨k, 3, 1 + x5, 0, 1 + x7, 0, 0⟩ xs
        · go_wp2_with (first
            | (at_builtin; refine wpList_append_own_at _ rfl _ _ 23 rfl B 25 i0 (.agg #[.int .i64 0, .int .i64 0, .int .i64 0, .int .i64 0, .int .i64 0, .int .i64 0, .int .i64 0]) 7 56 Try.underlying23 hi hz0 hz1 hz2 rfl (by decide) _ _ _ rfl (C9.out.own.alloc _) ⟨w9.heap.size, 0, none⟩ 1 1 s.cs rfl (by rw [hcs]; rfl) (cs_at ⟨by go_simp; rw [HS.out], by go_simp; rw [HS.out], by go_simp; rw [HS.out], by go_simp; rw [HS.out], by go_simp; rw [HS.out], by go_simp; rw [HS.out], by go_simp; rw [HS.out]⟩) (cs_one s) (by unfold maxLen; omega) (by omega) (by simp; omega) ?_; intro v' w6 hown' hgrow hnil hloc)
            | go_in)
          have C10 := (C9.out.alloc _).app hown' hgrow
          exact ⟨⟨m - 1, xs ++ [s], q + 1 + 1 + 1 + 1, by first | rfl | (congr 1; omega) | (simp; omega), by simp; omega, by omega, by omega, C10⟩, by simp [intOf]; omega⟩
        · go_wp2_with fail
          exact ⟨⟨m - 1, xs, q + 1 + 1 + 1 + 1, by first | rfl | (congr 1; omega) | (simp; omega), by omega, by omega, by omega, C9⟩, by simp [intOf]; omega⟩
      · go_wp2_with fail
        refine (pick_any 9 (by omega) _ _ _ _ _ C6.out.rd (by omega) (by omega)).mono ?_
        rintro r w7 ⟨⟨x7, x70, x71, rfl⟩, R7, O7⟩
        have C7 : Hid (Dc w br B sv L w7 (q + 1 + 1 + 1 + 1) u7 xs) := C6.out.grew R7 O7.grew
        clear C6 R7 O7
        have hx7 : IntKind.i64.wrap (1 + x7) = 1 + x7 := wrapM (by omega) (by omega)
        obtain ⟨s, hs⟩ : ∃ s : Sl, s = ⟨k, 3, 1 + x5, now - x6, 1 + x7, 0, 0⟩ := ⟨_, rfl⟩
        have hcs : s.cs = [.int .i64 k, .int .i64 3, .int .i64 (1 + x5), .int .i64 (now - x6), .int .i64 (1 + x7), .int .i64 0, .int .i64 0] := by rw [hs]; rfl
        have hsb := C7.out.hb
        have C8 : Hid (Dc w br B sv L (w7.alloc (.cells #[.int .i64 k, .int .i64 3, .int .i64 (1 + x5), .int .i64 (now - x6), .int .i64 (1 + x7), .int .i64 0, .int .i64 0] 25)) (q + 1 + 1 + 1 + 1) u7 xs) := C7.out.alloc _
        have K8 : Hid (SBlk (w7.alloc (.cells #[.int .i64 k, .int .i64 3, .int .i64 (1 + x5), .int .i64 (now - x6), .int .i64 (1 + x7), .int .i64 0, .int .i64 0] 25)) w7.heap.size s) := by rw [hs]; exact SBlk.new w7 ⟨k, 3, 1 + x5, now - x6, 1 + x7, 0, 0⟩
        obtain ⟨a7, c7, hv7, r7⟩ := C8.out.own.row
        have HV : Hid (u7 = .slice a7 xs.length c7 ∧ SRow (w7.alloc (.cells #[.int .i64 k, .int .i64 3, .int .i64 (1 + x5), .int .i64 (now - x6), .int .i64 (1 + x7), .int .i64 0, .int .i64 0] 25)) a7 xs) := ⟨hv7, r7⟩
        have HS : Hid (s = ⟨k, 3, 1 + x5, now - x6, 1 + x7, 0, 0⟩) := hs
        clear hv7 r7 hs C7
        go_wp2_with fail
        rw [HV.out.1]
        refine (l3Among_any a7 c7 xs ⟨k, 3, 1 + x5, now - x6, 1 + x7, 0, 0⟩ _ HV.out.2 (by omega)).mono ?_
        rintro r w9 ⟨rfl, b9⟩
        rw [← HV.out.1]
        have C9 : Hid (Dc w br B sv L w9 (q + 1 + 1 + 1 + 1) u7 xs) := C8.out.later b9
        have K9 := (K8.out.later b9).cells.1
        have L9 : w7.heap.size < w9.heap.size := (K8.out.later b9).lt
        rw [HS.out] at K9
        obtain ⟨d0, d1, d2, d3, d4, d5, d6⟩ := K9
        simp only [Nat.zero_add] at d1 d2 d3 d4 d5 d6
        have hb9 := C9.out.hb
        clear b9 C8 K8 HV
        have hwm : IntKind.i64.wrap ((m : Int) - 1) = (m : Int) - 1 := wrapM (by omega) (by omega)
        cases hin : inS ⟨k, 3, 1 + x5, now - x6, 1 + x7, 0, 0⟩ xs
        · go_wp2_with (first
            | (at_builtin; refine wpList_append_own_at _ rfl _ _ 23 rfl B 25 i0 (.agg #[.int .i64 0, .int .i64 0, .int .i64 0, .int .i64 0, .int .i64 0, .int .i64 0, .int .i64 0]) 7 56 Try.underlying23 hi hz0 hz1 hz2 rfl (by decide) _ _ _ rfl (C9.out.own.alloc _) ⟨w9.heap.size, 0, none⟩ 1 1 s.cs rfl (by rw [hcs]; rfl) (cs_at ⟨by go_simp; rw [HS.out], by go_simp; rw [HS.out], by go_simp; rw [HS.out], by go_simp; rw [HS.out], by go_simp; rw [HS.out], by go_simp; rw [HS.out], by go_simp; rw [HS.out]⟩) (cs_one s) (by unfold maxLen; omega) (by omega) (by simp; omega) ?_; intro v' w6 hown' hgrow hnil hloc)
            | go_in)
          have C10 := (C9.out.alloc _).app hown' hgrow
          exact ⟨⟨m - 1, xs ++ [s], q + 1 + 1 + 1 + 1, by first | rfl | (congr 1; omega) | (simp; omega), by simp; omega, by omega, by omega, C10⟩, by simp [intOf]; omega⟩
        · go_wp2_with fail
          exact ⟨⟨m - 1, xs, q + 1 + 1 + 1 + 1, by first | rfl | (congr 1; omega) | (simp; omega), by omega, by omega, by omega, C9⟩, by simp [intOf]; omega⟩

end Go.Proofs.Ytnaoopkahcadmaa
