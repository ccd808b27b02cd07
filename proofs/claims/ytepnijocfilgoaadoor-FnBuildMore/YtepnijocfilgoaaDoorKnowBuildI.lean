/-
  The program's KnowBuild: whether one can make a word; nothing that was in memory is turned.
-/
import Derived.Test.YtepnijocfilgoaaDoorKnowBuildS
import Derived.Test.YtepnijocfilgoaaDoorKnowApp
namespace Go.Proofs.YtepnijocfilgoaaDoor
open Go.RowKit
attribute [local go_sem ↓] Go.wp_at_zero Go.wp_at_succ

theorem wpList_load_want {P : Program} {ops : Array Oper} {rest : List Oper} {op : Oper} {a : Act} {w : World} {Q : Exit → Act → World → Prop} (hw : Region.wanted op (yielded ops a.tmps) = true) (ty : TypeId) (x : Operand) (ho : op.op = .load ty x)
    (b o : Nat) (hx : a.eval x = .pointer (some ⟨b, o, none⟩)) (cs : List Value) (d : TypeDesc) (hc : w.rangeAt b o cs)
    (hu : P.underlying ty = some d) (hd : d.isRow = true) (hi : (P.info? ty).map (·.size) = some cs.length)
    (h : wpList P ops Q rest (a.put op.dst (.agg cs.toArray)) w) : wpList P ops Q (op :: rest) a w :=
  wpList_step fun _ hK => by rw [if_pos hw]; exact wp_load_mid ty x ho b o hx cs d hc hu hd hi (hK _ _ h)
theorem Bw.sets {W : World} {a3 : Option Addr} {c3 b : Nat} {ys : List Sl} : ∀ (vs : List Value) (o : Nat) {w : World}, Bw W a3 c3 ys w → W.heap.size < b → Bw W a3 c3 ys (w.setCells b o vs)
  | [], _, _, h, _ => h
  | v :: vs, o, w, h, hb => Bw.sets vs (o + 1) (w := w.setCell ⟨b, o, none⟩ v) ⟨h.below.setCell (p := ⟨b, o, none⟩) (Nat.le_of_lt hb) v, (cell_else (Or.inl (by omega))).trans h.cell, by simpa using h.lt⟩ hb
theorem bits_of (w : World) (t : TypeId) {H : List Bool} (hl : H.length = 61) : Bits (w.alloc (.cells (bl H).toArray t)) w.heap.size H := by
  refine ⟨hl, ⟨_, _, heap_alloc_new _ _⟩, fun n hn => ?_⟩
  rw [cell_of_row _ _ _ _ _ _ (heap_alloc_new _ _), List.getElem?_toArray]
  unfold bl
  rw [List.getElem?_map, List.getElem?_eq_getElem (by omega), List.getD_eq_getElem?_getD, List.getElem?_eq_getElem (by omega)]
  rfl

set_option maxRecDepth 100000 in
set_option maxHeartbeats 4000000 in
theorem canSeal_any (H : List Bool) (hl : H.length = 61) (s : Sl) (hso : s.ok = true) (w : World) :
    Calls Tryd.prog 33 #[.agg (bl H).toArray, .agg #[.int .i64 s.k, .int .i64 s.t, .int .i64 s.a, .int .i64 s.b, .int .i64 s.c, .int .i64 s.d, .int .i64 s.e]] w fun r w' => r = .returned (.bool (H.getD s.k.toNat false && (decide (s.inn = 0) || H.getD s.inn.toNat false))) ∧ Below w.heap.size w w' := by
  obtain ⟨k1, k2⟩ := Sl.key_of_ok hso
  obtain ⟨W1, hW1⟩ : ∃ W1, W1 = w.alloc (.cells (bl H).toArray 57) := ⟨_, rfl⟩
  have B1 : Hid (Below w.heap.size w W1 ∧ Bits W1 w.heap.size H) := hW1 ▸ ⟨Below.alloc_ _ _, bits_of _ _ hl⟩
  have z1 : W1.heap.size = w.heap.size + 1 := by rw [hW1]; simp
  go_enter Tryd.func33, Tryd.ntmps33
  go_wp2_with fail
  rw [← hW1, ← z1]
  have T2 : Hid (SealAt (W1.alloc (.cells #[.int .i64 s.k, .int .i64 s.t, .int .i64 s.a, .int .i64 s.b, .int .i64 s.c, .int .i64 s.d, .int .i64 s.e] 45)) W1.heap.size 0 s) := ⟨by go_simp, by go_simp, by go_simp, by go_simp, by go_simp, by go_simp, by go_simp⟩
  clear hW1 z1
  refine (implH_any _ _ _ _ _ _ _ _).mono ?_
  rintro r w2 ⟨rfl, b2⟩
  have hinn : hK s.k s.t s.a s.b s.c s.d s.e = s.inn := rfl
  rw [hinn]
  have e0 := (T2.out.later b2 (by simp)).c0
  have G2 := (B1.out.2.later (Below.alloc_ W1 (.cells #[.int .i64 s.k, .int .i64 s.t, .int .i64 s.a, .int .i64 s.b, .int .i64 s.c, .int .i64 s.d, .int .i64 s.e] 45))).later b2
  have C2 : Hid (Below w.heap.size w w2) := (B1.out.1.trans ((Below.alloc_ _ _).mono B1.out.1.size)).trans (b2.mono (by have := B1.out.1.size; simp; omega))
  obtain ⟨kn, hkn⟩ : ∃ kn : Nat, s.k = kn := ⟨s.k.toNat, by omega⟩
  have hk61 : kn < 61 := by omega
  have htn : s.k.toNat = kn := by omega
  have g0 := G2.cell kn hk61
  rw [hkn] at e0
  clear T2 b2 B1 hinn
  cases hhk : H.getD kn false
  · rw [hhk] at g0
    clear G2
    go_wp2_with fail
    go_ret
    exact ⟨ret_bool (by rw [htn, hhk]; rfl), C2.out⟩
  · rw [hhk] at g0
    rcases s.inn_cases with hi0 | hi0
    · rw [hi0]
      clear G2
      go_wp2_with fail
      go_ret
      exact ⟨ret_bool (by rw [htn, hhk, hi0]; rfl), C2.out⟩
    · obtain ⟨hn, hhn⟩ : ∃ hn : Nat, s.inn = hn := ⟨s.inn.toNat, by omega⟩
      have hn61 : hn < 61 := by omega
      have hnz : ¬ (hn : Int) = 0 := by omega
      have hnb : ((hn : Int) == 0) = false := by simp; omega
      have g1 := G2.cell hn hn61
      rw [hhn]
      clear G2
      cases hhi : H.getD hn false
      · rw [hhi] at g1
        go_wp2_with fail
        go_ret
        exact ⟨ret_bool (by rw [htn, hhk, hhn, decide_eq_false hnz, Int.toNat_natCast, hhi]; rfl), C2.out⟩
      · rw [hhi] at g1
        go_wp2_with fail
        go_ret
        exact ⟨ret_bool (by rw [htn, hhk, hhn, decide_eq_false hnz, Int.toNat_natCast, hhi]; rfl), C2.out⟩

set_option maxRecDepth 100000 in
set_option maxHeartbeats 4000000 in
theorem implBuild_any (a1 a2 a3 : Option Addr) (c1 c2 c3 : Nat) (ks : List Int) (xs : List Sl) (m n k f : Int) (ys : List Sl) (w : World) (H : List Bool) (hR : Right ks xs H) (h1 : IRow w a1 ks) (h2 : SRow w a2 xs) (h3 : SRow w a3 ys) (hk : ks.length ≤ 2000000) (hx : xs.length ≤ 1999999) (hy : ys.length ≤ 2000000) (hf : Forms w) :
    Calls Tryd.prog 14 #[.slice a1 ks.length c1, .slice a2 xs.length c2, .agg #[.int .i64 m, .int .i64 n, .int .i64 k, .int .i64 f, .slice a3 ys.length c3]] w fun r w' => r = .returned (.bool (buildB H xs m n k f ys)) ∧ Below w.heap.size w w' := by
  have hl2 : msgB m n k f ys = true → ys.length ≤ 2 := fun h => (msgB_ok h).2
  have T0 : Hid (Bw w a3 c3 ys (w.alloc (.cells #[.int .i64 m, .int .i64 n, .int .i64 k, .int .i64 f, .slice a3 ys.length c3] 33))) :=
    ⟨(Below.refl _ _).alloc (Nat.le_refl _) _, by go_simp, by simp⟩
  go_enter Tryd.func14, Tryd.ntmps14
  go_wp2_with fail
  refine (implMsg_any m n k f a3 c3 ys _ (h3.later T0.out.below) hy (hf.later T0.out.below)).mono ?_
  rintro r w2 ⟨rfl, b2⟩
  have T2 : Hid (Bw w a3 c3 ys w2) := T0.out.later b2
  clear T0 b2
  cases hmb : msgB m n k f ys
  · have hbf : buildB H xs m n k f ys = false := by unfold buildB; rw [hmb]; rfl
    go_wp2_with fail
    go_ret
    exact ⟨ret_bool hbf.symm, T2.out.below⟩
  · have hyl := hl2 hmb
    have hok := (msgB_ok hmb).1
    have HOK : Hid (∀ s ∈ ys, s.ok = true) := hok
    have hbe : Hid (buildB H xs m n k f ys = ys.all (canB H xs)) := by
      show buildB H xs m n k f ys = _
      unfold buildB; rw [hmb]; rfl
    clear hl2 hok
    go_wp2_with fail
    refine (comesTo_any a1 a2 c1 c2 ks xs w2 (h1.later T2.out.below) (h2.later T2.out.below) hk hx).mono ?_
    rintro r w3 ⟨⟨H', rfl, hR'⟩, b3⟩
    obtain rfl : H' = H := hR'.one hR (fun _ => Iff.rfl)
    have hl := hR'.len
    have T3 : Hid (Bw w a3 c3 ys w3) := T2.out.later b3
    obtain ⟨W3, hW3⟩ : ∃ W3, W3 = w3.alloc (.cells #[.bool false, .bool false, .bool false, .bool false, .bool false, .bool false, .bool false, .bool false, .bool false, .bool false, .bool false, .bool false, .bool false, .bool false, .bool false, .bool false, .bool false, .bool false, .bool false, .bool false, .bool false, .bool false, .bool false, .bool false, .bool false, .bool false, .bool false, .bool false, .bool false, .bool false, .bool false, .bool false, .bool false, .bool false, .bool false, .bool false, .bool false, .bool false, .bool false, .bool false, .bool false, .bool false, .bool false, .bool false, .bool false, .bool false, .bool false, .bool false, .bool false, .bool false, .bool false, .bool false, .bool false, .bool false, .bool false, .bool false, .bool false, .bool false, .bool false, .bool false, .bool false] 57) := ⟨_, rfl⟩
    have B3 : Hid (Bw w a3 c3 ys W3) := hW3 ▸ T3.out.later (Below.alloc_ _ _)
    have R3 : Bits W3 w3.heap.size (List.replicate 61 false) := hW3 ▸ bits_new _ _ _ zeros61
    have TH : Hid (W3.there w3.heap.size 0 (bl H').toArray.size) := R3.there hl
    have L3 : Hid (Bits (W3.setCells w3.heap.size 0 (bl H')) w3.heap.size H') := R3.laid hl
    obtain ⟨W4, hW4⟩ : ∃ W4, W3.setCells w3.heap.size 0 (bl H') = W4 := ⟨_, rfl⟩
    obtain ⟨B, hBe⟩ : ∃ B, B = w3.heap.size := ⟨_, rfl⟩
    have T4 : Hid (Bw w a3 c3 ys W4 ∧ Bits W4 B H') := by rw [hBe]; exact ⟨hW4 ▸ Bw.sets _ _ B3.out T3.out.lt, hW4 ▸ L3.out⟩
    have cm := T4.out.1.cell
    clear T2 b3 hR' h1 R3 L3 B3 T3
    go_wp2_with (first
      | (refine wpList_store_mid rfl 57 _ _ rfl w3.heap.size 0 (bl H').toArray rfl rfl (by rw [hW3] at TH; exact TH.out) (infoArr' hl) (all_oneCell_toArray (bl_one H')) ?_; rw [← hW3]; clear hW3)
      | go_in)
    rw [← hBe]
    clear hBe TH hW4 cm
    go_loopw [19] (fun i wr => ∃ (j : Nat), j ≤ ys.length ∧ i = .int .i64 j ∧ Hid (Bw w a3 c3 ys wr ∧ Bits wr B H' ∧ (ys.take j).all (canB H' xs) = true)) (fun i _ => ys.length - (intOf i).toNat)
    case atStart => exact ⟨0, Nat.zero_le _, rfl, T4.out.1, T4.out.2, rfl⟩
    case round =>
      obtain ⟨j, hj, rfl, C⟩ := hrel
      clear T4
      by_cases hlt : j < ys.length
      · obtain ⟨s, hs⟩ : ∃ s, ys[j]? = some s := ⟨ys[j], List.getElem?_eq_getElem hlt⟩
        have hso := HOK.out s (List.mem_of_getElem? hs)
        rcases h3.later C.out.1.below with hz | ⟨b, off, rfl, hlb, hr⟩
        · simp [hz] at hlt
        obtain ⟨c0, c1', c2', c3', c4, c5, c6⟩ := hr j s hs
        have S4 : SealAt (wr.alloc (.cells #[.int .i64 s.k, .int .i64 s.t, .int .i64 s.a, .int .i64 s.b, .int .i64 s.c, .int .i64 s.d, .int .i64 s.e] 45)) wr.heap.size 0 s := by refine ⟨?_, ?_, ?_, ?_, ?_, ?_, ?_⟩ <;> go_simp
        have HS : Hid (SealAt (wr.alloc (.cells #[.int .i64 s.k, .int .i64 s.t, .int .i64 s.a, .int .i64 s.b, .int .i64 s.c, .int .i64 s.d, .int .i64 s.e] 45)) wr.heap.size 0 s) := S4
        have C4 : Hid (Bw w (some ⟨b, off, none⟩) c3 ys (wr.alloc (.cells #[.int .i64 s.k, .int .i64 s.t, .int .i64 s.a, .int .i64 s.b, .int .i64 s.c, .int .i64 s.d, .int .i64 s.e] 45)) ∧ Bits (wr.alloc (.cells #[.int .i64 s.k, .int .i64 s.t, .int .i64 s.a, .int .i64 s.b, .int .i64 s.c, .int .i64 s.d, .int .i64 s.e] 45)) B H' ∧ (ys.take j).all (canB H' xs) = true) := ⟨C.out.1.later (Below.alloc_ wr _), C.out.2.1.later (Below.alloc_ wr _), C.out.2.2⟩
        clear hr S4
        go_wp2_with fail
        refine (hasSeal_any a2 c2 xs s _ (h2.later C4.out.1.below) (by omega)).mono ?_
        rintro r w5 ⟨rfl, b5⟩
        have C5 : Hid (Bw w (some ⟨b, off, none⟩) c3 ys w5 ∧ Bits w5 B H' ∧ (ys.take j).all (canB H' xs) = true) := ⟨C4.out.1.later b5, C4.out.2.1.later b5, C4.out.2.2⟩
        obtain ⟨d0, d1, d2, d3, d4, d5, d6⟩ := HS.out.later b5 (by simp)
        simp only [Nat.zero_add] at d1 d2 d3 d4 d5 d6
        clear C C4 HS b5 c0 c1' c2' c3' c4 c5 c6
        have hsu := all_take (p := canB H' xs) hs
        rw [C5.out.2.2, Bool.true_and] at hsu
        cases hin : inS s xs
        · go_wp2_with (first
            | (refine wpList_load_want (by rfl) 57 _ rfl B 0 rfl (bl H') _ C5.out.2.1.range Tryd.underlying57 rfl (infoArr' hl) ?_)
            | (go_at_call 33; refine (canSeal_any H' hl s hso w5).mono ?_; rintro r w6 ⟨rfl, b6⟩; have C6 : Hid (Bw w (some ⟨b, off, none⟩) c3 ys w6 ∧ Bits w6 B H') := ⟨C5.out.1.later b6, C5.out.2.1.later b6⟩; clear b6 C5 d0 d1 d2 d3 d4 d5 d6; have hcan : canB H' xs s = (H'.getD s.k.toNat false && (decide (s.inn = 0) || H'.getD s.inn.toNat false)) := (by unfold canB; rw [hin, Bool.false_or]); rw [← hcan]; cases hcb : canB H' xs s)
            | go_in)
          · go_ret
            exact ⟨ret_bool (by rw [hbe.out, all_not hs hcb]), C6.out.1.below⟩
          · exact ⟨⟨j + 1, by omega, by go_num, C6.out.1, C6.out.2, by rw [hsu, hcb]⟩, by simp [intOf]; omega⟩
        · have hcan : canB H' xs s = true := by unfold canB; rw [hin]; rfl
          go_wp2_with fail
          go_roundw
          case rel => exact ⟨j + 1, by omega, by go_num, C5.out.1, C5.out.2.1, by rw [hsu, hcan]⟩
          case measure => simp [intOf]; omega
      · obtain rfl : j = ys.length := by omega
        have hall := C.out.2.2
        rw [List.take_length] at hall
        have HA : Hid (Bw w a3 c3 ys wr ∧ ys.all (canB H' xs) = true) := ⟨C.out.1, hall⟩
        clear hall C
        go_wp2_with fail
        go_ret
        exact ⟨ret_bool (by rw [hbe.out, HA.out.2]), HA.out.1.below⟩

end Go.Proofs.YtepnijocfilgoaaDoor
