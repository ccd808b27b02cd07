/-
  The text of a word as the program writes it, into a strings.Builder: a line of its four numbers, and one of each seal; nothing that was in memory is turned. It wants the program's table of forms and the library's table of tens as the program's text lays them.
-/
import Derived.Test.YtopikapamfmalaaGreatDoorMsgTextM
import Derived.Test.YtopikapamfmalaaGreatDoorBuildW
namespace Go.Proofs.YtopikapamfmalaaGreatDoor
open Go.RowKit

/-- The bytes that the builder holds. -/
def Bd (B : Nat) (l : List UInt8) (w : World) : Prop := Lib.IsBuilder 65 5 B B (Lib.byteCells l) w
theorem Bd.later {B : Nat} {l : List UInt8} {w w' : World} (h : Bd B l w) (hb : Below w.heap.size w w') : Bd B l w' := by
  rcases h with ⟨hB, v, hh, ho, hn⟩ | ⟨hB, v, hh, ho, hn⟩
  · exact Or.inl ⟨hB, v, (hb.block _ (Array.getElem?_eq_some_iff.1 hh).1).trans hh, own_later hb ho, hn⟩
  · exact Or.inr ⟨hB, v, (hb.block _ (Array.getElem?_eq_some_iff.1 hh).1).trans hh, own_later hb ho, hn⟩
theorem Bd.lt {B : Nat} {l : List UInt8} {w : World} (h : Bd B l w) : B < w.heap.size := by
  rcases h with h | h <;> exact h.lt
theorem bd_byte (B : Nat) (l : List UInt8) (c : UInt8) (n : Int) (hn : n = c.toNat) (w : World) (h : Bd B l w) (hlen : l.length ≤ 1000) :
    Calls Tryz.prog 34 #[.pointer (some ⟨B, 0, none⟩), .int .u8 n] w fun e w' => e = .returned .nilIface ∧ Bd B (l ++ [c]) w' ∧ Below B w w' := by
  have hl := h.lt
  refine (writeByte_any B B _ n w h (by rw [Lib.byteCells_length]; omega) (by omega)).mono ?_
  rintro e w' ⟨rfl, hb, hw⟩
  refine ⟨rfl, Or.inr ?_, hw⟩
  have e : Lib.byteCells (l ++ [c]) = Lib.byteCells l ++ [.int .u8 n] := by simp [Lib.byteCells, hn]
  rw [e]; exact hb
theorem bd_text (B : Nat) (l : List UInt8) (s : ByteArray) (w : World) (h : Bd B l w) (hlen : l.length + s.size ≤ 1000) :
    Calls Tryz.prog 35 #[.pointer (some ⟨B, 0, none⟩), .string s] w fun e w' => e = .returned (.tuple #[.int .i64 s.size, .nilIface]) ∧ Bd B (l ++ s.data.toList) w' ∧ Below B w w' := by
  have hl := h.lt
  refine (writeString_any B B _ s w h (by rw [Lib.byteCells_length]; omega) (by omega)).mono ?_
  rintro e w' ⟨rfl, hb, hw⟩
  refine ⟨rfl, Or.inr ?_, hw⟩
  have e : Lib.byteCells (l ++ s.data.toList) = Lib.byteCells l ++ Lib.strCells s := by simp [Lib.byteCells, Lib.strCells]
  rw [e]; exact hb
theorem bd_string (B : Nat) (l : List UInt8) (w : World) (h : Bd B l w) :
    Calls Tryz.prog 38 #[.pointer (some ⟨B, 0, none⟩)] w fun e w' => e = .returned (.string (tB l)) ∧ Below B w w' := by
  have hl := h.lt
  exact Tryz.Builder_String_any B B l w h (by omega)

/-- What is written behind so many numbers. -/
def numsL (m n k f : Int) : Nat → List UInt8
  | 0 => []
  | 1 => digL m
  | 2 => digL m ++ 32 :: digL n
  | 3 => digL m ++ 32 :: (digL n ++ 32 :: digL k)
  | _ => digL m ++ 32 :: (digL n ++ 32 :: (digL k ++ 32 :: digL f))

theorem idx4_0 (m n k f : Int) (w : World) : (Instr.index 66 (.agg #[.int .i64 m, .int .i64 n, .int .i64 k, .int .i64 f]) (.int .i64 0)).run Tryz.prog w = .ok (.int .i64 m) w := by kernel_rfl
theorem idx4_1 (m n k f : Int) (w : World) : (Instr.index 66 (.agg #[.int .i64 m, .int .i64 n, .int .i64 k, .int .i64 f]) (.int .i64 1)).run Tryz.prog w = .ok (.int .i64 n) w := by kernel_rfl
theorem idx4_2 (m n k f : Int) (w : World) : (Instr.index 66 (.agg #[.int .i64 m, .int .i64 n, .int .i64 k, .int .i64 f]) (.int .i64 2)).run Tryz.prog w = .ok (.int .i64 k) w := by kernel_rfl
theorem idx4_3 (m n k f : Int) (w : World) : (Instr.index 66 (.agg #[.int .i64 m, .int .i64 n, .int .i64 k, .int .i64 f]) (.int .i64 3)).run Tryz.prog w = .ok (.int .i64 f) w := by kernel_rfl

theorem implSeal_text (s : Sl) (w : World) (htab : Lib.TabIs Tryz.prog w "internal/strconv.uint64pow10" .u64 Lib.pow10Tab) :
    Calls Tryz.prog 37 #[.agg #[.int .i64 s.k, .int .i64 s.t, .int .i64 s.a, .int .i64 s.b, .int .i64 s.c, .int .i64 s.d, .int .i64 s.e]] w fun r w' => r = .returned (.string s.text) ∧ Below w.heap.size w w' :=
  implText_any s.k s.t s.a s.b s.c s.d s.e w htab

set_option maxHeartbeats 400000 in
theorem implMT_not (m n k f : Int) (a : Option Addr) (cap : Nat) (xs : List Sl) (w : World) (h : SRow w a xs) (hx : xs.length ≤ 2000000) (hf : Forms w) (hok : msgB m n k f xs = false) :
    Calls Tryz.prog 13 #[.agg #[.int .i64 m, .int .i64 n, .int .i64 k, .int .i64 f, .slice a xs.length cap]] w fun r w' => r = .returned (.string ⟨#[]⟩) ∧ Below w.heap.size w w' := by
  go_enter Tryz.func13, Tryz.ntmps13
  go_wp2_with fail
  refine (implMsg_any m n k f a cap xs _ (h.later ((Below.refl _ _).alloc (Nat.le_refl _) _)) hx (hf.later ((Below.refl _ _).alloc (Nat.le_refl _) _))).mono ?_
  rintro r1 w1 ⟨rfl, hb1⟩
  rw [hok]
  go_wp2_with fail
  go_ret
  exact ⟨rfl, ((Below.refl _ _).alloc (Nat.le_refl _) _).trans (hb1.mono (by simp))⟩

set_option maxHeartbeats 2000000 in
set_option maxRecDepth 100000 in
theorem implMT_ok (m n k f : Int) (a : Option Addr) (cap : Nat) (xs : List Sl) (w : World) (h : SRow w a xs) (hf : Forms w) (htab : Lib.TabIs Tryz.prog w "internal/strconv.uint64pow10" .u64 Lib.pow10Tab) (hok : msgB m n k f xs = true) :
    Calls Tryz.prog 13 #[.agg #[.int .i64 m, .int .i64 n, .int .i64 k, .int .i64 f, .slice a xs.length cap]] w fun r w' => r = .returned (.string (tB (linesL (headL m n k f) xs))) ∧ Below w.heap.size w w' := by
  have hx2 := (msg_seals hok).1
  obtain ⟨W, hW⟩ : ∃ W, W = w.alloc (.cells #[.int .i64 m, .int .i64 n, .int .i64 k, .int .i64 f, .slice a xs.length cap] 24) := ⟨_, rfl⟩
  have hz : W.heap.size = w.heap.size + 1 := by subst hW; simp
  have B0 : Below w.heap.size w W := hW ▸ (Below.refl _ _).alloc (Nat.le_refl _) _
  have M0 : MsgAt W w.heap.size m n k f (.slice a xs.length cap) := by
    subst hW
    exact ⟨by go_simp, by go_simp, by go_simp, by go_simp, by go_simp⟩
  have HK : Hid (msgB m n k f xs = true) := hok
  go_enter Tryz.func13, Tryz.ntmps13
  go_wp2_with fail
  rw [← hW]
  clear hW
  refine (implMsg_any m n k f a cap xs W (h.later B0) (by omega) (hf.later B0)).mono ?_
  rintro r1 w1 ⟨rfl, hb1⟩
  rw [hok]
  clear hok
  have D1 : Below W.heap.size W w1 := hb1
  have M1 : MsgAt w1 w.heap.size m n k f (.slice a xs.length cap) := M0.later D1 (by omega)
  have z1 := D1.size
  obtain ⟨V, hV⟩ : ∃ V, V = w1.alloc (.cells #[.pointer none, .slice none 0 0] 65) := ⟨_, rfl⟩
  have bd0 : Bd w1.heap.size [] V := by subst hV; exact Lib.fresh_isBuilder 65 5 w1
  have DV : Below w1.heap.size w1 V := hV ▸ (Below.refl _ _).alloc (Nat.le_refl _) _
  have zV : V.heap.size = w1.heap.size + 1 := by subst hV; simp
  have hlw : w.heap.size < w1.heap.size := by omega
  obtain ⟨c0, c1, c2, c3, c4⟩ := id M1
  clear hb1
  go_wp2_with fail
  rw [← hV]
  have M2 : MsgAt V w.heap.size m n k f (.slice a xs.length cap) := (MsgAt.mk c0 c1 c2 c3 c4).later DV hlw
  clear hV c0 c1 c2 c3 c4
  have T0 : Hid (∀ {w'}, Below w1.heap.size w1 w' → Lib.TabIs Tryz.prog w' "internal/strconv.uint64pow10" .u64 Lib.pow10Tab) := by
    intro w' hb
    exact Joins.tab_stays gPow htab ((B0.trans (D1.mono (by omega))).trans (hb.mono (by omega))) (Nat.le_refl _)
  obtain ⟨⟨m0, m1⟩, ⟨n0, n1⟩, ⟨k0, k1⟩, f0, f1⟩ := msg_bounds HK.out
  have LN : Hid (∀ j, (numsL m n k f j).length ≤ 15) := by
    intro j
    have e1 := dig_len (n := m) (by omega) (by omega)
    have e2 := dig_len (n := n) (by omega) (by omega)
    have e3 := dig_len (n := k) (by omega) (by omega)
    have e4 := dig_len (n := f) (by omega) (by omega)
    unfold numsL
    split <;> (try simp only [List.length_append, List.length_cons, List.length_nil]) <;> omega
  have SZ : Hid (∀ n : Int, 0 ≤ n → n < 1000 → (decB n).size ≤ 3) := fun n h0 h1 => decB_size h0 h1
  have HM : Hid (MsgAt w1 w.heap.size m n k f (.slice a xs.length cap)) := M1
  have HB : Hid (Below w.heap.size w w1) := B0.trans (D1.mono (by omega))
  clear htab hf B0 D1 M0 M1 M2
  go_loopw [20] (fun i wr => ∃ (j : Nat), j ≤ 4 ∧ i = .int .i64 j ∧ Hid (Bd w1.heap.size (numsL m n k f j) wr ∧ Below w1.heap.size w1 wr)) (fun i _ => 4 - (intOf i).toNat)
  case atStart => exact ⟨0, Nat.zero_le _, rfl, bd0, DV⟩
  case round =>
    obtain ⟨j, hj, rfl, C⟩ := hrel
    clear bd0 DV
    obtain rfl | rfl | rfl | rfl | rfl : j = 0 ∨ j = 1 ∨ j = 2 ∨ j = 3 ∨ j = 4 := by omega
    · have hix := idx4_0 m n k f
      go_wp2_with fail
      refine (itoa_any m (by omega) (by omega) _ (T0.out C.out.2)).mono ?_
      rintro r2 w2 ⟨rfl, hb2⟩
      have C2 : Hid (Bd w1.heap.size (numsL m n k f 0) w2 ∧ Below w1.heap.size w1 w2) := ⟨C.out.1.later hb2, C.out.2.trans (hb2.mono C.out.2.size)⟩
      clear hb2 C
      go_wp2_with fail
      refine (bd_text w1.heap.size _ (decB m) _ C2.out.1 (by have := LN.out 0; have := SZ.out m (by omega) (by omega); (try simp only [List.length_append, List.length_cons, List.length_nil]); omega)).mono ?_
      rintro r4 w4 ⟨rfl, hd4, hb4⟩
      have C4 : Hid (Bd w1.heap.size (numsL m n k f 1) w4 ∧ Below w1.heap.size w1 w4) := ⟨by
        have e : numsL m n k f 1 = numsL m n k f 0 ++ (decB m).data.toList := by simp [numsL, decB, digL]
        rw [e]; exact hd4, C2.out.2.trans hb4⟩
      clear hd4 hb4 C2
      go_wp2_with fail
      go_roundw
      case rel => exact ⟨1, by omega, by go_num, C4⟩
      case measure => simp [intOf]
    · have hix := idx4_1 m n k f
      go_wp2_with fail
      refine (bd_byte w1.heap.size _ 32 32 rfl _ C.out.1 (by have := LN.out 1; omega)).mono ?_
      rintro r3 w3 ⟨rfl, hd3, hb3⟩
      have C3 : Hid (Bd w1.heap.size (numsL m n k f 1 ++ [32]) w3 ∧ Below w1.heap.size w1 w3) := ⟨hd3, C.out.2.trans hb3⟩
      clear hd3 hb3 C
      go_wp2_with fail
      refine (itoa_any n (by omega) (by omega) _ (T0.out C3.out.2)).mono ?_
      rintro r2 w2 ⟨rfl, hb2⟩
      have C2 : Hid (Bd w1.heap.size (numsL m n k f 1 ++ [32]) w2 ∧ Below w1.heap.size w1 w2) := ⟨C3.out.1.later hb2, C3.out.2.trans (hb2.mono C3.out.2.size)⟩
      clear hb2 C3
      go_wp2_with fail
      refine (bd_text w1.heap.size _ (decB n) _ C2.out.1 (by have := LN.out 1; have := SZ.out n (by omega) (by omega); (try simp only [List.length_append, List.length_cons, List.length_nil]); omega)).mono ?_
      rintro r4 w4 ⟨rfl, hd4, hb4⟩
      have C4 : Hid (Bd w1.heap.size (numsL m n k f 2) w4 ∧ Below w1.heap.size w1 w4) := ⟨by
        have e : numsL m n k f 2 = (numsL m n k f 1 ++ [32]) ++ (decB n).data.toList := by simp [numsL, decB, digL]
        rw [e]; exact hd4, C2.out.2.trans hb4⟩
      clear hd4 hb4 C2
      go_wp2_with fail
      go_roundw
      case rel => exact ⟨2, by omega, by go_num, C4⟩
      case measure => simp [intOf]
    · have hix := idx4_2 m n k f
      go_wp2_with fail
      refine (bd_byte w1.heap.size _ 32 32 rfl _ C.out.1 (by have := LN.out 2; omega)).mono ?_
      rintro r3 w3 ⟨rfl, hd3, hb3⟩
      have C3 : Hid (Bd w1.heap.size (numsL m n k f 2 ++ [32]) w3 ∧ Below w1.heap.size w1 w3) := ⟨hd3, C.out.2.trans hb3⟩
      clear hd3 hb3 C
      go_wp2_with fail
      refine (itoa_any k (by omega) (by omega) _ (T0.out C3.out.2)).mono ?_
      rintro r2 w2 ⟨rfl, hb2⟩
      have C2 : Hid (Bd w1.heap.size (numsL m n k f 2 ++ [32]) w2 ∧ Below w1.heap.size w1 w2) := ⟨C3.out.1.later hb2, C3.out.2.trans (hb2.mono C3.out.2.size)⟩
      clear hb2 C3
      go_wp2_with fail
      refine (bd_text w1.heap.size _ (decB k) _ C2.out.1 (by have := LN.out 2; have := SZ.out k (by omega) (by omega); (try simp only [List.length_append, List.length_cons, List.length_nil]); omega)).mono ?_
      rintro r4 w4 ⟨rfl, hd4, hb4⟩
      have C4 : Hid (Bd w1.heap.size (numsL m n k f 3) w4 ∧ Below w1.heap.size w1 w4) := ⟨by
        have e : numsL m n k f 3 = (numsL m n k f 2 ++ [32]) ++ (decB k).data.toList := by simp [numsL, decB, digL]
        rw [e]; exact hd4, C2.out.2.trans hb4⟩
      clear hd4 hb4 C2
      go_wp2_with fail
      go_roundw
      case rel => exact ⟨3, by omega, by go_num, C4⟩
      case measure => simp [intOf]
    · have hix := idx4_3 m n k f
      go_wp2_with fail
      refine (bd_byte w1.heap.size _ 32 32 rfl _ C.out.1 (by have := LN.out 3; omega)).mono ?_
      rintro r3 w3 ⟨rfl, hd3, hb3⟩
      have C3 : Hid (Bd w1.heap.size (numsL m n k f 3 ++ [32]) w3 ∧ Below w1.heap.size w1 w3) := ⟨hd3, C.out.2.trans hb3⟩
      clear hd3 hb3 C
      go_wp2_with fail
      refine (itoa_any f (by omega) (by omega) _ (T0.out C3.out.2)).mono ?_
      rintro r2 w2 ⟨rfl, hb2⟩
      have C2 : Hid (Bd w1.heap.size (numsL m n k f 3 ++ [32]) w2 ∧ Below w1.heap.size w1 w2) := ⟨C3.out.1.later hb2, C3.out.2.trans (hb2.mono C3.out.2.size)⟩
      clear hb2 C3
      go_wp2_with fail
      refine (bd_text w1.heap.size _ (decB f) _ C2.out.1 (by have := LN.out 3; have := SZ.out f (by omega) (by omega); (try simp only [List.length_append, List.length_cons, List.length_nil]); omega)).mono ?_
      rintro r4 w4 ⟨rfl, hd4, hb4⟩
      have C4 : Hid (Bd w1.heap.size (numsL m n k f 4) w4 ∧ Below w1.heap.size w1 w4) := ⟨by
        have e : numsL m n k f 4 = (numsL m n k f 3 ++ [32]) ++ (decB f).data.toList := by simp [numsL, decB, digL]
        rw [e]; exact hd4, C2.out.2.trans hb4⟩
      clear hd4 hb4 C2
      go_wp2_with fail
      go_roundw
      case rel => exact ⟨4, by omega, by go_num, C4⟩
      case measure => simp [intOf]
    · go_wp2_with fail
      refine (bd_byte w1.heap.size _ 10 10 rfl _ C.out.1 (by have := LN.out 4; omega)).mono ?_
      rintro r5 w5 ⟨rfl, hd5, hb5⟩
      have C5 : Hid (Bd w1.heap.size (headL m n k f) w5 ∧ Below w1.heap.size w1 w5) := ⟨by
        have e : headL m n k f = numsL m n k f 4 ++ [10] := by simp [numsL, headL]
        rw [e]; exact hd5, C.out.2.trans hb5⟩
      clear hd5 hb5 C
      obtain ⟨c0, c1, c2, c3, c4⟩ := HM.out.later C5.out.2 hlw
      go_wp2_with fail
      go_loopw [35] (fun i wr => ∃ (j : Nat), j ≤ xs.length ∧ i = .int .i64 j ∧ Hid (Bd w1.heap.size (linesL (headL m n k f) (xs.take j)) wr ∧ Below w1.heap.size w1 wr)) (fun i _ => xs.length - (intOf i).toNat)
      case atStart => exact ⟨0, Nat.zero_le _, rfl, C5⟩
      case round =>
        obtain ⟨j, hj, rfl, C⟩ := hrel
        clear C5 c0 c1 c2 c3 c4
        by_cases hlt : j < xs.length
        · obtain ⟨s, hs⟩ : ∃ s, xs[j]? = some s := ⟨xs[j], List.getElem?_eq_getElem hlt⟩
          rcases h with h | ⟨b, off, rfl, hl, h⟩
          · simp [h] at hlt
          have hbl : b < w1.heap.size := Nat.lt_of_lt_of_le hl HB.out.size
          have hsw : w1.heap.size ≤ wr.heap.size := C.out.2.size
          have hSA : SealAt wr b (off + j * 7) s := by
            have h1 := (h j s hs).later HB.out hl
            exact h1.later C.out.2 hbl
          obtain ⟨e0, e1, e2, e3, e4, e5, e6⟩ := hSA
          clear h
          have hbw : b < wr.heap.size := by omega
          go_wp2_with fail
          have DA : Hid (Below wr.heap.size wr (wr.alloc (.cells #[.int .i64 s.k, .int .i64 s.t, .int .i64 s.a, .int .i64 s.b, .int .i64 s.c, .int .i64 s.d, .int .i64 s.e] 39))) := (Below.refl _ _).alloc (Nat.le_refl _) _
          have CA : Hid (Bd w1.heap.size (linesL (headL m n k f) (xs.take j)) (wr.alloc (.cells #[.int .i64 s.k, .int .i64 s.t, .int .i64 s.a, .int .i64 s.b, .int .i64 s.c, .int .i64 s.d, .int .i64 s.e] 39)) ∧ Below w1.heap.size w1 (wr.alloc (.cells #[.int .i64 s.k, .int .i64 s.t, .int .i64 s.a, .int .i64 s.b, .int .i64 s.c, .int .i64 s.d, .int .i64 s.e] 39))) := ⟨C.out.1.later DA.out, C.out.2.trans (DA.out.mono hsw)⟩
          refine (implSeal_text s _ (T0.out CA.out.2)).mono ?_
          rintro r6 w6 ⟨rfl, hb6⟩
          have C6 : Hid (Bd w1.heap.size (linesL (headL m n k f) (xs.take j)) w6 ∧ Below w1.heap.size w1 w6) := ⟨CA.out.1.later hb6, CA.out.2.trans (hb6.mono CA.out.2.size)⟩
          clear C CA DA hb6 e0 e1 e2 e3 e4 e5 e6
          go_wp2_with fail
          refine (bd_text w1.heap.size _ s.text _ C6.out.1 (by have := lines_take_len HK.out j; have := text_le s; omega)).mono ?_
          rintro r7 w7 ⟨rfl, hd7, hb7⟩
          have C7 : Hid (Bd w1.heap.size (linesL (headL m n k f) (xs.take j) ++ s.text.data.toList) w7 ∧ Below w1.heap.size w1 w7) := ⟨hd7, C6.out.2.trans hb7⟩
          clear C6 hd7 hb7
          go_wp2_with fail
          refine (bd_byte w1.heap.size _ 10 10 rfl _ C7.out.1 (by
            have := lines_take_len HK.out j; have := text_le s
            have e : s.text.data.toList.length = s.text.size := by rw [Array.length_toList]; rfl
            rw [List.length_append, e]; omega)).mono ?_
          rintro r8 w8 ⟨rfl, hd8, hb8⟩
          have C8 : Hid (Bd w1.heap.size (linesL (headL m n k f) (xs.take (j + 1))) w8 ∧ Below w1.heap.size w1 w8) := ⟨by
            rw [linesL_next hs, ← List.append_assoc]; exact hd8, C7.out.2.trans hb8⟩
          clear C7 hd8 hb8
          go_wp2_with fail
          go_roundw
          case rel => exact ⟨j + 1, by omega, by go_num, C8⟩
          case measure => simp [intOf]; omega
        · obtain rfl : j = xs.length := by omega
          rw [List.take_length] at C
          go_wp2_with fail
          refine (bd_string w1.heap.size _ _ C.out.1).mono ?_
          rintro r9 w9 ⟨rfl, hb9⟩
          have C9 : Hid (Below w.heap.size w w9) := HB.out.trans ((C.out.2.trans hb9).mono (by omega))
          clear C hb9
          go_wp2_with fail
          go_ret
          exact ⟨rfl, C9.out⟩

/-- The program's MsgText, whatever the word. -/
theorem implMT_any (m n k f : Int) (a : Option Addr) (cap : Nat) (xs : List Sl) (w : World) (h : SRow w a xs) (hx : xs.length ≤ 2000000) (hf : Forms w) (htab : Lib.TabIs Tryz.prog w "internal/strconv.uint64pow10" .u64 Lib.pow10Tab) :
    Calls Tryz.prog 13 #[.agg #[.int .i64 m, .int .i64 n, .int .i64 k, .int .i64 f, .slice a xs.length cap]] w fun r w' => r = .returned (.string (msgT m n k f xs)) ∧ Below w.heap.size w w' := by
  cases hok : msgB m n k f xs
  · have e : msgT m n k f xs = ⟨#[]⟩ := by unfold msgT; rw [hok]; rfl
    rw [e]; exact implMT_not m n k f a cap xs w h hx hf hok
  · have e : msgT m n k f xs = tB (linesL (headL m n k f) xs) := by unfold msgT; rw [if_pos hok]
    rw [e]; exact implMT_ok m n k f a cap xs w h hf htab hok

end Go.Proofs.YtopikapamfmalaaGreatDoor
