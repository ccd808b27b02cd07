/-
  The purse of a list of what one has, and whether such a list is ok: the program's purseOf and areCreds; nothing that was in memory is turned.
-/
import Derived.Test.YthhdddcgkoaieaaPursePut
import Derived.Test.YthhdddcgkoaieaaSealOkd
namespace Go.Proofs.Ythhdddcgkoaieaa
open Go.RowKit Go.Maps
attribute [local go_sem ↓] Go.wp_at_zero Go.wp_at_succ

/-- The block of the answer, nothing in it yet. -/
def ZBlk (w : World) (b : Nat) : Prop := w.heap[b]? = some (.cells #[.map none, .slice none 0 0] 97 (0, 0))
theorem ZBlk.lt {w : World} {b : Nat} (h : ZBlk w b) : b < w.heap.size := (Array.getElem?_eq_some_iff.1 h).1
theorem ZBlk.later {w w' : World} {b : Nat} (h : ZBlk w b) (hb : Below w.heap.size w w') : ZBlk w' b := (hb.block _ h.lt).trans h

set_option maxHeartbeats 8000000 in
set_option maxRecDepth 100000 in
theorem purseOf_any (a : Option Addr) (cap : Nat) (xs : List Cd) (w : World) (h : NRow celD w a xs) (hk : ∀ x ∈ xs, 4 ≤ x.s ∧ x.s ≤ 6) (hx : xs.length ≤ 1048576) :
    Calls Try.prog 71 #[.slice a xs.length cap] w fun r w' => ∃ m vo D, r = .returned (.agg #[.map (some m), vo]) ∧ Pu w.heap.size m vo xs D w' ∧ Below w.heap.size w w' ∧ w.heap.size ≤ m := by
  have hmm := @run_makeMap Try.prog
  have HK : Hid (∀ x ∈ xs, 4 ≤ x.s ∧ x.s ≤ 6) := hk
  clear hk
  have T0 : Hid (PBlk (((w.alloc (.cells #[.map none, .slice none 0 0] 97)).alloc (.map #[] 0)).alloc (.cells #[.map (some (w.heap.size + 1)), .slice none 0 0] 97)) (w.heap.size + 1 + 1) (w.heap.size + 1) (.slice none 0 0) ∧ Pu w.heap.size (w.heap.size + 1) (.slice none 0 0) [] (.map []) (((w.alloc (.cells #[.map none, .slice none 0 0] 97)).alloc (.map #[] 0)).alloc (.cells #[.map (some (w.heap.size + 1)), .slice none 0 0] 97)) ∧ ZBlk (((w.alloc (.cells #[.map none, .slice none 0 0] 97)).alloc (.map #[] 0)).alloc (.cells #[.map (some (w.heap.size + 1)), .slice none 0 0] 97)) w.heap.size ∧ Below w.heap.size w (((w.alloc (.cells #[.map none, .slice none 0 0] 97)).alloc (.map #[] 0)).alloc (.cells #[.map (some (w.heap.size + 1)), .slice none 0 0] 97))) := by
    have b1 := Below.alloc_ w (.cells #[.map none, .slice none 0 0] 97)
    have b2 := Below.alloc_ (w.alloc (.cells #[.map none, .slice none 0 0] 97)) (.map #[] 0)
    have b3 := Below.alloc_ ((w.alloc (.cells #[.map none, .slice none 0 0] 97)).alloc (.map #[] 0)) (.cells #[.map (some (w.heap.size + 1)), .slice none 0 0] 97)
    have e1 : (w.alloc (.cells #[.map none, .slice none 0 0] 97)).heap.size = w.heap.size + 1 := World.size_alloc _ _
    have e2 : ((w.alloc (.cells #[.map none, .slice none 0 0] 97)).alloc (.map #[] 0)).heap.size = w.heap.size + 1 + 1 := by rw [World.size_alloc, e1]
    have p := PBlk.new ((w.alloc (.cells #[.map none, .slice none 0 0] 97)).alloc (.map #[] 0)) (w.heap.size + 1) (.slice none 0 0)
    rw [e2] at p
    have u := (Pu.new (w.alloc (.cells #[.map none, .slice none 0 0] 97)) w.heap.size).later b3
    rw [e1] at u
    have z : ZBlk (w.alloc (.cells #[.map none, .slice none 0 0] 97)) w.heap.size := heap_alloc_new _ _
    refine ⟨p, u, (z.later b2).later b3, (b1.trans (b2.mono (by rw [e1]; omega))).trans (b3.mono (by rw [e2]; omega))⟩
  go_enter Try.func71, Try.ntmps71
  go_wp2_with fail
  clear hmm
  go_loopw [10] (fun i wr => ∃ (j : Nat) (vo : Value) (D : DataW Value), j ≤ xs.length ∧ i = .int .i64 j ∧ Hid (PBlk wr (w.heap.size + 1 + 1) (w.heap.size + 1) vo ∧ Pu w.heap.size (w.heap.size + 1) vo (xs.take j) D wr ∧ ZBlk wr w.heap.size ∧ Below w.heap.size w wr)) (fun i _ => xs.length - (intOf i).toNat)
  case atStart => exact ⟨0, _, _, Nat.zero_le _, rfl, T0⟩
  case round =>
    clear T0
    obtain ⟨j, vo, D, hj, rfl, C⟩ := hrel
    by_cases hlt : j < xs.length
    · obtain ⟨x, hs⟩ : ∃ x, xs[j]? = some x := ⟨xs[j], List.getElem?_eq_getElem hlt⟩
      have hkx := HK.out x (List.mem_of_getElem? hs)
      rcases h with h | ⟨b, off, rfl, hl, h⟩
      · simp [h] at hlt
      obtain ⟨d0, d1, d2, d3, d4, d5, d6, d7, d8, d9⟩ := celD.at ((h j x hs).later C.out.2.2.2 hl)
      simp only [show celD.n = 10 from rfl] at d0 d1 d2 d3 d4 d5 d6 d7 d8 d9
      have HT : Hid (xs.take (j + 1) = xs.take j ++ [x]) := take_at hs
      have HC : Hid (PBlk (wr.alloc (.cells #[.int .i64 x.s, .int .i64 x.k, .int .i64 x.u, .int .i64 x.x.k, .int .i64 x.x.t, .int .i64 x.x.a, .int .i64 x.x.b, .int .i64 x.x.c, .int .i64 x.x.d, .int .i64 x.x.e] 68)) (w.heap.size + 1 + 1) (w.heap.size + 1) vo ∧ Pu w.heap.size (w.heap.size + 1) vo (xs.take j) D (wr.alloc (.cells #[.int .i64 x.s, .int .i64 x.k, .int .i64 x.u, .int .i64 x.x.k, .int .i64 x.x.t, .int .i64 x.x.a, .int .i64 x.x.b, .int .i64 x.x.c, .int .i64 x.x.d, .int .i64 x.x.e] 68)) ∧ ZBlk (wr.alloc (.cells #[.int .i64 x.s, .int .i64 x.k, .int .i64 x.u, .int .i64 x.x.k, .int .i64 x.x.t, .int .i64 x.x.a, .int .i64 x.x.b, .int .i64 x.x.c, .int .i64 x.x.d, .int .i64 x.x.e] 68)) w.heap.size ∧ Below w.heap.size w (wr.alloc (.cells #[.int .i64 x.s, .int .i64 x.k, .int .i64 x.u, .int .i64 x.x.k, .int .i64 x.x.t, .int .i64 x.x.a, .int .i64 x.x.b, .int .i64 x.x.c, .int .i64 x.x.d, .int .i64 x.x.e] 68))) := ⟨C.out.1.later (Below.alloc_ _ _), C.out.2.1.later (Below.alloc_ _ _), C.out.2.2.1.later (Below.alloc_ _ _), C.out.2.2.2.alloc C.out.2.2.2.size _⟩
      clear h hs C
      go_wp2_with fail
      clear d0 d1 d2 d3 d4 d5 d6 d7 d8 d9
      generalize wr.alloc (.cells #[.int .i64 x.s, .int .i64 x.k, .int .i64 x.u, .int .i64 x.x.k, .int .i64 x.x.t, .int .i64 x.x.a, .int .i64 x.x.b, .int .i64 x.x.c, .int .i64 x.x.d, .int .i64 x.x.e] 68) = W at HC ⊢
      refine (put_any x (w.heap.size + 1 + 1) w.heap.size (w.heap.size + 1) vo (xs.take j) D W HC.out.1 HC.out.2.1 hkx.1 hkx.2 HC.out.2.2.2.size (by rw [List.length_take]; omega)).mono ?_
      rintro r w2 ⟨rfl, vo', D', p2, u2, g2⟩
      have HD : Hid (PBlk w2 (w.heap.size + 1 + 1) (w.heap.size + 1) vo' ∧ Pu w.heap.size (w.heap.size + 1) vo' (xs.take (j + 1)) D' w2 ∧ ZBlk w2 w.heap.size ∧ Below w.heap.size w w2) := by
        rw [HT.out]
        have hn : some w.heap.size ∉ [vo.ownBlock, some (w.heap.size + 1 + 1), some (w.heap.size + 1)] := by
          intro q
          simp only [List.mem_cons, List.not_mem_nil, or_false] at q
          rcases q with q | q | q
          · obtain ⟨cur, hc⟩ := HC.out.2.1.own.type q.symm
            exact typeN_ne hc HC.out.2.2.1 (by decide) rfl
          · injection q with q; omega
          · injection q with q; omega
        refine ⟨p2, u2, (g2.block _ HC.out.2.2.1.lt hn).trans HC.out.2.2.1, HC.out.2.2.2.trans (g2.below HC.out.2.2.2.size (fun k q => ?_))⟩
        simp only [List.mem_cons, List.not_mem_nil, or_false] at q
        rcases q with q | q | q
        · exact (HC.out.2.1.own.lt k q.symm).1
        · injection q with q; omega
        · injection q with q; omega
      clear HC p2 u2 g2 HT hkx
      go_wp2_with fail
      go_roundw
      case rel => exact ⟨j + 1, vo', D', by omega, by go_num, HD⟩
      case measure => simp [intOf]; omega
    · obtain rfl : j = xs.length := by omega
      have HD : Hid (PBlk wr (w.heap.size + 1 + 1) (w.heap.size + 1) vo ∧ Pu w.heap.size (w.heap.size + 1) vo xs D wr ∧ ZBlk wr w.heap.size ∧ Below w.heap.size w wr) := by
        have e := C.out
        rw [List.take_length] at e
        exact e
      clear h C
      obtain ⟨av, cv, rfl, _⟩ := HD.out.2.1.own.rows
      obtain ⟨q0, q1⟩ := HD.out.1.cells
      have z := HD.out.2.2.1
      unfold ZBlk at z
      have z0 : wr.cell? ⟨w.heap.size, 0, none⟩ = some (.map none) := by simp [World.cell?, z]
      have z1 : wr.cell? ⟨w.heap.size, 1, none⟩ = some (.slice none 0 0) := by simp [World.cell?, z]
      have y0 : wr.frozen? ⟨w.heap.size, 0, none⟩ = false := by simp [World.frozen?, z]
      have y1 : wr.frozen? ⟨w.heap.size, 1, none⟩ = false := by simp [World.frozen?, z]
      have lz : w.heap.size < wr.heap.size := HD.out.2.2.1.lt
      clear z
      go_wp2_with fail
      refine bodyPost_ret (v := .agg #[.map (some (w.heap.size + 1)), .slice av (ordS [] xs).length cv]) (by simp [results, Try.results71, go_sem, *]) rfl ⟨_, _, D, rfl, ?_, ?_, by omega⟩
      · have g9 : wr.grownBy ((wr.setCell ⟨w.heap.size, 0, none⟩ (.map (some (w.heap.size + 1)))).setCell ⟨w.heap.size, 1, none⟩ (.slice av (ordS [] xs).length cv)) (some w.heap.size) := ⟨rfl, rfl, rfl, by simp, fun k _ hn => (Below.heap_setCell _ _ _ _ (fun e => hn (by rw [show k = w.heap.size from e]))).trans (Below.heap_setCell _ _ _ _ (fun e => hn (by rw [show k = w.heap.size from e])))⟩
        have u := HD.out.2.1
        refine ⟨u.map.kept g9 (fun q => by injection q with q; omega), u.look, u.has, u.own.gr g9 (fun k e q => ?_)⟩
        obtain ⟨cur, hc⟩ := u.own.type e
        injection q with q
        exact typeN_ne hc HD.out.2.2.1 (by decide) q
      · exact (HD.out.2.2.2.setCell (p := ⟨w.heap.size, 0, none⟩) (Nat.le_refl _) _).setCell (p := ⟨w.heap.size, 1, none⟩) (Nat.le_refl _) _

end Go.Proofs.Ythhdddcgkoaieaa
