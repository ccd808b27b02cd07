/-
  The program's MsgRead, walked: a word just where one was read that is in form and has that text; its row is in new memory.
-/
import Derived.Test.YtopikapamfmalaaGreatDoorReadLinesW
import Derived.Test.YtopikapamfmalaaGreatDoorAsErr
import Derived.Test.YtopikapamfmalaaGreatDoorMsgTextI
namespace Go.Proofs.YtopikapamfmalaaGreatDoor
open Go.RowKit


theorem own_base {w : World} {base base' e size n : Nat} {v : Value} {xs : List Value} (h : w.ownsRow base e size v n xs) (hb : base' ≤ base) : w.ownsRow base' e size v n xs := by
  obtain ⟨hl, h | ⟨g, cap, cur, hv, hg, hr⟩⟩ := h
  · exact ⟨hl, .inl h⟩
  · exact ⟨hl, .inr ⟨g, cap, cur, hv, Nat.le_trans hb hg, hr⟩⟩
theorem own_srow {w : World} {base cap : Nat} {a : Option Addr} {xs : List Sl} (h : w.ownsRow base 39 7 (.slice a xs.length cap) xs.length (cellsL xs)) : SRow w a xs := by
  obtain ⟨a', cap', e, _, hr, _⟩ := own_row h
  injection e with e _ _
  subst e
  exact hr
theorem lns_len : ∀ (n : Nat) (s : ByteArray) (hs : s.size ≤ 200), (lns n s hs).length ≤ n
  | 0, _, _ => by simp [lns]
  | n + 1, s, hs => by
    rw [lns]
    split
    · simp
    split
    · have := lns_len n ⟨(Lib.cut s.data.toList [10]).2.1.toArray⟩ (cut_le _ _ (by rw [len_size]; exact hs)).2
      simp only [List.length_cons]; omega
    · simp

set_option maxHeartbeats 4000000 in
set_option maxRecDepth 100000 in
theorem implMR_any (s : ByteArray) (p1 p2 p3 : Option Addr) (w : World) (hl : Lb w) (he : Er p1 p2 p3 w) (hF : Forms w)
    (hg : w.cell? ⟨1, 0, none⟩ = some (.iface 113 (.agg #[.pointer (some ⟨13, 43, none⟩)]))) :
    Calls Tryz.prog 6 #[.string s] w fun r w' => ((∃ (hs : s.size ≤ 200) (m n k f : Int) (a : Option Addr) (cap : Nat) (xs : List Sl), Wrd (lns 201 s hs) m n k f xs ∧ msgB m n k f xs = true ∧ msgT m n k f xs = s ∧ r = .returned (.tuple #[.agg #[.int .i64 m, .int .i64 n, .int .i64 k, .int .i64 f, .slice a xs.length cap], .bool true]) ∧ w'.ownsRow w.heap.size 39 7 (.slice a xs.length cap) xs.length (cellsL xs))
      ∨ ((∀ hs : s.size ≤ 200, (∀ m n k f xs, ¬ Wrd (lns 201 s hs) m n k f xs) ∨ ∃ m n k f xs, Wrd (lns 201 s hs) m n k f xs ∧ ¬ (msgB m n k f xs = true ∧ msgT m n k f xs = s)) ∧ r = .returned (.tuple #[.agg zM, .bool false]))) ∧ Below w.heap.size w w' := by
  have HE : Hid (Er p1 p2 p3 w ∧ Lb w ∧ Forms w ∧ w.cell? ⟨1, 0, none⟩ = some (.iface 113 (.agg #[.pointer (some ⟨13, 43, none⟩)]))) := ⟨he, hl, hF, hg⟩
  have hgl : 1 < w.heap.size := block_lt_of_cell hg
  clear hl he hF hg
  go_enter Tryz.func6, Tryz.ntmps6
  by_cases hs : s.size ≤ 200
  · have hs' : ¬ ((s.size : Int) > 200) := by omega
    go_wp2_with fail
    obtain ⟨W0, hW0⟩ : ∃ W0, W0 = w.alloc (.cells zM 24) := ⟨_, rfl⟩
    rw [← hW0]
    have hz : W0.heap.size = w.heap.size + 1 := by subst hW0; simp
    have B0 : Below w.heap.size w W0 := hW0 ▸ (Below.refl _ _).alloc (Nat.le_refl _) _
    have k0 : W0.heap[w.heap.size]? = some (.cells zM 24 (0, 0)) := by subst hW0; exact heap_alloc_new _ _
    clear hW0
    refine (readLines_any s hs p1 p2 p3 W0 (HE.out.2.1.below B0) (HE.out.1.below B0)).mono ?_
    rintro r1 w1 ⟨hr, b1⟩
    have z1 := b1.size
    have D1 : Hid (Below w.heap.size w w1 ∧ w1.heap[w.heap.size]? = some (.cells zM 24 (0, 0))) := ⟨B0.trans (b1.mono (by omega)), (b1.block _ (by omega)).trans k0⟩
    clear b1 B0 k0
    obtain ⟨y0, y1, y2, y3, y4, yf, yl⟩ := cells5 D1.out.2
    rcases hr with ⟨m, n, k, f, a, cap, xs, hR, rfl, hown⟩ | ⟨hN, c, te, ve, rfl⟩
    · have HR : Hid (Wrd (lns 201 s hs) m n k f xs ∧ w1.ownsRow W0.heap.size 39 7 (.slice a xs.length cap) xs.length (cellsL xs)) := ⟨hR, hown⟩
      clear hR hown
      go_wp2_with fail
      refine (as_nil _ _).mono ?_
      rintro e w' ⟨rfl, rfl⟩
      obtain ⟨W2, hW2⟩ : ∃ W2, W2 = (w1.alloc (.cells #[.int .i64 m, .int .i64 n, .int .i64 k, .int .i64 f, .slice a xs.length cap] 24)).alloc (.cells #[.int .i64 0, .nilIface] 47) := ⟨_, rfl⟩
      rw [← hW2]
      have hz2 : W2.heap.size = w1.heap.size + 2 := by subst hW2; simp
      have B1 : Below w1.heap.size w1 W2 := hW2 ▸ ((Below.refl _ _).alloc (Nat.le_refl _) _).alloc (by simp) _
      have D2 : Hid (Below w.heap.size w W2 ∧ W2.heap[w.heap.size]? = some (.cells zM 24 (0, 0)) ∧ W2.heap[w1.heap.size]? = some (.cells #[.int .i64 m, .int .i64 n, .int .i64 k, .int .i64 f, .slice a xs.length cap] 24 (0, 0)) ∧ W2.ownsRow w.heap.size 39 7 (.slice a xs.length cap) xs.length (cellsL xs)) :=
        ⟨D1.out.1.trans (B1.mono (by omega)), (B1.block _ (by omega)).trans D1.out.2, by subst hW2; exact keep_alloc _ (heap_alloc_new _ _), own_blocks (own_base HR.out.2 (by omega)) fun g _ hg => B1.block g hg⟩
      clear hW2 B1 D1 y0 y1 y2 y3 y4 yf yl
      obtain ⟨y0, y1, y2, y3, y4, yf, yl⟩ := cells5 D2.out.2.1
      obtain ⟨z0, z1', z2, z3, z4, zf, zl⟩ := cells5 D2.out.2.2.1
      have hxl : xs.length ≤ 2000000 := by have := HR.out.1.len; have := lns_len 201 s hs; omega
      go_wp2_with fail
      refine (implMsg_any m n k f a cap xs W2 (own_srow D2.out.2.2.2) hxl (HE.out.2.2.1.later D2.out.1)).mono ?_
      rintro e w3 ⟨rfl, b3⟩
      have z3s := b3.size
      have D3 : Hid (Below w.heap.size w w3 ∧ w3.heap[w.heap.size]? = some (.cells zM 24 (0, 0)) ∧ w3.heap[w1.heap.size]? = some (.cells #[.int .i64 m, .int .i64 n, .int .i64 k, .int .i64 f, .slice a xs.length cap] 24 (0, 0)) ∧ w3.ownsRow w.heap.size 39 7 (.slice a xs.length cap) xs.length (cellsL xs)) :=
        ⟨D2.out.1.trans (b3.mono (by omega)), (b3.block _ (by omega)).trans D2.out.2.1, (b3.block _ (by omega)).trans D2.out.2.2.1, own_blocks D2.out.2.2.2 fun g _ hg => b3.block g hg⟩
      clear b3 D2 y0 y1 y2 y3 y4 yf yl z0 z1' z2 z3 z4 zf zl
      obtain ⟨y0, y1, y2, y3, y4, yf, yl⟩ := cells5 D3.out.2.1
      obtain ⟨z0, z1', z2, z3, z4, zf, zl⟩ := cells5 D3.out.2.2.1
      cases hB : msgB m n k f xs
      · go_wp2_with fail
        refine bodyPost_ret (v := .tuple #[.agg zM, .bool false]) (by simp [results, Tryz.results6, go_sem, *]) rfl ⟨.inr ⟨fun _ => .inr ⟨m, n, k, f, xs, HR.out.1, by rw [hB]; simp⟩, rfl⟩, put5_below D3.out.1 (Nat.le_refl _) _ _ _ _ _⟩
      · go_wp2_with fail
        refine (implMT_any m n k f a cap xs w3 (own_srow D3.out.2.2.2) hxl (HE.out.2.2.1.later D3.out.1) (HE.out.2.1.below D3.out.1).tab).mono ?_
        rintro e w4 ⟨rfl, b4⟩
        have z4s := b4.size
        have D4 : Hid (Below w.heap.size w w4 ∧ w4.heap[w.heap.size]? = some (.cells zM 24 (0, 0)) ∧ w4.heap[w1.heap.size]? = some (.cells #[.int .i64 m, .int .i64 n, .int .i64 k, .int .i64 f, .slice a xs.length cap] 24 (0, 0)) ∧ w4.ownsRow w.heap.size 39 7 (.slice a xs.length cap) xs.length (cellsL xs)) :=
          ⟨D3.out.1.trans (b4.mono (by omega)), (b4.block _ (by omega)).trans D3.out.2.1, (b4.block _ (by omega)).trans D3.out.2.2.1, own_blocks D3.out.2.2.2 fun g _ hg => b4.block g hg⟩
        clear b4 D3 y0 y1 y2 y3 y4 yf yl z0 z1' z2 z3 z4 zf zl
        obtain ⟨y0, y1, y2, y3, y4, yf, yl⟩ := cells5 D4.out.2.1
        obtain ⟨z0, z1', z2, z3, z4, zf, zl⟩ := cells5 D4.out.2.2.1
        have HB : Hid (msgB m n k f xs = true) := hB
        clear hB
        by_cases hTs : msgT m n k f xs = s
        · have hq : ((msgT m n k f xs).toList == s.toList) = true := by rw [hTs]; simp
          have HT : Hid (msgT m n k f xs = s) := hTs
          clear hTs
          go_wp2_with fail
          refine bodyPost_ret (v := .tuple #[.agg #[.int .i64 m, .int .i64 n, .int .i64 k, .int .i64 f, .slice a xs.length cap], .bool true]) (by simp [results, Tryz.results6, go_sem, *]) rfl ⟨.inl ⟨hs, m, n, k, f, a, cap, xs, HR.out.1, HB.out, HT.out, rfl, put5_own D4.out.2.2.2 D4.out.2.1 (by decide)⟩, put5_below D4.out.1 (Nat.le_refl _) _ _ _ _ _⟩
        · have hq : ((msgT m n k f xs).toList == s.toList) = false := by
            cases hb : ((msgT m n k f xs).toList == s.toList)
            · rfl
            · have h1 := eq_of_beq hb
              rw [ByteArray.toList_eq, ByteArray.toList_eq] at h1
              exact absurd (ByteArray.ext (Array.toList_inj.1 h1)) hTs
          have HT : Hid (¬ msgT m n k f xs = s) := hTs
          clear hTs
          go_wp2_with fail
          refine bodyPost_ret (v := .tuple #[.agg zM, .bool false]) (by simp [results, Tryz.results6, go_sem, *]) rfl ⟨.inr ⟨fun _ => .inr ⟨m, n, k, f, xs, HR.out.1, fun h => HT.out h.2⟩, rfl⟩, put5_below D4.out.1 (Nat.le_refl _) _ _ _ _ _⟩
    · have HN : Hid (∀ m n k f xs, ¬ Wrd (lns 201 s hs) m n k f xs) := hN
      clear hN
      go_wp2_with fail
      obtain ⟨W2, hW2⟩ : ∃ W2, W2 = (w1.alloc (.cells zM 24)).alloc (.cells #[.int .i64 0, .nilIface] 47) := ⟨_, rfl⟩
      rw [← hW2]
      have hz2 : W2.heap.size = w1.heap.size + 2 := by subst hW2; simp
      have B1 : Below w1.heap.size w1 W2 := hW2 ▸ ((Below.refl _ _).alloc (Nat.le_refl _) _).alloc (by simp) _
      have e2 : W2.heap[w1.heap.size + 1]? = some (.cells #[.int .i64 0, .nilIface] 47 (0, 0)) := by subst hW2; exact new_alloc (by simp)
      have D2 : Hid (Below w.heap.size w W2 ∧ W2.heap[w.heap.size]? = some (.cells zM 24 (0, 0))) :=
        ⟨D1.out.1.trans (B1.mono (by omega)), (B1.block _ (by omega)).trans D1.out.2⟩
      clear hW2 B1 D1 y0 y1 y2 y3 y4 yf yl
      have hhit := as_hit c te ve (.int .i64 0) .nilIface (w1.heap.size + 1) W2 ((D2.out.1.cell (p := ⟨_, 0, none⟩) hgl).trans HE.out.2.2.2) (by have := D2.out.1.size; omega) (by simp only [World.cell?, e2]; rfl) (by simp only [World.cell?, e2]; rfl) (by simp only [World.frozen?, e2]; rfl) (by simp only [World.frozen?, e2]; rfl) (by omega)
      refine hhit.mono ?_
      clear hhit
      rintro e w3 ⟨rfl, hw3⟩
      have D3 : Hid (Below w.heap.size w w3 ∧ w3.heap[w.heap.size]? = some (.cells zM 24 (0, 0))) := by
        have hb : Below (w.heap.size + 1) W2 w3 := hw3 ▸ (((((((Below.refl _ _).alloc (by omega) _).alloc (by simp; omega) _).alloc (by simp; omega) _).alloc (by simp; omega) _).setCell (p := ⟨w1.heap.size + 1, 0, none⟩) (by simp; omega) _).setCell (p := ⟨w1.heap.size + 1, 1, none⟩) (by simp; omega) _)
        exact ⟨D2.out.1.trans (hb.mono (by omega)), (hb.block _ (by omega)).trans D2.out.2⟩
      clear hw3 D2 e2
      obtain ⟨y0, y1, y2, y3, y4, yf, yl⟩ := cells5 D3.out.2
      go_wp2_with fail
      refine bodyPost_ret (v := .tuple #[.agg zM, .bool false]) (by simp [results, Tryz.results6, go_sem, *]) rfl ⟨.inr ⟨fun _ => .inl HN.out, rfl⟩, put5_below D3.out.1 (Nat.le_refl _) _ _ _ _ _⟩
  · have hs' : (s.size : Int) > 200 := by omega
    go_wp2
    refine bodyPost_ret (v := .tuple #[.agg zM, .bool false]) (by simp [results, Tryz.results6, go_sem, *]) rfl ⟨.inr ⟨fun h => absurd h hs, rfl⟩, (Below.refl _ _).alloc (Nat.le_refl _) _⟩

end Go.Proofs.YtopikapamfmalaaGreatDoor
