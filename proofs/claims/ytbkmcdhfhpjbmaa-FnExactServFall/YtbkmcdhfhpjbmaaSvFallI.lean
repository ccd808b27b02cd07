/-
  A service that falls, by the program, whatever memoryOf gives.
-/
import Derived.Test.YtbkmcdhfhpjbmaaSvFallS
import Derived.Test.YtbkmcdhfhpjbmaaSvServ
import Derived.Test.YtbkmcdhfhpjbmaaSvOf
namespace Go.Proofs.Ytbkmcdhfhpjbmaa
open Go.RowKit
attribute [local go_sem ↓] Go.wp_at_zero Go.wp_at_succ

theorem lessS {w : World} {B B' : Nat} {v : Value} {zs : List Sl} (h : OwnS w B v zs) (hb : B' ≤ B) : OwnS w B' v zs :=
  ⟨h.1, h.2.imp id fun ⟨g, cap, cur, e, h2, r⟩ => ⟨g, cap, cur, e, Nat.le_trans hb h2, r⟩⟩
set_option maxHeartbeats 4000000 in
set_option maxRecDepth 100000 in
theorem implServFall_gen (i s9 : Int) (a1 a2 : Option Addr) (c1 c2 : Nat) (xs : List Sl) (ts : List Ca) (now : Int) (w : World) (h1 : SRow w a1 xs) (h2 : NRow celC w a2 ts) (hc : xs.length ≤ c1) (hx2 : ts.length ≤ 1048576)
    (hM : servB i s9 xs ts = true → ∀ w1, SRow w1 a1 xs → Calls Try.prog 37 #[.slice a1 xs.length c1] w1 fun r w' => ∃ pv, r = .returned (.agg #[pv]) ∧ True ∧ Below w1.heap.size w1 w') :
    Calls Try.prog 7 #[.agg #[.int .i64 i, .int .i64 s9, .slice a1 xs.length c1, .slice a2 ts.length c2], .int .i64 now] w fun r w' => SvRet w.heap.size w w' (fallA i s9 xs ts now) r := by
  obtain ⟨W, hW⟩ : ∃ W, W = ((w.alloc (.cells #[.int .i64 i, .int .i64 s9, .slice a1 xs.length c1, .slice a2 ts.length c2] 30)).alloc (.cells #[.int .i64 0, .int .i64 0, .slice none 0 0, .slice none 0 0] 30)) := ⟨_, rfl⟩
  have HB : Hid (ABlk 30 W w.heap.size #[.int .i64 i, .int .i64 s9, .slice a1 xs.length c1, .slice a2 ts.length c2] ∧ ABlk 30 W (w.heap.size + 1) #[.int .i64 0, .int .i64 0, .slice none 0 0, .slice none 0 0] ∧ Below w.heap.size w W ∧ SRow W a1 xs ∧ NRow celC W a2 ts) := by
    have hb : Below w.heap.size w W := by
      rw [hW]
      exact (Below.alloc_ _ _).trans ((Below.alloc_ _ _).mono (by simp))
    refine ⟨?_, ?_, hb, h1.later hb, h2.later hb⟩
    · rw [hW]
      exact (ABlk.new _ _ _).later (Below.alloc_ _ _)
    · rw [hW]
      have e := ABlk.new (w.alloc (.cells #[.int .i64 i, .int .i64 s9, .slice a1 xs.length c1, .slice a2 ts.length c2] 30)) 30 #[.int .i64 0, .int .i64 0, .slice none 0 0, .slice none 0 0]
      rw [World.size_alloc] at e
      exact e
  have HM : Hid (servB i s9 xs ts = true → ∀ w1, SRow w1 a1 xs → Calls Try.prog 37 #[.slice a1 xs.length c1] w1 fun r w' => ∃ pv, r = .returned (.agg #[pv]) ∧ True ∧ Below w1.heap.size w1 w') := hM
  clear h1 h2 hM
  go_enter Try.func7, Try.ntmps7
  go_wp2_with fail
  rw [← hW]
  clear hW
  refine (implServOk_any i s9 _ _ _ _ xs ts _ HB.out.2.2.2.1 HB.out.2.2.2.2 hc hx2).mono ?_
  rintro r w1 ⟨rfl, b9⟩
  have H1 : Hid (ABlk 30 w1 w.heap.size #[.int .i64 i, .int .i64 s9, .slice a1 xs.length c1, .slice a2 ts.length c2] ∧ ABlk 30 w1 (w.heap.size + 1) #[.int .i64 0, .int .i64 0, .slice none 0 0, .slice none 0 0] ∧ Below w.heap.size w w1 ∧ SRow w1 a1 xs ∧ NRow celC w1 a2 ts) := ⟨HB.out.1.later b9, HB.out.2.1.later b9, HB.out.2.2.1.trans (b9.mono HB.out.2.2.1.size), HB.out.2.2.2.1.later b9, HB.out.2.2.2.2.later b9⟩
  clear HB b9
  have z0 := H1.out.2.1.at 0 _ rfl
  have zf0 := H1.out.2.1.fro 0
  have z1 := H1.out.2.1.at 1 _ rfl
  have zf1 := H1.out.2.1.fro 1
  have z2 := H1.out.2.1.at 2 _ rfl
  have zf2 := H1.out.2.1.fro 2
  have z3 := H1.out.2.1.at 3 _ rfl
  have zf3 := H1.out.2.1.fro 3
  cases u1 : servB i s9 xs ts
  · have EA : Hid (fallA i s9 xs ts now = noSv) := Hid.mk' (by unfold fallA; rw [if_neg (by rw [u1]; simp)])
    have g9 : GrL w1 ((((w1.setCell ⟨w.heap.size + 1, 0, none⟩ (Value.int .i64 0)).setCell ⟨w.heap.size + 1, 1, none⟩ (Value.int .i64 0)).setCell ⟨w.heap.size + 1, 2, none⟩ (Value.slice none 0 0)).setCell ⟨w.heap.size + 1, 3, none⟩ (Value.slice none 0 0)) [some (w.heap.size + 1)] := put4_grl _ _ _ _ _ _
    have k9 : ABlk 30 ((((w1.setCell ⟨w.heap.size + 1, 0, none⟩ (Value.int .i64 0)).setCell ⟨w.heap.size + 1, 1, none⟩ (Value.int .i64 0)).setCell ⟨w.heap.size + 1, 2, none⟩ (Value.slice none 0 0)).setCell ⟨w.heap.size + 1, 3, none⟩ (Value.slice none 0 0)) (w.heap.size + 1) #[.int .i64 0, .int .i64 0, .slice none 0 0, .slice none 0 0] := H1.out.2.1.put4 _ _ _ _
    have HV : Hid (∀ V, V = ((((w1.setCell ⟨w.heap.size + 1, 0, none⟩ (Value.int .i64 0)).setCell ⟨w.heap.size + 1, 1, none⟩ (Value.int .i64 0)).setCell ⟨w.heap.size + 1, 2, none⟩ (Value.slice none 0 0)).setCell ⟨w.heap.size + 1, 3, none⟩ (Value.slice none 0 0)) → ABlk 30 V (w.heap.size + 1) #[.int .i64 0, .int .i64 0, .slice none 0 0, .slice none 0 0] ∧ Below w.heap.size w V) := fun V hV => hV ▸ ⟨k9, below_grl H1.out.2.2.1 g9 H1.out.2.2.1.size (fun k hk => by simp at hk; omega)⟩
    clear g9 k9
    go_wp2_with fail
    clear z0 z1 z2 z3 zf0 zf1 zf2 zf3
    obtain ⟨V, hV⟩ : ∃ V, V = ((((w1.setCell ⟨w.heap.size + 1, 0, none⟩ (Value.int .i64 0)).setCell ⟨w.heap.size + 1, 1, none⟩ (Value.int .i64 0)).setCell ⟨w.heap.size + 1, 2, none⟩ (Value.slice none 0 0)).setCell ⟨w.heap.size + 1, 3, none⟩ (Value.slice none 0 0)) := ⟨_, rfl⟩
    rw [← hV]
    have HX : Hid (ABlk 30 V (w.heap.size + 1) #[.int .i64 0, .int .i64 0, .slice none 0 0, .slice none 0 0] ∧ Below w.heap.size w V) := HV.out V hV
    clear hV HV H1
    have y0 := HX.out.1.at 0 _ rfl
    have y1 := HX.out.1.at 1 _ rfl
    have y2 := HX.out.1.at 2 _ rfl
    have y3 := HX.out.1.at 3 _ rfl
    refine bodyPost_ret (v := .agg #[.int .i64 0, .int .i64 0, .slice none 0 0, .slice none 0 0]) (by simp [results, Try.results7, go_sem, *]) rfl (noSv_ret EA.out rfl HX.out.2)
  go_wp2_with fail
  refine (isTime_any _ _).mono ?_
  rintro r w9 ⟨rfl, he9⟩
  obtain rfl : w1 = w9 := he9.symm
  cases u2 : inB now 0 100
  · have EA : Hid (fallA i s9 xs ts now = noSv) := Hid.mk' (by unfold fallA; rw [if_neg (by rw [u2]; simp)])
    have g9 : GrL w1 ((((w1.setCell ⟨w.heap.size + 1, 0, none⟩ (Value.int .i64 0)).setCell ⟨w.heap.size + 1, 1, none⟩ (Value.int .i64 0)).setCell ⟨w.heap.size + 1, 2, none⟩ (Value.slice none 0 0)).setCell ⟨w.heap.size + 1, 3, none⟩ (Value.slice none 0 0)) [some (w.heap.size + 1)] := put4_grl _ _ _ _ _ _
    have k9 : ABlk 30 ((((w1.setCell ⟨w.heap.size + 1, 0, none⟩ (Value.int .i64 0)).setCell ⟨w.heap.size + 1, 1, none⟩ (Value.int .i64 0)).setCell ⟨w.heap.size + 1, 2, none⟩ (Value.slice none 0 0)).setCell ⟨w.heap.size + 1, 3, none⟩ (Value.slice none 0 0)) (w.heap.size + 1) #[.int .i64 0, .int .i64 0, .slice none 0 0, .slice none 0 0] := H1.out.2.1.put4 _ _ _ _
    have HV : Hid (∀ V, V = ((((w1.setCell ⟨w.heap.size + 1, 0, none⟩ (Value.int .i64 0)).setCell ⟨w.heap.size + 1, 1, none⟩ (Value.int .i64 0)).setCell ⟨w.heap.size + 1, 2, none⟩ (Value.slice none 0 0)).setCell ⟨w.heap.size + 1, 3, none⟩ (Value.slice none 0 0)) → ABlk 30 V (w.heap.size + 1) #[.int .i64 0, .int .i64 0, .slice none 0 0, .slice none 0 0] ∧ Below w.heap.size w V) := fun V hV => hV ▸ ⟨k9, below_grl H1.out.2.2.1 g9 H1.out.2.2.1.size (fun k hk => by simp at hk; omega)⟩
    clear g9 k9
    go_wp2_with fail
    clear z0 z1 z2 z3 zf0 zf1 zf2 zf3
    obtain ⟨V, hV⟩ : ∃ V, V = ((((w1.setCell ⟨w.heap.size + 1, 0, none⟩ (Value.int .i64 0)).setCell ⟨w.heap.size + 1, 1, none⟩ (Value.int .i64 0)).setCell ⟨w.heap.size + 1, 2, none⟩ (Value.slice none 0 0)).setCell ⟨w.heap.size + 1, 3, none⟩ (Value.slice none 0 0)) := ⟨_, rfl⟩
    rw [← hV]
    have HX : Hid (ABlk 30 V (w.heap.size + 1) #[.int .i64 0, .int .i64 0, .slice none 0 0, .slice none 0 0] ∧ Below w.heap.size w V) := HV.out V hV
    clear hV HV H1
    have y0 := HX.out.1.at 0 _ rfl
    have y1 := HX.out.1.at 1 _ rfl
    have y2 := HX.out.1.at 2 _ rfl
    have y3 := HX.out.1.at 3 _ rfl
    refine bodyPost_ret (v := .agg #[.int .i64 0, .int .i64 0, .slice none 0 0, .slice none 0 0]) (by simp [results, Try.results7, go_sem, *]) rfl (noSv_ret EA.out rfl HX.out.2)
  have EA : Hid (fallA i s9 xs ts now = ⟨i, max s9 now, [], ts⟩) := Hid.mk' (by unfold fallA; rw [if_pos ⟨u1, u2⟩])
  have p0 := H1.out.1.at 0 _ rfl
  have p1 := H1.out.1.at 1 _ rfl
  have p2 := H1.out.1.at 2 _ rfl
  have p3 := H1.out.1.at 3 _ rfl
  go_wp2_with fail
  clear p0 p1 p2 p3 z0 z1 z2 z3 zf0 zf1 zf2 zf3
  refine (servingOf_gen (fun _ _ => True) i s9 a1 a2 c1 c2 xs ts w1 H1.out.2.2.2.1 H1.out.2.2.2.2 hx2 (fun _ _ _ _ _ => trivial) (HM.out u1)).mono ?_
  rintro r w2 ⟨x, pv, b1, d1, rfl, lx, h3, _, h5, b9⟩
  have hB : w.heap.size ≤ w1.heap.size := H1.out.2.2.1.size
  have lR : w.heap.size + 1 < w1.heap.size := H1.out.2.1.lt
  have H2 : Hid (ABlk 49 w2 x #[pv, .int .i64 i, .int .i64 s9, .slice b1 ts.length d1] ∧ ABlk 30 w2 (w.heap.size + 1) #[.int .i64 0, .int .i64 0, .slice none 0 0, .slice none 0 0] ∧ Below w.heap.size w w2 ∧ OwnN celC 59 w2 w1.heap.size (.slice b1 ts.length d1) ts) := ⟨h3, H1.out.2.1.later b9, H1.out.2.2.1.trans (b9.mono hB), h5⟩
  clear H1 h3 h5 b9
  have hmx : (s9 < now ∧ max s9 now = now) ∨ (now ≤ s9 ∧ max s9 now = s9) := by omega
  generalize max s9 now = mx at EA hmx
  have x0 := H2.out.1.at 0 _ rfl
  have x1 := H2.out.1.at 1 _ rfl
  have x2 := H2.out.1.at 2 _ rfl
  have x3 := H2.out.1.at 3 _ rfl
  have xf0 := H2.out.1.fro 0
  have xf2 := H2.out.1.fro 2
  rcases hmx with ⟨hlt, rfl⟩ | ⟨hlt, rfl⟩
  · go_wp2_with fail
    clear x0 x1 x2 x3 xf0 xf2
    have HN : Hid (ABlk 49 ((w2.setCell ⟨x, 0, none⟩ (.pointer none)).setCell ⟨x, 2, none⟩ (.int .i64 mx)) x #[.pointer none, .int .i64 i, .int .i64 mx, .slice b1 ts.length d1] ∧ ABlk 30 ((w2.setCell ⟨x, 0, none⟩ (.pointer none)).setCell ⟨x, 2, none⟩ (.int .i64 mx)) (w.heap.size + 1) #[.int .i64 0, .int .i64 0, .slice none 0 0, .slice none 0 0] ∧ Below w.heap.size w ((w2.setCell ⟨x, 0, none⟩ (.pointer none)).setCell ⟨x, 2, none⟩ (.int .i64 mx)) ∧ OwnN celC 59 ((w2.setCell ⟨x, 0, none⟩ (.pointer none)).setCell ⟨x, 2, none⟩ (.int .i64 mx)) w1.heap.size (.slice b1 ts.length d1) ts) := by
      have g8 := setCell_grl w2 x 0 (.pointer none)
      have k8 := H2.out.1.set 0 (.pointer none)
      have r8 := H2.out.2.1.grl g8 (by simp; omega)
      have b8 := below_grl H2.out.2.2.1 g8 H2.out.2.2.1.size (fun k hk => by simp at hk; omega)
      have o8 := own_grl H2.out.2.2.2 g8 (fun k e hm => by simp at hm; exact own_off H2.out.1 H2.out.2.2.2 (by decide) (hm ▸ e))
      generalize (w2.setCell ⟨x, 0, none⟩ (.pointer none)) = w3 at k8 r8 b8 o8 ⊢
      have g9 := setCell_grl w3 x 2 (.int .i64 mx)
      have k9 := k8.set 2 (.int .i64 mx)
      exact ⟨k9, r8.grl g9 (by simp; omega), below_grl b8 g9 b8.size (fun k hk => by simp at hk; omega), own_grl o8 g9 (fun k e hm => by simp at hm; exact own_off k8 o8 (by decide) (hm ▸ e))⟩
    clear H2
    generalize ((w2.setCell ⟨x, 0, none⟩ (.pointer none)).setCell ⟨x, 2, none⟩ (.int .i64 mx)) = w5 at HN ⊢
    refine (serv_gen (fun W => ABlk 49 W x #[.pointer none, .int .i64 i, .int .i64 mx, .slice b1 ts.length d1]) x (.pointer none) i mx [] b1 ts d1 w5 HN.out.1 HN.out.1 (fun _ _ h b => h.later b) (fun _ _ h g => h.grl g (by have h7 := HN.out.1.lt; simp; omega)) (fun v1 h _ => (list_nil x i mx _ v1 h).mono (by rintro r v2 ⟨rfl, rfl⟩; exact ⟨none, 0, rfl, World.ownsRow_nil _ _ _ _, Below.refl _ _⟩))).mono ?_
    rintro r w6 ⟨b0, d0, rfl, o0, b9⟩
    have H6 : Hid (ABlk 30 w6 (w.heap.size + 1) #[.int .i64 0, .int .i64 0, .slice none 0 0, .slice none 0 0] ∧ Below w.heap.size w w6 ∧ OwnS w6 w.heap.size (.slice b0 ([] : List Sl).length d0) [] ∧ OwnN celC 59 w6 w.heap.size (.slice b1 ts.length d1) ts) := ⟨HN.out.2.1.later b9, HN.out.2.2.1.trans (b9.mono HN.out.2.2.1.size), lessS o0 HN.out.2.2.1.size, (HN.out.2.2.2.later b9).lessC hB⟩
    clear HN o0 b9
    have z0 := H6.out.1.at 0 _ rfl
    have zf0 := H6.out.1.fro 0
    have z1 := H6.out.1.at 1 _ rfl
    have zf1 := H6.out.1.fro 1
    have z2 := H6.out.1.at 2 _ rfl
    have zf2 := H6.out.1.fro 2
    have z3 := H6.out.1.at 3 _ rfl
    have zf3 := H6.out.1.fro 3
    go_wp2_with fail
    clear z0 z1 z2 z3 zf0 zf1 zf2 zf3
    have HX : Hid (ABlk 30 ((((w6.setCell ⟨w.heap.size + 1, 0, none⟩ (Value.int .i64 i)).setCell ⟨w.heap.size + 1, 1, none⟩ (Value.int .i64 mx)).setCell ⟨w.heap.size + 1, 2, none⟩ (Value.slice b0 0 d0)).setCell ⟨w.heap.size + 1, 3, none⟩ (Value.slice b1 ts.length d1)) (w.heap.size + 1) #[(Value.int .i64 i), (Value.int .i64 mx), (Value.slice b0 0 d0), (Value.slice b1 ts.length d1)] ∧ Below w.heap.size w ((((w6.setCell ⟨w.heap.size + 1, 0, none⟩ (Value.int .i64 i)).setCell ⟨w.heap.size + 1, 1, none⟩ (Value.int .i64 mx)).setCell ⟨w.heap.size + 1, 2, none⟩ (Value.slice b0 0 d0)).setCell ⟨w.heap.size + 1, 3, none⟩ (Value.slice b1 ts.length d1)) ∧ OwnS ((((w6.setCell ⟨w.heap.size + 1, 0, none⟩ (Value.int .i64 i)).setCell ⟨w.heap.size + 1, 1, none⟩ (Value.int .i64 mx)).setCell ⟨w.heap.size + 1, 2, none⟩ (Value.slice b0 0 d0)).setCell ⟨w.heap.size + 1, 3, none⟩ (Value.slice b1 ts.length d1)) w.heap.size (.slice b0 ([] : List Sl).length d0) [] ∧ OwnN celC 59 ((((w6.setCell ⟨w.heap.size + 1, 0, none⟩ (Value.int .i64 i)).setCell ⟨w.heap.size + 1, 1, none⟩ (Value.int .i64 mx)).setCell ⟨w.heap.size + 1, 2, none⟩ (Value.slice b0 0 d0)).setCell ⟨w.heap.size + 1, 3, none⟩ (Value.slice b1 ts.length d1)) w.heap.size (.slice b1 ts.length d1) ts) := by
      have g9 : GrL w6 ((((w6.setCell ⟨w.heap.size + 1, 0, none⟩ (Value.int .i64 i)).setCell ⟨w.heap.size + 1, 1, none⟩ (Value.int .i64 mx)).setCell ⟨w.heap.size + 1, 2, none⟩ (Value.slice b0 0 d0)).setCell ⟨w.heap.size + 1, 3, none⟩ (Value.slice b1 ts.length d1)) [some (w.heap.size + 1)] := put4_grl _ _ _ _ _ _
      have k9 : ABlk 30 ((((w6.setCell ⟨w.heap.size + 1, 0, none⟩ (Value.int .i64 i)).setCell ⟨w.heap.size + 1, 1, none⟩ (Value.int .i64 mx)).setCell ⟨w.heap.size + 1, 2, none⟩ (Value.slice b0 0 d0)).setCell ⟨w.heap.size + 1, 3, none⟩ (Value.slice b1 ts.length d1)) (w.heap.size + 1) #[(Value.int .i64 i), (Value.int .i64 mx), (Value.slice b0 0 d0), (Value.slice b1 ts.length d1)] := H6.out.1.put4 _ _ _ _
      exact ⟨k9, below_grl H6.out.2.1 g9 H6.out.2.1.size (fun k hk => by simp at hk; omega), own_grl H6.out.2.2.1 g9 (fun k e hm => by simp at hm; exact own_off H6.out.1 H6.out.2.2.1 (by decide) (hm ▸ e)), own_grl H6.out.2.2.2 g9 (fun k e hm => by simp at hm; exact own_off H6.out.1 H6.out.2.2.2 (by decide) (hm ▸ e))⟩
    clear H6
    generalize ((((w6.setCell ⟨w.heap.size + 1, 0, none⟩ (Value.int .i64 i)).setCell ⟨w.heap.size + 1, 1, none⟩ (Value.int .i64 mx)).setCell ⟨w.heap.size + 1, 2, none⟩ (Value.slice b0 0 d0)).setCell ⟨w.heap.size + 1, 3, none⟩ (Value.slice b1 ts.length d1)) = X at HX ⊢
    have y0 := HX.out.1.at 0 _ rfl
    have y1 := HX.out.1.at 1 _ rfl
    have y2 := HX.out.1.at 2 _ rfl
    have y3 := HX.out.1.at 3 _ rfl
    refine bodyPost_ret (v := .agg #[(Value.int .i64 i), (Value.int .i64 mx), (Value.slice b0 0 d0), (Value.slice b1 ts.length d1)]) (by simp [results, Try.results7, go_sem, *]) rfl ?_
    rw [EA.out]
    exact ⟨b0, d0, b1, d1, rfl, HX.out.2.2.1, HX.out.2.2.2, HX.out.2.1⟩

  · go_wp2_with fail
    clear x0 x1 x2 x3 xf0 xf2
    have HN : Hid (ABlk 49 ((w2.setCell ⟨x, 0, none⟩ (.pointer none)).setCell ⟨x, 2, none⟩ (.int .i64 mx)) x #[.pointer none, .int .i64 i, .int .i64 mx, .slice b1 ts.length d1] ∧ ABlk 30 ((w2.setCell ⟨x, 0, none⟩ (.pointer none)).setCell ⟨x, 2, none⟩ (.int .i64 mx)) (w.heap.size + 1) #[.int .i64 0, .int .i64 0, .slice none 0 0, .slice none 0 0] ∧ Below w.heap.size w ((w2.setCell ⟨x, 0, none⟩ (.pointer none)).setCell ⟨x, 2, none⟩ (.int .i64 mx)) ∧ OwnN celC 59 ((w2.setCell ⟨x, 0, none⟩ (.pointer none)).setCell ⟨x, 2, none⟩ (.int .i64 mx)) w1.heap.size (.slice b1 ts.length d1) ts) := by
      have g8 := setCell_grl w2 x 0 (.pointer none)
      have k8 := H2.out.1.set 0 (.pointer none)
      have r8 := H2.out.2.1.grl g8 (by simp; omega)
      have b8 := below_grl H2.out.2.2.1 g8 H2.out.2.2.1.size (fun k hk => by simp at hk; omega)
      have o8 := own_grl H2.out.2.2.2 g8 (fun k e hm => by simp at hm; exact own_off H2.out.1 H2.out.2.2.2 (by decide) (hm ▸ e))
      generalize (w2.setCell ⟨x, 0, none⟩ (.pointer none)) = w3 at k8 r8 b8 o8 ⊢
      have g9 := setCell_grl w3 x 2 (.int .i64 mx)
      have k9 := k8.set 2 (.int .i64 mx)
      exact ⟨k9, r8.grl g9 (by simp; omega), below_grl b8 g9 b8.size (fun k hk => by simp at hk; omega), own_grl o8 g9 (fun k e hm => by simp at hm; exact own_off k8 o8 (by decide) (hm ▸ e))⟩
    clear H2
    generalize ((w2.setCell ⟨x, 0, none⟩ (.pointer none)).setCell ⟨x, 2, none⟩ (.int .i64 mx)) = w5 at HN ⊢
    refine (serv_gen (fun W => ABlk 49 W x #[.pointer none, .int .i64 i, .int .i64 mx, .slice b1 ts.length d1]) x (.pointer none) i mx [] b1 ts d1 w5 HN.out.1 HN.out.1 (fun _ _ h b => h.later b) (fun _ _ h g => h.grl g (by have h7 := HN.out.1.lt; simp; omega)) (fun v1 h _ => (list_nil x i mx _ v1 h).mono (by rintro r v2 ⟨rfl, rfl⟩; exact ⟨none, 0, rfl, World.ownsRow_nil _ _ _ _, Below.refl _ _⟩))).mono ?_
    rintro r w6 ⟨b0, d0, rfl, o0, b9⟩
    have H6 : Hid (ABlk 30 w6 (w.heap.size + 1) #[.int .i64 0, .int .i64 0, .slice none 0 0, .slice none 0 0] ∧ Below w.heap.size w w6 ∧ OwnS w6 w.heap.size (.slice b0 ([] : List Sl).length d0) [] ∧ OwnN celC 59 w6 w.heap.size (.slice b1 ts.length d1) ts) := ⟨HN.out.2.1.later b9, HN.out.2.2.1.trans (b9.mono HN.out.2.2.1.size), lessS o0 HN.out.2.2.1.size, (HN.out.2.2.2.later b9).lessC hB⟩
    clear HN o0 b9
    have z0 := H6.out.1.at 0 _ rfl
    have zf0 := H6.out.1.fro 0
    have z1 := H6.out.1.at 1 _ rfl
    have zf1 := H6.out.1.fro 1
    have z2 := H6.out.1.at 2 _ rfl
    have zf2 := H6.out.1.fro 2
    have z3 := H6.out.1.at 3 _ rfl
    have zf3 := H6.out.1.fro 3
    go_wp2_with fail
    clear z0 z1 z2 z3 zf0 zf1 zf2 zf3
    have HX : Hid (ABlk 30 ((((w6.setCell ⟨w.heap.size + 1, 0, none⟩ (Value.int .i64 i)).setCell ⟨w.heap.size + 1, 1, none⟩ (Value.int .i64 mx)).setCell ⟨w.heap.size + 1, 2, none⟩ (Value.slice b0 0 d0)).setCell ⟨w.heap.size + 1, 3, none⟩ (Value.slice b1 ts.length d1)) (w.heap.size + 1) #[(Value.int .i64 i), (Value.int .i64 mx), (Value.slice b0 0 d0), (Value.slice b1 ts.length d1)] ∧ Below w.heap.size w ((((w6.setCell ⟨w.heap.size + 1, 0, none⟩ (Value.int .i64 i)).setCell ⟨w.heap.size + 1, 1, none⟩ (Value.int .i64 mx)).setCell ⟨w.heap.size + 1, 2, none⟩ (Value.slice b0 0 d0)).setCell ⟨w.heap.size + 1, 3, none⟩ (Value.slice b1 ts.length d1)) ∧ OwnS ((((w6.setCell ⟨w.heap.size + 1, 0, none⟩ (Value.int .i64 i)).setCell ⟨w.heap.size + 1, 1, none⟩ (Value.int .i64 mx)).setCell ⟨w.heap.size + 1, 2, none⟩ (Value.slice b0 0 d0)).setCell ⟨w.heap.size + 1, 3, none⟩ (Value.slice b1 ts.length d1)) w.heap.size (.slice b0 ([] : List Sl).length d0) [] ∧ OwnN celC 59 ((((w6.setCell ⟨w.heap.size + 1, 0, none⟩ (Value.int .i64 i)).setCell ⟨w.heap.size + 1, 1, none⟩ (Value.int .i64 mx)).setCell ⟨w.heap.size + 1, 2, none⟩ (Value.slice b0 0 d0)).setCell ⟨w.heap.size + 1, 3, none⟩ (Value.slice b1 ts.length d1)) w.heap.size (.slice b1 ts.length d1) ts) := by
      have g9 : GrL w6 ((((w6.setCell ⟨w.heap.size + 1, 0, none⟩ (Value.int .i64 i)).setCell ⟨w.heap.size + 1, 1, none⟩ (Value.int .i64 mx)).setCell ⟨w.heap.size + 1, 2, none⟩ (Value.slice b0 0 d0)).setCell ⟨w.heap.size + 1, 3, none⟩ (Value.slice b1 ts.length d1)) [some (w.heap.size + 1)] := put4_grl _ _ _ _ _ _
      have k9 : ABlk 30 ((((w6.setCell ⟨w.heap.size + 1, 0, none⟩ (Value.int .i64 i)).setCell ⟨w.heap.size + 1, 1, none⟩ (Value.int .i64 mx)).setCell ⟨w.heap.size + 1, 2, none⟩ (Value.slice b0 0 d0)).setCell ⟨w.heap.size + 1, 3, none⟩ (Value.slice b1 ts.length d1)) (w.heap.size + 1) #[(Value.int .i64 i), (Value.int .i64 mx), (Value.slice b0 0 d0), (Value.slice b1 ts.length d1)] := H6.out.1.put4 _ _ _ _
      exact ⟨k9, below_grl H6.out.2.1 g9 H6.out.2.1.size (fun k hk => by simp at hk; omega), own_grl H6.out.2.2.1 g9 (fun k e hm => by simp at hm; exact own_off H6.out.1 H6.out.2.2.1 (by decide) (hm ▸ e)), own_grl H6.out.2.2.2 g9 (fun k e hm => by simp at hm; exact own_off H6.out.1 H6.out.2.2.2 (by decide) (hm ▸ e))⟩
    clear H6
    generalize ((((w6.setCell ⟨w.heap.size + 1, 0, none⟩ (Value.int .i64 i)).setCell ⟨w.heap.size + 1, 1, none⟩ (Value.int .i64 mx)).setCell ⟨w.heap.size + 1, 2, none⟩ (Value.slice b0 0 d0)).setCell ⟨w.heap.size + 1, 3, none⟩ (Value.slice b1 ts.length d1)) = X at HX ⊢
    have y0 := HX.out.1.at 0 _ rfl
    have y1 := HX.out.1.at 1 _ rfl
    have y2 := HX.out.1.at 2 _ rfl
    have y3 := HX.out.1.at 3 _ rfl
    refine bodyPost_ret (v := .agg #[(Value.int .i64 i), (Value.int .i64 mx), (Value.slice b0 0 d0), (Value.slice b1 ts.length d1)]) (by simp [results, Try.results7, go_sem, *]) rfl ?_
    rw [EA.out]
    exact ⟨b0, d0, b1, d1, rfl, HX.out.2.2.1, HX.out.2.2.2, HX.out.2.1⟩


end Go.Proofs.Ytbkmcdhfhpjbmaa
