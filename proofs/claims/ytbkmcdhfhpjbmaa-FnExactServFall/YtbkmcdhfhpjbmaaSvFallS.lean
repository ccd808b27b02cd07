/-
  A service that falls, by the specification.
-/
import Derived.Test.YtbkmcdhfhpjbmaaSvCopyS
import Derived.Test.YtbkmcdhfhpjbmaaSvOk
namespace Go.Proofs.Ytbkmcdhfhpjbmaa
open Go.RowKit
attribute [local go_sem ↓] Go.wp_at_zero Go.wp_at_succ

/-- What a service is behind something. -/
structure SvA where
  i : Int
  s : Int
  X : List Sl
  C : List Ca
/-- This is answered, in memory of the call's own. -/
def SvRet (B : Nat) (w w' : World) (A : SvA) (r : Ending) : Prop := ∃ (b00 : Option Addr) (e00 : Nat) (b01 : Option Addr) (e01 : Nat), r = .returned (.agg #[.int .i64 A.i, .int .i64 A.s, .slice b00 A.X.length e00, .slice b01 A.C.length e01]) ∧ OwnS w' B (.slice b00 A.X.length e00) A.X ∧ OwnN celC 59 w' B (.slice b01 A.C.length e01) A.C ∧ Below B w w'
def noSv : SvA := ⟨0, 0, [], []⟩
/-- A service behind a fall. -/
def fallA (i s : Int) (xs : List Sl) (ts : List Ca) (now : Int) : SvA := if servB i s xs ts = true ∧ inB now 0 100 = true then ⟨i, max s now, [], ts⟩ else noSv
theorem OwnN.lessC {X : Type} {C : Cel X} {T : TypeId} {w : World} {B B' : Nat} {v : Value} {zs : List X} (h : OwnN C T w B v zs) (hb : B' ≤ B) : OwnN C T w B' v zs :=
  ⟨h.1, h.2.imp id fun ⟨g, cap, cur, e, h2, r⟩ => ⟨g, cap, cur, e, Nat.le_trans hb h2, r⟩⟩
theorem noSv_ret {w w' : World} {r : Ending} {i s : Int} {xs : List Sl} {ts : List Ca} {now : Int} (hA : fallA i s xs ts now = noSv) (hr : r = .returned (.agg #[.int .i64 0, .int .i64 0, .slice none 0 0, .slice none 0 0])) (hb : Below w.heap.size w w') : SvRet w.heap.size w w' (fallA i s xs ts now) r := by
  rw [hA]
  exact ⟨none, 0, none, 0, hr, World.ownsRow_nil _ _ _ _, OwnN.zero _ _ _ _, hb⟩

set_option maxHeartbeats 4000000 in
set_option maxRecDepth 100000 in
theorem specServFall_any (i s9 : Int) (a1 a2 : Option Addr) (c1 c2 : Nat) (xs : List Sl) (ts : List Ca) (now : Int) (w : World) (h1 : SRow w a1 xs) (h2 : NRow celC w a2 ts) (hc : xs.length ≤ c1) (hx1 : xs.length ≤ 1048576) (hx2 : ts.length ≤ 1048576) :
    Calls Try.prog 5 #[.agg #[.int .i64 i, .int .i64 s9, .slice a1 xs.length c1, .slice a2 ts.length c2], .int .i64 now] w fun r w' => SvRet w.heap.size w w' (fallA i s9 xs ts now) r := by
  obtain ⟨W, hW⟩ : ∃ W, W = ((w.alloc (.cells #[.int .i64 i, .int .i64 s9, .slice a1 xs.length c1, .slice a2 ts.length c2] 30)).alloc (.cells #[.int .i64 0, .int .i64 0, .slice none 0 0, .slice none 0 0] 30)) := ⟨_, rfl⟩
  have HB : Hid (ABlk 30 W w.heap.size #[.int .i64 i, .int .i64 s9, .slice a1 xs.length c1, .slice a2 ts.length c2] ∧ ABlk 30 W (w.heap.size + 1) #[.int .i64 0, .int .i64 0, .slice none 0 0, .slice none 0 0] ∧ Below w.heap.size w W ∧ SRow W a1 xs ∧ NRow celC W a2 ts) := by
    have hb : Below w.heap.size w W := by
      rw [hW]
      exact (Below.alloc_ _ _).trans ((Below.alloc_ _ _).mono (by simp))
    refine ⟨?_, ?_, hb, h1.later hb, h2.later hb⟩
    · rw [hW]
      exact (ABlk.new _ _ _).later (Below.alloc_ _ _)
    · rw [hW]
      have e := ABlk.new (w.alloc (.cells #[.int .i64 i, .int .i64 s9, .slice a1 xs.length c1, .slice a2 ts.length c2] 30)) 30 #[.int .i64 0, .int .i64 0, .slice none 0 0, .slice none 0 0]
      rw [World.size_alloc] at e
      exact e
  clear h1 h2
  go_enter Try.func5, Try.ntmps5
  go_wp2_with fail
  rw [← hW]
  clear hW
  refine (specServOk_any i s9 _ _ _ _ xs ts _ HB.out.2.2.2.1 HB.out.2.2.2.2 hc hx1 hx2).mono ?_
  rintro r w1 ⟨rfl, b9⟩
  have H1 : Hid (ABlk 30 w1 w.heap.size #[.int .i64 i, .int .i64 s9, .slice a1 xs.length c1, .slice a2 ts.length c2] ∧ ABlk 30 w1 (w.heap.size + 1) #[.int .i64 0, .int .i64 0, .slice none 0 0, .slice none 0 0] ∧ Below w.heap.size w w1 ∧ SRow w1 a1 xs ∧ NRow celC w1 a2 ts) := ⟨HB.out.1.later b9, HB.out.2.1.later b9, HB.out.2.2.1.trans (b9.mono HB.out.2.2.1.size), HB.out.2.2.2.1.later b9, HB.out.2.2.2.2.later b9⟩
  clear HB b9
  have z0 := H1.out.2.1.at 0 _ rfl
  have zf0 := H1.out.2.1.fro 0
  have z1 := H1.out.2.1.at 1 _ rfl
  have zf1 := H1.out.2.1.fro 1
  have z2 := H1.out.2.1.at 2 _ rfl
  have zf2 := H1.out.2.1.fro 2
  have z3 := H1.out.2.1.at 3 _ rfl
  have zf3 := H1.out.2.1.fro 3
  cases u1 : servB i s9 xs ts
  · have EA : Hid (fallA i s9 xs ts now = noSv) := Hid.mk' (by unfold fallA; rw [if_neg (by rw [u1]; simp)])
    have g9 : GrL w1 ((((w1.setCell ⟨w.heap.size + 1, 0, none⟩ (Value.int .i64 0)).setCell ⟨w.heap.size + 1, 1, none⟩ (Value.int .i64 0)).setCell ⟨w.heap.size + 1, 2, none⟩ (Value.slice none 0 0)).setCell ⟨w.heap.size + 1, 3, none⟩ (Value.slice none 0 0)) [some (w.heap.size + 1)] := put4_grl _ _ _ _ _ _
    have k9 : ABlk 30 ((((w1.setCell ⟨w.heap.size + 1, 0, none⟩ (Value.int .i64 0)).setCell ⟨w.heap.size + 1, 1, none⟩ (Value.int .i64 0)).setCell ⟨w.heap.size + 1, 2, none⟩ (Value.slice none 0 0)).setCell ⟨w.heap.size + 1, 3, none⟩ (Value.slice none 0 0)) (w.heap.size + 1) #[.int .i64 0, .int .i64 0, .slice none 0 0, .slice none 0 0] := H1.out.2.1.put4 _ _ _ _
    have HV : Hid (∀ V, V = ((((w1.setCell ⟨w.heap.size + 1, 0, none⟩ (Value.int .i64 0)).setCell ⟨w.heap.size + 1, 1, none⟩ (Value.int .i64 0)).setCell ⟨w.heap.size + 1, 2, none⟩ (Value.slice none 0 0)).setCell ⟨w.heap.size + 1, 3, none⟩ (Value.slice none 0 0)) → ABlk 30 V (w.heap.size + 1) #[.int .i64 0, .int .i64 0, .slice none 0 0, .slice none 0 0] ∧ Below w.heap.size w V) := fun V hV => hV ▸ ⟨k9, below_grl H1.out.2.2.1 g9 H1.out.2.2.1.size (fun k hk => by simp at hk; omega)⟩
    clear g9 k9
    go_wp2_with fail
    clear z0 z1 z2 z3 zf0 zf1 zf2 zf3
    obtain ⟨V, hV⟩ : ∃ V, V = ((((w1.setCell ⟨w.heap.size + 1, 0, none⟩ (Value.int .i64 0)).setCell ⟨w.heap.size + 1, 1, none⟩ (Value.int .i64 0)).setCell ⟨w.heap.size + 1, 2, none⟩ (Value.slice none 0 0)).setCell ⟨w.heap.size + 1, 3, none⟩ (Value.slice none 0 0)) := ⟨_, rfl⟩
    rw [← hV]
    have HX : Hid (ABlk 30 V (w.heap.size + 1) #[.int .i64 0, .int .i64 0, .slice none 0 0, .slice none 0 0] ∧ Below w.heap.size w V) := HV.out V hV
    clear hV HV H1
    have y0 := HX.out.1.at 0 _ rfl
    have y1 := HX.out.1.at 1 _ rfl
    have y2 := HX.out.1.at 2 _ rfl
    have y3 := HX.out.1.at 3 _ rfl
    refine bodyPost_ret (v := .agg #[.int .i64 0, .int .i64 0, .slice none 0 0, .slice none 0 0]) (by simp [results, Try.results5, go_sem, *]) rfl (noSv_ret EA.out rfl HX.out.2)
  go_wp2_with fail
  refine (l1Time_any _ _).mono ?_
  rintro r w9 ⟨rfl, he9⟩
  obtain rfl : w1 = w9 := he9.symm
  cases u2 : inB now 0 100
  · have EA : Hid (fallA i s9 xs ts now = noSv) := Hid.mk' (by unfold fallA; rw [if_neg (by rw [u2]; simp)])
    have g9 : GrL w1 ((((w1.setCell ⟨w.heap.size + 1, 0, none⟩ (Value.int .i64 0)).setCell ⟨w.heap.size + 1, 1, none⟩ (Value.int .i64 0)).setCell ⟨w.heap.size + 1, 2, none⟩ (Value.slice none 0 0)).setCell ⟨w.heap.size + 1, 3, none⟩ (Value.slice none 0 0)) [some (w.heap.size + 1)] := put4_grl _ _ _ _ _ _
    have k9 : ABlk 30 ((((w1.setCell ⟨w.heap.size + 1, 0, none⟩ (Value.int .i64 0)).setCell ⟨w.heap.size + 1, 1, none⟩ (Value.int .i64 0)).setCell ⟨w.heap.size + 1, 2, none⟩ (Value.slice none 0 0)).setCell ⟨w.heap.size + 1, 3, none⟩ (Value.slice none 0 0)) (w.heap.size + 1) #[.int .i64 0, .int .i64 0, .slice none 0 0, .slice none 0 0] := H1.out.2.1.put4 _ _ _ _
    have HV : Hid (∀ V, V = ((((w1.setCell ⟨w.heap.size + 1, 0, none⟩ (Value.int .i64 0)).setCell ⟨w.heap.size + 1, 1, none⟩ (Value.int .i64 0)).setCell ⟨w.heap.size + 1, 2, none⟩ (Value.slice none 0 0)).setCell ⟨w.heap.size + 1, 3, none⟩ (Value.slice none 0 0)) → ABlk 30 V (w.heap.size + 1) #[.int .i64 0, .int .i64 0, .slice none 0 0, .slice none 0 0] ∧ Below w.heap.size w V) := fun V hV => hV ▸ ⟨k9, below_grl H1.out.2.2.1 g9 H1.out.2.2.1.size (fun k hk => by simp at hk; omega)⟩
    clear g9 k9
    go_wp2_with fail
    clear z0 z1 z2 z3 zf0 zf1 zf2 zf3
    obtain ⟨V, hV⟩ : ∃ V, V = ((((w1.setCell ⟨w.heap.size + 1, 0, none⟩ (Value.int .i64 0)).setCell ⟨w.heap.size + 1, 1, none⟩ (Value.int .i64 0)).setCell ⟨w.heap.size + 1, 2, none⟩ (Value.slice none 0 0)).setCell ⟨w.heap.size + 1, 3, none⟩ (Value.slice none 0 0)) := ⟨_, rfl⟩
    rw [← hV]
    have HX : Hid (ABlk 30 V (w.heap.size + 1) #[.int .i64 0, .int .i64 0, .slice none 0 0, .slice none 0 0] ∧ Below w.heap.size w V) := HV.out V hV
    clear hV HV H1
    have y0 := HX.out.1.at 0 _ rfl
    have y1 := HX.out.1.at 1 _ rfl
    have y2 := HX.out.1.at 2 _ rfl
    have y3 := HX.out.1.at 3 _ rfl
    refine bodyPost_ret (v := .agg #[.int .i64 0, .int .i64 0, .slice none 0 0, .slice none 0 0]) (by simp [results, Try.results5, go_sem, *]) rfl (noSv_ret EA.out rfl HX.out.2)
  have EA : Hid (fallA i s9 xs ts now = ⟨i, max s9 now, [], ts⟩) := Hid.mk' (by unfold fallA; rw [if_pos ⟨u1, u2⟩])
  have p0 := H1.out.1.at 0 _ rfl
  have p1 := H1.out.1.at 1 _ rfl
  have p2 := H1.out.1.at 2 _ rfl
  have p3 := H1.out.1.at 3 _ rfl
  go_wp2_with fail
  clear p0 p1 p2 p3 z0 z1 z2 z3 zf0 zf1 zf2 zf3
  refine (l13Copy_any i s9 _ _ _ _ xs ts _ H1.out.2.2.2.1 H1.out.2.2.2.2 hx1 hx2).mono ?_
  rintro r w2 ⟨b0, d0, b1, d1, rfl, o0, o1, b9⟩
  have hB : w.heap.size ≤ w1.heap.size := H1.out.2.2.1.size
  have H2 : Hid (ABlk 30 w2 (w.heap.size + 1) #[.int .i64 0, .int .i64 0, .slice none 0 0, .slice none 0 0] ∧ Below w.heap.size w w2 ∧ OwnN celC 59 w2 w1.heap.size (.slice b1 ts.length d1) ts) := ⟨H1.out.2.1.later b9, H1.out.2.2.1.trans (b9.mono hB), o1⟩
  have hB2 : w1.heap.size ≤ w2.heap.size := b9.size
  clear H1 o0 o1 b9
  have l2 : w.heap.size + 1 < w2.heap.size := H2.out.1.lt
  have l3 : w.heap.size < w2.heap.size := by omega
  have z0 := H2.out.1.at 0 _ rfl
  have zf0 := H2.out.1.fro 0
  have z1 := H2.out.1.at 1 _ rfl
  have zf1 := H2.out.1.fro 1
  have z2 := H2.out.1.at 2 _ rfl
  have zf2 := H2.out.1.fro 2
  have z3 := H2.out.1.at 3 _ rfl
  have zf3 := H2.out.1.fro 3
  have hmx : (s9 < now ∧ max s9 now = now) ∨ (now ≤ s9 ∧ max s9 now = s9) := by omega
  generalize max s9 now = mx at EA hmx
  rcases hmx with ⟨hlt, rfl⟩ | ⟨hlt, rfl⟩
  · go_wp2_with fail
    clear z0 z1 z2 z3 zf0 zf1 zf2 zf3
    obtain ⟨V, hV⟩ : ∃ V, V = ((((w2.setCell ⟨w.heap.size + 1, 0, none⟩ (Value.int .i64 i)).setCell ⟨w.heap.size + 1, 1, none⟩ (Value.int .i64 mx)).setCell ⟨w.heap.size + 1, 2, none⟩ (Value.slice (some ⟨w2.heap.size + 1, 0, none⟩) 0 0)).setCell ⟨w.heap.size + 1, 3, none⟩ (Value.slice b1 ts.length d1)) := ⟨_, rfl⟩
    have HX : Hid (ABlk 30 ((V.alloc (.cells #[(Value.int .i64 i), (Value.int .i64 mx), (Value.slice (some ⟨w2.heap.size + 1, 0, none⟩) 0 0), (Value.slice b1 ts.length d1)] 30)).alloc (.cells #[] 61)) (w.heap.size + 1) #[(Value.int .i64 i), (Value.int .i64 mx), (Value.slice (some ⟨w2.heap.size + 1, 0, none⟩) 0 0), (Value.slice b1 ts.length d1)] ∧ Below w.heap.size w ((V.alloc (.cells #[(Value.int .i64 i), (Value.int .i64 mx), (Value.slice (some ⟨w2.heap.size + 1, 0, none⟩) 0 0), (Value.slice b1 ts.length d1)] 30)).alloc (.cells #[] 61)) ∧ OwnN celC 59 ((V.alloc (.cells #[(Value.int .i64 i), (Value.int .i64 mx), (Value.slice (some ⟨w2.heap.size + 1, 0, none⟩) 0 0), (Value.slice b1 ts.length d1)] 30)).alloc (.cells #[] 61)) w1.heap.size (.slice b1 ts.length d1) ts ∧ OwnS ((V.alloc (.cells #[(Value.int .i64 i), (Value.int .i64 mx), (Value.slice (some ⟨w2.heap.size + 1, 0, none⟩) 0 0), (Value.slice b1 ts.length d1)] 30)).alloc (.cells #[] 61)) w.heap.size (.slice (some ⟨w2.heap.size + 1, 0, none⟩) 0 0) []) := by
      have g9 : GrL w2 V [some (w.heap.size + 1)] := by rw [hV]; exact put4_grl _ _ _ _ _ _
      have k9 : ABlk 30 V (w.heap.size + 1) #[(Value.int .i64 i), (Value.int .i64 mx), (Value.slice (some ⟨w2.heap.size + 1, 0, none⟩) 0 0), (Value.slice b1 ts.length d1)] := by rw [hV]; exact H2.out.1.put4 _ _ _ _
      have hs : V.heap.size = w2.heap.size := by rw [hV]; simp
      have b9 : Below w.heap.size w V := below_grl H2.out.2.1 g9 H2.out.2.1.size (fun k hk => by simp at hk; omega)
      have bX : Below V.heap.size V ((V.alloc (.cells #[(Value.int .i64 i), (Value.int .i64 mx), (Value.slice (some ⟨w2.heap.size + 1, 0, none⟩) 0 0), (Value.slice b1 ts.length d1)] 30)).alloc (.cells #[] 61)) := (Below.alloc_ _ _).trans ((Below.alloc_ _ _).mono (by simp))
      have o9 : OwnN celC 59 V w1.heap.size (.slice b1 ts.length d1) ts := own_grl H2.out.2.2 g9 (fun k e hm => by simp at hm; exact own_off H2.out.1 H2.out.2.2 (by decide) (hm ▸ e))
      have e9 := OwnS.zero (V.alloc (.cells #[(Value.int .i64 i), (Value.int .i64 mx), (Value.slice (some ⟨w2.heap.size + 1, 0, none⟩) 0 0), (Value.slice b1 ts.length d1)] 30)) (base := w.heap.size) (by simp; omega)
      rw [World.size_alloc, hs] at e9
      exact ⟨k9.later bX, b9.trans (bX.mono b9.size), o9.later bX, e9⟩
    rw [← hV]
    clear hV H2
    generalize ((V.alloc (.cells #[(Value.int .i64 i), (Value.int .i64 mx), (Value.slice (some ⟨w2.heap.size + 1, 0, none⟩) 0 0), (Value.slice b1 ts.length d1)] 30)).alloc (.cells #[] 61)) = X at HX ⊢
    have y0 := HX.out.1.at 0 _ rfl
    have y1 := HX.out.1.at 1 _ rfl
    have y2 := HX.out.1.at 2 _ rfl
    have y3 := HX.out.1.at 3 _ rfl
    refine bodyPost_ret (v := .agg #[(Value.int .i64 i), (Value.int .i64 mx), (Value.slice (some ⟨w2.heap.size + 1, 0, none⟩) 0 0), (Value.slice b1 ts.length d1)]) (by simp [results, Try.results5, go_sem, *]) rfl ?_
    rw [EA.out]
    exact ⟨_, 0, b1, d1, rfl, HX.out.2.2.2, HX.out.2.2.1.lessC hB, HX.out.2.1⟩
  · go_wp2_with fail
    clear z0 z1 z2 z3 zf0 zf1 zf2 zf3
    obtain ⟨V, hV⟩ : ∃ V, V = ((((w2.setCell ⟨w.heap.size + 1, 0, none⟩ (Value.int .i64 i)).setCell ⟨w.heap.size + 1, 1, none⟩ (Value.int .i64 mx)).setCell ⟨w.heap.size + 1, 2, none⟩ (Value.slice (some ⟨w2.heap.size + 1, 0, none⟩) 0 0)).setCell ⟨w.heap.size + 1, 3, none⟩ (Value.slice b1 ts.length d1)) := ⟨_, rfl⟩
    have HX : Hid (ABlk 30 ((V.alloc (.cells #[(Value.int .i64 i), (Value.int .i64 mx), (Value.slice (some ⟨w2.heap.size + 1, 0, none⟩) 0 0), (Value.slice b1 ts.length d1)] 30)).alloc (.cells #[] 61)) (w.heap.size + 1) #[(Value.int .i64 i), (Value.int .i64 mx), (Value.slice (some ⟨w2.heap.size + 1, 0, none⟩) 0 0), (Value.slice b1 ts.length d1)] ∧ Below w.heap.size w ((V.alloc (.cells #[(Value.int .i64 i), (Value.int .i64 mx), (Value.slice (some ⟨w2.heap.size + 1, 0, none⟩) 0 0), (Value.slice b1 ts.length d1)] 30)).alloc (.cells #[] 61)) ∧ OwnN celC 59 ((V.alloc (.cells #[(Value.int .i64 i), (Value.int .i64 mx), (Value.slice (some ⟨w2.heap.size + 1, 0, none⟩) 0 0), (Value.slice b1 ts.length d1)] 30)).alloc (.cells #[] 61)) w1.heap.size (.slice b1 ts.length d1) ts ∧ OwnS ((V.alloc (.cells #[(Value.int .i64 i), (Value.int .i64 mx), (Value.slice (some ⟨w2.heap.size + 1, 0, none⟩) 0 0), (Value.slice b1 ts.length d1)] 30)).alloc (.cells #[] 61)) w.heap.size (.slice (some ⟨w2.heap.size + 1, 0, none⟩) 0 0) []) := by
      have g9 : GrL w2 V [some (w.heap.size + 1)] := by rw [hV]; exact put4_grl _ _ _ _ _ _
      have k9 : ABlk 30 V (w.heap.size + 1) #[(Value.int .i64 i), (Value.int .i64 mx), (Value.slice (some ⟨w2.heap.size + 1, 0, none⟩) 0 0), (Value.slice b1 ts.length d1)] := by rw [hV]; exact H2.out.1.put4 _ _ _ _
      have hs : V.heap.size = w2.heap.size := by rw [hV]; simp
      have b9 : Below w.heap.size w V := below_grl H2.out.2.1 g9 H2.out.2.1.size (fun k hk => by simp at hk; omega)
      have bX : Below V.heap.size V ((V.alloc (.cells #[(Value.int .i64 i), (Value.int .i64 mx), (Value.slice (some ⟨w2.heap.size + 1, 0, none⟩) 0 0), (Value.slice b1 ts.length d1)] 30)).alloc (.cells #[] 61)) := (Below.alloc_ _ _).trans ((Below.alloc_ _ _).mono (by simp))
      have o9 : OwnN celC 59 V w1.heap.size (.slice b1 ts.length d1) ts := own_grl H2.out.2.2 g9 (fun k e hm => by simp at hm; exact own_off H2.out.1 H2.out.2.2 (by decide) (hm ▸ e))
      have e9 := OwnS.zero (V.alloc (.cells #[(Value.int .i64 i), (Value.int .i64 mx), (Value.slice (some ⟨w2.heap.size + 1, 0, none⟩) 0 0), (Value.slice b1 ts.length d1)] 30)) (base := w.heap.size) (by simp; omega)
      rw [World.size_alloc, hs] at e9
      exact ⟨k9.later bX, b9.trans (bX.mono b9.size), o9.later bX, e9⟩
    rw [← hV]
    clear hV H2
    generalize ((V.alloc (.cells #[(Value.int .i64 i), (Value.int .i64 mx), (Value.slice (some ⟨w2.heap.size + 1, 0, none⟩) 0 0), (Value.slice b1 ts.length d1)] 30)).alloc (.cells #[] 61)) = X at HX ⊢
    have y0 := HX.out.1.at 0 _ rfl
    have y1 := HX.out.1.at 1 _ rfl
    have y2 := HX.out.1.at 2 _ rfl
    have y3 := HX.out.1.at 3 _ rfl
    refine bodyPost_ret (v := .agg #[(Value.int .i64 i), (Value.int .i64 mx), (Value.slice (some ⟨w2.heap.size + 1, 0, none⟩) 0 0), (Value.slice b1 ts.length d1)]) (by simp [results, Try.results5, go_sem, *]) rfl ?_
    rw [EA.out]
    exact ⟨_, 0, b1, d1, rfl, HX.out.2.2.2, HX.out.2.2.1.lessC hB, HX.out.2.1⟩

end Go.Proofs.Ytbkmcdhfhpjbmaa
