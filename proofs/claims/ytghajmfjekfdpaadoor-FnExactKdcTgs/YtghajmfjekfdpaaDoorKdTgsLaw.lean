/-
  The law on KdcTgs: it returns true at all that is handed over, however long; nothing that was in memory is turned.
-/
import Derived.Test.YtghajmfjekfdpaaDoorKdcTgsGen
import Derived.Test.YtghajmfjekfdpaaDoorKdTgsW
import Derived.Test.YtghajmfjekfdpaaDoorKdTgsI
namespace Go.Proofs.YtghajmfjekfdpaaDoor
open Go.RowKit

theorem giveK_len (n : Int) (xs : List Sl) (sv nc : Int) (t u : Sl) (now : Int) : (giveK n xs sv nc t u now).X.length ≤ xs.length + 1 ∧ (giveK n xs sv nc t u now).Y.length ≤ 2 := by
  have h := withL_len now xs u
  unfold giveK
  split
  · split
    · exact ⟨h, by simp⟩
    · exact ⟨h, by simp [keepK]⟩
  · exact ⟨by simp [keepK], by simp [keepK]⟩
theorem askK_len (n : Int) (xs : List Sl) (m cl sv nc : Int) (ys : List Sl) (now : Int) : (askK n xs m cl sv nc ys now).X.length ≤ xs.length + 1 ∧ (askK n xs m cl sv nc ys now).Y.length ≤ 2 := by
  unfold askK
  split
  · split
    · exact giveK_len ..
    · exact ⟨by simp [keepK], by simp [keepK]⟩
  · exact ⟨by simp [keepK], by simp [keepK]⟩
theorem tgsK_len (n : Int) (xs : List Sl) (m cl sv nc : Int) (ys : List Sl) (now : Int) : (tgsK n xs m cl sv nc ys now).X.length ≤ xs.length + 1 ∧ (tgsK n xs m cl sv nc ys now).Y.length ≤ 2 := by
  unfold tgsK
  split
  · exact askK_len ..
  · exact ⟨by simp [noK], by simp [noK]⟩

set_option maxHeartbeats 1000000 in
theorem lawKdcTgs_any (n : Int) (a : Option Addr) (cap : Nat) (xs : List Sl) (m cl sv nc : Int) (b : Option Addr) (cb : Nat) (ys : List Sl) (now : Int) (w : World) (h : SRow w a xs) (hb : SRow w b ys) (hf : Forms w) (hm : xs.length ≤ 9223372036854775807) (hm2 : ys.length ≤ 9223372036854775807) :
    Calls Tryd.prog 3 #[.agg #[.int .i64 n, .slice a xs.length cap], .agg #[.int .i64 m, .int .i64 cl, .int .i64 sv, .int .i64 nc, .slice b ys.length cb], .int .i64 now] w fun r w' => r = .returned (.bool true) ∧ Below w.heap.size w w' := by
  by_cases hx : xs.length ≤ 1048576
  · by_cases hy : xs.length + ys.length ≤ 1048576
    · have l1 := tgsK_len n xs m cl sv nc ys now
      obtain ⟨A, hA⟩ : ∃ A, A = tgsK n xs m cl sv nc ys now := ⟨_, rfl⟩
      rw [← hA] at l1
      refine lawKdcTgs_gen n a cap xs m cl sv nc b cb ys now w h hb hf hy A.n A.m A.c A.s A.f A.X A.Y A.T (by omega) (by omega) ?_ ?_
      · intro g1 g2 w1 r1 r2 _
        refine (specKdcTgs_any n _ xs.length xs m cl sv nc _ ys.length ys now w1 r1 (Nat.le_refl _) (by omega) r2 (by omega)).mono ?_
        intro r w' hr
        rw [← hA] at hr
        obtain ⟨⟨a', c', a2, c2, B1, B2, rfl, o1, o2, h1, h2⟩, b9⟩ := hr
        exact ⟨a', c', a2, c2, B1, B2, rfl, o1, o2, h1, h2, b9⟩
      · intro g1 g2 w1 r1 r2 f1
        refine (implKdcTgs_any n _ xs.length xs m cl sv nc _ ys.length ys now w1 r1 (Nat.le_refl _) (by omega) r2 (by omega) f1).mono ?_
        intro r w' hr
        rw [← hA] at hr
        obtain ⟨⟨a', c', a2, c2, B1, B2, rfl, o1, o2, h1, h2⟩, b9⟩ := hr
        exact ⟨a', c', a2, c2, B1, B2, rfl, o1, o2, h1, h2, b9⟩
    · have hl1 : leftI 1048576 xs.length = 1048576 - (xs.length : Int) := by unfold leftI; rw [if_neg (by omega)]
      have hl2 : leftI (1048576 - (xs.length : Int)) ys.length = -1 := by unfold leftI; rw [if_pos (by omega)]
      have hn1 : ¬ (1048576 - (xs.length : Int)) < 0 := by omega
      have IN0 := In.new w n (.slice a xs.length cap) m cl sv nc (.slice b ys.length cb)
      obtain ⟨w0, hw0⟩ : ∃ w0, w0 = ((w.alloc (.cells #[.int .i64 n, .slice a xs.length cap] 24)).alloc (.cells #[.int .i64 m, .int .i64 cl, .int .i64 sv, .int .i64 nc, .slice b ys.length cb] 26)) := ⟨_, rfl⟩
      rw [← hw0] at IN0
      have HN : Hid (In w n (.slice a xs.length cap) m cl sv nc (.slice b ys.length cb) w0) := IN0
      clear h hb hf IN0
      go_enter Tryd.func3, Tryd.ntmps3
      go_wp2_with fail
      rw [← hw0]
      clear hw0
      refine (szKdc_any n a xs.length cap 1048576 _ (by omega) (by omega) (by omega)).mono ?_
      rintro r w1 ⟨rfl, b1⟩
      have IN1 : Hid (In w n (.slice a xs.length cap) m cl sv nc (.slice b ys.length cb) w1) := HN.out.later b1
      clear HN b1
      rw [hl1]
      clear hl1
      obtain ⟨p0, p1, p2, p3, p4⟩ := IN1.out.cellm
      go_wp2_with fail
      refine (szMsg_any m cl sv nc b ys.length cb _ _ (by omega) (by omega) (by omega)).mono ?_
      rintro r w7 ⟨rfl, b1⟩
      rw [hl2]
      clear hl2 p0 p1 p2 p3 p4
      have IN7 : Hid (In w n (.slice a xs.length cap) m cl sv nc (.slice b ys.length cb) w7) := IN1.out.later b1
      clear IN1 b1
      go_wp2_with fail
      go_ret
      exact ⟨rfl, IN7.out.below⟩
  · have hl1 : leftI 1048576 xs.length = -1 := by unfold leftI; rw [if_pos (by omega)]
    have IN0 := In.new w n (.slice a xs.length cap) m cl sv nc (.slice b ys.length cb)
    obtain ⟨w0, hw0⟩ : ∃ w0, w0 = ((w.alloc (.cells #[.int .i64 n, .slice a xs.length cap] 24)).alloc (.cells #[.int .i64 m, .int .i64 cl, .int .i64 sv, .int .i64 nc, .slice b ys.length cb] 26)) := ⟨_, rfl⟩
    rw [← hw0] at IN0
    have HN : Hid (In w n (.slice a xs.length cap) m cl sv nc (.slice b ys.length cb) w0) := IN0
    clear h hb hf IN0
    go_enter Tryd.func3, Tryd.ntmps3
    go_wp2_with fail
    rw [← hw0]
    clear hw0
    refine (szKdc_any n a xs.length cap 1048576 _ (by omega) (by omega) (by omega)).mono ?_
    rintro r w1 ⟨rfl, b1⟩
    have IN1 : Hid (In w n (.slice a xs.length cap) m cl sv nc (.slice b ys.length cb) w1) := HN.out.later b1
    clear HN b1
    rw [hl1]
    clear hl1
    go_wp2_with fail
    go_ret
    exact ⟨rfl, IN1.out.below⟩

end Go.Proofs.YtghajmfjekfdpaaDoor
