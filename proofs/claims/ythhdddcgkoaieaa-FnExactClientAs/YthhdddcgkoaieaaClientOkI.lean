/-
  The program's ClientOk: as the plain mathematics says; nothing that was in memory is turned.
-/
import Derived.Test.YthhdddcgkoaieaaClCredsI
import Derived.Test.YthhdddcgkoaieaaClientTo
namespace Go.Proofs.Ythhdddcgkoaieaa
open Go.RowKit
attribute [local go_sem ↓] Go.wp_at_zero Go.wp_at_succ

set_option maxHeartbeats 4000000 in
set_option maxRecDepth 100000 in
theorem implClientOk_any (i n : Int) (a1 a2 a3 a4 : Option Addr) (c1 c2 c3 c4 : Nat) (ws : List Wn) (cs : List Cd) (ss ms : List Ca) (w : World) (h : CRows w a1 a2 a3 a4 ws cs ss ms) (hc4 : ms.length ≤ c4) (hx1 : ws.length ≤ 1048576) (hx2 : cs.length ≤ 1048576) (hx3 : ss.length ≤ 1048576) (hx4 : ms.length ≤ 1048576) :
    Calls Try.prog 29 #[.agg #[.int .i64 i, .int .i64 n, .slice a1 ws.length c1, .slice a2 cs.length c2, .slice a3 ss.length c3, .slice a4 ms.length c4]] w fun r w' => r = .returned (.bool (clientB i n ws cs ss ms)) ∧ Below w.heap.size w w' := by
  have HB : Hid (Below w.heap.size w (w.alloc (.cells #[.int .i64 i, .int .i64 n, .slice a1 ws.length c1, .slice a2 cs.length c2, .slice a3 ss.length c3, .slice a4 ms.length c4] 32)) ∧ CBlk (w.alloc (.cells #[.int .i64 i, .int .i64 n, .slice a1 ws.length c1, .slice a2 cs.length c2, .slice a3 ss.length c3, .slice a4 ms.length c4] 32)) w.heap.size i n (.slice a1 ws.length c1) (.slice a2 cs.length c2) (.slice a3 ss.length c3) (.slice a4 ms.length c4) ∧ CRows (w.alloc (.cells #[.int .i64 i, .int .i64 n, .slice a1 ws.length c1, .slice a2 cs.length c2, .slice a3 ss.length c3, .slice a4 ms.length c4] 32)) a1 a2 a3 a4 ws cs ss ms) := ⟨Below.alloc_ _ _, CBlk.new _ _ _ _ _ _ _, h.later (Below.alloc_ _ _)⟩
  clear h
  go_enter Try.func29, Try.ntmps29
  go_wp2_with fail
  generalize (w.alloc (.cells #[.int .i64 i, .int .i64 n, .slice a1 ws.length c1, .slice a2 cs.length c2, .slice a3 ss.length c3, .slice a4 ms.length c4] 32)) = W0 at HB ⊢
  refine (isUser_any _ _).mono ?_
  rintro r w0 ⟨rfl, rfl⟩
  cases u1 : inB i 1 3
  · have E9 : Hid (clientB i n ws cs ss ms = false) := Hid.mk' (by simp [clientB, u1])
    go_wp2_with fail
    go_ret
    exact ⟨ret_bool E9.out.symm, HB.out.1⟩
  obtain ⟨p0, p1, p2, p3, p4, p5⟩ := HB.out.2.1.cells
  by_cases v1 : 0 ≤ n
  · by_cases v2 : n ≤ 60
    · have KB : Hid (clientB i n ws cs ss ms = (okWs n 0 ws && (cs.all okCd && dupB [] cs) && okSs n 0 ss && okMs ss [] ms)) := Hid.mk' (by have hi : inB n 0 60 = true := (by simp [inB, v1, v2]); simp [clientB, u1, hi])
      clear u1
      go_wp2_with fail
      clear p0 p1 p2 p3 p4 p5
      refine (areWants_any a1 c1 ws n _ HB.out.2.2.w1 (by omega)).mono ?_
      rintro r w1 ⟨rfl, b9⟩
      have HB2 : Hid (Below w.heap.size w w1 ∧ CBlk w1 w.heap.size i n (.slice a1 ws.length c1) (.slice a2 cs.length c2) (.slice a3 ss.length c3) (.slice a4 ms.length c4) ∧ CRows w1 a1 a2 a3 a4 ws cs ss ms) := ⟨HB.out.1.trans (b9.mono HB.out.1.size), HB.out.2.1.later b9, HB.out.2.2.later b9⟩
      clear HB b9
      have HB := HB2
      clear HB2
      cases t0 : okWs n 0 ws
      · have E9 : Hid (clientB i n ws cs ss ms = false) := Hid.mk' (by rw [KB.out, t0]; simp)
        clear KB
        go_wp2_with fail
        go_ret
        exact ⟨ret_bool E9.out.symm, HB.out.1⟩
      have KB2 : Hid (clientB i n ws cs ss ms = ((cs.all okCd && dupB [] cs) && okSs n 0 ss && okMs ss [] ms)) := Hid.mk' (by rw [KB.out, t0]; simp)
      clear KB t0
      have KB := KB2
      clear KB2
      obtain ⟨p0, p1, p2, p3, p4, p5⟩ := HB.out.2.1.cells
      go_wp2_with fail
      clear p0 p1 p2 p3 p4 p5
      refine (areCreds_any a2 c2 cs _ HB.out.2.2.w2 (by omega)).mono ?_
      rintro r w2 ⟨rfl, b9⟩
      have HB2 : Hid (Below w.heap.size w w2 ∧ CBlk w2 w.heap.size i n (.slice a1 ws.length c1) (.slice a2 cs.length c2) (.slice a3 ss.length c3) (.slice a4 ms.length c4) ∧ CRows w2 a1 a2 a3 a4 ws cs ss ms) := ⟨HB.out.1.trans (b9.mono HB.out.1.size), HB.out.2.1.later b9, HB.out.2.2.later b9⟩
      clear HB b9
      have HB := HB2
      clear HB2
      cases t1 : (cs.all okCd && dupB [] cs)
      · have E9 : Hid (clientB i n ws cs ss ms = false) := Hid.mk' (by rw [KB.out, t1]; simp)
        clear KB
        go_wp2_with fail
        go_ret
        exact ⟨ret_bool E9.out.symm, HB.out.1⟩
      have KB2 : Hid (clientB i n ws cs ss ms = (okSs n 0 ss && okMs ss [] ms)) := Hid.mk' (by rw [KB.out, t1]; simp)
      clear KB t1
      have KB := KB2
      clear KB2
      obtain ⟨p0, p1, p2, p3, p4, p5⟩ := HB.out.2.1.cells
      go_wp2_with fail
      clear p0 p1 p2 p3 p4 p5
      refine (areSent_any a3 c3 ss n _ HB.out.2.2.w3 (by omega)).mono ?_
      rintro r w3 ⟨rfl, b9⟩
      have HB2 : Hid (Below w.heap.size w w3 ∧ CBlk w3 w.heap.size i n (.slice a1 ws.length c1) (.slice a2 cs.length c2) (.slice a3 ss.length c3) (.slice a4 ms.length c4) ∧ CRows w3 a1 a2 a3 a4 ws cs ss ms) := ⟨HB.out.1.trans (b9.mono HB.out.1.size), HB.out.2.1.later b9, HB.out.2.2.later b9⟩
      clear HB b9
      have HB := HB2
      clear HB2
      cases t2 : okSs n 0 ss
      · have E9 : Hid (clientB i n ws cs ss ms = false) := Hid.mk' (by rw [KB.out, t2]; simp)
        clear KB
        go_wp2_with fail
        go_ret
        exact ⟨ret_bool E9.out.symm, HB.out.1⟩
      have KB2 : Hid (clientB i n ws cs ss ms = (okMs ss [] ms)) := Hid.mk' (by rw [KB.out, t2]; simp)
      clear KB t2
      have KB := KB2
      clear KB2
      obtain ⟨p0, p1, p2, p3, p4, p5⟩ := HB.out.2.1.cells
      go_wp2_with fail
      clear p0 p1 p2 p3 p4 p5
      refine (areMet_any a4 c4 ms a3 c3 ss _ HB.out.2.2.w4 HB.out.2.2.w3 hc4 (by omega) (by omega)).mono ?_
      rintro r w4 ⟨rfl, b9⟩
      have HB2 : Hid (Below w.heap.size w w4 ∧ CBlk w4 w.heap.size i n (.slice a1 ws.length c1) (.slice a2 cs.length c2) (.slice a3 ss.length c3) (.slice a4 ms.length c4) ∧ CRows w4 a1 a2 a3 a4 ws cs ss ms) := ⟨HB.out.1.trans (b9.mono HB.out.1.size), HB.out.2.1.later b9, HB.out.2.2.later b9⟩
      clear HB b9
      have HB := HB2
      clear HB2
      cases t3 : okMs ss [] ms
      · have E9 : Hid (clientB i n ws cs ss ms = false) := Hid.mk' (by rw [KB.out, t3])
        clear KB
        go_wp2_with fail
        go_ret
        exact ⟨ret_bool E9.out.symm, HB.out.1⟩
      have E9 : Hid (clientB i n ws cs ss ms = true) := Hid.mk' (by rw [KB.out, t3])
      clear KB
      go_wp2_with fail
      go_ret
      exact ⟨ret_bool E9.out.symm, HB.out.1⟩
    · have E9 : Hid (clientB i n ws cs ss ms = false) := Hid.mk' (by simp [clientB, inB, v2])
      go_wp2_with fail
      go_ret
      exact ⟨ret_bool E9.out.symm, HB.out.1⟩
  · have E9 : Hid (clientB i n ws cs ss ms = false) := Hid.mk' (by simp [clientB, inB, v1])
    go_wp2_with fail
    go_ret
    exact ⟨ret_bool E9.out.symm, HB.out.1⟩

end Go.Proofs.Ythhdddcgkoaieaa
