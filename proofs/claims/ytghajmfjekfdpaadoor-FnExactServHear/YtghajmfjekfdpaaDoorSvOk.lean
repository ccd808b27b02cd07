/-
  When a service is ok, in plain mathematics; the program's ServOk and the specification's say just that; nothing that was in memory is turned.
-/
import Derived.Test.YtghajmfjekfdpaaDoorServTo
import Derived.Test.YtghajmfjekfdpaaDoorKdcOkI
import Derived.Test.YtghajmfjekfdpaaDoorKdcOkS
import Derived.Test.YtghajmfjekfdpaaDoorSpServ
namespace Go.Proofs.YtghajmfjekfdpaaDoor
open Go.RowKit
attribute [local go_sem ↓] Go.wp_at_zero Go.wp_at_succ

/-- A call by a user. -/
def takB (c : Ca) : Bool := inB c.p 1 3 && inB c.k 10 60 && inB c.t 0 100 && inB c.n 1 60
/-- A service that is ok. -/
def servB (i s : Int) (xs : List Sl) (ts : List Ca) : Bool := inB i 4 5 && inB s (-1) 100 && cacheB xs && ts.all takB

set_option maxHeartbeats 1000000 in
set_option maxRecDepth 100000 in
theorem notTaken_any (x : Ca) (w : World) : Calls Tryd.prog 97 #[.agg #[.int .i64 x.p, .int .i64 x.k, .int .i64 x.t, .int .i64 x.n]] w fun r w' => r = .returned (.bool (!takB x)) ∧ Below w.heap.size w w' := by
  unfold takB
  go_enter Tryd.func97, Tryd.ntmps97
  go_wp2_with (first | (go_at_call 89; refine (isUser_any _ _).mono ?_; rintro e w' ⟨rfl, rfl⟩) | (go_at_call 98; refine (isMadeKey_any _ _).mono ?_; rintro e w' ⟨rfl, rfl⟩) | (go_at_call 31; refine (isTime_any _ _).mono ?_; rintro e w' ⟨rfl, rfl⟩) | (go_at_call 90; refine (isNum_any _ _).mono ?_; rintro e w' ⟨rfl, rfl⟩))
  all_goals go_ret
  all_goals exact ⟨ret_bool (by simp_all), Below.alloc_ _ _⟩
set_option maxHeartbeats 1000000 in
set_option maxRecDepth 100000 in
theorem l13Took_any (x : Ca) (w : World) : Calls Tryd.prog 73 #[.agg #[.int .i64 x.p, .int .i64 x.k, .int .i64 x.t, .int .i64 x.n]] w fun r w' => r = .returned (.bool (takB x)) ∧ Below w.heap.size w w' := by
  unfold takB
  go_enter Tryd.func73, Tryd.ntmps73
  go_wp2_with (first | (go_at_call 83; refine (l1User_any _ _).mono ?_; rintro e w' ⟨rfl, rfl⟩) | (go_at_call 84; refine (l1Num_any _ _).mono ?_; rintro e w' ⟨rfl, rfl⟩) | (go_at_call 95; refine (l1Session_any _ _).mono ?_; rintro e w' ⟨rfl, rfl⟩) | (go_at_call 26; refine (l1Time_any _ _).mono ?_; rintro e w' ⟨rfl, rfl⟩))
  all_goals go_ret
  all_goals exact ⟨ret_bool (by simp_all), Below.alloc_ _ _⟩

set_option maxHeartbeats 2000000 in
set_option maxRecDepth 100000 in
theorem indexTaken_any (a : Option Addr) (cap : Nat) (xs : List Ca) (w : World) (h : NRow celC w a xs) (hx : xs.length ≤ 2000000) :
    Calls Tryd.prog 104 #[.slice a xs.length cap, .func (.func 97) #[] #[]] w fun r w' => (∃ n : Int, r = .returned (.int .i64 n) ∧ (decide (0 ≤ n) = !xs.all takB)) ∧ Below w.heap.size w w' := by
  go_enter Tryd.func104, Tryd.ntmps104
  go_wp2_with fail
  go_loopw [8] (fun i wr => ∃ (j : Nat), j ≤ xs.length ∧ i = .int .i64 j ∧ Hid ((xs.take j).all takB = true ∧ Below w.heap.size w wr)) (fun i _ => xs.length - (intOf i).toNat)
  case atStart => exact ⟨0, Nat.zero_le _, rfl, ⟨rfl, Below.refl _ _⟩⟩
  case round =>
    obtain ⟨j, hj, rfl, C⟩ := hrel
    have hbw := C.out.2
    by_cases hlt : j < xs.length
    · obtain ⟨s, hs⟩ : ∃ s, xs[j]? = some s := ⟨xs[j], List.getElem?_eq_getElem hlt⟩
      rcases h with h | ⟨b, off, rfl, hl, h⟩
      · simp [h] at hlt
      obtain ⟨c0, c1, c2, c3⟩ := celC.at ((h j s hs).later hbw hl)
      simp only [show celC.n = 4 from rfl] at c0 c1 c2 c3
      clear h
      have hbn := hbw.size
      have hk : (xs.take (j + 1)).all takB = takB s := by
        rw [List.take_add_one, List.all_append, C.out.1, hs]; simp
      go_wp2_with fail
      refine (notTaken_any s _).mono ?_
      rintro r w2 ⟨rfl, hb2⟩
      have C2 : Hid ((xs.take (j + 1)).all takB = takB s ∧ Below w.heap.size w w2) := ⟨hk, hbw.trans (hb2.mono (by omega))⟩
      clear hk c0 c1 c2 c3 C hbw hb2
      cases hok : takB s
      · go_wp2_with fail
        go_ret
        refine ⟨⟨_, rfl, ?_⟩, C2.out.2⟩
        have hf : xs.all takB = false := by
          rw [List.all_eq_false]; exact ⟨s, List.mem_of_getElem? hs, by simp [hok]⟩
        simp [hf]
      · go_wp2_with fail
        go_roundw
        case rel => exact ⟨j + 1, by omega, by go_num, ⟨C2.out.1.trans hok, C2.out.2⟩⟩
        case measure => simp [intOf]; omega
    · obtain rfl : j = xs.length := by omega
      have hall := C.out.1
      rw [List.take_length] at hall
      have HA : Hid (xs.all takB = true ∧ Below w.heap.size w wr) := ⟨hall, hbw⟩
      clear hall C hbw h
      go_wp2_with fail
      go_ret
      exact ⟨⟨_, rfl, by simp [HA.out.1]⟩, HA.out.2⟩
theorem containsTaken_any (a : Option Addr) (cap : Nat) (xs : List Ca) (w : World) (h : NRow celC w a xs) (hx : xs.length ≤ 2000000) :
    Calls Tryd.prog 96 #[.slice a xs.length cap, .func (.func 97) #[] #[]] w fun r w' => r = .returned (.bool (!xs.all takB)) ∧ Below w.heap.size w w' := by
  go_enter Tryd.func96, Tryd.ntmps96
  go_wp2_with fail
  refine (indexTaken_any a cap xs w h hx).mono ?_
  rintro r w2 ⟨⟨n, rfl, hn⟩, hb2⟩
  go_wp2_with fail
  go_ret
  exact ⟨ret_bool (by rw [← hn]), hb2⟩
theorem areTaken_any (a : Option Addr) (cap : Nat) (xs : List Ca) (w : World) (h : NRow celC w a xs) (hx : xs.length ≤ 2000000) :
    Calls Tryd.prog 76 #[.slice a xs.length cap] w fun r w' => r = .returned (.bool (xs.all takB)) ∧ Below w.heap.size w w' := by
  go_enter Tryd.func76, Tryd.ntmps76
  go_wp2_with fail
  refine (containsTaken_any a cap xs w h hx).mono ?_
  rintro r w2 ⟨rfl, hb2⟩
  go_wp2_with fail
  go_ret
  exact ⟨ret_bool (by simp), hb2⟩

set_option maxHeartbeats 2000000 in
set_option maxRecDepth 100000 in
theorem implServOk_any (i s : Int) (a1 a2 : Option Addr) (c1 c2 : Nat) (xs : List Sl) (ts : List Ca) (w : World) (h1 : SRow w a1 xs) (h2 : NRow celC w a2 ts) (hc : xs.length ≤ c1) (hx2 : ts.length ≤ 1048576) :
    Calls Tryd.prog 45 #[.agg #[.int .i64 i, .int .i64 s, .slice a1 xs.length c1, .slice a2 ts.length c2]] w fun r w' => r = .returned (.bool (servB i s xs ts)) ∧ Below w.heap.size w w' := by
  have HB : Hid (ABlk 49 (w.alloc (.cells #[.int .i64 i, .int .i64 s, .slice a1 xs.length c1, .slice a2 ts.length c2] 49)) w.heap.size #[.int .i64 i, .int .i64 s, .slice a1 xs.length c1, .slice a2 ts.length c2] ∧ Below w.heap.size w (w.alloc (.cells #[.int .i64 i, .int .i64 s, .slice a1 xs.length c1, .slice a2 ts.length c2] 49)) ∧ SRow (w.alloc (.cells #[.int .i64 i, .int .i64 s, .slice a1 xs.length c1, .slice a2 ts.length c2] 49)) a1 xs ∧ NRow celC (w.alloc (.cells #[.int .i64 i, .int .i64 s, .slice a1 xs.length c1, .slice a2 ts.length c2] 49)) a2 ts) := ⟨ABlk.new _ _ _, Below.alloc_ _ _, h1.later (Below.alloc_ _ _), h2.later (Below.alloc_ _ _)⟩
  clear h1 h2
  go_enter Tryd.func45, Tryd.ntmps45
  go_wp2_with fail
  generalize (w.alloc (.cells #[.int .i64 i, .int .i64 s, .slice a1 xs.length c1, .slice a2 ts.length c2] 49)) = W0 at HB ⊢
  refine (isServ_any _ _).mono ?_
  rintro r w0 ⟨rfl, rfl⟩
  cases u1 : inB i 4 5
  · have E9 : Hid (servB i s xs ts = false) := Hid.mk' (by simp [servB, u1])
    go_wp2_with fail
    go_ret
    exact ⟨ret_bool E9.out.symm, HB.out.2.1⟩
  have p0 := HB.out.1.at 0 _ rfl
  have p1 := HB.out.1.at 1 _ rfl
  have p2 := HB.out.1.at 2 _ rfl
  have p3 := HB.out.1.at 3 _ rfl
  by_cases hs : s = -1
  · have KB : Hid (servB i s xs ts = (cacheB xs && ts.all takB)) := Hid.mk' (by have h7 : inB s (-1) 100 = true := (by rw [hs]; rfl); simp [servB, u1, h7])
    clear u1
    go_wp2_with fail
    clear p0 p1 p2 p3
    refine (isCache_any a1 c1 xs _ HB.out.2.2.1 hc).mono ?_
    rintro r w1 ⟨rfl, b9⟩
    have HC : Hid (ABlk 49 w1 w.heap.size #[.int .i64 i, .int .i64 s, .slice a1 xs.length c1, .slice a2 ts.length c2] ∧ Below w.heap.size w w1 ∧ NRow celC w1 a2 ts) := ⟨HB.out.1.later b9, HB.out.2.1.trans (b9.mono HB.out.2.1.size), HB.out.2.2.2.later b9⟩
    clear HB b9
    cases u2 : cacheB xs
    · have E9 : Hid (servB i s xs ts = false) := Hid.mk' (by rw [KB.out, u2]; rfl)
      clear KB
      go_wp2_with fail
      go_ret
      exact ⟨ret_bool E9.out.symm, HC.out.2.1⟩
    have K2 : Hid (servB i s xs ts = ts.all takB) := Hid.mk' (by rw [KB.out, u2]; rfl)
    clear KB u2
    have p3 := HC.out.1.at 3 _ rfl
    go_wp2_with fail
    clear p3
    refine (areTaken_any a2 c2 ts _ HC.out.2.2 (by omega)).mono ?_
    rintro r w2 ⟨rfl, b9⟩
    have HD : Hid (Below w.heap.size w w2) := HC.out.2.1.trans (b9.mono HC.out.2.1.size)
    clear HC b9
    go_wp2_with fail
    go_ret
    exact ⟨ret_bool K2.out.symm, HD.out⟩
  · go_wp2_with fail
    refine (isTime_any _ _).mono ?_
    rintro r w0 ⟨rfl, rfl⟩
    cases u3 : inB s 0 100
    · have E9 : Hid (servB i s xs ts = false) := Hid.mk' (by have : inB s (-1) 100 = false := (by simp [inB] at u3 ⊢; omega); simp [servB, this])
      go_wp2_with fail
      go_ret
      exact ⟨ret_bool E9.out.symm, HB.out.2.1⟩
    have KB : Hid (servB i s xs ts = (cacheB xs && ts.all takB)) := Hid.mk' (by have : inB s (-1) 100 = true := (by simp [inB] at u3 ⊢; omega); simp [servB, u1, this])
    clear u1 u3
    go_wp2_with fail
    clear p0 p1 p2 p3
    refine (isCache_any a1 c1 xs _ HB.out.2.2.1 hc).mono ?_
    rintro r w1 ⟨rfl, b9⟩
    have HC : Hid (ABlk 49 w1 w.heap.size #[.int .i64 i, .int .i64 s, .slice a1 xs.length c1, .slice a2 ts.length c2] ∧ Below w.heap.size w w1 ∧ NRow celC w1 a2 ts) := ⟨HB.out.1.later b9, HB.out.2.1.trans (b9.mono HB.out.2.1.size), HB.out.2.2.2.later b9⟩
    clear HB b9
    cases u2 : cacheB xs
    · have E9 : Hid (servB i s xs ts = false) := Hid.mk' (by rw [KB.out, u2]; rfl)
      clear KB
      go_wp2_with fail
      go_ret
      exact ⟨ret_bool E9.out.symm, HC.out.2.1⟩
    have K2 : Hid (servB i s xs ts = ts.all takB) := Hid.mk' (by rw [KB.out, u2]; rfl)
    clear KB u2
    have p3 := HC.out.1.at 3 _ rfl
    go_wp2_with fail
    clear p3
    refine (areTaken_any a2 c2 ts _ HC.out.2.2 (by omega)).mono ?_
    rintro r w2 ⟨rfl, b9⟩
    have HD : Hid (Below w.heap.size w w2) := HC.out.2.1.trans (b9.mono HC.out.2.1.size)
    clear HC b9
    go_wp2_with fail
    go_ret
    exact ⟨ret_bool K2.out.symm, HD.out⟩

set_option maxHeartbeats 2000000 in
set_option maxRecDepth 100000 in
theorem specServOk_any (i s : Int) (a1 a2 : Option Addr) (c1 c2 : Nat) (xs : List Sl) (ts : List Ca) (w : World) (h1 : SRow w a1 xs) (h2 : NRow celC w a2 ts) (hc : xs.length ≤ c1) (hx1 : xs.length ≤ 1048576) (hx2 : ts.length ≤ 1048576) :
    Calls Tryd.prog 41 #[.agg #[.int .i64 i, .int .i64 s, .slice a1 xs.length c1, .slice a2 ts.length c2]] w fun r w' => r = .returned (.bool (servB i s xs ts)) ∧ Below w.heap.size w w' := by
  have HB : Hid (ABlk 49 (w.alloc (.cells #[.int .i64 i, .int .i64 s, .slice a1 xs.length c1, .slice a2 ts.length c2] 49)) w.heap.size #[.int .i64 i, .int .i64 s, .slice a1 xs.length c1, .slice a2 ts.length c2] ∧ Below w.heap.size w (w.alloc (.cells #[.int .i64 i, .int .i64 s, .slice a1 xs.length c1, .slice a2 ts.length c2] 49)) ∧ SRow (w.alloc (.cells #[.int .i64 i, .int .i64 s, .slice a1 xs.length c1, .slice a2 ts.length c2] 49)) a1 xs ∧ NRow celC (w.alloc (.cells #[.int .i64 i, .int .i64 s, .slice a1 xs.length c1, .slice a2 ts.length c2] 49)) a2 ts) := ⟨ABlk.new _ _ _, Below.alloc_ _ _, h1.later (Below.alloc_ _ _), h2.later (Below.alloc_ _ _)⟩
  clear h1 h2
  go_enter Tryd.func41, Tryd.ntmps41
  go_wp2_with fail
  generalize (w.alloc (.cells #[.int .i64 i, .int .i64 s, .slice a1 xs.length c1, .slice a2 ts.length c2] 49)) = W0 at HB ⊢
  refine (l1Serv_any' _ _).mono ?_
  rintro r w0 ⟨rfl, rfl⟩
  cases u1 : inB i 4 5
  · have E9 : Hid (servB i s xs ts = false) := Hid.mk' (by simp [servB, u1])
    go_wp2_with fail
    go_ret
    exact ⟨ret_bool E9.out.symm, HB.out.2.1⟩
  have p0 := HB.out.1.at 0 _ rfl
  have p1 := HB.out.1.at 1 _ rfl
  have p2 := HB.out.1.at 2 _ rfl
  have p3 := HB.out.1.at 3 _ rfl
  go_wp2_with fail
  refine (l6In_any _ _ _ _).mono ?_
  rintro r w0 ⟨rfl, rfl⟩
  cases u3 : inB s (-1) 100
  · have E9 : Hid (servB i s xs ts = false) := Hid.mk' (by simp [servB, u3])
    go_wp2_with fail
    go_ret
    exact ⟨ret_bool E9.out.symm, HB.out.2.1⟩
  have KB : Hid (servB i s xs ts = (cacheB xs && ts.all takB)) := Hid.mk' (by simp [servB, u1, u3])
  clear u1 u3
  go_wp2_with fail
  clear p0 p1 p2 p3
  refine (l11Cache_any a1 c1 xs _ HB.out.2.2.1 (by omega) hc).mono ?_
  rintro r w1 ⟨rfl, b9⟩
  have HC : Hid (ABlk 49 w1 w.heap.size #[.int .i64 i, .int .i64 s, .slice a1 xs.length c1, .slice a2 ts.length c2] ∧ Below w.heap.size w w1 ∧ NRow celC w1 a2 ts) := ⟨HB.out.1.later b9, HB.out.2.1.trans (b9.mono HB.out.2.1.size), HB.out.2.2.2.later b9⟩
  clear HB b9
  cases u2 : cacheB xs
  · have E9 : Hid (servB i s xs ts = false) := Hid.mk' (by rw [KB.out, u2]; rfl)
    clear KB
    go_wp2_with fail
    go_ret
    exact ⟨ret_bool E9.out.symm, HC.out.2.1⟩
  have K2 : Hid (servB i s xs ts = ts.all takB) := Hid.mk' (by rw [KB.out, u2]; rfl)
  clear KB u2
  go_wp2_with fail
  go_loopw [3] (fun q wr => ∃ (j : Nat), j ≤ ts.length ∧ q = .int .i64 j ∧ Hid ((ts.take j).all takB = true ∧ ABlk 49 wr w.heap.size #[.int .i64 i, .int .i64 s, .slice a1 xs.length c1, .slice a2 ts.length c2] ∧ Below w.heap.size w wr ∧ NRow celC wr a2 ts)) (fun q _ => ts.length - (intOf q).toNat)
  case atStart => exact ⟨0, Nat.zero_le _, rfl, ⟨rfl, HC.out.1, HC.out.2.1, HC.out.2.2⟩⟩
  case round =>
    obtain ⟨j, hj, rfl, C⟩ := hrel
    clear HC
    have p3 := C.out.2.1.at 3 _ rfl
    by_cases hlt : j < ts.length
    · obtain ⟨x, hs⟩ : ∃ x, ts[j]? = some x := ⟨ts[j], List.getElem?_eq_getElem hlt⟩
      have hk : (ts.take (j + 1)).all takB = takB x := by
        rw [List.take_add_one, List.all_append, C.out.1, hs]; simp
      have HK : Hid ((ts.take (j + 1)).all takB = takB x ∧ ts[j]? = some x) := ⟨hk, hs⟩
      clear hk
      rcases C.out.2.2.2 with h | ⟨b, off, rfl, hl, h⟩
      · simp [h] at hlt
      obtain ⟨d0, d1, d2, d3⟩ := celC.at (h j x hs)
      simp only [show celC.n = 4 from rfl] at d0 d1 d2 d3
      clear h hs
      go_wp2_with fail
      clear p3 d0 d1 d2 d3
      refine (l13Took_any x _).mono ?_
      rintro r w2 ⟨rfl, b9⟩
      have C2 : Hid (ABlk 49 w2 w.heap.size #[.int .i64 i, .int .i64 s, .slice a1 xs.length c1, .slice (some ⟨b, off, none⟩) ts.length c2] ∧ Below w.heap.size w w2 ∧ NRow celC w2 (some ⟨b, off, none⟩) ts) := ⟨C.out.2.1.later b9, C.out.2.2.1.trans (b9.mono C.out.2.2.1.size), C.out.2.2.2.later b9⟩
      clear C b9
      cases hok : takB x
      · have E9 : Hid (servB i s xs ts = false) := by
          refine Hid.mk' ?_
          rw [K2.out, List.all_eq_false]; exact ⟨x, List.mem_of_getElem? HK.out.2, by simp [hok]⟩
        clear HK
        go_wp2_with fail
        go_ret
        exact ⟨ret_bool E9.out.symm, C2.out.2.1⟩
      · go_wp2_with fail
        go_roundw
        case rel => exact ⟨j + 1, by omega, by go_num, HK.out.1.trans hok, C2.out.1, C2.out.2.1, C2.out.2.2⟩
        case measure => simp [intOf]; omega
    · obtain rfl : j = ts.length := by omega
      have hall := C.out.1
      rw [List.take_length] at hall
      have E9 : Hid (servB i s xs ts = true ∧ Below w.heap.size w wr) := ⟨K2.out.trans hall, C.out.2.2.1⟩
      clear C hall
      go_wp2_with fail
      go_ret
      exact ⟨ret_bool E9.out.1.symm, E9.out.2⟩

end Go.Proofs.YtghajmfjekfdpaaDoor
