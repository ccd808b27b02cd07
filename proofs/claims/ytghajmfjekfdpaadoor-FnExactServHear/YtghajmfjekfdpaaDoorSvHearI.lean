/-
  A service that hears that somebody calls: what the program answers.
-/
import Derived.Test.YtghajmfjekfdpaaDoorSvCallI
import Derived.Test.YtghajmfjekfdpaaDoorSvHearW
import Derived.Test.YtghajmfjekfdpaaDoorSvForget
import Derived.Test.YtghajmfjekfdpaaDoorSvServ
import Derived.Test.YtghajmfjekfdpaaDoorSvOf
import Derived.Test.YtghajmfjekfdpaaDoorSvFallS
namespace Go.Proofs.YtghajmfjekfdpaaDoor
open Go.RowKit
attribute [local go_sem ↓] Go.wp_at_zero Go.wp_at_succ

/-- A service in memory that remembers this. -/
def SvX (x B : Nat) (i s9 : Int) (v3 : Value) (X : List Sl) (W : World) : Prop := ∃ D, SvSt x B (.int .i64 i) (.int .i64 s9) v3 [] D W ∧ D.map Prod.snd = X
def selN (o : Obj) : Bool := selT 87 o || selT 115 o
theorem SvSt.keepN {x B : Nat} {u1 u2 u3 : Value} {D L : List (Nat × Sl)} {w w' : World} (h : SvSt x B u1 u2 u3 D L w) (hk : ∀ (g : Nat) o, w.heap[g]? = some o → selN o = true → w'.heap[g]? = some o) : SvSt x B u1 u2 u3 D L w' := by
  obtain ⟨pv, h1, h2⟩ := h.st
  refine ⟨⟨pv, hk _ _ h1 (by simp [selN, selT]), h2.same (fun p _ cs hc => hk _ _ hc (by simp [selN, selT]))⟩, h.nd, h.ge⟩
theorem keep_SvX (x B : Nat) (i s9 : Int) (v3 : Value) (X : List Sl) : Keep selN (SvX x B i s9 v3 X) := fun _ _ ⟨D, h, e⟩ _ hk => ⟨D, h.keepN hk, e⟩
theorem SvX.later {x B : Nat} {i s9 : Int} {v3 : Value} {X : List Sl} {w w' : World} (h : SvX x B i s9 v3 X w) (hb : Below w.heap.size w w') : SvX x B i s9 v3 X w' := by
  obtain ⟨D, h, e⟩ := h
  exact ⟨D, h.later hb, e⟩
theorem SvX.blk {x B : Nat} {i s9 : Int} {v3 : Value} {X : List Sl} {w : World} (h : SvX x B i s9 v3 X w) : ∃ pv, ABlk 87 w x #[pv, .int .i64 i, .int .i64 s9, v3] := by
  obtain ⟨D, h, _⟩ := h
  obtain ⟨pv, h1, _⟩ := h.st
  exact ⟨pv, h1⟩
/-- All that is not a note, nor the service, stays. -/
theorem St.nfr {B x : Nat} {w0 : World} {F : List BF} {R : List RF} {w w' : World} (h : St B w0 F R w) (n : NFr B x w w') (hx : ∃ cs, ABlk 87 w x cs) (hF : F.all (fun y => !Nat.beq y.T 115 && !Nat.beq y.T 87) = true) (hR : ∀ p ∈ R, p.P w') : St B w0 F R w' := by
  obtain ⟨cx, hx⟩ := hx
  refine ⟨h.bs, h.bel.trans n.bel, fun y hy => ?_, h.ge, h.nd, h.keep, hR⟩
  have e := List.all_eq_true.1 hF y hy
  simp only [Bool.and_eq_true, Bool.not_eq_true'] at e
  have e1 := Nat.ne_of_beq_eq_false e.1
  have e2 := Nat.ne_of_beq_eq_false e.2
  refine n.blk _ _ _ e1 (fun hb => ?_) (h.blk y hy)
  exact blk_type (h.blk y hy) (by rw [hb]; exact hx) e2
/-- What a service is behind what it heard. -/
theorem serv_any (x B : Nat) (i s9 : Int) (X : List Sl) (a2 : Option Addr) (ts : List Ca) (c2 : Nat) (w : World) (h : SvX x B i s9 (.slice a2 ts.length c2) X w) (hX : X.length ≤ 1048576) :
    Calls Tryd.prog 48 #[.pointer (some ⟨x, 0, none⟩)] w fun r w' => ∃ b0 d0, r = .returned (.agg #[.int .i64 i, .int .i64 s9, .slice b0 X.length d0, .slice a2 ts.length c2]) ∧ OwnS w' w.heap.size (.slice b0 X.length d0) X ∧ Below w.heap.size w w' := by
  obtain ⟨D, h, rfl⟩ := h
  obtain ⟨pv, hp, hc⟩ := h.st
  have hlt : ∀ p ∈ D, p.1 < w.heap.size := by
    have := hc.lt
    simpa using this
  have hx : x < w.heap.size := hp.lt
  refine serv_gen (fun W => SvSt x B (.int .i64 i) (.int .i64 s9) (.slice a2 ts.length c2) [] D W) x pv i s9 (D.map Prod.snd) a2 ts c2 w hp h (fun _ _ h b => h.later b) (fun w1 w2 h1 g => ?_) (fun w1 h1 b1 => ?_)
  · obtain ⟨pv', q1, q2⟩ := h1.st
    refine ⟨⟨pv', q1.grl g (by simp; omega), ?_⟩, h1.nd, h1.ge⟩
    exact q2.same (fun p hp' cs hcs => hcs.grl g (by have := hlt p (by simpa using hp'); simp; omega))
  · refine (notes_list x B _ _ _ D w1 h1 (by simpa using hX)).mono ?_
    rintro r w' ⟨b0, d0, e, o, b⟩
    exact ⟨b0, d0, e, OwnS.less o b1.size, b⟩
theorem withL_rem {now : Int} {xs : List Sl} {u : Sl} : (if remN now (keep now xs) u then keep now xs ++ [u] else keep now xs) = withL now xs u ∧ remN now (keep now xs) u = takes now xs u := by
  constructor <;> rfl
theorem Mem.less {w : World} {B B' : Nat} {pv : Value} {xs : List Sl} (h : Mem w B pv xs) (hb : B' ≤ B) : Mem w B' pv xs := by
  obtain ⟨L, q1, q2, q3, q4⟩ := h
  exact ⟨L, q1, q2, fun p hp => Nat.le_trans hb (q3 p hp), q4⟩
theorem Mem.svx {w : World} {x B : Nat} {pv v3 : Value} {i s9 : Int} {xs : List Sl} (h : Mem w B pv xs) (hp : ABlk 87 w x #[pv, .int .i64 i, .int .i64 s9, v3]) : SvX x B i s9 v3 xs w := by
  obtain ⟨L, q1, q2, q3, q4⟩ := h
  exact ⟨L, ⟨⟨pv, hp, q1⟩, q4, q3⟩, q2⟩
theorem askH_not {i s : Int} {xs : List Sl} {ts : List Ca} {m cl sv nc : Int} {ys : List Sl} {now : Int} (h : calledH i s m cl sv nc ys now = false) : askH i s xs ts m cl sv nc ys now = keepH i s xs ts := by
  unfold askH
  split
  · rename_i h1
    obtain ⟨rfl, h2, rfl⟩ := h1
    obtain ⟨t, u, rfl, _, _⟩ := msg5 h2
    unfold calledH at h
    simp [h2] at h
    unfold giveH
    simp only
    rw [if_neg]
    intro h3
    have := h h3.1
    omega
  · rfl
theorem askH_yes {i s : Int} {xs : List Sl} {ts : List Ca} {m cl sv nc : Int} {ys : List Sl} {now : Int} (h : calledH i s m cl sv nc ys now = true) : ∃ t u, ys = [t, u] ∧ u.auth = true ∧ askH i s xs ts m cl sv nc ys now = if takes now xs u = true then ⟨i, s, withL now xs u, ts ++ [⟨u.a, u.k, u.b, u.c⟩], 6, u.a, 0, 0, [backS u], true⟩ else keepH i s (withL now xs u) ts := by
  unfold calledH at h
  simp only [Bool.and_eq_true, beq_iff_eq] at h
  obtain ⟨⟨⟨rfl, rfl⟩, h2⟩, h3⟩ := h
  obtain ⟨t, u, rfl, _, hu⟩ := msg5 h2
  simp at h3
  refine ⟨t, u, rfl, shB_auth h3.1 hu, ?_⟩
  unfold askH
  rw [if_pos ⟨rfl, h2, rfl⟩]
  simp only
  unfold giveH
  rw [if_pos h3]
/-- A row of one call, made anew. -/
theorem own_oneC (w : World) {B : Nat} (hB : B ≤ w.heap.size) (x : Ca) : OwnN celC 90 (w.alloc (.cells #[.int .i64 x.p, .int .i64 x.k, .int .i64 x.t, .int .i64 x.n] 90)) B (.slice (some ⟨w.heap.size, 0, none⟩) 1 1) [x] :=
  ⟨rfl, Or.inr ⟨w.heap.size, 1, _, rfl, hB, heap_alloc_new _ _, Nat.le_refl _, by decide, rfl, rfl⟩⟩
theorem wp_oneC {o : Oper} {a : Act} {w : World} {K : Act → World → Prop} {Q : Exit → Act → World → Prop} (x : Operand) {a0 a1 a2 a3 : Int} {d : Tmp} (ho : o.op = .buildSlice 47 1 #[(0, x)]) (hd : o.dst = some d) (hx : a.eval x = .agg #[.int .i64 a0, .int .i64 a1, .int .i64 a2, .int .i64 a3])
    (hK : K (a.put (some d) (.slice (some ⟨w.heap.size, 0, none⟩) 1 1)) (w.alloc (.cells #[.int .i64 a0, .int .i64 a1, .int .i64 a2, .int .i64 a3] 90))) : o.wp Tryd.prog a w K Q := by
  unfold Oper.wp execOp
  simp only [ho, hx, List.map_toArray, List.map_cons, List.map_nil]
  go_simp
  exact hK
/-- On the way through the region that writes a call down. -/
def HvX (x B : Nat) (i s9 : Int) (v3 : Value) (L : List Sl) (d : Nat → Bool) (s : Nat → Value) (W : World) : Prop := (d 18 = false → SvX x B i s9 v3 L W) ∧ (d 18 = true → SvX x B i s9 (s 65) L W)
def HvC (B : Nat) (b1 : Option Addr) (d1 : Nat) (ts WS : List Ca) (c : Ca) (d : Nat → Bool) (s : Nat → Value) (W : World) : Prop :=
  ∃ b5 c5 g, (d 14 = true → d 15 = false → s 64 = .slice (some ⟨g, 0, none⟩) 1 1 ∧ OwnN celC 90 W B (.slice (some ⟨g, 0, none⟩) 1 1) [c]) ∧ (d 15 = false → OwnN celC 90 W B (.slice b1 ts.length d1) ts) ∧ (d 15 = true → s 65 = .slice b5 WS.length c5 ∧ OwnN celC 90 W B (.slice b5 WS.length c5) WS)
theorem keep_HvX (x B : Nat) (i s9 : Int) (v3 : Value) (L : List Sl) (d : Nat → Bool) (s : Nat → Value) : Keep selN (HvX x B i s9 v3 L d s) := fun w w' h hs hk => ⟨fun e => keep_SvX _ _ _ _ _ _ w w' (h.1 e) hs hk, fun e => keep_SvX _ _ _ _ _ _ w w' (h.2 e) hs hk⟩
theorem keep_HvC (B : Nat) (b1 : Option Addr) (d1 : Nat) (ts WS : List Ca) (c : Ca) (d : Nat → Bool) (s : Nat → Value) : Keep (selT 90) (HvC B b1 d1 ts WS c d s) := fun w w' ⟨b5, c5, g, q1, q2, q3⟩ hs hk =>
  ⟨b5, c5, g, fun e1 e2 => ⟨(q1 e1 e2).1, keep_own celC _ _ _ _ w w' (q1 e1 e2).2 hs hk⟩, fun e => keep_own celC _ _ _ _ w w' (q2 e) hs hk, fun e => ⟨(q3 e).1, keep_own celC _ _ _ _ w w' (q3 e).2 hs hk⟩⟩
/-- The call is written into the service. -/
theorem SvX.set3 {x B : Nat} {i s9 : Int} {v3 : Value} {L : List Sl} {w : World} (h : SvX x B i s9 v3 L w) (v : Value) : SvX x B i s9 v L (w.setCell ⟨x, 3, none⟩ v) := by
  obtain ⟨D, hD, e⟩ := h
  obtain ⟨pv, hp, hc⟩ := hD.st
  refine ⟨D, ⟨⟨pv, hp.set 3 v, hc.same (fun p _ cs hcs => ?_)⟩, hD.nd, hD.ge⟩, e⟩
  exact hcs.grl (setCell_grl w x 3 v) (fun hm => by
    simp at hm
    exact blk_type hp (hm ▸ hcs) (by decide))
set_option maxHeartbeats 4000000 in
set_option maxRecDepth 100000 in
/-- What is answered of who called. -/
theorem backTo_any (u : Sl) (w : World) :
    Calls Tryd.prog 51 #[.agg #[.int .i64 u.k, .int .i64 u.t, .int .i64 u.a, .int .i64 u.b, .int .i64 u.c, .int .i64 u.d, .int .i64 u.e]] w fun r w' => ∃ g, r = .returned (.agg #[.int .i64 6, .int .i64 u.a, .int .i64 0, .int .i64 0, .slice (some ⟨g, 0, none⟩) 1 1]) ∧ OwnS w' w.heap.size (.slice (some ⟨g, 0, none⟩) 1 1) [backS u] ∧ Below w.heap.size w w' := by
  go_enter Tryd.func51, Tryd.ntmps51
  go_wp2_with fail
  obtain ⟨W3, hW3⟩ : ∃ W, W = (((w.alloc (.cells #[.int .i64 u.k, .int .i64 u.t, .int .i64 u.a, .int .i64 u.b, .int .i64 u.c, .int .i64 u.d, .int .i64 u.e] 64)).alloc (.cells #[.int .i64 6, .int .i64 u.a, .int .i64 0, .int .i64 0, .slice (some ⟨w.heap.size + 1 + 1 + 1, 0, none⟩) 1 1] 33)).alloc (.cells #[.int .i64 u.k, .int .i64 4, .int .i64 u.b, .int .i64 u.c, .int .i64 0, .int .i64 0, .int .i64 0] 64)) := ⟨_, rfl⟩
  have hz : W3.heap.size = w.heap.size + 1 + 1 + 1 := by rw [hW3]; simp
  have hb : Below w.heap.size w W3 := by
    rw [hW3]
    exact (((Below.refl w.heap.size w).alloc (Nat.le_refl _) _).alloc (by simp) _).alloc (by simp; omega) _
  have o := own_one W3 (B := w.heap.size) (by omega) (backS u)
  have hq : W3.cell? ⟨w.heap.size + 1, 0, none⟩ = some (.int .i64 6) ∧ W3.cell? ⟨w.heap.size + 1, 1, none⟩ = some (.int .i64 u.a) ∧ W3.cell? ⟨w.heap.size + 1, 2, none⟩ = some (.int .i64 0) ∧ W3.cell? ⟨w.heap.size + 1, 3, none⟩ = some (.int .i64 0) ∧ W3.cell? ⟨w.heap.size + 1, 4, none⟩ = some (.slice (some ⟨w.heap.size + 1 + 1 + 1, 0, none⟩) 1 1) := by rw [hW3]; go_simp
  have hb4 := hb.trans ((Below.alloc_ W3 (.cells #[.int .i64 u.k, .int .i64 4, .int .i64 u.b, .int .i64 u.c, .int .i64 0, .int .i64 0, .int .i64 0] 64)).mono (by omega))
  rw [← hW3]
  clear hW3
  rw [hz] at o
  obtain ⟨q0, q1, q2, q3, q4⟩ := hq
  refine bodyPost_ret (v := .agg #[.int .i64 6, .int .i64 u.a, .int .i64 0, .int .i64 0, .slice (some ⟨w.heap.size + 1 + 1 + 1, 0, none⟩) 1 1]) (by simp [results, Tryd.results51, go_sem, *]) rfl ⟨_, rfl, o, hb4⟩

theorem blk_ne {F : List BF} {w : World} {x : Nat} {cs : Array Value} (hT : F.all (fun y => !Nat.beq y.T 87) = true) (hb : ∀ y ∈ F, ABlk y.T w y.b y.cs) {y : BF} (hy : y ∈ F) (hp : ABlk 87 w x cs) (e : y.b = x) : False := by
  have e1 := List.all_eq_true.1 hT y hy
  simp only [Bool.not_eq_true'] at e1
  exact blk_type (hb y hy) (by rw [e]; exact hp) (Nat.ne_of_beq_eq_false e1)

set_option maxHeartbeats 16000000 in
set_option maxRecDepth 100000 in
theorem implServHear_any (i s9 : Int) (a1 a2 : Option Addr) (c1 c2 : Nat) (xs : List Sl) (ts : List Ca) (m cl sv nc : Int) (g2 : Nat) (cap : Nat) (ys : List Sl) (now : Int) (w : World) (h1 : SRow w a1 xs) (h2 : NRow celC w a2 ts) (h : SRow w (some ⟨g2, 0, none⟩) ys) (hc : xs.length ≤ c1) (hx : xs.length ≤ 1048576) (ht : ts.length ≤ 1048576) (hy : ys.length ≤ 1048576) (hf : Forms w) :
    Calls Tryd.prog 20 #[.agg #[.int .i64 i, .int .i64 s9, .slice a1 xs.length c1, .slice a2 ts.length c2], .agg #[.int .i64 m, .int .i64 cl, .int .i64 sv, .int .i64 nc, .slice (some ⟨g2, 0, none⟩) ys.length cap], .int .i64 now] w fun r w' => HAns w.heap.size w' (hearA i s9 xs ts m cl sv nc ys now) r ∧ Below w.heap.size w w' := by
  have HH : Hid (SRow w a1 xs ∧ NRow celC w a2 ts ∧ SRow w (some ⟨g2, 0, none⟩) ys ∧ Forms w) := ⟨h1, h2, h, hf⟩
  clear h1 h2 h hf
  have HL9 : Hid (xs.length ≤ 1048576) := hx
  go_enter Tryd.func20, Tryd.ntmps20
  go_wp2_with fail
  obtain ⟨w1, hX9, HS1⟩ : ∃ X, X = ((((w.alloc (.cells #[.int .i64 i, .int .i64 s9, .slice a1 xs.length c1, .slice a2 ts.length c2] 49)).alloc (.cells #[.int .i64 m, .int .i64 cl, .int .i64 sv, .int .i64 nc, .slice (some ⟨g2, 0, none⟩) ys.length cap] 33)).alloc (.cells #[.int .i64 0, .int .i64 0, .slice none 0 0, .slice none 0 0] 49)).alloc (.cells #[.int .i64 0, .int .i64 0, .int .i64 0, .int .i64 0, .slice none 0 0] 33)) ∧ Hid (St w.heap.size w [⟨w.heap.size, 49, #[.int .i64 i, .int .i64 s9, .slice a1 xs.length c1, .slice a2 ts.length c2]⟩, ⟨w.heap.size + 1, 33, #[.int .i64 m, .int .i64 cl, .int .i64 sv, .int .i64 nc, .slice (some ⟨g2, 0, none⟩) ys.length cap]⟩, ⟨w.heap.size + 1 + 1, 49, #[.int .i64 0, .int .i64 0, .slice none 0 0, .slice none 0 0]⟩, ⟨w.heap.size + 1 + 1 + 1, 33, #[.int .i64 0, .int .i64 0, .int .i64 0, .int .i64 0, .slice none 0 0]⟩] [] X) := ⟨_, rfl, Hid.mk' (by
    have h := (St.alloc #[.int .i64 0, .int .i64 0, .int .i64 0, .int .i64 0, .slice none 0 0] 33 (St.alloc #[.int .i64 0, .int .i64 0, .slice none 0 0, .slice none 0 0] 49 (St.alloc #[.int .i64 m, .int .i64 cl, .int .i64 sv, .int .i64 nc, .slice (some ⟨g2, 0, none⟩) ys.length cap] 33 (St.alloc #[.int .i64 i, .int .i64 s9, .slice a1 xs.length c1, .slice a2 ts.length c2] 49 (St.new w)))))
    try simp only [World.size_alloc] at h
    try simp only [World.size_setCell] at h
    exact h)⟩
  rw [← hX9]
  clear hX9
  refine (implServOk_any i s9 _ _ _ _ xs ts _ (HH.out.1.later HS1.out.bel) (HH.out.2.1.later HS1.out.bel) hc (by omega)).mono ?_
  rintro r w2 ⟨rfl, b9⟩
  have HS2 : Hid (St w.heap.size w [⟨w.heap.size, 49, #[.int .i64 i, .int .i64 s9, .slice a1 xs.length c1, .slice a2 ts.length c2]⟩, ⟨w.heap.size + 1, 33, #[.int .i64 m, .int .i64 cl, .int .i64 sv, .int .i64 nc, .slice (some ⟨g2, 0, none⟩) ys.length cap]⟩, ⟨w.heap.size + 1 + 1, 49, #[.int .i64 0, .int .i64 0, .slice none 0 0, .slice none 0 0]⟩, ⟨w.heap.size + 1 + 1 + 1, 33, #[.int .i64 0, .int .i64 0, .int .i64 0, .int .i64 0, .slice none 0 0]⟩] [] w2) := Hid.mk' (by
    have h := St.grow b9 HS1.out
    try simp only [World.size_alloc] at h
    try simp only [World.size_setCell] at h
    exact h)
  clear HS1
  clear b9
  cases u1 : servB i s9 xs ts
  · skip
    have EA : Hid (hearA i s9 xs ts m cl sv nc ys now = noH) := Hid.mk' (by unfold hearA; rw [if_neg (by rw [u1]; simp)])
    have lt2 : w.heap.size + 1 + 1 < w2.heap.size := (HS2.out.lt 2 rfl).2
    have lt3 : w.heap.size + 1 + 1 + 1 < w2.heap.size := (HS2.out.lt 3 rfl).2
    have z0 := HS2.out.cell 2 rfl 0 (.int .i64 0) rfl
    have zf0 := HS2.out.fro 2 rfl 0
    have z1 := HS2.out.cell 2 rfl 1 (.int .i64 0) rfl
    have zf1 := HS2.out.fro 2 rfl 1
    have z2 := HS2.out.cell 2 rfl 2 (.slice none 0 0) rfl
    have zf2 := HS2.out.fro 2 rfl 2
    have z3 := HS2.out.cell 2 rfl 3 (.slice none 0 0) rfl
    have zf3 := HS2.out.fro 2 rfl 3
    have y0 := HS2.out.cell 3 rfl 0 (.int .i64 0) rfl
    have yf0 := HS2.out.fro 3 rfl 0
    have y1 := HS2.out.cell 3 rfl 1 (.int .i64 0) rfl
    have yf1 := HS2.out.fro 3 rfl 1
    have y2 := HS2.out.cell 3 rfl 2 (.int .i64 0) rfl
    have yf2 := HS2.out.fro 3 rfl 2
    have y3 := HS2.out.cell 3 rfl 3 (.int .i64 0) rfl
    have yf3 := HS2.out.fro 3 rfl 3
    have y4 := HS2.out.cell 3 rfl 4 (.slice none 0 0) rfl
    have yf4 := HS2.out.fro 3 rfl 4
    go_wp2_with fail
    clear lt2 lt3 z0 zf0 z1 zf1 z2 zf2 z3 zf3 y0 yf0 y1 yf1 y2 yf2 y3 yf3 y4 yf4
    obtain ⟨V, hX9, HS3⟩ : ∃ X, X = (((((((((w2.setCell ⟨w.heap.size + 1 + 1, 0, none⟩ (.int .i64 0)).setCell ⟨w.heap.size + 1 + 1, 1, none⟩ (.int .i64 0)).setCell ⟨w.heap.size + 1 + 1, 2, none⟩ (.slice none 0 0)).setCell ⟨w.heap.size + 1 + 1, 3, none⟩ (.slice none 0 0)).setCell ⟨w.heap.size + 1 + 1 + 1, 0, none⟩ (.int .i64 0)).setCell ⟨w.heap.size + 1 + 1 + 1, 1, none⟩ (.int .i64 0)).setCell ⟨w.heap.size + 1 + 1 + 1, 2, none⟩ (.int .i64 0)).setCell ⟨w.heap.size + 1 + 1 + 1, 3, none⟩ (.int .i64 0)).setCell ⟨w.heap.size + 1 + 1 + 1, 4, none⟩ (.slice none 0 0)) ∧ Hid (St w.heap.size w [⟨w.heap.size, 49, #[.int .i64 i, .int .i64 s9, .slice a1 xs.length c1, .slice a2 ts.length c2]⟩, ⟨w.heap.size + 1, 33, #[.int .i64 m, .int .i64 cl, .int .i64 sv, .int .i64 nc, .slice (some ⟨g2, 0, none⟩) ys.length cap]⟩, ⟨w.heap.size + 1 + 1, 49, #[.int .i64 0, .int .i64 0, .slice none 0 0, .slice none 0 0]⟩, ⟨w.heap.size + 1 + 1 + 1, 33, #[.int .i64 0, .int .i64 0, .int .i64 0, .int .i64 0, .slice none 0 0]⟩] [] X) := ⟨_, rfl, Hid.mk' (by
      have h := (St.put5 3 (St.put4 2 HS2.out rfl rfl (.int .i64 0) (.int .i64 0) (.slice none 0 0) (.slice none 0 0)) rfl rfl (.int .i64 0) (.int .i64 0) (.int .i64 0) (.int .i64 0) (.slice none 0 0))
      try simp only [World.size_alloc] at h
      try simp only [World.size_setCell] at h
      exact h)⟩
    rw [← hX9]
    clear hX9
    clear HS2
    have y0 := HS3.out.cell 2 rfl 0 (.int .i64 0) rfl
    have y1 := HS3.out.cell 2 rfl 1 (.int .i64 0) rfl
    have y2 := HS3.out.cell 2 rfl 2 (.slice none 0 0) rfl
    have y3 := HS3.out.cell 2 rfl 3 (.slice none 0 0) rfl
    have z0 := HS3.out.cell 3 rfl 0 (.int .i64 0) rfl
    have z1 := HS3.out.cell 3 rfl 1 (.int .i64 0) rfl
    have z2 := HS3.out.cell 3 rfl 2 (.int .i64 0) rfl
    have z3 := HS3.out.cell 3 rfl 3 (.int .i64 0) rfl
    have z4 := HS3.out.cell 3 rfl 4 (.slice none 0 0) rfl
    refine bodyPost_ret (v := .tuple #[.agg #[.int .i64 0, .int .i64 0, .slice none 0 0, .slice none 0 0], .agg #[.int .i64 0, .int .i64 0, .int .i64 0, .int .i64 0, .slice none 0 0], .bool false]) (by simp [results, Tryd.results20, go_sem, *]) rfl ?_
    rw [EA.out]
    exact ⟨⟨none, 0, none, 0, none, 0, w.heap.size, rfl, OwnS.nil _ _, OwnN.zero _ _ _ _, OwnS.nil _ _, Nat.le_refl _, fun k hk => by cases hk⟩, HS3.out.bel⟩
  go_wp2_with fail
  refine (isTime_any now _).mono ?_
  rintro r w9 ⟨rfl, he9⟩
  obtain rfl : w2 = w9 := he9.symm
  cases u2 : inB now 0 100
  · skip
    have EA : Hid (hearA i s9 xs ts m cl sv nc ys now = noH) := Hid.mk' (by unfold hearA; rw [if_neg (by rw [u1, u2]; simp)])
    have lt2 : w.heap.size + 1 + 1 < w2.heap.size := (HS2.out.lt 2 rfl).2
    have lt3 : w.heap.size + 1 + 1 + 1 < w2.heap.size := (HS2.out.lt 3 rfl).2
    have z0 := HS2.out.cell 2 rfl 0 (.int .i64 0) rfl
    have zf0 := HS2.out.fro 2 rfl 0
    have z1 := HS2.out.cell 2 rfl 1 (.int .i64 0) rfl
    have zf1 := HS2.out.fro 2 rfl 1
    have z2 := HS2.out.cell 2 rfl 2 (.slice none 0 0) rfl
    have zf2 := HS2.out.fro 2 rfl 2
    have z3 := HS2.out.cell 2 rfl 3 (.slice none 0 0) rfl
    have zf3 := HS2.out.fro 2 rfl 3
    have y0 := HS2.out.cell 3 rfl 0 (.int .i64 0) rfl
    have yf0 := HS2.out.fro 3 rfl 0
    have y1 := HS2.out.cell 3 rfl 1 (.int .i64 0) rfl
    have yf1 := HS2.out.fro 3 rfl 1
    have y2 := HS2.out.cell 3 rfl 2 (.int .i64 0) rfl
    have yf2 := HS2.out.fro 3 rfl 2
    have y3 := HS2.out.cell 3 rfl 3 (.int .i64 0) rfl
    have yf3 := HS2.out.fro 3 rfl 3
    have y4 := HS2.out.cell 3 rfl 4 (.slice none 0 0) rfl
    have yf4 := HS2.out.fro 3 rfl 4
    go_wp2_with fail
    clear lt2 lt3 z0 zf0 z1 zf1 z2 zf2 z3 zf3 y0 yf0 y1 yf1 y2 yf2 y3 yf3 y4 yf4
    obtain ⟨V, hX9, HS3⟩ : ∃ X, X = (((((((((w2.setCell ⟨w.heap.size + 1 + 1, 0, none⟩ (.int .i64 0)).setCell ⟨w.heap.size + 1 + 1, 1, none⟩ (.int .i64 0)).setCell ⟨w.heap.size + 1 + 1, 2, none⟩ (.slice none 0 0)).setCell ⟨w.heap.size + 1 + 1, 3, none⟩ (.slice none 0 0)).setCell ⟨w.heap.size + 1 + 1 + 1, 0, none⟩ (.int .i64 0)).setCell ⟨w.heap.size + 1 + 1 + 1, 1, none⟩ (.int .i64 0)).setCell ⟨w.heap.size + 1 + 1 + 1, 2, none⟩ (.int .i64 0)).setCell ⟨w.heap.size + 1 + 1 + 1, 3, none⟩ (.int .i64 0)).setCell ⟨w.heap.size + 1 + 1 + 1, 4, none⟩ (.slice none 0 0)) ∧ Hid (St w.heap.size w [⟨w.heap.size, 49, #[.int .i64 i, .int .i64 s9, .slice a1 xs.length c1, .slice a2 ts.length c2]⟩, ⟨w.heap.size + 1, 33, #[.int .i64 m, .int .i64 cl, .int .i64 sv, .int .i64 nc, .slice (some ⟨g2, 0, none⟩) ys.length cap]⟩, ⟨w.heap.size + 1 + 1, 49, #[.int .i64 0, .int .i64 0, .slice none 0 0, .slice none 0 0]⟩, ⟨w.heap.size + 1 + 1 + 1, 33, #[.int .i64 0, .int .i64 0, .int .i64 0, .int .i64 0, .slice none 0 0]⟩] [] X) := ⟨_, rfl, Hid.mk' (by
      have h := (St.put5 3 (St.put4 2 HS2.out rfl rfl (.int .i64 0) (.int .i64 0) (.slice none 0 0) (.slice none 0 0)) rfl rfl (.int .i64 0) (.int .i64 0) (.int .i64 0) (.int .i64 0) (.slice none 0 0))
      try simp only [World.size_alloc] at h
      try simp only [World.size_setCell] at h
      exact h)⟩
    rw [← hX9]
    clear hX9
    clear HS2
    have y0 := HS3.out.cell 2 rfl 0 (.int .i64 0) rfl
    have y1 := HS3.out.cell 2 rfl 1 (.int .i64 0) rfl
    have y2 := HS3.out.cell 2 rfl 2 (.slice none 0 0) rfl
    have y3 := HS3.out.cell 2 rfl 3 (.slice none 0 0) rfl
    have z0 := HS3.out.cell 3 rfl 0 (.int .i64 0) rfl
    have z1 := HS3.out.cell 3 rfl 1 (.int .i64 0) rfl
    have z2 := HS3.out.cell 3 rfl 2 (.int .i64 0) rfl
    have z3 := HS3.out.cell 3 rfl 3 (.int .i64 0) rfl
    have z4 := HS3.out.cell 3 rfl 4 (.slice none 0 0) rfl
    refine bodyPost_ret (v := .tuple #[.agg #[.int .i64 0, .int .i64 0, .slice none 0 0, .slice none 0 0], .agg #[.int .i64 0, .int .i64 0, .int .i64 0, .int .i64 0, .slice none 0 0], .bool false]) (by simp [results, Tryd.results20, go_sem, *]) rfl ?_
    rw [EA.out]
    exact ⟨⟨none, 0, none, 0, none, 0, w.heap.size, rfl, OwnS.nil _ _, OwnN.zero _ _ _ _, OwnS.nil _ _, Nat.le_refl _, fun k hk => by cases hk⟩, HS3.out.bel⟩
  have u1c : cacheB xs = true := by have e := u1; unfold servB at e; simp only [Bool.and_eq_true] at e; exact e.1.2
  have EH : Hid (hearA i s9 xs ts m cl sv nc ys now = askH i s9 xs ts m cl sv nc ys now) := Hid.mk' (by unfold hearA; rw [if_pos ⟨u1, u2⟩])
  have hau : ∀ u ∈ xs, 0 ≤ u.b ∧ u.b ≤ 100 := fun u hu => by obtain ⟨_, _, _, _, _, _, e1, e2, _⟩ := auth_parts (servB_auth u1 u hu); exact ⟨e1, e2⟩
  have hnw := inB_is.1 u2
  have HN : Hid ((∀ u ∈ xs, 0 ≤ u.b ∧ u.b ≤ 100) ∧ (0 ≤ now ∧ now ≤ 100)) := ⟨hau, hnw⟩
  clear hau hnw
  have lt0 : w.heap.size < w2.heap.size := (HS2.out.lt 0 rfl).2
  have lt1 : w.heap.size + 1 < w2.heap.size := (HS2.out.lt 1 rfl).2
  have lt2 : w.heap.size + 1 + 1 < w2.heap.size := (HS2.out.lt 2 rfl).2
  have lt3 : w.heap.size + 1 + 1 + 1 < w2.heap.size := (HS2.out.lt 3 rfl).2
  have p0 := HS2.out.cell 0 rfl 0 (.int .i64 i) rfl
  have p1 := HS2.out.cell 0 rfl 1 (.int .i64 s9) rfl
  have p2 := HS2.out.cell 0 rfl 2 (.slice a1 xs.length c1) rfl
  have p3 := HS2.out.cell 0 rfl 3 (.slice a2 ts.length c2) rfl
  go_wp2_with fail
  clear lt0 lt1 lt2 lt3 p0 p1 p2 p3
  have hz2 : w.heap.size ≤ w2.heap.size := HS2.out.sz
  refine (servingOf_gen (fun pv W => Mem W w2.heap.size pv xs) i s9 a1 a2 c1 c2 xs ts w2 (HH.out.1.later HS2.out.bel) (HH.out.2.1.later HS2.out.bel) (by omega) (fun _ _ _ h b => h.later b) (fun v1 hr b1 => (memoryOf_any a1 c1 xs hx v1 hr).mono ?_)).mono ?_
  · rintro r v2 ⟨pv, e, hm, b⟩
    exact ⟨pv, e, hm.less b1.size, b⟩
  rintro r w3 ⟨x, pv, b1, d1, rfl, lx, h3, h4, h5, b9⟩
  have HX9 : Hid (w.heap.size ≤ x) := Nat.le_trans hz2 lx
  have hsx : SvX x w.heap.size i s9 (.slice b1 ts.length d1) xs w3 := (h4.less hz2).svx h3
  have h5 := OwnN.lessC h5 hz2
  clear h3 h4 lx hz2
  have HS3 : Hid (St w.heap.size w [⟨w.heap.size, 49, #[.int .i64 i, .int .i64 s9, .slice a1 xs.length c1, .slice a2 ts.length c2]⟩, ⟨w.heap.size + 1, 33, #[.int .i64 m, .int .i64 cl, .int .i64 sv, .int .i64 nc, .slice (some ⟨g2, 0, none⟩) ys.length cap]⟩, ⟨w.heap.size + 1 + 1, 49, #[.int .i64 0, .int .i64 0, .slice none 0 0, .slice none 0 0]⟩, ⟨w.heap.size + 1 + 1 + 1, 33, #[.int .i64 0, .int .i64 0, .int .i64 0, .int .i64 0, .slice none 0 0]⟩] [] w3) := Hid.mk' (by
    have h := St.grow b9 HS2.out
    try simp only [World.size_alloc] at h
    try simp only [World.size_setCell] at h
    exact h)
  clear HS2
  clear b9
  have HS4 : Hid (St w.heap.size w [⟨w.heap.size, 49, #[.int .i64 i, .int .i64 s9, .slice a1 xs.length c1, .slice a2 ts.length c2]⟩, ⟨w.heap.size + 1, 33, #[.int .i64 m, .int .i64 cl, .int .i64 sv, .int .i64 nc, .slice (some ⟨g2, 0, none⟩) ys.length cap]⟩, ⟨w.heap.size + 1 + 1, 49, #[.int .i64 0, .int .i64 0, .slice none 0 0, .slice none 0 0]⟩, ⟨w.heap.size + 1 + 1 + 1, 33, #[.int .i64 0, .int .i64 0, .int .i64 0, .int .i64 0, .slice none 0 0]⟩] [⟨selN, fun W => SvX x w.heap.size i s9 (.slice b1 ts.length d1) xs W⟩] w3) := Hid.mk' (by
    have h := St.add (selN) (fun W => SvX x w.heap.size i s9 (.slice b1 ts.length d1) xs W) (keep_SvX _ _ _ _ _ _) (hsx) HS3.out
    try simp only [World.size_alloc] at h
    try simp only [World.size_setCell] at h
    exact h)
  clear HS3
  have HS5 : Hid (St w.heap.size w [⟨w.heap.size, 49, #[.int .i64 i, .int .i64 s9, .slice a1 xs.length c1, .slice a2 ts.length c2]⟩, ⟨w.heap.size + 1, 33, #[.int .i64 m, .int .i64 cl, .int .i64 sv, .int .i64 nc, .slice (some ⟨g2, 0, none⟩) ys.length cap]⟩, ⟨w.heap.size + 1 + 1, 49, #[.int .i64 0, .int .i64 0, .slice none 0 0, .slice none 0 0]⟩, ⟨w.heap.size + 1 + 1 + 1, 33, #[.int .i64 0, .int .i64 0, .int .i64 0, .int .i64 0, .slice none 0 0]⟩] [⟨selN, fun W => SvX x w.heap.size i s9 (.slice b1 ts.length d1) xs W⟩, ⟨(selT 90), fun W => OwnN celC 90 W w.heap.size (.slice b1 ts.length d1) ts⟩] w3) := Hid.mk' (by
    have h := St.add ((selT 90)) (fun W => OwnN celC 90 W w.heap.size (.slice b1 ts.length d1) ts) (keep_own celC _ _ _ _) (h5) HS4.out
    try simp only [World.size_alloc] at h
    try simp only [World.size_setCell] at h
    exact h)
  clear HS4
  clear hsx h5
  have lt0 : w.heap.size < w3.heap.size := (HS5.out.lt 0 rfl).2
  have lt1 : w.heap.size + 1 < w3.heap.size := (HS5.out.lt 1 rfl).2
  have lt2 : w.heap.size + 1 + 1 < w3.heap.size := (HS5.out.lt 2 rfl).2
  have lt3 : w.heap.size + 1 + 1 + 1 < w3.heap.size := (HS5.out.lt 3 rfl).2
  have m0 := HS5.out.cell 1 rfl 0 (.int .i64 m) rfl
  have m1 := HS5.out.cell 1 rfl 1 (.int .i64 cl) rfl
  have m2 := HS5.out.cell 1 rfl 2 (.int .i64 sv) rfl
  have m3 := HS5.out.cell 1 rfl 3 (.int .i64 nc) rfl
  have m4 := HS5.out.cell 1 rfl 4 (.slice (some ⟨g2, 0, none⟩) ys.length cap) rfl
  go_wp2_with fail
  clear lt0 lt1 lt2 lt3 m0 m1 m2 m3 m4
  obtain ⟨pv4, hb4⟩ := SvX.blk (HS5.out.of 0 rfl)
  refine (isCalled_any x pv4 i s9 b1 ts.length d1 m cl sv nc g2 cap ys now _ hb4 (HH.out.2.2.1.later HS5.out.bel) (by omega) (HH.out.2.2.2.later HS5.out.bel)).mono ?_
  rintro r w4 ⟨rfl, b9⟩
  clear hb4
  have HS6 : Hid (St w.heap.size w [⟨w.heap.size, 49, #[.int .i64 i, .int .i64 s9, .slice a1 xs.length c1, .slice a2 ts.length c2]⟩, ⟨w.heap.size + 1, 33, #[.int .i64 m, .int .i64 cl, .int .i64 sv, .int .i64 nc, .slice (some ⟨g2, 0, none⟩) ys.length cap]⟩, ⟨w.heap.size + 1 + 1, 49, #[.int .i64 0, .int .i64 0, .slice none 0 0, .slice none 0 0]⟩, ⟨w.heap.size + 1 + 1 + 1, 33, #[.int .i64 0, .int .i64 0, .int .i64 0, .int .i64 0, .slice none 0 0]⟩] [⟨selN, fun W => SvX x w.heap.size i s9 (.slice b1 ts.length d1) xs W⟩, ⟨(selT 90), fun W => OwnN celC 90 W w.heap.size (.slice b1 ts.length d1) ts⟩] w4) := Hid.mk' (by
    have h := St.grow b9 HS5.out
    try simp only [World.size_alloc] at h
    try simp only [World.size_setCell] at h
    exact h)
  clear HS5
  clear b9
  cases u3 : calledH i s9 m cl sv nc ys now
  · skip
    have EA : Hid (hearA i s9 xs ts m cl sv nc ys now = keepH i s9 xs ts) := Hid.mk' (by rw [EH.out]; exact askH_not u3)
    have lt2 : w.heap.size + 1 + 1 < w4.heap.size := (HS6.out.lt 2 rfl).2
    have lt3 : w.heap.size + 1 + 1 + 1 < w4.heap.size := (HS6.out.lt 3 rfl).2
    go_wp2_with fail
    clear lt2 lt3
    obtain HXS := HS6.out.of 0 rfl
    have hz8 : w.heap.size ≤ w4.heap.size := HS6.out.sz
    refine (serv_any x w.heap.size i s9 xs b1 ts d1 _ HXS (by have := HL9.out; first | omega | exact this)).mono ?_
    rintro r w7 ⟨b0, d0, rfl, o0, b9⟩
    have o0 := OwnS.less o0 hz8
    clear HXS hz8
    have HS7 : Hid (St w.heap.size w [⟨w.heap.size, 49, #[.int .i64 i, .int .i64 s9, .slice a1 xs.length c1, .slice a2 ts.length c2]⟩, ⟨w.heap.size + 1, 33, #[.int .i64 m, .int .i64 cl, .int .i64 sv, .int .i64 nc, .slice (some ⟨g2, 0, none⟩) ys.length cap]⟩, ⟨w.heap.size + 1 + 1, 49, #[.int .i64 0, .int .i64 0, .slice none 0 0, .slice none 0 0]⟩, ⟨w.heap.size + 1 + 1 + 1, 33, #[.int .i64 0, .int .i64 0, .int .i64 0, .int .i64 0, .slice none 0 0]⟩] [⟨selN, fun W => SvX x w.heap.size i s9 (.slice b1 ts.length d1) xs W⟩, ⟨(selT 90), fun W => OwnN celC 90 W w.heap.size (.slice b1 ts.length d1) ts⟩] w7) := Hid.mk' (by
      have h := St.grow b9 HS6.out
      try simp only [World.size_alloc] at h
      try simp only [World.size_setCell] at h
      exact h)
    clear HS6
    clear b9
    have HS8 : Hid (St w.heap.size w [⟨w.heap.size, 49, #[.int .i64 i, .int .i64 s9, .slice a1 xs.length c1, .slice a2 ts.length c2]⟩, ⟨w.heap.size + 1, 33, #[.int .i64 m, .int .i64 cl, .int .i64 sv, .int .i64 nc, .slice (some ⟨g2, 0, none⟩) ys.length cap]⟩, ⟨w.heap.size + 1 + 1, 49, #[.int .i64 0, .int .i64 0, .slice none 0 0, .slice none 0 0]⟩, ⟨w.heap.size + 1 + 1 + 1, 33, #[.int .i64 0, .int .i64 0, .int .i64 0, .int .i64 0, .slice none 0 0]⟩] [⟨selN, fun W => SvX x w.heap.size i s9 (.slice b1 ts.length d1) xs W⟩, ⟨(selT 90), fun W => OwnN celC 90 W w.heap.size (.slice b1 ts.length d1) ts⟩, ⟨selT 64, fun W => OwnS W w.heap.size (.slice b0 xs.length d0) xs⟩] w7) := Hid.mk' (by
      have h := St.add (selT 64) (fun W => OwnS W w.heap.size (.slice b0 xs.length d0) xs) (keep_owns _ _ _) (o0) HS7.out
      try simp only [World.size_alloc] at h
      try simp only [World.size_setCell] at h
      exact h)
    clear HS7
    clear o0
    have lt2 : w.heap.size + 1 + 1 < w7.heap.size := (HS8.out.lt 2 rfl).2
    have lt3 : w.heap.size + 1 + 1 + 1 < w7.heap.size := (HS8.out.lt 3 rfl).2
    have z0 := HS8.out.cell 2 rfl 0 (.int .i64 0) rfl
    have zf0 := HS8.out.fro 2 rfl 0
    have z1 := HS8.out.cell 2 rfl 1 (.int .i64 0) rfl
    have zf1 := HS8.out.fro 2 rfl 1
    have z2 := HS8.out.cell 2 rfl 2 (.slice none 0 0) rfl
    have zf2 := HS8.out.fro 2 rfl 2
    have z3 := HS8.out.cell 2 rfl 3 (.slice none 0 0) rfl
    have zf3 := HS8.out.fro 2 rfl 3
    have y0 := HS8.out.cell 3 rfl 0 (.int .i64 0) rfl
    have yf0 := HS8.out.fro 3 rfl 0
    have y1 := HS8.out.cell 3 rfl 1 (.int .i64 0) rfl
    have yf1 := HS8.out.fro 3 rfl 1
    have y2 := HS8.out.cell 3 rfl 2 (.int .i64 0) rfl
    have yf2 := HS8.out.fro 3 rfl 2
    have y3 := HS8.out.cell 3 rfl 3 (.int .i64 0) rfl
    have yf3 := HS8.out.fro 3 rfl 3
    have y4 := HS8.out.cell 3 rfl 4 (.slice none 0 0) rfl
    have yf4 := HS8.out.fro 3 rfl 4
    go_wp2_with fail
    clear lt2 lt3 z0 zf0 z1 zf1 z2 zf2 z3 zf3 y0 yf0 y1 yf1 y2 yf2 y3 yf3 y4 yf4
    obtain ⟨V, hX9, HS9⟩ : ∃ X, X = (((((((((w7.setCell ⟨w.heap.size + 1 + 1, 0, none⟩ (.int .i64 i)).setCell ⟨w.heap.size + 1 + 1, 1, none⟩ (.int .i64 s9)).setCell ⟨w.heap.size + 1 + 1, 2, none⟩ (.slice b0 xs.length d0)).setCell ⟨w.heap.size + 1 + 1, 3, none⟩ (.slice b1 ts.length d1)).setCell ⟨w.heap.size + 1 + 1 + 1, 0, none⟩ (.int .i64 0)).setCell ⟨w.heap.size + 1 + 1 + 1, 1, none⟩ (.int .i64 0)).setCell ⟨w.heap.size + 1 + 1 + 1, 2, none⟩ (.int .i64 0)).setCell ⟨w.heap.size + 1 + 1 + 1, 3, none⟩ (.int .i64 0)).setCell ⟨w.heap.size + 1 + 1 + 1, 4, none⟩ (.slice none 0 0)) ∧ Hid (St w.heap.size w [⟨w.heap.size, 49, #[.int .i64 i, .int .i64 s9, .slice a1 xs.length c1, .slice a2 ts.length c2]⟩, ⟨w.heap.size + 1, 33, #[.int .i64 m, .int .i64 cl, .int .i64 sv, .int .i64 nc, .slice (some ⟨g2, 0, none⟩) ys.length cap]⟩, ⟨w.heap.size + 1 + 1, 49, #[.int .i64 i, .int .i64 s9, .slice b0 xs.length d0, .slice b1 ts.length d1]⟩, ⟨w.heap.size + 1 + 1 + 1, 33, #[.int .i64 0, .int .i64 0, .int .i64 0, .int .i64 0, .slice none 0 0]⟩] [⟨selN, fun W => SvX x w.heap.size i s9 (.slice b1 ts.length d1) xs W⟩, ⟨(selT 90), fun W => OwnN celC 90 W w.heap.size (.slice b1 ts.length d1) ts⟩, ⟨selT 64, fun W => OwnS W w.heap.size (.slice b0 xs.length d0) xs⟩] X) := ⟨_, rfl, Hid.mk' (by
      have h := (St.put5 3 (St.put4 2 HS8.out rfl rfl (.int .i64 i) (.int .i64 s9) (.slice b0 xs.length d0) (.slice b1 ts.length d1)) rfl rfl (.int .i64 0) (.int .i64 0) (.int .i64 0) (.int .i64 0) (.slice none 0 0))
      try simp only [World.size_alloc] at h
      try simp only [World.size_setCell] at h
      exact h)⟩
    rw [← hX9]
    clear hX9
    clear HS8
    have y0 := HS9.out.cell 2 rfl 0 (.int .i64 i) rfl
    have y1 := HS9.out.cell 2 rfl 1 (.int .i64 s9) rfl
    have y2 := HS9.out.cell 2 rfl 2 (.slice b0 xs.length d0) rfl
    have y3 := HS9.out.cell 2 rfl 3 (.slice b1 ts.length d1) rfl
    have z0 := HS9.out.cell 3 rfl 0 (.int .i64 0) rfl
    have z1 := HS9.out.cell 3 rfl 1 (.int .i64 0) rfl
    have z2 := HS9.out.cell 3 rfl 2 (.int .i64 0) rfl
    have z3 := HS9.out.cell 3 rfl 3 (.int .i64 0) rfl
    have z4 := HS9.out.cell 3 rfl 4 (.slice none 0 0) rfl
    refine bodyPost_ret (v := .tuple #[.agg #[.int .i64 i, .int .i64 s9, .slice b0 xs.length d0, .slice b1 ts.length d1], .agg #[.int .i64 0, .int .i64 0, .int .i64 0, .int .i64 0, .slice none 0 0], .bool false]) (by simp [results, Tryd.results20, go_sem, *]) rfl ?_
    rw [EA.out]
    exact ⟨⟨b0, d0, b1, d1, none, 0, V.heap.size, rfl, HS9.out.of 2 rfl, HS9.out.of 1 rfl, OwnS.nil _ _, HS9.out.sz, fun k hk => (OwnS.low (HS9.out.of 2 rfl) k hk).2⟩, HS9.out.bel⟩
  obtain ⟨t, u, hys, hau, hask⟩ := askH_yes (xs := xs) (ts := ts) u3
  have hyl : ys.length = 2 := by rw [hys]; rfl
  have HY : Hid (ys = [t, u]) := hys
  have hy0 : 0 < ys.length := by omega
  have hy1 : 1 < ys.length := by omega
  have hy2 : (1 : Int) < (ys.length : Int) := by omega
  clear hyl hys u3
  obtain ⟨L, hL⟩ : ∃ L, L = withL now xs u := ⟨_, rfl⟩
  obtain ⟨tb, htb⟩ : ∃ tb, tb = takes now xs u := ⟨_, rfl⟩
  obtain ⟨kx, hkx⟩ : ∃ kx, kx = keep now xs := ⟨_, rfl⟩
  obtain ⟨WS, hWS⟩ : ∃ WS, WS = ts ++ [(⟨u.a, u.k, u.b, u.c⟩ : Ca)] := ⟨_, rfl⟩
  have hkl : kx.length ≤ xs.length := by rw [hkx]; exact List.length_filter_le _ _
  have hx20 := cacheB_len u1c
  have hLl : L.length ≤ 1048576 := by rw [hL]; unfold withL; rw [← hkx]; split <;> (try rw [List.length_append, List.length_singleton]) <;> omega
  have hrm : remN now kx u = tb ∧ (if tb = true then kx ++ [u] else kx) = L := by rw [hL, htb, hkx]; exact ⟨rfl, rfl⟩
  have HC : Hid ((remN now kx u = tb ∧ (if tb = true then kx ++ [u] else kx) = L) ∧ kx = keep now xs ∧ kx.length ≤ 1048576 ∧ WS = ts ++ [(⟨u.a, u.k, u.b, u.c⟩ : Ca)]) := ⟨hrm, hkx, by omega, hWS⟩
  have HLL : Hid (L.length ≤ 1048576) := hLl
  have hub : 0 ≤ u.b ∧ u.b ≤ 101 := by obtain ⟨_, _, _, _, _, _, e1, e2, _⟩ := auth_parts hau; omega
  have HUB : Hid (0 ≤ u.b ∧ u.b ≤ 101) := hub
  have EG : Hid (hearA i s9 xs ts m cl sv nc ys now = if tb = true then ⟨i, s9, L, WS, 6, u.a, 0, 0, [backS u], true⟩ else keepH i s9 L ts) := Hid.mk' (by rw [EH.out, hask, htb, hL, hWS])
  clear hkl hx20 hLl hrm hub hask hkx hWS hL htb hau u1c EH
  obtain ⟨r0, r1, r2, r3, r4, r5, r6⟩ := (srow_two' (HH.out.2.2.1.later HS6.out.bel) HY.out).2
  have lt0 : w.heap.size < w4.heap.size := (HS6.out.lt 0 rfl).2
  have lt1 : w.heap.size + 1 < w4.heap.size := (HS6.out.lt 1 rfl).2
  have lt2 : w.heap.size + 1 + 1 < w4.heap.size := (HS6.out.lt 2 rfl).2
  have lt3 : w.heap.size + 1 + 1 + 1 < w4.heap.size := (HS6.out.lt 3 rfl).2
  have m0 := HS6.out.cell 1 rfl 0 (.int .i64 m) rfl
  have m1 := HS6.out.cell 1 rfl 1 (.int .i64 cl) rfl
  have m2 := HS6.out.cell 1 rfl 2 (.int .i64 sv) rfl
  have m3 := HS6.out.cell 1 rfl 3 (.int .i64 nc) rfl
  have m4 := HS6.out.cell 1 rfl 4 (.slice (some ⟨g2, 0, none⟩) ys.length cap) rfl
  go_wp2_with fail
  clear lt0 lt1 lt2 lt3 m0 m1 m2 m3 m4
  clear r0 r1 r2 r3 r4 r5 r6
  obtain ⟨w5, hX9, HS7⟩ : ∃ X, X = (w4.alloc (.cells #[.int .i64 u.k, .int .i64 u.t, .int .i64 u.a, .int .i64 u.b, .int .i64 u.c, .int .i64 u.d, .int .i64 u.e] 64)) ∧ Hid (St w.heap.size w [⟨w.heap.size, 49, #[.int .i64 i, .int .i64 s9, .slice a1 xs.length c1, .slice a2 ts.length c2]⟩, ⟨w.heap.size + 1, 33, #[.int .i64 m, .int .i64 cl, .int .i64 sv, .int .i64 nc, .slice (some ⟨g2, 0, none⟩) ys.length cap]⟩, ⟨w.heap.size + 1 + 1, 49, #[.int .i64 0, .int .i64 0, .slice none 0 0, .slice none 0 0]⟩, ⟨w.heap.size + 1 + 1 + 1, 33, #[.int .i64 0, .int .i64 0, .int .i64 0, .int .i64 0, .slice none 0 0]⟩, ⟨w4.heap.size, 64, #[.int .i64 u.k, .int .i64 u.t, .int .i64 u.a, .int .i64 u.b, .int .i64 u.c, .int .i64 u.d, .int .i64 u.e]⟩] [⟨selN, fun W => SvX x w.heap.size i s9 (.slice b1 ts.length d1) xs W⟩, ⟨(selT 90), fun W => OwnN celC 90 W w.heap.size (.slice b1 ts.length d1) ts⟩] X) := ⟨_, rfl, Hid.mk' (by
    have h := (St.alloc #[.int .i64 u.k, .int .i64 u.t, .int .i64 u.a, .int .i64 u.b, .int .i64 u.c, .int .i64 u.d, .int .i64 u.e] 64 HS6.out)
    try simp only [World.size_alloc] at h
    try simp only [World.size_setCell] at h
    exact h)⟩
  rw [← hX9]
  clear hX9
  clear HS6
  obtain ⟨D, hD, eD⟩ := HS7.out.of 0 rfl
  obtain ⟨pv5, hb5⟩ := SvX.blk (HS7.out.of 0 rfl)
  have o5 := HS7.out.of 1 rfl
  have hlD : D.length ≤ 1048576 := by have e := congrArg List.length eD; simp at e; have := HL9.out; omega
  refine (notes_forget x w.heap.size _ _ _ D now _ HX9.out HS7.out.sz hD hlD (fun p hp => (fun e => ⟨(HN.out.1 p.2 e).1, by have := (HN.out.1 p.2 e).2; omega⟩) (eD ▸ List.mem_map_of_mem hp)) HN.out.2).mono ?_
  rintro r w6 ⟨⟨v, rfl⟩, ⟨D2, hD2, eD2⟩, n9⟩
  have hsx : SvX x w.heap.size i s9 (.slice b1 ts.length d1) kx w6 := ⟨D2, hD2, by rw [eD2, eD, HC.out.2.1]⟩
  have hc6 := n9.own o5 (by decide) (fun k e he => own_off hb5 o5 (by decide) (he ▸ e))
  have HS8 : Hid (St w.heap.size w [⟨w.heap.size, 49, #[.int .i64 i, .int .i64 s9, .slice a1 xs.length c1, .slice a2 ts.length c2]⟩, ⟨w.heap.size + 1, 33, #[.int .i64 m, .int .i64 cl, .int .i64 sv, .int .i64 nc, .slice (some ⟨g2, 0, none⟩) ys.length cap]⟩, ⟨w.heap.size + 1 + 1, 49, #[.int .i64 0, .int .i64 0, .slice none 0 0, .slice none 0 0]⟩, ⟨w.heap.size + 1 + 1 + 1, 33, #[.int .i64 0, .int .i64 0, .int .i64 0, .int .i64 0, .slice none 0 0]⟩, ⟨w4.heap.size, 64, #[.int .i64 u.k, .int .i64 u.t, .int .i64 u.a, .int .i64 u.b, .int .i64 u.c, .int .i64 u.d, .int .i64 u.e]⟩] [] w6) := Hid.mk' (by
    have h := St.nfr (St.facts HS7.out (R' := []) (fun _ h => by cases h) (fun _ h => by cases h)) n9 ⟨_, hb5⟩ rfl (fun _ h => by cases h)
    try simp only [World.size_alloc] at h
    try simp only [World.size_setCell] at h
    exact h)
  clear HS7
  clear hD eD hb5 o5 hlD hD2 eD2 n9 D D2 pv5
  have HS9 : Hid (St w.heap.size w [⟨w.heap.size, 49, #[.int .i64 i, .int .i64 s9, .slice a1 xs.length c1, .slice a2 ts.length c2]⟩, ⟨w.heap.size + 1, 33, #[.int .i64 m, .int .i64 cl, .int .i64 sv, .int .i64 nc, .slice (some ⟨g2, 0, none⟩) ys.length cap]⟩, ⟨w.heap.size + 1 + 1, 49, #[.int .i64 0, .int .i64 0, .slice none 0 0, .slice none 0 0]⟩, ⟨w.heap.size + 1 + 1 + 1, 33, #[.int .i64 0, .int .i64 0, .int .i64 0, .int .i64 0, .slice none 0 0]⟩, ⟨w4.heap.size, 64, #[.int .i64 u.k, .int .i64 u.t, .int .i64 u.a, .int .i64 u.b, .int .i64 u.c, .int .i64 u.d, .int .i64 u.e]⟩] [⟨selN, fun W => SvX x w.heap.size i s9 (.slice b1 ts.length d1) kx W⟩] w6) := Hid.mk' (by
    have h := St.add (selN) (fun W => SvX x w.heap.size i s9 (.slice b1 ts.length d1) kx W) (keep_SvX _ _ _ _ _ _) (hsx) HS8.out
    try simp only [World.size_alloc] at h
    try simp only [World.size_setCell] at h
    exact h)
  clear HS8
  have HS10 : Hid (St w.heap.size w [⟨w.heap.size, 49, #[.int .i64 i, .int .i64 s9, .slice a1 xs.length c1, .slice a2 ts.length c2]⟩, ⟨w.heap.size + 1, 33, #[.int .i64 m, .int .i64 cl, .int .i64 sv, .int .i64 nc, .slice (some ⟨g2, 0, none⟩) ys.length cap]⟩, ⟨w.heap.size + 1 + 1, 49, #[.int .i64 0, .int .i64 0, .slice none 0 0, .slice none 0 0]⟩, ⟨w.heap.size + 1 + 1 + 1, 33, #[.int .i64 0, .int .i64 0, .int .i64 0, .int .i64 0, .slice none 0 0]⟩, ⟨w4.heap.size, 64, #[.int .i64 u.k, .int .i64 u.t, .int .i64 u.a, .int .i64 u.b, .int .i64 u.c, .int .i64 u.d, .int .i64 u.e]⟩] [⟨selN, fun W => SvX x w.heap.size i s9 (.slice b1 ts.length d1) kx W⟩, ⟨(selT 90), fun W => OwnN celC 90 W w.heap.size (.slice b1 ts.length d1) ts⟩] w6) := Hid.mk' (by
    have h := St.add ((selT 90)) (fun W => OwnN celC 90 W w.heap.size (.slice b1 ts.length d1) ts) (keep_own celC _ _ _ _) (hc6) HS9.out
    try simp only [World.size_alloc] at h
    try simp only [World.size_setCell] at h
    exact h)
  clear HS9
  clear hsx hc6
  have lt0 : w.heap.size < w6.heap.size := (HS10.out.lt 0 rfl).2
  have lt1 : w.heap.size + 1 < w6.heap.size := (HS10.out.lt 1 rfl).2
  have lt2 : w.heap.size + 1 + 1 < w6.heap.size := (HS10.out.lt 2 rfl).2
  have lt3 : w.heap.size + 1 + 1 + 1 < w6.heap.size := (HS10.out.lt 3 rfl).2
  have lt4 : w4.heap.size < w6.heap.size := (HS10.out.lt 4 rfl).2
  go_wp2_with fail
  clear lt0 lt1 lt2 lt3 lt4
  refine wp_region_walk [40, 41, 42, 43, 44, 45, 46] (fun d s W => St w.heap.size w [⟨w.heap.size, 49, #[.int .i64 i, .int .i64 s9, .slice a1 xs.length c1, .slice a2 ts.length c2]⟩, ⟨w.heap.size + 1, 33, #[.int .i64 m, .int .i64 cl, .int .i64 sv, .int .i64 nc, .slice (some ⟨g2, 0, none⟩) ys.length cap]⟩, ⟨w.heap.size + 1 + 1, 49, #[.int .i64 0, .int .i64 0, .slice none 0 0, .slice none 0 0]⟩, ⟨w.heap.size + 1 + 1 + 1, 33, #[.int .i64 0, .int .i64 0, .int .i64 0, .int .i64 0, .slice none 0 0]⟩, ⟨w4.heap.size, 64, #[.int .i64 u.k, .int .i64 u.t, .int .i64 u.a, .int .i64 u.b, .int .i64 u.c, .int .i64 u.d, .int .i64 u.e]⟩] [⟨selN, fun W => SvX x w.heap.size i s9 (.slice b1 ts.length d1) (bif d 5 then L else kx) W⟩, ⟨(selT 90), fun W => OwnN celC 90 W w.heap.size (.slice b1 ts.length d1) ts⟩] W ∧ Looks [(0, 40, Value.pointer (some ⟨x, 0, none⟩)), (1, 41, Value.pointer (some ⟨x, 0, none⟩)), (2, 42, Value.pointer (some ⟨x, 0, none⟩)), (3, 43, Value.agg #[.int .i64 u.k, .int .i64 u.t, .int .i64 u.a, .int .i64 u.b, .int .i64 u.c, .int .i64 u.d, .int .i64 u.e]), (4, 44, Value.int .i64 now), (5, 45, .bool tb), (6, 46, .bool (!tb))] d s) [0, 1, 2, 3, 4, 5, 6] (by kernel_rfl) (by kernel_rfl) (by kernel_rfl) ?_ ?_ ?_
  · intro s
    exact ⟨HS10.out.drew, Looks.none _ _⟩
  · refine StepsR.cons (k := 0) [] (by kernel_rfl) ?_ (StepsR.cons (k := 1) [0] (by kernel_rfl) ?_ (StepsR.cons (k := 2) [1] (by kernel_rfl) ?_ (StepsR.cons (k := 3) [] (by kernel_rfl) ?_ (StepsR.cons (k := 4) [] (by kernel_rfl) ?_ (StepsR.cons (k := 5) [2, 3, 4] (by kernel_rfl) ?_ (StepsR.cons (k := 6) [5] (by kernel_rfl) ?_ (StepsR.nil)))))))
    · intro d s w9 hd hA hC hF K hK
      have hB9 := hF.1.bel
      simp only [putL, putT, List.setIfInBounds_toArray, List.set_cons_zero, List.set_cons_succ]
      clear hB9
      as_aux_lemma =>
        go_simp
        refine hK.out (updS s 40 (Value.pointer (some ⟨x, 0, none⟩))) _ _ ?_ ⟨hF.1, hF.2.put 0 40 (Value.pointer (some ⟨x, 0, none⟩)) rfl (by simp)⟩
        simp only [putL, putT, List.setIfInBounds_toArray, List.set_cons_zero, List.set_cons_succ]; rfl
    · intro d s w9 hd hA hC hF K hK
      have hB9 := hF.1.bel
      simp only [putL, putT, List.setIfInBounds_toArray, List.set_cons_zero, List.set_cons_succ]
      clear hB9
      as_aux_lemma =>
        have eq0 : s 40 = Value.pointer (some ⟨x, 0, none⟩) := hF.2 (0, 40, Value.pointer (some ⟨x, 0, none⟩)) (by simp) (hA.1)
        rw [eq0]
        go_simp
        refine hK.out (updS s 41 (Value.pointer (some ⟨x, 0, none⟩))) _ _ ?_ ⟨hF.1, hF.2.put 1 41 (Value.pointer (some ⟨x, 0, none⟩)) rfl (by simp)⟩
        simp only [putL, putT, List.setIfInBounds_toArray, List.set_cons_zero, List.set_cons_succ]; rw [show updS s 41 (Value.pointer (some ⟨x, 0, none⟩)) 40 = Value.pointer (some ⟨x, 0, none⟩) from eq0]; rfl
    · intro d s w9 hd hA hC hF K hK
      have hB9 := hF.1.bel
      simp only [putL, putT, List.setIfInBounds_toArray, List.set_cons_zero, List.set_cons_succ]
      clear hB9
      as_aux_lemma =>
        have eq1 : s 41 = Value.pointer (some ⟨x, 0, none⟩) := hF.2 (1, 41, Value.pointer (some ⟨x, 0, none⟩)) (by simp) (hA.1)
        rw [eq1]
        go_simp
        refine hK.out (updS s 42 (Value.pointer (some ⟨x, 0, none⟩))) _ _ ?_ ⟨hF.1, hF.2.put 2 42 (Value.pointer (some ⟨x, 0, none⟩)) rfl (by simp)⟩
        simp only [putL, putT, List.setIfInBounds_toArray, List.set_cons_zero, List.set_cons_succ]; rw [show updS s 42 (Value.pointer (some ⟨x, 0, none⟩)) 41 = Value.pointer (some ⟨x, 0, none⟩) from eq1]; rfl
    · intro d s w9 hd hA hC hF K hK
      have hB9 := hF.1.bel
      simp only [putL, putT, List.setIfInBounds_toArray, List.set_cons_zero, List.set_cons_succ]
      clear hB9
      as_aux_lemma =>
        have p0 := hF.1.cell 4 rfl 0 (.int .i64 u.k) rfl
        have p1 := hF.1.cell 4 rfl 1 (.int .i64 u.t) rfl
        have p2 := hF.1.cell 4 rfl 2 (.int .i64 u.a) rfl
        have p3 := hF.1.cell 4 rfl 3 (.int .i64 u.b) rfl
        have p4 := hF.1.cell 4 rfl 4 (.int .i64 u.c) rfl
        have p5 := hF.1.cell 4 rfl 5 (.int .i64 u.d) rfl
        have p6 := hF.1.cell 4 rfl 6 (.int .i64 u.e) rfl
        go_simp
        clear p0 p1 p2 p3 p4 p5 p6
        refine hK.out (updS s 43 (Value.agg #[.int .i64 u.k, .int .i64 u.t, .int .i64 u.a, .int .i64 u.b, .int .i64 u.c, .int .i64 u.d, .int .i64 u.e])) _ _ ?_ ⟨hF.1, hF.2.put 3 43 (Value.agg #[.int .i64 u.k, .int .i64 u.t, .int .i64 u.a, .int .i64 u.b, .int .i64 u.c, .int .i64 u.d, .int .i64 u.e]) rfl (by simp)⟩
        simp only [putL, putT, List.setIfInBounds_toArray, List.set_cons_zero, List.set_cons_succ]; rfl
    · intro d s w9 hd hA hC hF K hK
      have hB9 := hF.1.bel
      simp only [putL, putT, List.setIfInBounds_toArray, List.set_cons_zero, List.set_cons_succ]
      clear hB9
      as_aux_lemma =>
        go_simp
        refine hK.out (updS s 44 (Value.int .i64 now)) _ _ ?_ ⟨hF.1, hF.2.put 4 44 (Value.int .i64 now) rfl (by simp)⟩
        simp only [putL, putT, List.setIfInBounds_toArray, List.set_cons_zero, List.set_cons_succ]; rfl
    · intro d s w9 hd hA hC hF K hK
      have hB9 := hF.1.bel
      simp only [putL, putT, List.setIfInBounds_toArray, List.set_cons_zero, List.set_cons_succ]
      clear hB9
      as_aux_lemma =>
        have eq2 : s 42 = Value.pointer (some ⟨x, 0, none⟩) := hF.2 (2, 42, Value.pointer (some ⟨x, 0, none⟩)) (by simp) (hA.1)
        have eq3 : s 43 = Value.agg #[.int .i64 u.k, .int .i64 u.t, .int .i64 u.a, .int .i64 u.b, .int .i64 u.c, .int .i64 u.d, .int .i64 u.e] := hF.2 (3, 43, Value.agg #[.int .i64 u.k, .int .i64 u.t, .int .i64 u.a, .int .i64 u.b, .int .i64 u.c, .int .i64 u.d, .int .i64 u.e]) (by simp) (hA.2.1)
        have eq4 : s 44 = Value.int .i64 now := hF.2 (4, 44, Value.int .i64 now) (by simp) (hA.2.2.1)
        rw [eq2, eq3, eq4]
        have hS := hF.1
        have hSX := hS.of 0 rfl
        rw [hd] at hSX
        simp only [cond_false] at hSX
        obtain ⟨pv5, hb5⟩ := SvX.blk hSX
        obtain ⟨D, hD, eD⟩ := hSX
        have o5 := hS.of 1 rfl
        have hlD : D.length ≤ 1048576 := by have e := congrArg List.length eD; simp at e; have := HC.out.2.2.1; omega
        go_simp
        refine (notes_remember x w.heap.size _ _ _ D u now _ HX9.out hS.sz hD hlD HUB.out HN.out.2).mono ?_
        intro r w8 hr
        obtain ⟨rfl, ⟨D2, hD2, eD2⟩, n9⟩ := hr
        rw [eD] at eD2 ⊢
        rw [HC.out.1.1] at eD2 ⊢
        have hsx : SvX x w.heap.size i s9 (.slice b1 ts.length d1) L w8 := ⟨D2, hD2, eD2.trans HC.out.1.2⟩
        have hc6 := n9.own o5 (by decide) (fun k e he => own_off hb5 o5 (by decide) (he ▸ e))
        go_simp
        refine hK.out (updS s 45 (.bool tb)) _ _ ?_ ⟨St.add (selT 90) (fun W => OwnN celC 90 W w.heap.size (.slice b1 ts.length d1) ts) (keep_own celC _ _ _ _) hc6 (St.add selN (fun W => SvX x w.heap.size i s9 (.slice b1 ts.length d1) (bif (upd d 5) 5 then L else kx) W) (keep_SvX _ _ _ _ _ _) hsx (St.nfr (St.facts hS (R' := []) (fun _ h => by cases h) (fun _ h => by cases h)) n9 ⟨_, hb5⟩ rfl (fun _ h => by cases h))), hF.2.put 5 45 (.bool tb) rfl (by simp)⟩
        simp only [putL, putT, List.setIfInBounds_toArray, List.set_cons_zero, List.set_cons_succ]
        rw [show updS s 45 (.bool tb) 42 = Value.pointer (some ⟨x, 0, none⟩) from eq2, show updS s 45 (.bool tb) 43 = Value.agg #[.int .i64 u.k, .int .i64 u.t, .int .i64 u.a, .int .i64 u.b, .int .i64 u.c, .int .i64 u.d, .int .i64 u.e] from eq3, show updS s 45 (.bool tb) 44 = Value.int .i64 now from eq4] <;> rfl
    · intro d s w9 hd hA hC hF K hK
      have hB9 := hF.1.bel
      simp only [putL, putT, List.setIfInBounds_toArray, List.set_cons_zero, List.set_cons_succ]
      clear hB9
      as_aux_lemma =>
        have eq5 : s 45 = .bool tb := hF.2 (5, 45, .bool tb) (by simp) (hA.1)
        rw [eq5]
        go_simp
        refine hK.out (updS s 46 (.bool (!tb))) _ _ ?_ ⟨hF.1, hF.2.put 6 46 (.bool (!tb)) rfl (by simp)⟩
        simp only [putL, putT, List.setIfInBounds_toArray, List.set_cons_zero, List.set_cons_succ]; rw [show updS s 46 (.bool (!tb)) 45 = .bool tb from eq5]; rfl
  · intro d s w7 hA hF
    have hS := hF.1
    have eq6 : s 46 = .bool (!tb) := hF.2 (6, 46, .bool (!tb)) (by simp) (hA.2.2.2.2.2.2.1)
    have oX := hS.of 0 rfl
    rw [hA.2.2.2.2.2.1] at oX
    simp only [cond_true] at oX
    have hS := St.setR hS 0 selN (fun W => SvX x w.heap.size i s9 (.slice b1 ts.length d1) L W) (keep_SvX _ _ _ _ _ _) oX
    clear oX
    have HS11 : Hid (St w.heap.size w [⟨w.heap.size, 49, #[.int .i64 i, .int .i64 s9, .slice a1 xs.length c1, .slice a2 ts.length c2]⟩, ⟨w.heap.size + 1, 33, #[.int .i64 m, .int .i64 cl, .int .i64 sv, .int .i64 nc, .slice (some ⟨g2, 0, none⟩) ys.length cap]⟩, ⟨w.heap.size + 1 + 1, 49, #[.int .i64 0, .int .i64 0, .slice none 0 0, .slice none 0 0]⟩, ⟨w.heap.size + 1 + 1 + 1, 33, #[.int .i64 0, .int .i64 0, .int .i64 0, .int .i64 0, .slice none 0 0]⟩, ⟨w4.heap.size, 64, #[.int .i64 u.k, .int .i64 u.t, .int .i64 u.a, .int .i64 u.b, .int .i64 u.c, .int .i64 u.d, .int .i64 u.e]⟩] [⟨selN, fun W => SvX x w.heap.size i s9 (.slice b1 ts.length d1) L W⟩, ⟨(selT 90), fun W => OwnN celC 90 W w.heap.size (.slice b1 ts.length d1) ts⟩] w7) := hS
    clear hS hF hA HS10
    simp only [putL, putT, List.setIfInBounds_toArray, List.set_cons_zero, List.set_cons_succ]
    rw [eq6]
    clear eq6
    cases tb
    · skip
      have EA : Hid (hearA i s9 xs ts m cl sv nc ys now = keepH i s9 L ts) := Hid.mk' (by rw [EG.out]; simp)
      clear HL9
      have HL9 := HLL
      have lt2 : w.heap.size + 1 + 1 < w7.heap.size := (HS11.out.lt 2 rfl).2
      have lt3 : w.heap.size + 1 + 1 + 1 < w7.heap.size := (HS11.out.lt 3 rfl).2
      go_wp2_with fail
      clear lt2 lt3
      obtain HXS := HS11.out.of 0 rfl
      have hz8 : w.heap.size ≤ w7.heap.size := HS11.out.sz
      refine (serv_any x w.heap.size i s9 L b1 ts d1 _ HXS (by have := HL9.out; first | omega | exact this)).mono ?_
      rintro r w7 ⟨b0, d0, rfl, o0, b9⟩
      have o0 := OwnS.less o0 hz8
      clear HXS hz8
      have HS12 : Hid (St w.heap.size w [⟨w.heap.size, 49, #[.int .i64 i, .int .i64 s9, .slice a1 xs.length c1, .slice a2 ts.length c2]⟩, ⟨w.heap.size + 1, 33, #[.int .i64 m, .int .i64 cl, .int .i64 sv, .int .i64 nc, .slice (some ⟨g2, 0, none⟩) ys.length cap]⟩, ⟨w.heap.size + 1 + 1, 49, #[.int .i64 0, .int .i64 0, .slice none 0 0, .slice none 0 0]⟩, ⟨w.heap.size + 1 + 1 + 1, 33, #[.int .i64 0, .int .i64 0, .int .i64 0, .int .i64 0, .slice none 0 0]⟩, ⟨w4.heap.size, 64, #[.int .i64 u.k, .int .i64 u.t, .int .i64 u.a, .int .i64 u.b, .int .i64 u.c, .int .i64 u.d, .int .i64 u.e]⟩] [⟨selN, fun W => SvX x w.heap.size i s9 (.slice b1 ts.length d1) L W⟩, ⟨(selT 90), fun W => OwnN celC 90 W w.heap.size (.slice b1 ts.length d1) ts⟩] w7) := Hid.mk' (by
        have h := St.grow b9 HS11.out
        try simp only [World.size_alloc] at h
        try simp only [World.size_setCell] at h
        exact h)
      clear HS11
      clear b9
      have HS13 : Hid (St w.heap.size w [⟨w.heap.size, 49, #[.int .i64 i, .int .i64 s9, .slice a1 xs.length c1, .slice a2 ts.length c2]⟩, ⟨w.heap.size + 1, 33, #[.int .i64 m, .int .i64 cl, .int .i64 sv, .int .i64 nc, .slice (some ⟨g2, 0, none⟩) ys.length cap]⟩, ⟨w.heap.size + 1 + 1, 49, #[.int .i64 0, .int .i64 0, .slice none 0 0, .slice none 0 0]⟩, ⟨w.heap.size + 1 + 1 + 1, 33, #[.int .i64 0, .int .i64 0, .int .i64 0, .int .i64 0, .slice none 0 0]⟩, ⟨w4.heap.size, 64, #[.int .i64 u.k, .int .i64 u.t, .int .i64 u.a, .int .i64 u.b, .int .i64 u.c, .int .i64 u.d, .int .i64 u.e]⟩] [⟨selN, fun W => SvX x w.heap.size i s9 (.slice b1 ts.length d1) L W⟩, ⟨(selT 90), fun W => OwnN celC 90 W w.heap.size (.slice b1 ts.length d1) ts⟩, ⟨selT 64, fun W => OwnS W w.heap.size (.slice b0 L.length d0) L⟩] w7) := Hid.mk' (by
        have h := St.add (selT 64) (fun W => OwnS W w.heap.size (.slice b0 L.length d0) L) (keep_owns _ _ _) (o0) HS12.out
        try simp only [World.size_alloc] at h
        try simp only [World.size_setCell] at h
        exact h)
      clear HS12
      clear o0
      have lt2 : w.heap.size + 1 + 1 < w7.heap.size := (HS13.out.lt 2 rfl).2
      have lt3 : w.heap.size + 1 + 1 + 1 < w7.heap.size := (HS13.out.lt 3 rfl).2
      have z0 := HS13.out.cell 2 rfl 0 (.int .i64 0) rfl
      have zf0 := HS13.out.fro 2 rfl 0
      have z1 := HS13.out.cell 2 rfl 1 (.int .i64 0) rfl
      have zf1 := HS13.out.fro 2 rfl 1
      have z2 := HS13.out.cell 2 rfl 2 (.slice none 0 0) rfl
      have zf2 := HS13.out.fro 2 rfl 2
      have z3 := HS13.out.cell 2 rfl 3 (.slice none 0 0) rfl
      have zf3 := HS13.out.fro 2 rfl 3
      have y0 := HS13.out.cell 3 rfl 0 (.int .i64 0) rfl
      have yf0 := HS13.out.fro 3 rfl 0
      have y1 := HS13.out.cell 3 rfl 1 (.int .i64 0) rfl
      have yf1 := HS13.out.fro 3 rfl 1
      have y2 := HS13.out.cell 3 rfl 2 (.int .i64 0) rfl
      have yf2 := HS13.out.fro 3 rfl 2
      have y3 := HS13.out.cell 3 rfl 3 (.int .i64 0) rfl
      have yf3 := HS13.out.fro 3 rfl 3
      have y4 := HS13.out.cell 3 rfl 4 (.slice none 0 0) rfl
      have yf4 := HS13.out.fro 3 rfl 4
      go_wp2_with fail
      clear lt2 lt3 z0 zf0 z1 zf1 z2 zf2 z3 zf3 y0 yf0 y1 yf1 y2 yf2 y3 yf3 y4 yf4
      obtain ⟨V, hX9, HS14⟩ : ∃ X, X = (((((((((w7.setCell ⟨w.heap.size + 1 + 1, 0, none⟩ (.int .i64 i)).setCell ⟨w.heap.size + 1 + 1, 1, none⟩ (.int .i64 s9)).setCell ⟨w.heap.size + 1 + 1, 2, none⟩ (.slice b0 L.length d0)).setCell ⟨w.heap.size + 1 + 1, 3, none⟩ (.slice b1 ts.length d1)).setCell ⟨w.heap.size + 1 + 1 + 1, 0, none⟩ (.int .i64 0)).setCell ⟨w.heap.size + 1 + 1 + 1, 1, none⟩ (.int .i64 0)).setCell ⟨w.heap.size + 1 + 1 + 1, 2, none⟩ (.int .i64 0)).setCell ⟨w.heap.size + 1 + 1 + 1, 3, none⟩ (.int .i64 0)).setCell ⟨w.heap.size + 1 + 1 + 1, 4, none⟩ (.slice none 0 0)) ∧ Hid (St w.heap.size w [⟨w.heap.size, 49, #[.int .i64 i, .int .i64 s9, .slice a1 xs.length c1, .slice a2 ts.length c2]⟩, ⟨w.heap.size + 1, 33, #[.int .i64 m, .int .i64 cl, .int .i64 sv, .int .i64 nc, .slice (some ⟨g2, 0, none⟩) ys.length cap]⟩, ⟨w.heap.size + 1 + 1, 49, #[.int .i64 i, .int .i64 s9, .slice b0 L.length d0, .slice b1 ts.length d1]⟩, ⟨w.heap.size + 1 + 1 + 1, 33, #[.int .i64 0, .int .i64 0, .int .i64 0, .int .i64 0, .slice none 0 0]⟩, ⟨w4.heap.size, 64, #[.int .i64 u.k, .int .i64 u.t, .int .i64 u.a, .int .i64 u.b, .int .i64 u.c, .int .i64 u.d, .int .i64 u.e]⟩] [⟨selN, fun W => SvX x w.heap.size i s9 (.slice b1 ts.length d1) L W⟩, ⟨(selT 90), fun W => OwnN celC 90 W w.heap.size (.slice b1 ts.length d1) ts⟩, ⟨selT 64, fun W => OwnS W w.heap.size (.slice b0 L.length d0) L⟩] X) := ⟨_, rfl, Hid.mk' (by
        have h := (St.put5 3 (St.put4 2 HS13.out rfl rfl (.int .i64 i) (.int .i64 s9) (.slice b0 L.length d0) (.slice b1 ts.length d1)) rfl rfl (.int .i64 0) (.int .i64 0) (.int .i64 0) (.int .i64 0) (.slice none 0 0))
        try simp only [World.size_alloc] at h
        try simp only [World.size_setCell] at h
        exact h)⟩
      rw [← hX9]
      clear hX9
      clear HS13
      have y0 := HS14.out.cell 2 rfl 0 (.int .i64 i) rfl
      have y1 := HS14.out.cell 2 rfl 1 (.int .i64 s9) rfl
      have y2 := HS14.out.cell 2 rfl 2 (.slice b0 L.length d0) rfl
      have y3 := HS14.out.cell 2 rfl 3 (.slice b1 ts.length d1) rfl
      have z0 := HS14.out.cell 3 rfl 0 (.int .i64 0) rfl
      have z1 := HS14.out.cell 3 rfl 1 (.int .i64 0) rfl
      have z2 := HS14.out.cell 3 rfl 2 (.int .i64 0) rfl
      have z3 := HS14.out.cell 3 rfl 3 (.int .i64 0) rfl
      have z4 := HS14.out.cell 3 rfl 4 (.slice none 0 0) rfl
      refine bodyPost_ret (v := .tuple #[.agg #[.int .i64 i, .int .i64 s9, .slice b0 L.length d0, .slice b1 ts.length d1], .agg #[.int .i64 0, .int .i64 0, .int .i64 0, .int .i64 0, .slice none 0 0], .bool false]) (by simp [results, Tryd.results20, go_sem, *]) rfl ?_
      rw [EA.out]
      exact ⟨⟨b0, d0, b1, d1, none, 0, V.heap.size, rfl, HS14.out.of 2 rfl, HS14.out.of 1 rfl, OwnS.nil _ _, HS14.out.sz, fun k hk => (OwnS.low (HS14.out.of 2 rfl) k hk).2⟩, HS14.out.bel⟩
    have EA : Hid (hearA i s9 xs ts m cl sv nc ys now = ⟨i, s9, L, WS, 6, u.a, 0, 0, [backS u], true⟩) := Hid.mk' (by rw [EG.out]; simp)
    have lt0 : w.heap.size < w7.heap.size := (HS11.out.lt 0 rfl).2
    have lt1 : w.heap.size + 1 < w7.heap.size := (HS11.out.lt 1 rfl).2
    have lt2 : w.heap.size + 1 + 1 < w7.heap.size := (HS11.out.lt 2 rfl).2
    have lt3 : w.heap.size + 1 + 1 + 1 < w7.heap.size := (HS11.out.lt 3 rfl).2
    have lt4 : w4.heap.size < w7.heap.size := (HS11.out.lt 4 rfl).2
    go_wp2_with fail
    clear lt0 lt1 lt2 lt3 lt4
    refine wp_region_walk [50, 51, 52, 53, 54, 55, 56, 57, 58, 59, 60, 61, 62, 63, 64, 65, 66, 67] (fun d s W => St w.heap.size w [⟨w.heap.size, 49, #[.int .i64 i, .int .i64 s9, .slice a1 xs.length c1, .slice a2 ts.length c2]⟩, ⟨w.heap.size + 1, 33, #[.int .i64 m, .int .i64 cl, .int .i64 sv, .int .i64 nc, .slice (some ⟨g2, 0, none⟩) ys.length cap]⟩, ⟨w.heap.size + 1 + 1, 49, #[.int .i64 0, .int .i64 0, .slice none 0 0, .slice none 0 0]⟩, ⟨w.heap.size + 1 + 1 + 1, 33, #[.int .i64 0, .int .i64 0, .int .i64 0, .int .i64 0, .slice none 0 0]⟩, ⟨w4.heap.size, 64, #[.int .i64 u.k, .int .i64 u.t, .int .i64 u.a, .int .i64 u.b, .int .i64 u.c, .int .i64 u.d, .int .i64 u.e]⟩] [⟨selN, fun W => HvX x w.heap.size i s9 (.slice b1 ts.length d1) L d s W⟩, ⟨(selT 90), fun W => HvC w.heap.size b1 d1 ts WS (⟨u.a, u.k, u.b, u.c⟩ : Ca) d s W⟩] W ∧ Looks [(0, 50, Value.pointer (some ⟨x, 0, none⟩)), (1, 51, Value.pointer (some ⟨x, 0, none⟩)), (2, 52, Value.pointer (some ⟨x, 0, none⟩)), (3, 53, Value.pointer (some ⟨x, 3, none⟩)), (4, 54, Value.slice b1 ts.length d1), (5, 55, Value.pointer (some ⟨w4.heap.size, 2, none⟩)), (6, 56, Value.int .i64 u.a), (7, 57, Value.pointer (some ⟨w4.heap.size, 0, none⟩)), (8, 58, Value.int .i64 u.k), (9, 59, Value.pointer (some ⟨w4.heap.size, 3, none⟩)), (10, 60, Value.int .i64 u.b), (11, 61, Value.pointer (some ⟨w4.heap.size, 4, none⟩)), (12, 62, Value.int .i64 u.c), (13, 63, Value.agg #[.int .i64 u.a, .int .i64 u.k, .int .i64 u.b, .int .i64 u.c]), (16, 66, Value.pointer (some ⟨x, 0, none⟩)), (17, 67, Value.pointer (some ⟨x, 3, none⟩))] d s) [0, 1, 2, 3, 4, 5, 6, 7, 8, 9, 10, 11, 12, 13, 14, 15, 16, 17, 18] (by kernel_rfl) (by kernel_rfl) (by kernel_rfl) ?_ ?_ ?_
    · intro s
      exact ⟨St.setR (St.setR HS11.out.drew 0 selN (HvX x w.heap.size i s9 (.slice b1 ts.length d1) L (fun _ : Nat => false) s) (keep_HvX _ _ _ _ _ _ _ _) ⟨fun _ => HS11.out.drew.of 0 rfl, fun e => by cases e⟩) 1 (selT 90) (HvC w.heap.size b1 d1 ts WS (⟨u.a, u.k, u.b, u.c⟩ : Ca) (fun _ : Nat => false) s) (keep_HvC _ _ _ _ _ _ _ _) ⟨none, 0, 0, (fun e => by cases e), fun _ => HS11.out.drew.of 1 rfl, fun e => by cases e⟩, Looks.none _ _⟩
    · refine StepsR.cons (k := 0) [] (by kernel_rfl) ?_ (StepsR.cons (k := 1) [] (by kernel_rfl) ?_ (StepsR.cons (k := 2) [1] (by kernel_rfl) ?_ (StepsR.cons (k := 3) [2] (by kernel_rfl) ?_ (StepsR.cons (k := 4) [3] (by kernel_rfl) ?_ (StepsR.cons (k := 5) [] (by kernel_rfl) ?_ (StepsR.cons (k := 6) [5] (by kernel_rfl) ?_ (StepsR.cons (k := 7) [] (by kernel_rfl) ?_ (StepsR.cons (k := 8) [7] (by kernel_rfl) ?_ (StepsR.cons (k := 9) [] (by kernel_rfl) ?_ (StepsR.cons (k := 10) [9] (by kernel_rfl) ?_ (StepsR.cons (k := 11) [] (by kernel_rfl) ?_ (StepsR.cons (k := 12) [11] (by kernel_rfl) ?_ (StepsR.cons (k := 13) [6, 8, 10, 12] (by kernel_rfl) ?_ (StepsR.cons (k := 14) [13] (by kernel_rfl) ?_ (StepsR.cons (k := 15) [4, 14] (by kernel_rfl) ?_ (StepsR.cons (k := 16) [0, 1, 2, 3, 4, 5, 6, 7, 8, 9, 10, 11, 12, 13, 14, 15] (by kernel_rfl) ?_ (StepsR.cons (k := 17) [0, 1, 2, 3, 4, 5, 6, 7, 8, 9, 10, 11, 12, 13, 14, 15, 16] (by kernel_rfl) ?_ (StepsR.cons (k := 18) [0, 1, 2, 3, 4, 5, 6, 7, 8, 9, 10, 11, 12, 13, 14, 15, 17] (by kernel_rfl) ?_ (StepsR.nil)))))))))))))))))))
      · intro d s w9 hd hA hC hF K hK
        have hB9 := hF.1.bel
        simp only [putL, putT, List.setIfInBounds_toArray, List.set_cons_zero, List.set_cons_succ]
        clear hB9
        as_aux_lemma =>
          go_simp
          refine hK.out (updS s 50 (Value.pointer (some ⟨x, 0, none⟩))) _ _ ?_ ⟨hF.1, hF.2.put 0 50 (Value.pointer (some ⟨x, 0, none⟩)) rfl (by simp)⟩
          simp only [putL, putT, List.setIfInBounds_toArray, List.set_cons_zero, List.set_cons_succ]; rfl
      · intro d s w9 hd hA hC hF K hK
        have hB9 := hF.1.bel
        simp only [putL, putT, List.setIfInBounds_toArray, List.set_cons_zero, List.set_cons_succ]
        clear hB9
        as_aux_lemma =>
          go_simp
          refine hK.out (updS s 51 (Value.pointer (some ⟨x, 0, none⟩))) _ _ ?_ ⟨hF.1, hF.2.put 1 51 (Value.pointer (some ⟨x, 0, none⟩)) rfl (by simp)⟩
          simp only [putL, putT, List.setIfInBounds_toArray, List.set_cons_zero, List.set_cons_succ]; rfl
      · intro d s w9 hd hA hC hF K hK
        have hB9 := hF.1.bel
        simp only [putL, putT, List.setIfInBounds_toArray, List.set_cons_zero, List.set_cons_succ]
        clear hB9
        as_aux_lemma =>
          have eq1 : s 51 = Value.pointer (some ⟨x, 0, none⟩) := hF.2 (1, 51, Value.pointer (some ⟨x, 0, none⟩)) (by simp) (hA.1)
          rw [eq1]
          go_simp
          refine hK.out (updS s 52 (Value.pointer (some ⟨x, 0, none⟩))) _ _ ?_ ⟨hF.1, hF.2.put 2 52 (Value.pointer (some ⟨x, 0, none⟩)) rfl (by simp)⟩
          simp only [putL, putT, List.setIfInBounds_toArray, List.set_cons_zero, List.set_cons_succ]; rw [show updS s 52 (Value.pointer (some ⟨x, 0, none⟩)) 51 = Value.pointer (some ⟨x, 0, none⟩) from eq1]; rfl
      · intro d s w9 hd hA hC hF K hK
        have hB9 := hF.1.bel
        simp only [putL, putT, List.setIfInBounds_toArray, List.set_cons_zero, List.set_cons_succ]
        clear hB9
        as_aux_lemma =>
          have eq2 : s 52 = Value.pointer (some ⟨x, 0, none⟩) := hF.2 (2, 52, Value.pointer (some ⟨x, 0, none⟩)) (by simp) (hA.1)
          rw [eq2]
          go_simp
          refine hK.out (updS s 53 (Value.pointer (some ⟨x, 3, none⟩))) _ _ ?_ ⟨hF.1, hF.2.put 3 53 (Value.pointer (some ⟨x, 3, none⟩)) rfl (by simp)⟩
          simp only [putL, putT, List.setIfInBounds_toArray, List.set_cons_zero, List.set_cons_succ]; rw [show updS s 53 (Value.pointer (some ⟨x, 3, none⟩)) 52 = Value.pointer (some ⟨x, 0, none⟩) from eq2]; rfl
      · intro d s w9 hd hA hC hF K hK
        have hB9 := hF.1.bel
        simp only [putL, putT, List.setIfInBounds_toArray, List.set_cons_zero, List.set_cons_succ]
        clear hB9
        as_aux_lemma =>
          have eq3 : s 53 = Value.pointer (some ⟨x, 3, none⟩) := hF.2 (3, 53, Value.pointer (some ⟨x, 3, none⟩)) (by simp) (hA.1)
          rw [eq3]
          have d18 : d 18 = false := hC.off 18 4 (by kernel_rfl) hd
          obtain ⟨pv, hp⟩ := SvX.blk ((hF.1.of 0 rfl).1 d18)
          have c3 := hp.at 3 _ rfl
          go_simp
          clear c3 hp d18
          refine hK.out (updS s 54 (Value.slice b1 ts.length d1)) _ _ ?_ ⟨hF.1, hF.2.put 4 54 (Value.slice b1 ts.length d1) rfl (by simp)⟩
          simp only [putL, putT, List.setIfInBounds_toArray, List.set_cons_zero, List.set_cons_succ]; rw [show updS s 54 (Value.slice b1 ts.length d1) 53 = Value.pointer (some ⟨x, 3, none⟩) from eq3]; rfl
      · intro d s w9 hd hA hC hF K hK
        have hB9 := hF.1.bel
        simp only [putL, putT, List.setIfInBounds_toArray, List.set_cons_zero, List.set_cons_succ]
        clear hB9
        as_aux_lemma =>
          go_simp
          refine hK.out (updS s 55 (Value.pointer (some ⟨w4.heap.size, 2, none⟩))) _ _ ?_ ⟨hF.1, hF.2.put 5 55 (Value.pointer (some ⟨w4.heap.size, 2, none⟩)) rfl (by simp)⟩
          simp only [putL, putT, List.setIfInBounds_toArray, List.set_cons_zero, List.set_cons_succ]; rfl
      · intro d s w9 hd hA hC hF K hK
        have hB9 := hF.1.bel
        simp only [putL, putT, List.setIfInBounds_toArray, List.set_cons_zero, List.set_cons_succ]
        clear hB9
        as_aux_lemma =>
          have eq5 : s 55 = Value.pointer (some ⟨w4.heap.size, 2, none⟩) := hF.2 (5, 55, Value.pointer (some ⟨w4.heap.size, 2, none⟩)) (by simp) (hA.1)
          rw [eq5]
          have p2 := hF.1.cell 4 rfl 2 (.int .i64 u.a) rfl
          go_simp
          clear p2
          refine hK.out (updS s 56 (Value.int .i64 u.a)) _ _ ?_ ⟨hF.1, hF.2.put 6 56 (Value.int .i64 u.a) rfl (by simp)⟩
          simp only [putL, putT, List.setIfInBounds_toArray, List.set_cons_zero, List.set_cons_succ]; rw [show updS s 56 (Value.int .i64 u.a) 55 = Value.pointer (some ⟨w4.heap.size, 2, none⟩) from eq5]; rfl
      · intro d s w9 hd hA hC hF K hK
        have hB9 := hF.1.bel
        simp only [putL, putT, List.setIfInBounds_toArray, List.set_cons_zero, List.set_cons_succ]
        clear hB9
        as_aux_lemma =>
          go_simp
          refine hK.out (updS s 57 (Value.pointer (some ⟨w4.heap.size, 0, none⟩))) _ _ ?_ ⟨hF.1, hF.2.put 7 57 (Value.pointer (some ⟨w4.heap.size, 0, none⟩)) rfl (by simp)⟩
          simp only [putL, putT, List.setIfInBounds_toArray, List.set_cons_zero, List.set_cons_succ]; rfl
      · intro d s w9 hd hA hC hF K hK
        have hB9 := hF.1.bel
        simp only [putL, putT, List.setIfInBounds_toArray, List.set_cons_zero, List.set_cons_succ]
        clear hB9
        as_aux_lemma =>
          have eq7 : s 57 = Value.pointer (some ⟨w4.heap.size, 0, none⟩) := hF.2 (7, 57, Value.pointer (some ⟨w4.heap.size, 0, none⟩)) (by simp) (hA.1)
          rw [eq7]
          have p0 := hF.1.cell 4 rfl 0 (.int .i64 u.k) rfl
          go_simp
          clear p0
          refine hK.out (updS s 58 (Value.int .i64 u.k)) _ _ ?_ ⟨hF.1, hF.2.put 8 58 (Value.int .i64 u.k) rfl (by simp)⟩
          simp only [putL, putT, List.setIfInBounds_toArray, List.set_cons_zero, List.set_cons_succ]; rw [show updS s 58 (Value.int .i64 u.k) 57 = Value.pointer (some ⟨w4.heap.size, 0, none⟩) from eq7]; rfl
      · intro d s w9 hd hA hC hF K hK
        have hB9 := hF.1.bel
        simp only [putL, putT, List.setIfInBounds_toArray, List.set_cons_zero, List.set_cons_succ]
        clear hB9
        as_aux_lemma =>
          go_simp
          refine hK.out (updS s 59 (Value.pointer (some ⟨w4.heap.size, 3, none⟩))) _ _ ?_ ⟨hF.1, hF.2.put 9 59 (Value.pointer (some ⟨w4.heap.size, 3, none⟩)) rfl (by simp)⟩
          simp only [putL, putT, List.setIfInBounds_toArray, List.set_cons_zero, List.set_cons_succ]; rfl
      · intro d s w9 hd hA hC hF K hK
        have hB9 := hF.1.bel
        simp only [putL, putT, List.setIfInBounds_toArray, List.set_cons_zero, List.set_cons_succ]
        clear hB9
        as_aux_lemma =>
          have eq9 : s 59 = Value.pointer (some ⟨w4.heap.size, 3, none⟩) := hF.2 (9, 59, Value.pointer (some ⟨w4.heap.size, 3, none⟩)) (by simp) (hA.1)
          rw [eq9]
          have p3 := hF.1.cell 4 rfl 3 (.int .i64 u.b) rfl
          go_simp
          clear p3
          refine hK.out (updS s 60 (Value.int .i64 u.b)) _ _ ?_ ⟨hF.1, hF.2.put 10 60 (Value.int .i64 u.b) rfl (by simp)⟩
          simp only [putL, putT, List.setIfInBounds_toArray, List.set_cons_zero, List.set_cons_succ]; rw [show updS s 60 (Value.int .i64 u.b) 59 = Value.pointer (some ⟨w4.heap.size, 3, none⟩) from eq9]; rfl
      · intro d s w9 hd hA hC hF K hK
        have hB9 := hF.1.bel
        simp only [putL, putT, List.setIfInBounds_toArray, List.set_cons_zero, List.set_cons_succ]
        clear hB9
        as_aux_lemma =>
          go_simp
          refine hK.out (updS s 61 (Value.pointer (some ⟨w4.heap.size, 4, none⟩))) _ _ ?_ ⟨hF.1, hF.2.put 11 61 (Value.pointer (some ⟨w4.heap.size, 4, none⟩)) rfl (by simp)⟩
          simp only [putL, putT, List.setIfInBounds_toArray, List.set_cons_zero, List.set_cons_succ]; rfl
      · intro d s w9 hd hA hC hF K hK
        have hB9 := hF.1.bel
        simp only [putL, putT, List.setIfInBounds_toArray, List.set_cons_zero, List.set_cons_succ]
        clear hB9
        as_aux_lemma =>
          have eq11 : s 61 = Value.pointer (some ⟨w4.heap.size, 4, none⟩) := hF.2 (11, 61, Value.pointer (some ⟨w4.heap.size, 4, none⟩)) (by simp) (hA.1)
          rw [eq11]
          have p4 := hF.1.cell 4 rfl 4 (.int .i64 u.c) rfl
          go_simp
          clear p4
          refine hK.out (updS s 62 (Value.int .i64 u.c)) _ _ ?_ ⟨hF.1, hF.2.put 12 62 (Value.int .i64 u.c) rfl (by simp)⟩
          simp only [putL, putT, List.setIfInBounds_toArray, List.set_cons_zero, List.set_cons_succ]; rw [show updS s 62 (Value.int .i64 u.c) 61 = Value.pointer (some ⟨w4.heap.size, 4, none⟩) from eq11]; rfl
      · intro d s w9 hd hA hC hF K hK
        have hB9 := hF.1.bel
        simp only [putL, putT, List.setIfInBounds_toArray, List.set_cons_zero, List.set_cons_succ]
        clear hB9
        as_aux_lemma =>
          have eq6 : s 56 = Value.int .i64 u.a := hF.2 (6, 56, Value.int .i64 u.a) (by simp) (hA.1)
          have eq8 : s 58 = Value.int .i64 u.k := hF.2 (8, 58, Value.int .i64 u.k) (by simp) (hA.2.1)
          have eq10 : s 60 = Value.int .i64 u.b := hF.2 (10, 60, Value.int .i64 u.b) (by simp) (hA.2.2.1)
          have eq12 : s 62 = Value.int .i64 u.c := hF.2 (12, 62, Value.int .i64 u.c) (by simp) (hA.2.2.2.1)
          rw [eq6, eq8, eq10, eq12]
          go_simp
          refine hK.out (updS s 63 (Value.agg #[.int .i64 u.a, .int .i64 u.k, .int .i64 u.b, .int .i64 u.c])) _ _ ?_ ⟨hF.1, hF.2.put 13 63 (Value.agg #[.int .i64 u.a, .int .i64 u.k, .int .i64 u.b, .int .i64 u.c]) rfl (by simp)⟩
          simp only [putL, putT, List.setIfInBounds_toArray, List.set_cons_zero, List.set_cons_succ]; rw [show updS s 63 (Value.agg #[.int .i64 u.a, .int .i64 u.k, .int .i64 u.b, .int .i64 u.c]) 56 = Value.int .i64 u.a from eq6, show updS s 63 (Value.agg #[.int .i64 u.a, .int .i64 u.k, .int .i64 u.b, .int .i64 u.c]) 58 = Value.int .i64 u.k from eq8, show updS s 63 (Value.agg #[.int .i64 u.a, .int .i64 u.k, .int .i64 u.b, .int .i64 u.c]) 60 = Value.int .i64 u.b from eq10, show updS s 63 (Value.agg #[.int .i64 u.a, .int .i64 u.k, .int .i64 u.b, .int .i64 u.c]) 62 = Value.int .i64 u.c from eq12]; rfl
      · intro d s w9 hd hA hC hF K hK
        have hB9 := hF.1.bel
        simp only [putL, putT, List.setIfInBounds_toArray, List.set_cons_zero, List.set_cons_succ]
        clear hB9
        as_aux_lemma =>
          have eq13 : s 63 = Value.agg #[.int .i64 u.a, .int .i64 u.k, .int .i64 u.b, .int .i64 u.c] := hF.2 (13, 63, Value.agg #[.int .i64 u.a, .int .i64 u.k, .int .i64 u.b, .int .i64 u.c]) (by simp) (hA.1)
          have d15 : d 15 = false := hC.off 15 14 (by kernel_rfl) hd
          obtain ⟨b5, c5, g, q1, q2, q3⟩ := hF.1.of 1 rfl
          rw [eq13]
          simp only [Region.wanted, if_true]
          refine wp_oneC (.tmp 63) rfl rfl rfl ?_
          refine hK.out (updS s 64 (Value.slice (some ⟨w9.heap.size, 0, none⟩) 1 1)) _ _ ?_ ⟨St.setR (St.lay _ hF.1) 1 (selT 90) (HvC w.heap.size b1 d1 ts WS (⟨u.a, u.k, u.b, u.c⟩ : Ca) (upd d 14) (updS s 64 (Value.slice (some ⟨w9.heap.size, 0, none⟩) 1 1))) (keep_HvC _ _ _ _ _ _ _ _) ⟨b5, c5, w9.heap.size, fun _ _ => ⟨rfl, own_oneC w9 hF.1.sz ⟨u.a, u.k, u.b, u.c⟩⟩, fun e => (q2 e).later (Below.alloc_ _ _), fun e => absurd (d15.symm.trans e) (by simp)⟩, hF.2.skipS 14 64 _ rfl⟩
          simp only [putL, putT, List.setIfInBounds_toArray, List.set_cons_zero, List.set_cons_succ]
          rw [show updS s 64 (Value.slice (some ⟨w9.heap.size, 0, none⟩) 1 1) 63 = Value.agg #[.int .i64 u.a, .int .i64 u.k, .int .i64 u.b, .int .i64 u.c] from eq13] <;> rfl
      · intro d s w9 hd hA hC hF K hK
        have hB9 := hF.1.bel
        simp only [putL, putT, List.setIfInBounds_toArray, List.set_cons_zero, List.set_cons_succ]
        clear hB9
        as_aux_lemma =>
          have eq4 : s 54 = Value.slice b1 ts.length d1 := hF.2 (4, 54, Value.slice b1 ts.length d1) (by simp) (hA.1)
          have d18 : d 18 = false := hC.off 18 15 (by kernel_rfl) hd
          obtain ⟨b5, c5, g, q1, q2, q3⟩ := hF.1.of 1 rfl
          obtain ⟨e64, o64⟩ := q1 (hA.2.1) hd
          have oT := q2 hd
          rw [eq4, e64]
          simp only [Region.wanted, if_true]
          refine wp_app_row celC Tryd.prog 90 47 32 _ Tryd.underlying47 infoCall rfl (by decide) (.tmp 54) (.tmp 64) rfl w.heap.size (.slice b1 ts.length d1) ts rfl oT (some ⟨g, 0, none⟩) [(⟨u.a, u.k, u.b, u.c⟩ : Ca)] 1 rfl o64.rowAt (by simp; omega) hF.1.sz ?_
          intro b6 c6 w8 o6 g6
          rw [← HC.out.2.2.2] at o6 ⊢
          have hS8 := St.appR hF.1 1 90 (fun b e => ⟨(oT.lt b e).1, oT.type e⟩) g6 rfl (fun _ => rfl) (selT 90) (HvC w.heap.size b1 d1 ts WS (⟨u.a, u.k, u.b, u.c⟩ : Ca) (upd d 15) (updS s 65 (Value.slice b6 WS.length c6))) (keep_HvC _ _ _ _ _ _ _ _) ⟨b6, c6, g, (fun _ e => by cases e), (fun e => by cases e), fun _ => ⟨rfl, o6⟩⟩
          have hx8 := hS8.of 0 rfl
          refine hK.out (updS s 65 (Value.slice b6 WS.length c6)) _ _ ?_ ⟨St.setR hS8 0 selN (HvX x w.heap.size i s9 (.slice b1 ts.length d1) L (upd d 15) (updS s 65 (Value.slice b6 WS.length c6))) (keep_HvX _ _ _ _ _ _ _ _) ⟨fun _ => hx8.1 d18, fun e => absurd (d18.symm.trans e) (by simp)⟩, hF.2.skipS 15 65 _ rfl⟩
          simp only [putL, putT, List.setIfInBounds_toArray, List.set_cons_zero, List.set_cons_succ]
          rw [show updS s 65 (Value.slice b6 WS.length c6) 54 = Value.slice b1 ts.length d1 from eq4, show updS s 65 (Value.slice b6 WS.length c6) 64 = _ from e64] <;> rfl
      · intro d s w9 hd hA hC hF K hK
        have hB9 := hF.1.bel
        simp only [putL, putT, List.setIfInBounds_toArray, List.set_cons_zero, List.set_cons_succ]
        clear hB9
        as_aux_lemma =>
          have eq0 : s 50 = Value.pointer (some ⟨x, 0, none⟩) := hF.2 (0, 50, Value.pointer (some ⟨x, 0, none⟩)) (by simp) (hA.1)
          rw [eq0]
          go_simp
          refine hK.out (updS s 66 (Value.pointer (some ⟨x, 0, none⟩))) _ _ ?_ ⟨hF.1, hF.2.put 16 66 (Value.pointer (some ⟨x, 0, none⟩)) rfl (by simp)⟩
          simp only [putL, putT, List.setIfInBounds_toArray, List.set_cons_zero, List.set_cons_succ]; rw [show updS s 66 (Value.pointer (some ⟨x, 0, none⟩)) 50 = Value.pointer (some ⟨x, 0, none⟩) from eq0]; rfl
      · intro d s w9 hd hA hC hF K hK
        have hB9 := hF.1.bel
        simp only [putL, putT, List.setIfInBounds_toArray, List.set_cons_zero, List.set_cons_succ]
        clear hB9
        as_aux_lemma =>
          have eq16 : s 66 = Value.pointer (some ⟨x, 0, none⟩) := hF.2 (16, 66, Value.pointer (some ⟨x, 0, none⟩)) (by simp) (hA.2.2.2.2.2.2.2.2.2.2.2.2.2.2.2.2.1)
          rw [eq16]
          go_simp
          refine hK.out (updS s 67 (Value.pointer (some ⟨x, 3, none⟩))) _ _ ?_ ⟨hF.1, hF.2.put 17 67 (Value.pointer (some ⟨x, 3, none⟩)) rfl (by simp)⟩
          simp only [putL, putT, List.setIfInBounds_toArray, List.set_cons_zero, List.set_cons_succ]; rw [show updS s 67 (Value.pointer (some ⟨x, 3, none⟩)) 66 = Value.pointer (some ⟨x, 0, none⟩) from eq16]; rfl
      · intro d s w9 hd hA hC hF K hK
        have hB9 := hF.1.bel
        simp only [putL, putT, List.setIfInBounds_toArray, List.set_cons_zero, List.set_cons_succ]
        clear hB9
        as_aux_lemma =>
          have eq17 : s 67 = Value.pointer (some ⟨x, 3, none⟩) := hF.2 (17, 67, Value.pointer (some ⟨x, 3, none⟩)) (by simp) (hA.2.2.2.2.2.2.2.2.2.2.2.2.2.2.2.2.1)
          obtain ⟨b5, c5, g, q1, q2, q3⟩ := hF.1.of 1 rfl
          obtain ⟨e65, o65⟩ := q3 (hA.2.2.2.2.2.2.2.2.2.2.2.2.2.2.2.1)
          have sx := (hF.1.of 0 rfl).1 hd
          obtain ⟨pv, hp⟩ := SvX.blk sx
          have c3 := hp.at 3 _ rfl
          have f3 := hp.fro 3
          rw [eq17, e65]
          go_simp
          clear c3 f3
          have g9 := setCell_grl w9 x 3 (.slice b5 WS.length c5)
          have o9 := own_grl o65 g9 (fun k e hm => by simp at hm; exact own_off hp o65 (by decide) (hm ▸ e))
          have s9' := SvX.set3 sx (.slice b5 WS.length c5)
          have hO := St.outside (St.facts hF.1 (R' := []) (fun _ h => by cases h) (fun _ h => by cases h)) HX9.out g9 (fun y hy => fun e => blk_ne (F := [⟨w.heap.size, 49, #[.int .i64 i, .int .i64 s9, .slice a1 xs.length c1, .slice a2 ts.length c2]⟩, ⟨w.heap.size + 1, 33, #[.int .i64 m, .int .i64 cl, .int .i64 sv, .int .i64 nc, .slice (some ⟨g2, 0, none⟩) ys.length cap]⟩, ⟨w.heap.size + 1 + 1, 49, #[.int .i64 0, .int .i64 0, .slice none 0 0, .slice none 0 0]⟩, ⟨w.heap.size + 1 + 1 + 1, 33, #[.int .i64 0, .int .i64 0, .int .i64 0, .int .i64 0, .slice none 0 0]⟩, ⟨w4.heap.size, 64, #[.int .i64 u.k, .int .i64 u.t, .int .i64 u.a, .int .i64 u.b, .int .i64 u.c, .int .i64 u.d, .int .i64 u.e]⟩]) rfl (hF.1.blk) hy hp e) (fun _ h => by cases h)
          refine hK.out s _ _ ?_ ⟨St.add (selT 90) (HvC w.heap.size b1 d1 ts WS (⟨u.a, u.k, u.b, u.c⟩ : Ca) (upd d 18) s) (keep_HvC _ _ _ _ _ _ _ _) ⟨b5, c5, g, (fun _ e => absurd ((hA.2.2.2.2.2.2.2.2.2.2.2.2.2.2.2.1).symm.trans e) (by simp)), (fun e => absurd ((hA.2.2.2.2.2.2.2.2.2.2.2.2.2.2.2.1).symm.trans e) (by simp)), fun _ => ⟨e65, o9⟩⟩ (St.add selN (HvX x w.heap.size i s9 (.slice b1 ts.length d1) L (upd d 18) s) (keep_HvX _ _ _ _ _ _ _ _) ⟨(fun e => by cases e), fun _ => by rw [e65]; exact s9'⟩ hO), hF.2.skip 18 rfl⟩
          simp only [putL, putT, List.setIfInBounds_toArray, List.set_cons_zero, List.set_cons_succ]
          rw [eq17, e65] <;> rfl
    · intro d s w8 hA hF
      have hS := hF.1
      obtain ⟨b5, c5, g, q1, q2, q3⟩ := hS.of 1 rfl
      obtain ⟨e65, o65⟩ := q3 (hA.2.2.2.2.2.2.2.2.2.2.2.2.2.2.2.1)
      have sx := (hS.of 0 rfl).2 (hA.2.2.2.2.2.2.2.2.2.2.2.2.2.2.2.2.2.2.1)
      rw [e65] at sx
      have hS := St.setR (St.setR hS 0 selN (fun W => SvX x w.heap.size i s9 (.slice b5 WS.length c5) L W) (keep_SvX _ _ _ _ _ _) sx) 1 (selT 90) (fun W => OwnN celC 90 W w.heap.size (.slice b5 WS.length c5) WS) (keep_own celC _ _ _ _) o65
      clear q1 q2 q3 sx o65 e65
      have HS12 : Hid (St w.heap.size w [⟨w.heap.size, 49, #[.int .i64 i, .int .i64 s9, .slice a1 xs.length c1, .slice a2 ts.length c2]⟩, ⟨w.heap.size + 1, 33, #[.int .i64 m, .int .i64 cl, .int .i64 sv, .int .i64 nc, .slice (some ⟨g2, 0, none⟩) ys.length cap]⟩, ⟨w.heap.size + 1 + 1, 49, #[.int .i64 0, .int .i64 0, .slice none 0 0, .slice none 0 0]⟩, ⟨w.heap.size + 1 + 1 + 1, 33, #[.int .i64 0, .int .i64 0, .int .i64 0, .int .i64 0, .slice none 0 0]⟩, ⟨w4.heap.size, 64, #[.int .i64 u.k, .int .i64 u.t, .int .i64 u.a, .int .i64 u.b, .int .i64 u.c, .int .i64 u.d, .int .i64 u.e]⟩] [⟨selN, fun W => SvX x w.heap.size i s9 (.slice b5 WS.length c5) L W⟩, ⟨(selT 90), fun W => OwnN celC 90 W w.heap.size (.slice b5 WS.length c5) WS⟩] w8) := hS
      clear hS hF hA HS11
      simp only [putL, putT, List.setIfInBounds_toArray, List.set_cons_zero, List.set_cons_succ]
      have lt0 : w.heap.size < w8.heap.size := (HS12.out.lt 0 rfl).2
      have lt1 : w.heap.size + 1 < w8.heap.size := (HS12.out.lt 1 rfl).2
      have lt2 : w.heap.size + 1 + 1 < w8.heap.size := (HS12.out.lt 2 rfl).2
      have lt3 : w.heap.size + 1 + 1 + 1 < w8.heap.size := (HS12.out.lt 3 rfl).2
      have lt4 : w4.heap.size < w8.heap.size := (HS12.out.lt 4 rfl).2
      go_wp2_with fail
      refine wp_region_held_drew (S := fun w' => ABlk 64 w' (w4.heap.size) #[.int .i64 u.k, .int .i64 u.t, .int .i64 u.a, .int .i64 u.b, .int .i64 u.c, .int .i64 u.d, .int .i64 u.e]) (by kernel_rfl) (HS12.out.at 4 rfl) (fun hS => ?_)
      have HS13 : Hid (St w.heap.size w [⟨w.heap.size, 49, #[.int .i64 i, .int .i64 s9, .slice a1 xs.length c1, .slice a2 ts.length c2]⟩, ⟨w.heap.size + 1, 33, #[.int .i64 m, .int .i64 cl, .int .i64 sv, .int .i64 nc, .slice (some ⟨g2, 0, none⟩) ys.length cap]⟩, ⟨w.heap.size + 1 + 1, 49, #[.int .i64 0, .int .i64 0, .slice none 0 0, .slice none 0 0]⟩, ⟨w.heap.size + 1 + 1 + 1, 33, #[.int .i64 0, .int .i64 0, .int .i64 0, .int .i64 0, .slice none 0 0]⟩, ⟨w4.heap.size, 64, #[.int .i64 u.k, .int .i64 u.t, .int .i64 u.a, .int .i64 u.b, .int .i64 u.c, .int .i64 u.d, .int .i64 u.e]⟩] [⟨selN, fun W => SvX x w.heap.size i s9 (.slice b5 WS.length c5) L W⟩, ⟨(selT 90), fun W => OwnN celC 90 W w.heap.size (.slice b5 WS.length c5) WS⟩] w8.drew) := Hid.mk' (by
        have h := St.drew HS12.out
        try simp only [World.size_alloc] at h
        try simp only [World.size_setCell] at h
        exact h)
      clear HS12
      generalize w8.drew = W9 at HS13 hS ⊢
      refine take1 0 68 (Value.pointer (some ⟨x, 0, none⟩)) rfl rfl (by kernel_rfl) (by kernel_rfl) (by kernel_rfl) (by rfl) (fun _ _ _ h => h) hS (fun w' hS' => ?_) ?_
      · go_simp
      simp only [Act.put, List.setIfInBounds_toArray, List.set_cons_zero, List.set_cons_succ]
      refine take1 2 70 (Value.agg #[.int .i64 u.k, .int .i64 u.t, .int .i64 u.a, .int .i64 u.b, .int .i64 u.c, .int .i64 u.d, .int .i64 u.e]) rfl rfl (by kernel_rfl) (by kernel_rfl) (by kernel_rfl) (by rfl) (fun _ _ _ h => h) hS (fun w' hS' => ?_) ?_
      · have p0 := hS'.at 0 _ rfl
        have p1 := hS'.at 1 _ rfl
        have p2 := hS'.at 2 _ rfl
        have p3 := hS'.at 3 _ rfl
        have p4 := hS'.at 4 _ rfl
        have p5 := hS'.at 5 _ rfl
        have p6 := hS'.at 6 _ rfl
        go_simp
      simp only [Act.put, List.setIfInBounds_toArray, List.set_cons_zero, List.set_cons_succ]
      refine wpAnyH_ready (rs := [1]) (by kernel_rfl) (by simp) ?_
      refine AllReadyH.cons rfl (fun K hK => ?_) AllReadyH.nil
      go_simp
      have hz8 : w.heap.size ≤ W9.heap.size := HS13.out.sz
      refine (serv_any x w.heap.size i s9 L b5 WS c5 _ (HS13.out.of 0 rfl) HLL.out).mono ?_
      rintro r w9 ⟨b0, d0, rfl, o0, b9⟩
      have S9 := ABlk.later hS b9
      have o0 := OwnS.less o0 hz8
      clear hz8
      have HS14 : Hid (St w.heap.size w [⟨w.heap.size, 49, #[.int .i64 i, .int .i64 s9, .slice a1 xs.length c1, .slice a2 ts.length c2]⟩, ⟨w.heap.size + 1, 33, #[.int .i64 m, .int .i64 cl, .int .i64 sv, .int .i64 nc, .slice (some ⟨g2, 0, none⟩) ys.length cap]⟩, ⟨w.heap.size + 1 + 1, 49, #[.int .i64 0, .int .i64 0, .slice none 0 0, .slice none 0 0]⟩, ⟨w.heap.size + 1 + 1 + 1, 33, #[.int .i64 0, .int .i64 0, .int .i64 0, .int .i64 0, .slice none 0 0]⟩, ⟨w4.heap.size, 64, #[.int .i64 u.k, .int .i64 u.t, .int .i64 u.a, .int .i64 u.b, .int .i64 u.c, .int .i64 u.d, .int .i64 u.e]⟩] [⟨selN, fun W => SvX x w.heap.size i s9 (.slice b5 WS.length c5) L W⟩, ⟨(selT 90), fun W => OwnN celC 90 W w.heap.size (.slice b5 WS.length c5) WS⟩] w9) := Hid.mk' (by
        have h := St.grow b9 HS13.out
        try simp only [World.size_alloc] at h
        try simp only [World.size_setCell] at h
        exact h)
      clear HS13
      clear b9
      have HS15 : Hid (St w.heap.size w [⟨w.heap.size, 49, #[.int .i64 i, .int .i64 s9, .slice a1 xs.length c1, .slice a2 ts.length c2]⟩, ⟨w.heap.size + 1, 33, #[.int .i64 m, .int .i64 cl, .int .i64 sv, .int .i64 nc, .slice (some ⟨g2, 0, none⟩) ys.length cap]⟩, ⟨w.heap.size + 1 + 1, 49, #[.int .i64 0, .int .i64 0, .slice none 0 0, .slice none 0 0]⟩, ⟨w.heap.size + 1 + 1 + 1, 33, #[.int .i64 0, .int .i64 0, .int .i64 0, .int .i64 0, .slice none 0 0]⟩, ⟨w4.heap.size, 64, #[.int .i64 u.k, .int .i64 u.t, .int .i64 u.a, .int .i64 u.b, .int .i64 u.c, .int .i64 u.d, .int .i64 u.e]⟩] [⟨selN, fun W => SvX x w.heap.size i s9 (.slice b5 WS.length c5) L W⟩, ⟨(selT 90), fun W => OwnN celC 90 W w.heap.size (.slice b5 WS.length c5) WS⟩, ⟨selT 64, fun W => OwnS W w.heap.size (.slice b0 L.length d0) L⟩] w9) := Hid.mk' (by
        have h := St.add (selT 64) (fun W => OwnS W w.heap.size (.slice b0 L.length d0) L) (keep_owns _ _ _) (o0) HS14.out
        try simp only [World.size_alloc] at h
        try simp only [World.size_setCell] at h
        exact h)
      clear HS14
      have HZ : Hid (w.heap.size ≤ w9.heap.size ∧ ∀ k, (Value.slice b0 L.length d0).ownBlock = some k → k < w9.heap.size) := ⟨HS15.out.sz, fun k hk => (OwnS.low o0 k hk).2⟩
      clear o0
      clear hS
      refine hK.out _ _ S9 (fun hS => ?_)
      clear hK K S9
      refine wpAnyH_ready (rs := [3]) (by kernel_rfl) (by simp) ?_
      refine AllReadyH.cons rfl (fun K hK => ?_) AllReadyH.nil
      go_simp
      refine (backTo_any u _).mono ?_
      rintro r w10 ⟨g9, rfl, o1, b9⟩
      have S9 := ABlk.later hS b9
      have HS16 : Hid (St w.heap.size w [⟨w.heap.size, 49, #[.int .i64 i, .int .i64 s9, .slice a1 xs.length c1, .slice a2 ts.length c2]⟩, ⟨w.heap.size + 1, 33, #[.int .i64 m, .int .i64 cl, .int .i64 sv, .int .i64 nc, .slice (some ⟨g2, 0, none⟩) ys.length cap]⟩, ⟨w.heap.size + 1 + 1, 49, #[.int .i64 0, .int .i64 0, .slice none 0 0, .slice none 0 0]⟩, ⟨w.heap.size + 1 + 1 + 1, 33, #[.int .i64 0, .int .i64 0, .int .i64 0, .int .i64 0, .slice none 0 0]⟩, ⟨w4.heap.size, 64, #[.int .i64 u.k, .int .i64 u.t, .int .i64 u.a, .int .i64 u.b, .int .i64 u.c, .int .i64 u.d, .int .i64 u.e]⟩] [⟨selN, fun W => SvX x w.heap.size i s9 (.slice b5 WS.length c5) L W⟩, ⟨(selT 90), fun W => OwnN celC 90 W w.heap.size (.slice b5 WS.length c5) WS⟩, ⟨selT 64, fun W => OwnS W w.heap.size (.slice b0 L.length d0) L⟩] w10) := Hid.mk' (by
        have h := St.grow b9 HS15.out
        try simp only [World.size_alloc] at h
        try simp only [World.size_setCell] at h
        exact h)
      clear HS15
      clear b9
      have HS17 : Hid (St w.heap.size w [⟨w.heap.size, 49, #[.int .i64 i, .int .i64 s9, .slice a1 xs.length c1, .slice a2 ts.length c2]⟩, ⟨w.heap.size + 1, 33, #[.int .i64 m, .int .i64 cl, .int .i64 sv, .int .i64 nc, .slice (some ⟨g2, 0, none⟩) ys.length cap]⟩, ⟨w.heap.size + 1 + 1, 49, #[.int .i64 0, .int .i64 0, .slice none 0 0, .slice none 0 0]⟩, ⟨w.heap.size + 1 + 1 + 1, 33, #[.int .i64 0, .int .i64 0, .int .i64 0, .int .i64 0, .slice none 0 0]⟩, ⟨w4.heap.size, 64, #[.int .i64 u.k, .int .i64 u.t, .int .i64 u.a, .int .i64 u.b, .int .i64 u.c, .int .i64 u.d, .int .i64 u.e]⟩] [⟨selN, fun W => SvX x w.heap.size i s9 (.slice b5 WS.length c5) L W⟩, ⟨(selT 90), fun W => OwnN celC 90 W w.heap.size (.slice b5 WS.length c5) WS⟩, ⟨selT 64, fun W => OwnS W w.heap.size (.slice b0 L.length d0) L⟩, ⟨selT 64, fun W => OwnS W w9.heap.size (.slice (some ⟨g9, 0, none⟩) 1 1) [backS u]⟩] w10) := Hid.mk' (by
        have h := St.add (selT 64) (fun W => OwnS W w9.heap.size (.slice (some ⟨g9, 0, none⟩) 1 1) [backS u]) (keep_owns _ _ _) (o1) HS16.out
        try simp only [World.size_alloc] at h
        try simp only [World.size_setCell] at h
        exact h)
      clear HS16
      clear o1 hS
      refine hK.out _ _ S9 (fun hS => ?_)
      clear hK K S9
      refine wpAnyH_ready (rs := [4]) (by kernel_rfl) (by simp) ?_
      refine AllReadyH.cons rfl (fun K hK => ?_) AllReadyH.nil
      have z0 := HS17.out.cell 2 rfl 0 (.int .i64 0) rfl
      have zf0 := HS17.out.fro 2 rfl 0
      have z1 := HS17.out.cell 2 rfl 1 (.int .i64 0) rfl
      have zf1 := HS17.out.fro 2 rfl 1
      have z2 := HS17.out.cell 2 rfl 2 (.slice none 0 0) rfl
      have zf2 := HS17.out.fro 2 rfl 2
      have z3 := HS17.out.cell 2 rfl 3 (.slice none 0 0) rfl
      have zf3 := HS17.out.fro 2 rfl 3
      go_simp
      clear z0 zf0 z1 zf1 z2 zf2 z3 zf3
      obtain ⟨w11, hX9, HS18⟩ : ∃ X, X = ((((w10.setCell ⟨w.heap.size + 1 + 1, 0, none⟩ (.int .i64 i)).setCell ⟨w.heap.size + 1 + 1, 1, none⟩ (.int .i64 s9)).setCell ⟨w.heap.size + 1 + 1, 2, none⟩ (.slice b0 L.length d0)).setCell ⟨w.heap.size + 1 + 1, 3, none⟩ (.slice b5 WS.length c5)) ∧ Hid (St w.heap.size w [⟨w.heap.size, 49, #[.int .i64 i, .int .i64 s9, .slice a1 xs.length c1, .slice a2 ts.length c2]⟩, ⟨w.heap.size + 1, 33, #[.int .i64 m, .int .i64 cl, .int .i64 sv, .int .i64 nc, .slice (some ⟨g2, 0, none⟩) ys.length cap]⟩, ⟨w.heap.size + 1 + 1, 49, #[.int .i64 i, .int .i64 s9, .slice b0 L.length d0, .slice b5 WS.length c5]⟩, ⟨w.heap.size + 1 + 1 + 1, 33, #[.int .i64 0, .int .i64 0, .int .i64 0, .int .i64 0, .slice none 0 0]⟩, ⟨w4.heap.size, 64, #[.int .i64 u.k, .int .i64 u.t, .int .i64 u.a, .int .i64 u.b, .int .i64 u.c, .int .i64 u.d, .int .i64 u.e]⟩] [⟨selN, fun W => SvX x w.heap.size i s9 (.slice b5 WS.length c5) L W⟩, ⟨(selT 90), fun W => OwnN celC 90 W w.heap.size (.slice b5 WS.length c5) WS⟩, ⟨selT 64, fun W => OwnS W w.heap.size (.slice b0 L.length d0) L⟩, ⟨selT 64, fun W => OwnS W w9.heap.size (.slice (some ⟨g9, 0, none⟩) 1 1) [backS u]⟩] X) := ⟨_, rfl, Hid.mk' (by
        have h := (St.put4 2 HS17.out rfl rfl (.int .i64 i) (.int .i64 s9) (.slice b0 L.length d0) (.slice b5 WS.length c5))
        try simp only [World.size_alloc] at h
        try simp only [World.size_setCell] at h
        exact h)⟩
      rw [← hX9]
      clear hX9
      clear HS17
      clear hS
      refine hK.out _ _ (HS18.out.at 4 rfl) (fun hS => ?_)
      clear hK K
      refine wpAnyH_ready (rs := [5]) (by kernel_rfl) (by simp) ?_
      refine AllReadyH.cons rfl (fun K hK => ?_) AllReadyH.nil
      have z0 := HS18.out.cell 3 rfl 0 (.int .i64 0) rfl
      have zf0 := HS18.out.fro 3 rfl 0
      have z1 := HS18.out.cell 3 rfl 1 (.int .i64 0) rfl
      have zf1 := HS18.out.fro 3 rfl 1
      have z2 := HS18.out.cell 3 rfl 2 (.int .i64 0) rfl
      have zf2 := HS18.out.fro 3 rfl 2
      have z3 := HS18.out.cell 3 rfl 3 (.int .i64 0) rfl
      have zf3 := HS18.out.fro 3 rfl 3
      have z4 := HS18.out.cell 3 rfl 4 (.slice none 0 0) rfl
      have zf4 := HS18.out.fro 3 rfl 4
      go_simp
      clear z0 zf0 z1 zf1 z2 zf2 z3 zf3 z4 zf4
      obtain ⟨w12, hX9, HS19⟩ : ∃ X, X = (((((w11.setCell ⟨w.heap.size + 1 + 1 + 1, 0, none⟩ (.int .i64 6)).setCell ⟨w.heap.size + 1 + 1 + 1, 1, none⟩ (.int .i64 u.a)).setCell ⟨w.heap.size + 1 + 1 + 1, 2, none⟩ (.int .i64 0)).setCell ⟨w.heap.size + 1 + 1 + 1, 3, none⟩ (.int .i64 0)).setCell ⟨w.heap.size + 1 + 1 + 1, 4, none⟩ (.slice (some ⟨g9, 0, none⟩) 1 1)) ∧ Hid (St w.heap.size w [⟨w.heap.size, 49, #[.int .i64 i, .int .i64 s9, .slice a1 xs.length c1, .slice a2 ts.length c2]⟩, ⟨w.heap.size + 1, 33, #[.int .i64 m, .int .i64 cl, .int .i64 sv, .int .i64 nc, .slice (some ⟨g2, 0, none⟩) ys.length cap]⟩, ⟨w.heap.size + 1 + 1, 49, #[.int .i64 i, .int .i64 s9, .slice b0 L.length d0, .slice b5 WS.length c5]⟩, ⟨w.heap.size + 1 + 1 + 1, 33, #[.int .i64 6, .int .i64 u.a, .int .i64 0, .int .i64 0, .slice (some ⟨g9, 0, none⟩) 1 1]⟩, ⟨w4.heap.size, 64, #[.int .i64 u.k, .int .i64 u.t, .int .i64 u.a, .int .i64 u.b, .int .i64 u.c, .int .i64 u.d, .int .i64 u.e]⟩] [⟨selN, fun W => SvX x w.heap.size i s9 (.slice b5 WS.length c5) L W⟩, ⟨(selT 90), fun W => OwnN celC 90 W w.heap.size (.slice b5 WS.length c5) WS⟩, ⟨selT 64, fun W => OwnS W w.heap.size (.slice b0 L.length d0) L⟩, ⟨selT 64, fun W => OwnS W w9.heap.size (.slice (some ⟨g9, 0, none⟩) 1 1) [backS u]⟩] X) := ⟨_, rfl, Hid.mk' (by
        have h := (St.put5 3 HS18.out rfl rfl (.int .i64 6) (.int .i64 u.a) (.int .i64 0) (.int .i64 0) (.slice (some ⟨g9, 0, none⟩) 1 1))
        try simp only [World.size_alloc] at h
        try simp only [World.size_setCell] at h
        exact h)⟩
      rw [← hX9]
      clear hX9
      clear HS18
      clear hS
      refine hK.out _ _ (HS19.out.at 4 rfl) (fun hS => ?_)
      clear hK K
      refine take1 6 8 (.bool true) rfl rfl (by kernel_rfl) (by kernel_rfl) (by kernel_rfl) (by rfl) (fun _ _ _ h => h) hS (fun w' hS' => ?_) ?_
      · go_simp
      simp only [Act.put, List.setIfInBounds_toArray, List.set_cons_zero, List.set_cons_succ]
      refine wpAnyH_done (by kernel_rfl) ?_ _
      clear hS
      go_wp2_with fail
      have y0 := HS19.out.cell 2 rfl 0 (.int .i64 i) rfl
      have y1 := HS19.out.cell 2 rfl 1 (.int .i64 s9) rfl
      have y2 := HS19.out.cell 2 rfl 2 (.slice b0 L.length d0) rfl
      have y3 := HS19.out.cell 2 rfl 3 (.slice b5 WS.length c5) rfl
      have z0 := HS19.out.cell 3 rfl 0 (.int .i64 6) rfl
      have z1 := HS19.out.cell 3 rfl 1 (.int .i64 u.a) rfl
      have z2 := HS19.out.cell 3 rfl 2 (.int .i64 0) rfl
      have z3 := HS19.out.cell 3 rfl 3 (.int .i64 0) rfl
      have z4 := HS19.out.cell 3 rfl 4 (.slice (some ⟨g9, 0, none⟩) 1 1) rfl
      refine bodyPost_ret (v := .tuple #[.agg #[.int .i64 i, .int .i64 s9, .slice b0 L.length d0, .slice b5 WS.length c5], .agg #[.int .i64 6, .int .i64 u.a, .int .i64 0, .int .i64 0, .slice (some ⟨g9, 0, none⟩) 1 1], .bool true]) (by simp [results, Tryd.results20, go_sem, *]) rfl ?_
      rw [EA.out]
      exact ⟨⟨b0, d0, b5, c5, _, 1, w9.heap.size, rfl, HS19.out.of 2 rfl, HS19.out.of 1 rfl, HS19.out.of 3 rfl, HZ.out.1, HZ.out.2⟩, HS19.out.bel⟩

end Go.Proofs.YtghajmfjekfdpaaDoor
