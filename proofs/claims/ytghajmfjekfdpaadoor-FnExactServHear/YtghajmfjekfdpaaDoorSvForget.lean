/-
  What a service remembers, as notes: forget, remember, list.
-/
import Derived.Deep.LoopGhost
import Derived.Test.YtghajmfjekfdpaaDoorSvMem
import Derived.Test.YtghajmfjekfdpaaDoorRowS
import Derived.Test.YtghajmfjekfdpaaDoorSvServ
import Derived.Test.YtghajmfjekfdpaaDoorKdcJ
namespace Go.Proofs.YtghajmfjekfdpaaDoor
open Go.RowKit
attribute [local go_sem ↓] Go.wp_at_zero Go.wp_at_succ

/-- The last one's block. -/
def lastB : List (Nat × Sl) → Nat
  | [] => 0
  | [p] => p.1
  | _ :: p :: L => lastB (p :: L)
theorem lastB_mem : ∀ {D : List (Nat × Sl)}, D ≠ [] → lastB D ∈ D.map Prod.fst
  | [], h => absurd rfl h
  | [p], _ => by simp [lastB]
  | p :: q :: L, _ => List.mem_cons_of_mem _ (lastB_mem (D := q :: L) (by simp))
theorem lastB_snoc : ∀ (D : List (Nat × Sl)) (p : Nat × Sl), lastB (D ++ [p]) = p.1
  | [], _ => rfl
  | [_], _ => rfl
  | _ :: r :: L, p => lastB_snoc (r :: L) p
theorem set_note {w : World} {b : Nat} {s : Sl} {nv v : Value} (h : ABlk 115 w b (noteC s nv)) : ABlk 115 (w.setCell ⟨b, 7, none⟩ v) b (noteC s v) := h.set 7 v
/-- Behind the last of these something else. -/
theorem Chain.tail {w : World} {L2 : List (Nat × Sl)} {v2 : Value} : ∀ {D L : List (Nat × Sl)} {pv : Value}, Chain w (D ++ L) pv → D ≠ [] → (D.map Prod.fst).Nodup → (∀ p ∈ L2, p.1 ∉ D.map Prod.fst) → Chain w L2 v2 → Chain (w.setCell ⟨lastB D, 7, none⟩ v2) (D ++ L2) pv
  | [], _, _, _, h, _, _, _ => absurd rfl h
  | [(b, s)], L, pv, ⟨e, nv, h1, h2⟩, _, _, hd, h3 => by
    refine ⟨e, v2, set_note h1, h3.same (fun p hp cs hc => ?_)⟩
    exact hc.grl (setCell_grl w b 7 v2) (fun hm => by
      have := hd p hp
      simp at hm this
      exact this hm)
  | (b, s) :: q :: D, L, pv, ⟨e, nv, h1, h2⟩, _, hn, hd, h3 => by
    have hn' : ((q :: D).map Prod.fst).Nodup := (List.nodup_cons.1 hn).2
    have hb : b ∉ (q :: D).map Prod.fst := (List.nodup_cons.1 hn).1
    refine ⟨e, nv, h1.grl (setCell_grl w (lastB (q :: D)) 7 v2) (fun hm => ?_), Chain.tail (D := q :: D) h2 (by simp) hn' (fun p hp => fun hm => hd p hp (List.mem_cons_of_mem _ hm)) h3⟩
    simp at hm
    exact hb (hm ▸ lastB_mem (by simp))
/-- What the last one points to. -/
theorem Chain.last {w : World} : ∀ {D L : List (Nat × Sl)} {pv : Value}, Chain w (D ++ L) pv → D ≠ [] → ∃ s nv, ABlk 115 w (lastB D) (noteC s nv) ∧ Chain w L nv
  | [], _, _, _, h => absurd rfl h
  | [(b, s)], L, pv, ⟨e, nv, h1, h2⟩, _ => ⟨s, nv, h1, h2⟩
  | (b, s) :: q :: D, L, pv, ⟨e, nv, h1, h2⟩, _ => Chain.last (D := q :: D) h2 (by simp)
/-- Blocks of other types stay. -/
structure NFr (B x : Nat) (w w' : World) : Prop where
  bel : Below B w w'
  blk : ∀ (T b : Nat) (cs : Array Value), T ≠ 115 → b ≠ x → ABlk T w b cs → ABlk T w' b cs
theorem NFr.refl (B x : Nat) (w : World) : NFr B x w w := ⟨Below.refl _ _, fun _ _ _ _ _ h => h⟩
theorem NFr.trans {B x : Nat} {w w1 w2 : World} (h : NFr B x w w1) (k : NFr B x w1 w2) : NFr B x w w2 := ⟨h.bel.trans k.bel, fun T b cs hT hb hc => k.blk T b cs hT hb (h.blk T b cs hT hb hc)⟩
theorem NFr.later {B x : Nat} {w w' : World} (h : Below w.heap.size w w') (hB : B ≤ w.heap.size) : NFr B x w w' := ⟨h.mono hB, fun _ _ _ _ _ hc => hc.later h⟩
theorem NFr.own {X : Type} {C : Cel X} {T B B' x : Nat} {w w' : World} {v : Value} {zs : List X} (h : NFr B x w w') (ho : OwnN C T w B' v zs) (hT : T ≠ 115) (hx : ∀ k, v.ownBlock = some k → k ≠ x) : OwnN C T w' B' v zs := by
  refine ho.keep (fun g e => ?_)
  obtain ⟨cur, hc⟩ := ho.type e
  exact (h.blk T g cur hT (hx g e) hc).trans hc.symm
/-- Where the next one is told of. -/
def linkA (x : Nat) : List (Nat × Sl) → Addr
  | [] => ⟨x, 0, none⟩
  | q :: D => ⟨lastB (q :: D), 7, none⟩
/-- A service in memory, and what it remembers: so many notes, and others behind them. -/
structure SvSt (x B : Nat) (u1 u2 u3 : Value) (D L : List (Nat × Sl)) (w : World) : Prop where
  st : ∃ pv, ABlk 87 w x #[pv, u1, u2, u3] ∧ Chain w (D ++ L) pv
  nd : ((D ++ L).map Prod.fst).Nodup
  ge : ∀ p ∈ D ++ L, B ≤ p.1
theorem SvSt.later {x B : Nat} {u1 u2 u3 : Value} {D L : List (Nat × Sl)} {w w' : World} (h : SvSt x B u1 u2 u3 D L w) (hb : Below w.heap.size w w') : SvSt x B u1 u2 u3 D L w' := by
  obtain ⟨pv, h1, h2⟩ := h.st
  exact ⟨⟨pv, h1.later hb, h2.later hb⟩, h.nd, h.ge⟩
/-- The link's cell. -/
theorem SvSt.link {x B : Nat} {u1 u2 u3 : Value} {D L : List (Nat × Sl)} {w : World} (h : SvSt x B u1 u2 u3 D L w) : ∃ nv, w.cell? (linkA x D) = some nv ∧ w.frozen? (linkA x D) = false ∧ Chain w L nv := by
  obtain ⟨pv, h1, h2⟩ := h.st
  cases D with
  | nil => exact ⟨pv, h1.at 0 pv rfl, h1.fro 0, h2⟩
  | cons q D =>
    obtain ⟨s, nv, h3, h4⟩ := h2.last (by simp)
    exact ⟨nv, h3.at 7 nv rfl, h3.fro 7, h4⟩
/-- The link is turned. -/
theorem SvSt.turn {x B : Nat} {u1 u2 u3 : Value} {D L L2 : List (Nat × Sl)} {w : World} {v2 : Value} (hBx : B ≤ x) (h : SvSt x B u1 u2 u3 D L w) (h2 : Chain w L2 v2) (hn : ((D ++ L2).map Prod.fst).Nodup) (hg : ∀ p ∈ D ++ L2, B ≤ p.1) :
    SvSt x B u1 u2 u3 D L2 (w.setCell (linkA x D) v2) ∧ NFr B x w (w.setCell (linkA x D) v2) := by
  obtain ⟨pv, h1, hc⟩ := h.st
  cases D with
  | nil =>
    have g := setCell_grl w x 0 v2
    refine ⟨⟨⟨v2, h1.set 0 v2, h2.same (fun p _ cs hc => hc.grl g (fun hm => by simp at hm; exact hc.ne h1 (by decide) hm))⟩, hn, hg⟩, (Below.refl _ w).setCell (p := ⟨x, 0, none⟩) hBx _, fun T b cs _ hb hc => hc.grl g (by simp; exact hb)⟩
  | cons q D =>
    have g := setCell_grl w (lastB (q :: D)) 7 v2
    obtain ⟨s, nv, h3, h4⟩ := hc.last (by simp)
    have hx : x ≠ lastB (q :: D) := h1.ne h3 (by decide)
    have hnD : ((q :: D).map Prod.fst).Nodup := by
      rw [List.map_append] at hn
      exact (List.nodup_append.1 hn).1
    have hdis : ∀ p ∈ L2, p.1 ∉ (q :: D).map Prod.fst := fun p hp hm => by
      rw [List.map_append] at hn
      exact (List.nodup_append.1 hn).2.2 _ hm _ (List.mem_map.2 ⟨p, hp, rfl⟩) rfl
    have hlb : B ≤ lastB (q :: D) := by
      obtain ⟨p, hp, e⟩ := List.mem_map.1 (lastB_mem (D := q :: D) (by simp))
      rw [← e]
      refine hg p ?_
      simp at hp ⊢
      rcases hp with hp | hp
      · exact Or.inl hp
      · exact Or.inr (Or.inl hp)
    refine ⟨⟨⟨pv, h1.grl g (by simp; exact hx), hc.tail (by simp) hnD hdis h2⟩, hn, hg⟩, (Below.refl _ w).setCell (p := ⟨lastB (q :: D), 7, none⟩) hlb _, fun T b cs hT hb hc => hc.grl g (fun hm => ?_)⟩
    simp at hm
    exact hc.ne h3 hT hm

theorem linkA_is (x : Nat) (D : List (Nat × Sl)) : ∃ lb lo, linkA x D = ⟨lb, lo, none⟩ := by
  cases D with
  | nil => exact ⟨x, 0, rfl⟩
  | cons q D => exact ⟨_, 7, rfl⟩
theorem linkA_snoc (x : Nat) (D : List (Nat × Sl)) (p : Nat × Sl) : linkA x (D ++ [p]) = ⟨p.1, 7, none⟩ := by
  cases D with
  | nil => rfl
  | cons q D =>
    show (⟨lastB ((q :: D) ++ [p]), 7, none⟩ : Addr) = _
    rw [lastB_snoc]
theorem SvSt.snoc {x B : Nat} {u1 u2 u3 : Value} {D L : List (Nat × Sl)} {p : Nat × Sl} {w : World} (h : SvSt x B u1 u2 u3 D (p :: L) w) : SvSt x B u1 u2 u3 (D ++ [p]) L w := by
  have e : D ++ p :: L = (D ++ [p]) ++ L := by simp
  have h1 := h.st
  have h2 := h.nd
  have h3 := h.ge
  rw [e] at h1 h2 h3
  exact ⟨h1, h2, h3⟩
theorem SvSt.all {x B : Nat} {u1 u2 u3 : Value} {D : List (Nat × Sl)} {w : World} (h : SvSt x B u1 u2 u3 D [] w) : SvSt x B u1 u2 u3 [] D w := by
  have h1 := h.st
  have h2 := h.nd
  have h3 := h.ge
  rw [List.append_nil] at h1 h2 h3
  exact ⟨h1, h2, h3⟩
set_option maxHeartbeats 4000000 in
set_option maxRecDepth 100000 in
theorem notes_forget (x B : Nat) (u1 u2 u3 : Value) (L : List (Nat × Sl)) (now : Int) (w : World) (hBx : B ≤ x) (hBw : B ≤ w.heap.size) (h : SvSt x B u1 u2 u3 [] L w) (hL : L.length ≤ 1048576) (hb : ∀ p ∈ L, 0 ≤ p.2.b ∧ p.2.b ≤ 101) (hn : 0 ≤ now ∧ now ≤ 100) :
    Calls Tryd.prog 49 #[.pointer (some ⟨x, 0, none⟩), .int .i64 now] w fun r w' => (∃ v, r = .returned v) ∧ (∃ D, SvSt x B u1 u2 u3 [] D w' ∧ D.map Prod.snd = keep now (L.map Prod.snd)) ∧ NFr B x w w' := by
  have HH : Hid (SvSt x B u1 u2 u3 [] L w) := h
  have HBB : Hid (∀ p ∈ L, 0 ≤ p.2.b ∧ p.2.b ≤ 101) := hb
  have HNN : Hid (0 ≤ now ∧ now ≤ 100) := hn
  clear h hb hn
  go_enter Tryd.func49, Tryd.ntmps49
  go_wp2_with fail
  go_loopg [4] L.length (fun k v wr => ∃ (Y D R : List (Nat × Sl)), R.length ≤ k ∧ L = Y ++ R ∧ v = .pointer (some (linkA x D)) ∧ D.map Prod.snd = keep now (Y.map Prod.snd) ∧ Hid (SvSt x B u1 u2 u3 D R wr ∧ NFr B x w wr))
  case atStart => exact ⟨[], [], L, Nat.le_refl _, rfl, rfl, rfl, HH.out, NFr.refl _ _ _⟩
  case round =>
    obtain ⟨Y, D, R, hRk, hYR, rfl, hD, H⟩ := hrel
    obtain ⟨nv, c0, cf, hc⟩ := H.out.1.link
    obtain ⟨lb, lo, ea⟩ := linkA_is x D
    rw [ea] at c0 cf ⊢
    cases R with
    | nil =>
      obtain rfl : nv = .pointer none := hc
      go_wp2_with fail
      have e : Y = L := by rw [hYR, List.append_nil]
      subst e
      go_end0
      exact ⟨⟨_, rfl⟩, ⟨D, H.out.1.all, hD⟩, H.out.2⟩
    | cons p R =>
      obtain ⟨b, s⟩ := p
      obtain ⟨rfl, nv', hb, hc'⟩ := hc
      obtain ⟨pn, rfl⟩ := hc'.ptr
      have d0 := hb.at 0 (.int .i64 s.k) rfl
      have d1 := hb.at 1 (.int .i64 s.t) rfl
      have d2 := hb.at 2 (.int .i64 s.a) rfl
      have d3 := hb.at 3 (.int .i64 s.b) rfl
      have d4 := hb.at 4 (.int .i64 s.c) rfl
      have d5 := hb.at 5 (.int .i64 s.d) rfl
      have d6 := hb.at 6 (.int .i64 s.e) rfl
      have d7 := hb.at 7 (.pointer pn) rfl
      go_wp2_with fail
      have hmem : (b, s) ∈ L := by rw [hYR]; simp
      refine (isFresh_any s now _ (HBB.out _ hmem) HNN.out).mono ?_
      rintro r w2 ⟨rfl, b9⟩
      have H2 : Hid (SvSt x B u1 u2 u3 D ((b, s) :: R) w2 ∧ NFr B x w w2) := ⟨H.out.1.later b9, H.out.2.trans (NFr.later b9 (Nat.le_trans hBw H.out.2.bel.size))⟩
      clear H b9 c0 cf hb hc' d0 d1 d2 d3 d4 d5 d6 d7
      obtain ⟨nv2, c0, cf, hc2⟩ := H2.out.1.link
      rw [ea] at c0 cf
      obtain ⟨rfl, nv3, hb3, hc3⟩ := hc2
      obtain ⟨pn, rfl⟩ := hc3.ptr
      have d7 := hb3.at 7 (.pointer pn) rfl
      have H3 : Hid (ABlk 115 w2 b (noteC s (.pointer pn)) ∧ Chain w2 R (.pointer pn)) := ⟨hb3, hc3⟩
      clear hb3 hc3
      have hk : keep now (List.map Prod.snd (Y ++ [(b, s)])) = keep now (List.map Prod.snd Y) ++ (if freshB s.b now then [s] else []) := by
        cases hf : freshB s.b now <;> simp [keep, hf]
      have HK : Hid (keep now (List.map Prod.snd (Y ++ [(b, s)])) = keep now (List.map Prod.snd Y) ++ (if freshB s.b now then [s] else [])) := hk
      clear hk
      have hYR2 : L = (Y ++ [(b, s)]) ++ R := by rw [hYR]; simp
      cases hf : freshB s.b now
      · have HK2 : Hid (D.map Prod.snd = keep now (List.map Prod.snd (Y ++ [(b, s)]))) := by rw [hf] at HK; exact hD.trans (by rw [HK.out]; simp)
        have HD : Hid ((D.map Prod.snd) = keep now (Y.map Prod.snd)) := hD
        have HF : Hid (freshB s.b now = false) := hf
        clear hf hD HK
        have hnd : ((D ++ R).map Prod.fst).Nodup := by
          have h9 := H2.out.1.nd
          exact h9.sublist (by
            rw [List.map_append, List.map_append]
            exact (List.Sublist.refl _).append (by simp))
        have hge : ∀ p ∈ D ++ R, B ≤ p.1 := fun p hp => H2.out.1.ge p (by
          rcases List.mem_append.1 hp with hp | hp
          · exact List.mem_append.2 (Or.inl hp)
          · exact List.mem_append.2 (Or.inr (List.mem_cons_of_mem _ hp)))
        have ht := H2.out.1.turn hBx H3.out.2 hnd hge
        rw [ea] at ht
        have HT : Hid (SvSt x B u1 u2 u3 D R (w2.setCell ⟨lb, lo, none⟩ (.pointer pn)) ∧ NFr B x w (w2.setCell ⟨lb, lo, none⟩ (.pointer pn))) := ⟨ht.1, H2.out.2.trans ht.2⟩
        clear ht hnd hge
        go_wp2_with fail
        have hRk' : R.length + 1 ≤ gk := hRk
        go_roundg R.length
        case rel => exact ⟨Y ++ [(b, s)], D, R, Nat.le_refl _, hYR2, by rw [ea], HK2.out, HT⟩
        case measure => omega
      · have HK2 : Hid ((D ++ [(b, s)]).map Prod.snd = keep now (List.map Prod.snd (Y ++ [(b, s)]))) := by rw [hf] at HK; exact (by rw [HK.out, List.map_append, hD]; rfl)
        clear hf hD HK
        go_wp2_with fail
        have hRk' : R.length + 1 ≤ gk := hRk
        go_roundg R.length
        case rel => exact ⟨Y ++ [(b, s)], D ++ [(b, s)], R, Nat.le_refl _, hYR2, by rw [linkA_snoc], HK2.out, H2.out.1.snoc, H2.out.2⟩
        case measure => omega

/-- It can be remembered. -/
def remN (now : Int) (xs : List Sl) (a : Sl) : Bool := freshB a.b now && !inS a xs && !(xs.length == 20)
theorem cell_lt {w : World} {b o : Nat} {v : Value} (h : w.cell? ⟨b, o, none⟩ = some v) : b < w.heap.size := by
  rcases Nat.lt_or_ge b w.heap.size with h1 | h1
  · exact h1
  · simp [World.cell?, Array.getElem?_eq_none h1] at h
theorem SvSt.len {x B : Nat} {u1 u2 u3 : Value} {D L : List (Nat × Sl)} {w : World} (h : SvSt x B u1 u2 u3 D L w) : x < w.heap.size := by
  obtain ⟨pv, h1, _⟩ := h.st
  exact h1.lt
/-- What remember answers, and leaves. -/
def RemPost (x B : Nat) (u1 u2 u3 : Value) (xs : List Sl) (a : Sl) (now : Int) (w : World) (r : Ending) (w' : World) : Prop := r = .returned (.bool (remN now xs a)) ∧ (∃ D, SvSt x B u1 u2 u3 [] D w' ∧ D.map Prod.snd = if remN now xs a then xs ++ [a] else xs) ∧ NFr B x w w'
set_option maxHeartbeats 4000000 in
set_option maxRecDepth 100000 in
theorem notes_remember (x B : Nat) (u1 u2 u3 : Value) (L : List (Nat × Sl)) (a : Sl) (now : Int) (w : World) (hBx : B ≤ x) (hBw : B ≤ w.heap.size) (h : SvSt x B u1 u2 u3 [] L w) (hL : L.length ≤ 1048576) (ha : 0 ≤ a.b ∧ a.b ≤ 101) (hn : 0 ≤ now ∧ now ≤ 100) :
    Calls Tryd.prog 50 #[.pointer (some ⟨x, 0, none⟩), .agg #[.int .i64 a.k, .int .i64 a.t, .int .i64 a.a, .int .i64 a.b, .int .i64 a.c, .int .i64 a.d, .int .i64 a.e], .int .i64 now] w fun r w' => RemPost x B u1 u2 u3 (L.map Prod.snd) a now w r w' := by
  have HW : Hid (SvSt x B u1 u2 u3 [] L (w.alloc (.cells #[.int .i64 a.k, .int .i64 a.t, .int .i64 a.a, .int .i64 a.b, .int .i64 a.c, .int .i64 a.d, .int .i64 a.e] 64)) ∧ NFr B x w (w.alloc (.cells #[.int .i64 a.k, .int .i64 a.t, .int .i64 a.a, .int .i64 a.b, .int .i64 a.c, .int .i64 a.d, .int .i64 a.e] 64)) ∧ ABlk 64 (w.alloc (.cells #[.int .i64 a.k, .int .i64 a.t, .int .i64 a.a, .int .i64 a.b, .int .i64 a.c, .int .i64 a.d, .int .i64 a.e] 64)) w.heap.size #[.int .i64 a.k, .int .i64 a.t, .int .i64 a.a, .int .i64 a.b, .int .i64 a.c, .int .i64 a.d, .int .i64 a.e] ∧ B ≤ (w.alloc (.cells #[.int .i64 a.k, .int .i64 a.t, .int .i64 a.a, .int .i64 a.b, .int .i64 a.c, .int .i64 a.d, .int .i64 a.e] 64)).heap.size) := ⟨h.later (Below.alloc_ _ _), NFr.later (Below.alloc_ _ _) hBw, ABlk.new _ _ _, by simp; omega⟩
  have hxl := h.len
  have HNN : Hid ((0 ≤ a.b ∧ a.b ≤ 101) ∧ 0 ≤ now ∧ now ≤ 100) := ⟨ha, hn⟩
  clear h ha hn
  go_enter Tryd.func50, Tryd.ntmps50
  go_wp2_with fail
  generalize (w.alloc (.cells #[.int .i64 a.k, .int .i64 a.t, .int .i64 a.a, .int .i64 a.b, .int .i64 a.c, .int .i64 a.d, .int .i64 a.e] 64)) = W1 at HW ⊢
  refine (isFresh_any a now _ HNN.out.1 HNN.out.2).mono ?_
  rintro r w2 ⟨rfl, b9⟩
  have H2 : Hid (SvSt x B u1 u2 u3 [] L w2 ∧ NFr B x w w2 ∧ ABlk 64 w2 w.heap.size #[.int .i64 a.k, .int .i64 a.t, .int .i64 a.a, .int .i64 a.b, .int .i64 a.c, .int .i64 a.d, .int .i64 a.e] ∧ B ≤ w2.heap.size) := ⟨HW.out.1.later b9, HW.out.2.1.trans (NFr.later b9 HW.out.2.2.2), HW.out.2.2.1.later b9, Nat.le_trans HW.out.2.2.2 b9.size⟩
  clear HW b9
  cases hf : freshB a.b now
  · have HF : Hid (remN now (L.map Prod.snd) a = false) := Hid.mk' (by simp [remN, hf])
    clear hf
    go_wp2_with fail
    go_ret
    exact ⟨by rw [HF.out]; rfl, ⟨L, H2.out.1, by rw [HF.out]; rfl⟩, H2.out.2.1⟩
  · have HF : Hid (remN now (L.map Prod.snd) a = (!inS a (L.map Prod.snd) && !((L.map Prod.snd).length == 20))) := Hid.mk' (by simp [remN, hf])
    clear hf
    go_wp2_with fail
    refine wp_region_held_drew (S := fun _ => True) (by kernel_rfl) trivial (fun hS => ?_)
    refine take1 0 13 (Value.pointer (some ⟨x, 0, none⟩)) rfl rfl (by kernel_rfl) (by kernel_rfl) (by kernel_rfl) (by rfl) (fun _ _ _ h => h) hS (fun w' hS' => ?_) ?_
    · go_simp
    simp only [Act.put, List.setIfInBounds_toArray, List.set_cons_zero, List.set_cons_succ]
    refine take1 1 14 (Value.pointer (some ⟨x, 0, none⟩)) rfl rfl (by kernel_rfl) (by kernel_rfl) (by kernel_rfl) (by rfl) (fun _ _ _ h => h) hS (fun w' hS' => ?_) ?_
    · go_simp
    simp only [Act.put, List.setIfInBounds_toArray, List.set_cons_zero, List.set_cons_succ]
    refine take1 2 15 (Value.pointer (some ⟨x, 0, none⟩)) rfl rfl (by kernel_rfl) (by kernel_rfl) (by kernel_rfl) (by rfl) (fun _ _ _ h => h) hS (fun w' hS' => ?_) ?_
    · go_simp
    simp only [Act.put, List.setIfInBounds_toArray, List.set_cons_zero, List.set_cons_succ]
    refine take1 3 7 (.int .i64 0) rfl rfl (by kernel_rfl) (by kernel_rfl) (by kernel_rfl) (by rfl) (fun _ _ _ h => h) hS (fun w' hS' => ?_) ?_
    · go_simp
    simp only [Act.put, List.setIfInBounds_toArray, List.set_cons_zero, List.set_cons_succ]
    refine take1 4 8 (Value.pointer (some ⟨x, 0, none⟩)) rfl rfl (by kernel_rfl) (by kernel_rfl) (by kernel_rfl) (by rfl) (fun _ _ _ h => h) hS (fun w' hS' => ?_) ?_
    · go_simp
    simp only [Act.put, List.setIfInBounds_toArray, List.set_cons_zero, List.set_cons_succ]
    refine wpAnyH_done (by kernel_rfl) ?_ _
    have H3 : Hid (SvSt x B u1 u2 u3 [] L w2.drew ∧ NFr B x w w2.drew ∧ ABlk 64 w2.drew w.heap.size #[.int .i64 a.k, .int .i64 a.t, .int .i64 a.a, .int .i64 a.b, .int .i64 a.c, .int .i64 a.d, .int .i64 a.e] ∧ B ≤ w2.drew.heap.size) := ⟨H2.out.1.later (Below.refl _ _).drew, H2.out.2.1.trans (NFr.later (Below.refl _ _).drew H2.out.2.2.2), H2.out.2.2.1.later (Below.refl _ _).drew, H2.out.2.2.2⟩
    clear H2 hS
    generalize w2.drew = w3 at H3 ⊢
    go_wp2_with fail
    go_loopg [7, 8] L.length (fun k c v wr => ∃ (Y R : List (Nat × Sl)), R.length ≤ k ∧ L = Y ++ R ∧ c = .int .i64 (Y.length : Int) ∧ v = .pointer (some (linkA x Y)) ∧ Hid (¬ a ∈ Y.map Prod.snd ∧ SvSt x B u1 u2 u3 Y R wr ∧ NFr B x w wr ∧ ABlk 64 wr w.heap.size #[.int .i64 a.k, .int .i64 a.t, .int .i64 a.a, .int .i64 a.b, .int .i64 a.c, .int .i64 a.d, .int .i64 a.e] ∧ B ≤ wr.heap.size))
    case atStart => exact ⟨[], L, Nat.le_refl _, rfl, rfl, rfl, by simp, H3.out.1, H3.out.2⟩
    case round =>
      obtain ⟨Y, R, hRk, hYR, rfl, rfl, H⟩ := hrel
      obtain ⟨nv, c0, cf, hc⟩ := H.out.2.1.link
      obtain ⟨lb, lo, ea⟩ := linkA_is x Y
      rw [ea] at c0 cf ⊢
      cases R with
      | nil =>
        obtain rfl : nv = .pointer none := hc
        have e : Y = L := by rw [hYR, List.append_nil]
        subst e
        clear hYR hRk
        by_cases h20 : Y.length = 20
        · have HF2 : Hid (remN now (Y.map Prod.snd) a = false) := Hid.mk' (by rw [HF.out]; simp [h20])
          have e20 : ((Y.length : Nat) : Int) = 20 := by omega
          rw [e20]
          clear h20 e20 HF
          go_wp2_with fail
          go_ret
          exact ⟨by rw [HF2.out]; rfl, ⟨Y, H.out.2.1.all, by rw [HF2.out]; rfl⟩, H.out.2.2.1⟩
        · have HF2 : Hid (remN now (Y.map Prod.snd) a = true) := Hid.mk' (by rw [HF.out]; simp [h20, inS_false H.out.1])
          have e20 : ¬ ((Y.length : Nat) : Int) = 20 := by omega
          have c1 := H.out.2.2.2.1.at 0 (.int .i64 a.k) rfl
          have c2 := H.out.2.2.2.1.at 1 (.int .i64 a.t) rfl
          have c3 := H.out.2.2.2.1.at 2 (.int .i64 a.a) rfl
          have c4 := H.out.2.2.2.1.at 3 (.int .i64 a.b) rfl
          have c5 := H.out.2.2.2.1.at 4 (.int .i64 a.c) rfl
          have c6 := H.out.2.2.2.1.at 5 (.int .i64 a.d) rfl
          have c7 := H.out.2.2.2.1.at 6 (.int .i64 a.e) rfl
          have hlb := cell_lt c0
          clear h20 HF
          go_wp2_with fail
          have hcm : (wr.alloc (.cells (noteC a (.pointer none)) 115)).setCell ⟨lb, lo, none⟩ (.pointer (some ⟨wr.heap.size, 0, none⟩)) = (wr.setCell ⟨lb, lo, none⟩ (.pointer (some ⟨wr.heap.size, 0, none⟩))).alloc (.cells (noteC a (.pointer none)) 115) := World.setCell_alloc_past _ _ _ _ hlb
          unfold noteC at hcm
          rw [← hcm]
          have b9 := Below.alloc_ wr (.cells (noteC a (.pointer none)) 115)
          have n9 := ABlk.new wr 115 (noteC a (.pointer none))
          unfold noteC at b9 n9
          have hz : (wr.alloc (.cells #[.int .i64 a.k, .int .i64 a.t, .int .i64 a.a, .int .i64 a.b, .int .i64 a.c, .int .i64 a.d, .int .i64 a.e, .pointer none] 115)).heap.size = wr.heap.size + 1 := by simp
          have S9 := H.out.2.1.later b9
          have N9 := H.out.2.2.1.trans (NFr.later (x := x) b9 H.out.2.2.2.2)
          have hge := H.out.2.2.2.2
          have hlt : ∀ p ∈ Y, p.1 < wr.heap.size := by
            obtain ⟨pv, _, hcc⟩ := H.out.2.1.st
            rw [List.append_nil] at hcc
            exact hcc.lt
          have hnd := H.out.2.1.nd
          have hgg := H.out.2.1.ge
          rw [List.append_nil] at hnd hgg
          clear hcm c0 cf c1 c2 c3 c4 c5 c6 c7 H H3
          generalize (wr.alloc (.cells #[.int .i64 a.k, .int .i64 a.t, .int .i64 a.a, .int .i64 a.b, .int .i64 a.c, .int .i64 a.d, .int .i64 a.e, .pointer none] 115)) = V at b9 n9 hz S9 N9 ⊢
          have ht := S9.turn (L2 := [(wr.heap.size, a)]) (v2 := .pointer (some ⟨wr.heap.size, 0, none⟩)) hBx ⟨rfl, _, n9, rfl⟩ (by
            rw [List.map_append, List.nodup_append]
            refine ⟨hnd, by simp, fun p hp q hq e => ?_⟩
            obtain ⟨z, hz, rfl⟩ := List.mem_map.1 hp
            have h1 := hlt z hz
            simp at hq
            omega) (fun p hp => by
            rcases List.mem_append.1 hp with hp | hp
            · exact hgg p hp
            · obtain rfl := List.mem_singleton.1 hp
              exact hge)
          rw [ea] at ht
          go_ret
          refine ⟨by rw [HF2.out]; rfl, ⟨Y ++ [(wr.heap.size, a)], ht.1.snoc.all, by rw [HF2.out]; simp⟩, N9.trans ht.2⟩
      | cons p R =>
        obtain ⟨b, s⟩ := p
        obtain ⟨rfl, nv', hb, hc'⟩ := hc
        obtain ⟨pn, rfl⟩ := hc'.ptr
        have HB : Hid (ABlk 115 wr b (noteC s (.pointer pn)) ∧ Chain wr R (.pointer pn)) := ⟨hb, hc'⟩
        have HY : Hid (L = Y ++ (b, s) :: R) := hYR
        clear hb hc' hYR
        go_wp2_with fail
        refine wp_region_held_drew (S := fun w' => w'.cell? ⟨lb, lo, none⟩ = some (.pointer (some ⟨b, 0, none⟩)) ∧ ABlk 115 w' b (noteC s (.pointer pn)) ∧ ABlk 64 w' w.heap.size #[.int .i64 a.k, .int .i64 a.t, .int .i64 a.a, .int .i64 a.b, .int .i64 a.c, .int .i64 a.d, .int .i64 a.e]) (by kernel_rfl) ⟨c0, HB.out.1.later (Below.refl _ _).drew, H.out.2.2.2.1.later (Below.refl _ _).drew⟩ (fun hS => ?_)
        refine take1 0 25 (Value.pointer (some ⟨lb, lo, none⟩)) rfl rfl (by kernel_rfl) (by kernel_rfl) (by kernel_rfl) (by rfl) (fun _ _ _ h => h) hS (fun w' hS' => ?_) ?_
        · go_simp
        simp only [Act.put, List.setIfInBounds_toArray, List.set_cons_zero, List.set_cons_succ]
        refine take1 1 26 (Value.pointer (some ⟨lb, lo, none⟩)) rfl rfl (by kernel_rfl) (by kernel_rfl) (by kernel_rfl) (by rfl) (fun _ _ _ h => h) hS (fun w' hS' => ?_) ?_
        · go_simp
        simp only [Act.put, List.setIfInBounds_toArray, List.set_cons_zero, List.set_cons_succ]
        refine take1 2 27 (Value.pointer (some ⟨b, 0, none⟩)) rfl rfl (by kernel_rfl) (by kernel_rfl) (by kernel_rfl) (by rfl) (fun _ _ _ h => h) hS (fun w' hS' => ?_) ?_
        · obtain ⟨h1, h2, h3⟩ := hS'
          go_simp
        simp only [Act.put, List.setIfInBounds_toArray, List.set_cons_zero, List.set_cons_succ]
        refine take1 3 28 (Value.pointer (some ⟨b, 0, none⟩)) rfl rfl (by kernel_rfl) (by kernel_rfl) (by kernel_rfl) (by rfl) (fun _ _ _ h => h) hS (fun w' hS' => ?_) ?_
        · go_simp
        simp only [Act.put, List.setIfInBounds_toArray, List.set_cons_zero, List.set_cons_succ]
        refine take1 4 29 (Value.pointer (some ⟨b, 0, none⟩)) rfl rfl (by kernel_rfl) (by kernel_rfl) (by kernel_rfl) (by rfl) (fun _ _ _ h => h) hS (fun w' hS' => ?_) ?_
        · go_simp
        simp only [Act.put, List.setIfInBounds_toArray, List.set_cons_zero, List.set_cons_succ]
        refine take1 5 30 (Value.agg #[.int .i64 s.k, .int .i64 s.t, .int .i64 s.a, .int .i64 s.b, .int .i64 s.c, .int .i64 s.d, .int .i64 s.e]) rfl rfl (by kernel_rfl) (by kernel_rfl) (by kernel_rfl) (by rfl) (fun _ _ _ h => h) hS (fun w' hS' => ?_) ?_
        · obtain ⟨h1, h2, h3⟩ := hS'
          have d0 := h2.at 0 (.int .i64 s.k) rfl
          have d1 := h2.at 1 (.int .i64 s.t) rfl
          have d2 := h2.at 2 (.int .i64 s.a) rfl
          have d3 := h2.at 3 (.int .i64 s.b) rfl
          have d4 := h2.at 4 (.int .i64 s.c) rfl
          have d5 := h2.at 5 (.int .i64 s.d) rfl
          have d6 := h2.at 6 (.int .i64 s.e) rfl
          go_simp
        simp only [Act.put, List.setIfInBounds_toArray, List.set_cons_zero, List.set_cons_succ]
        refine take1 6 31 (Value.agg #[.int .i64 a.k, .int .i64 a.t, .int .i64 a.a, .int .i64 a.b, .int .i64 a.c, .int .i64 a.d, .int .i64 a.e]) rfl rfl (by kernel_rfl) (by kernel_rfl) (by kernel_rfl) (by rfl) (fun _ _ _ h => h) hS (fun w' hS' => ?_) ?_
        · obtain ⟨h1, h2, h3⟩ := hS'
          have d0 := h3.at 0 (.int .i64 a.k) rfl
          have d1 := h3.at 1 (.int .i64 a.t) rfl
          have d2 := h3.at 2 (.int .i64 a.a) rfl
          have d3 := h3.at 3 (.int .i64 a.b) rfl
          have d4 := h3.at 4 (.int .i64 a.c) rfl
          have d5 := h3.at 5 (.int .i64 a.d) rfl
          have d6 := h3.at 6 (.int .i64 a.e) rfl
          go_simp
        simp only [Act.put, List.setIfInBounds_toArray, List.set_cons_zero, List.set_cons_succ]
        by_cases hsa : s = a
        · subst hsa
          refine take1 7 32 (.bool true) rfl rfl (by kernel_rfl) (by kernel_rfl) (by kernel_rfl) (by rfl) (fun _ _ _ h => h) hS (fun w' hS' => ?_) ?_
          · go_simp
          simp only [Act.put, List.setIfInBounds_toArray, List.set_cons_zero, List.set_cons_succ]
          refine wpAnyH_done (by kernel_rfl) ?_ _
          have HF2 : Hid (remN now (L.map Prod.snd) s = false) := Hid.mk' (by rw [HF.out, inS_true (by rw [HY.out]; simp)]; rfl)
          have HE : Hid (SvSt x B u1 u2 u3 [] L wr.drew ∧ NFr B x w wr.drew) := ⟨by rw [HY.out]; exact (by
              have h9 := (H.out.2.1).later (Below.refl _ wr).drew
              exact ⟨h9.st, h9.nd, h9.ge⟩), H.out.2.2.1.trans (NFr.later (Below.refl _ _).drew H.out.2.2.2.2)⟩
          clear hS H HF
          go_wp2_with fail
          go_ret
          exact ⟨by rw [HF2.out]; rfl, ⟨L, HE.out.1, by rw [HF2.out]; rfl⟩, HE.out.2⟩
        · have HN : Hid (¬ s = a) := hsa
          clear hsa
          refine take1 7 32 (.bool false) rfl rfl (by kernel_rfl) (by kernel_rfl) (by kernel_rfl) (by rfl) (fun _ _ _ h => h) hS (fun w' hS' => ?_) ?_
          · go_simp
            exact fun h1 h2 h3 h4 h5 h6 h7 => HN.out (sl_eq ⟨h1, h2, h3, h4, h5, h6, h7⟩)
          simp only [Act.put, List.setIfInBounds_toArray, List.set_cons_zero, List.set_cons_succ]
          refine wpAnyH_done (by kernel_rfl) ?_ _
          have hY2 : Y.length < 1048576 := by rw [HY.out] at hL; simp at hL; omega
          have HR : Hid (¬ a ∈ (Y ++ [(b, s)]).map Prod.snd ∧ SvSt x B u1 u2 u3 (Y ++ [(b, s)]) R wr.drew ∧ NFr B x w wr.drew ∧ ABlk 64 wr.drew w.heap.size #[.int .i64 a.k, .int .i64 a.t, .int .i64 a.a, .int .i64 a.b, .int .i64 a.c, .int .i64 a.d, .int .i64 a.e] ∧ B ≤ wr.drew.heap.size) := ⟨by
              rw [List.map_append, List.mem_append]
              rintro (h | h)
              · exact H.out.1 h
              · simp at h
                exact HN.out h.symm, (H.out.2.1.later (Below.refl _ _).drew).snoc, H.out.2.2.1.trans (NFr.later (Below.refl _ _).drew H.out.2.2.2.2), H.out.2.2.2.1.later (Below.refl _ _).drew, H.out.2.2.2.2⟩
          have d7 := (HB.out.1.later (Below.refl _ wr).drew).at 7 (.pointer pn) rfl
          have c0' := ((Below.refl wr.heap.size wr).drew.cell (p := ⟨lb, lo, none⟩) (cell_lt c0)).trans c0
          clear hS H HB c0
          go_wp2_with fail
          have hRk' : R.length + 1 ≤ gk := hRk
          go_roundg R.length
          case rel => exact ⟨Y ++ [(b, s)], R, Nat.le_refl _, by rw [HY.out]; simp, by simp, by rw [linkA_snoc], HR⟩
          case measure => omega

theorem stopHereM {p : Prop} (h : True → p) : p := h trivial
theorem sealNewM (W : World) (s : Sl) : SRow (W.alloc (.cells #[.int .i64 s.k, .int .i64 s.t, .int .i64 s.a, .int .i64 s.b, .int .i64 s.c, .int .i64 s.d, .int .i64 s.e] 64)) (some ⟨W.heap.size, 0, none⟩) [s] := by
  refine Or.inr ⟨_, 0, rfl, by simp, fun j x hj => ?_⟩
  cases j with
  | zero =>
    simp at hj
    subst hj
    exact ⟨by go_simp, by go_simp, by go_simp, by go_simp, by go_simp, by go_simp, by go_simp⟩
  | succ j => simp at hj
set_option maxHeartbeats 4000000 in
set_option maxRecDepth 100000 in
theorem notes_list (x B : Nat) (u1 u2 u3 : Value) (L : List (Nat × Sl)) (w : World) (h : SvSt x B u1 u2 u3 [] L w) (hL : L.length ≤ 1048576) :
    Calls Tryd.prog 78 #[.pointer (some ⟨x, 0, none⟩)] w fun r w' => ∃ b0 d0, r = .returned (.slice b0 (L.map Prod.snd).length d0) ∧ OwnS w' w.heap.size (.slice b0 (L.map Prod.snd).length d0) (L.map Prod.snd) ∧ Below w.heap.size w w' := by
  obtain ⟨pv, hp, hc⟩ := h.st
  obtain ⟨p, rfl⟩ := hc.ptr
  have HC : Hid (Chain w L (.pointer p)) := hc
  have p0 := hp.at 0 (.pointer p) rfl
  clear h hp hc
  go_enter Tryd.func78, Tryd.ntmps78
  go_wp2_with fail
  clear p0
  go_loopg [3, 4] L.length (fun k v q wr => ∃ (Z : List Sl) (R : List (Nat × Sl)) (b0 : Option Addr) (d0 : Nat), R.length ≤ k ∧ L.map Prod.snd = Z ++ R.map Prod.snd ∧ v = .slice b0 Z.length d0 ∧ Hid (Chain wr R q ∧ OwnS wr w.heap.size (.slice b0 Z.length d0) Z ∧ Below w.heap.size w wr))
  case atStart => exact ⟨[], L, none, 0, Nat.le_refl _, rfl, rfl, HC.out, World.ownsRow_nil _ _ _ _, Below.refl _ _⟩
  case round =>
    obtain ⟨Z, R, b0, d0, hRk, hYR, rfl, H⟩ := hrel
    cases R with
    | nil =>
      obtain rfl := show _ = _ from H.out.1
      have e : L.map Prod.snd = Z := by rw [hYR]; simp
      have HE : Hid (L.map Prod.snd = Z) := e
      clear hYR e
      go_wp2_with fail
      go_ret
      rw [HE.out]
      exact ⟨b0, d0, rfl, H.out.2.1, H.out.2.2⟩
    | cons p R =>
      obtain ⟨b, s⟩ := p
      have HY : Hid (L.map Prod.snd = (Z ++ [s]) ++ R.map Prod.snd) := Hid.mk' (by rw [hYR]; simp)
      obtain ⟨rfl, nv', hb, hc'⟩ := H.out.1
      obtain ⟨pn, rfl⟩ := hc'.ptr
      have d0' := hb.at 0 (.int .i64 s.k) rfl
      have d1 := hb.at 1 (.int .i64 s.t) rfl
      have d2 := hb.at 2 (.int .i64 s.a) rfl
      have d3 := hb.at 3 (.int .i64 s.b) rfl
      have d4 := hb.at 4 (.int .i64 s.c) rfl
      have d5 := hb.at 5 (.int .i64 s.d) rfl
      have d6 := hb.at 6 (.int .i64 s.e) rfl
      have b8 := Below.alloc_ wr (.cells #[.int .i64 s.k, .int .i64 s.t, .int .i64 s.a, .int .i64 s.b, .int .i64 s.c, .int .i64 s.d, .int .i64 s.e] 64)
      have H8 : Hid (ABlk 115 (wr.alloc (.cells #[.int .i64 s.k, .int .i64 s.t, .int .i64 s.a, .int .i64 s.b, .int .i64 s.c, .int .i64 s.d, .int .i64 s.e] 64)) b (noteC s (.pointer pn)) ∧ Chain (wr.alloc (.cells #[.int .i64 s.k, .int .i64 s.t, .int .i64 s.a, .int .i64 s.b, .int .i64 s.c, .int .i64 s.d, .int .i64 s.e] 64)) R (.pointer pn) ∧ OwnS (wr.alloc (.cells #[.int .i64 s.k, .int .i64 s.t, .int .i64 s.a, .int .i64 s.b, .int .i64 s.c, .int .i64 s.d, .int .i64 s.e] 64)) w.heap.size (.slice b0 Z.length d0) Z ∧ Below w.heap.size w (wr.alloc (.cells #[.int .i64 s.k, .int .i64 s.t, .int .i64 s.a, .int .i64 s.b, .int .i64 s.c, .int .i64 s.d, .int .i64 s.e] 64))) := ⟨hb.later b8, hc'.later b8, OwnN.toS (OwnN.later (OwnS.toN H.out.2.1) b8), H.out.2.2.trans (b8.mono H.out.2.2.size)⟩
      have R8 : Hid (SRow (wr.alloc (.cells #[.int .i64 s.k, .int .i64 s.t, .int .i64 s.a, .int .i64 s.b, .int .i64 s.c, .int .i64 s.d, .int .i64 s.e] 64)) (some ⟨wr.heap.size, 0, none⟩) [s]) := sealNewM wr s
      have HL2 : Hid (Z.length < 1048576) := Hid.mk' (by have := congrArg List.length hYR; simp at this; omega)
      clear hYR hb hc' b8
      go_wp2_with (at_builtin; apply stopHereM)
      intro hst
      refine wpList_app_seals _ rfl _ _ rfl w.heap.size (.slice b0 Z.length d0) Z rfl H8.out.2.2.1 _ [s] 1 rfl R8.out (by have := HL2.out; simp; omega) H8.out.2.2.2.size ?_
      intro b' c' w9 o9 g9
      have hne : ∀ k, (Value.slice b0 Z.length d0).ownBlock = some k → k ≠ b := fun k e => (H8.out.1.off (OwnS.toN H8.out.2.2.1) (by decide)) k e
      have hty : ∀ r, (Value.slice b0 Z.length d0).ownBlock = some r → ∃ cur, (wr.alloc (.cells #[.int .i64 s.k, .int .i64 s.t, .int .i64 s.a, .int .i64 s.b, .int .i64 s.c, .int .i64 s.d, .int .i64 s.e] 64)).heap[r]? = some (.cells cur 64 (0, 0)) := fun r e => (OwnS.toN H8.out.2.2.1).type e
      have hbl := fun k e => ((OwnS.toN H8.out.2.2.1).lt k e).1
      have H9 : Hid (ABlk 115 w9 b (noteC s (.pointer pn)) ∧ Chain w9 R (.pointer pn) ∧ Below w.heap.size w w9) := by
        refine ⟨H8.out.1.grl (GrL.of g9) (fun hm => ?_), H8.out.2.1.same (fun q _ cs hc => hc.grl (GrL.of g9) (fun hm => ?_)), below_grl H8.out.2.2.2 (GrL.of g9) H8.out.2.2.2.size (fun k hk => hbl k (List.mem_singleton.1 hk).symm)⟩
        · exact hne b (List.mem_singleton.1 hm).symm rfl
        · obtain ⟨cur, hcur⟩ := hty q.1 (List.mem_singleton.1 hm).symm
          unfold ABlk at hc
          rw [hcur] at hc
          injection hc with hc
          injection hc with _ h2
          exact absurd h2 (by decide)
      have HO : Hid (OwnS w9 w.heap.size (.slice b' (Z ++ [s]).length c') (Z ++ [s])) := o9
      clear hne hty hbl g9 o9 H8 R8 d0' d1 d2 d3 d4 d5 d6 hst H
      have d7 := H9.out.1.at 7 (.pointer pn) rfl
      generalize (Z ++ [s]) = Z2 at HO HY ⊢
      go_wp2_with fail
      have hRk' : R.length + 1 ≤ gk := hRk
      go_roundg R.length
      case rel => exact ⟨Z2, R, b', c', Nat.le_refl _, HY.out, rfl, H9.out.2.1, HO.out, H9.out.2.2⟩
      case measure => omega

end Go.Proofs.YtghajmfjekfdpaaDoor
