/-
  A seal that is drawn from a list of bytes, whatever it is: seven numbers; nothing that was in memory is turned.
-/
import Derived.Test.YtaokgbdddgoonaaDrawFine
namespace Go.Proofs.Ytaokgbdddgoonaa
open Go.RowKit

/-- Six cells in a block of their own, one of them by its place. -/
theorem cell6 {w : World} {B t : Nat} {a0 a1 a2 a3 a4 a5 : Int} (h : w.heap[B]? = some (.cells #[.int .i64 a0, .int .i64 a1, .int .i64 a2, .int .i64 a3, .int .i64 a4, .int .i64 a5] t (0, 0))) (x : Int) (h0 : 0 ≤ x) (h1 : x < 6) :
    ∃ n : Int, w.cell? ⟨B, x.toNat, none⟩ = some (.int .i64 n) := by
  obtain rfl | rfl | rfl | rfl | rfl | rfl : x = 0 ∨ x = 1 ∨ x = 2 ∨ x = 3 ∨ x = 4 ∨ x = 5 := by omega
  · exact ⟨a0, by simp [World.cell?, h]⟩
  · exact ⟨a1, by simp [World.cell?, h]⟩
  · exact ⟨a2, by simp [World.cell?, h]⟩
  · exact ⟨a3, by simp [World.cell?, h]⟩
  · exact ⟨a4, by simp [World.cell?, h]⟩
  · exact ⟨a5, by simp [World.cell?, h]⟩

/-- A store into another block of one's own. -/
theorem Sd.side {W0 : World} {br : Nat} {sv : Value} {L : Nat} {B : Nat} {o : Obj} {w : World} {p : Int} (S : Sd W0 br sv L B o w p) {a : Addr} (ha : W0.heap.size ≤ a.block) (hbr : br < W0.heap.size) (hne : B ≠ a.block) (u : Value) : Sd W0 br sv L B o (w.setCell a u) p :=
  ⟨S.rd.store (by omega) u, (Below.heap_setCell w a u B hne).trans S.res, S.grew.store ha u, S.apart⟩

/-- A list of bytes that was handed over. -/
def Code (w : World) (a : Option Addr) (len cap : Nat) : Prop :=
  len = 0 ∨ (len ≤ cap ∧ ∃ cb off, a = some ⟨cb, off, none⟩ ∧ cb < w.heap.size ∧ ∀ i, i < len → ∃ u : Int, 0 ≤ u ∧ u ≤ 255 ∧ w.cell? ⟨cb, off + i, none⟩ = some (.int .u8 u))
theorem Code.below {w w' : World} {a : Option Addr} {len cap : Nat} (h : Code w a len cap) (hb : Below w.heap.size w w') : Code w' a len cap := by
  rcases h with h | ⟨h1, cb, off, h2, h3, h4⟩
  · exact Or.inl h
  · exact Or.inr ⟨h1, cb, off, h2, Nat.lt_of_lt_of_le h3 hb.size, fun i hi => let ⟨u, x, y, hu⟩ := h4 i hi; ⟨u, x, y, (hb.cell (p := ⟨cb, off + i, none⟩) h3).trans hu⟩⟩

set_option maxHeartbeats 400000 in
theorem l6Open_short (a : Option Addr) (len cap : Nat) (w : World) (h : (len : Int) ≤ 2000) :
    Calls Try.prog 17 #[.slice a len cap] w fun e w' => e = .returned (.pointer (some ⟨w.heap.size, 0, none⟩)) ∧ w' = w.alloc (.cells #[.slice a len cap, .int .i64 0] 69) := by
  go_enter Try.func17, Try.ntmps17
  go_wp2
  go_ret
  exact ⟨rfl, rfl⟩
set_option maxHeartbeats 400000 in
theorem l6Open_long (cb off len cap : Nat) (w : World) (h : 2000 < (len : Int)) (hc : (len : Int) ≤ (cap : Int)) :
    Calls Try.prog 17 #[.slice (some ⟨cb, off, none⟩) len cap] w fun e w' => e = .returned (.pointer (some ⟨w.heap.size, 0, none⟩)) ∧ w' = w.alloc (.cells #[.slice (some ⟨cb, off, none⟩) 2000 cap, .int .i64 0] 69) := by
  have h2 : (2000 : Int) ≤ (cap : Int) := by omega
  go_enter Try.func17, Try.ntmps17
  go_wp2
  go_ret
  exact ⟨rfl, rfl⟩

/-- A reader is laid over a list of bytes. -/
theorem l6Open_any (a : Option Addr) (len cap : Nat) (w : World) (h : Code w a len cap) :
    Calls Try.prog 17 #[.slice a len cap] w fun e w' => e = .returned (.pointer (some ⟨w.heap.size, 0, none⟩)) ∧ (∃ sv L, Rd w' w.heap.size sv L 0) ∧ Below w.heap.size w w' := by
  have two : ∀ (v0 : Value), (w.alloc (.cells #[v0, .int .i64 0] 69)).cell? ⟨w.heap.size, 0, none⟩ = some v0 ∧ (w.alloc (.cells #[v0, .int .i64 0] 69)).cell? ⟨w.heap.size, 1, none⟩ = some (.int .i64 0) ∧ (w.alloc (.cells #[v0, .int .i64 0] 69)).frozen? ⟨w.heap.size, 1, none⟩ = false := by
    intro v0
    exact ⟨by go_simp, by go_simp, by go_simp⟩
  have hbl : ∀ o, Below w.heap.size w (w.alloc o) := fun o => (Below.refl _ _).alloc (Nat.le_refl _) o
  by_cases hl : len ≤ 2000
  · refine (l6Open_short a len cap w (by omega)).mono ?_
    rintro e w' ⟨rfl, rfl⟩
    obtain ⟨t0, t1, t2⟩ := two (.slice a len cap)
    refine ⟨rfl, ⟨_, len, t0, t1, t2, ?_⟩, hbl _⟩
    rcases h with h | ⟨h1, cb, off, rfl, h3, h4⟩
    · subst h; exact Or.inl ⟨rfl, _, _, rfl⟩
    · by_cases h0 : len = 0
      · subst h0; exact Or.inl ⟨rfl, _, _, rfl⟩
      · exact Or.inr ⟨by omega, hl, cb, off, cap, rfl, h3, fun i hi => let ⟨u, x, y, hu⟩ := h4 i hi; ⟨u, x, y, ((hbl _).cell (p := ⟨cb, off + i, none⟩) h3).trans hu⟩⟩
  · rcases h with h | ⟨h1, cb, off, rfl, h3, h4⟩
    · omega
    · refine (l6Open_long cb off len cap w (by omega) (by omega)).mono ?_
      rintro e w' ⟨rfl, rfl⟩
      obtain ⟨t0, t1, t2⟩ := two (.slice (some ⟨cb, off, none⟩) 2000 cap)
      exact ⟨rfl, ⟨_, 2000, t0, t1, t2, Or.inr ⟨by omega, Nat.le_refl _, cb, off, cap, rfl, h3, fun i hi => let ⟨u, x, y, hu⟩ := h4 i (by omega); ⟨u, x, y, ((hbl _).cell (p := ⟨cb, off + i, none⟩) h3).trans hu⟩⟩⟩, hbl _⟩

end Go.Proofs.Ytaokgbdddgoonaa
