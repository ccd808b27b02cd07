/-
  DrawKnowKeys: keys and seals in new memory, few of them; nothing that was there is turned.
-/
import Derived.Test.YtepnijocfilgoaaDoorDrawKnow
namespace Go.Proofs.YtepnijocfilgoaaDoor
open Go.RowKit

/-- Keys and seals that were drawn. -/
structure Drawn (W : World) (a1 : Option Addr) (ks : List Int) (a2 : Option Addr) (xs : List Sl) (w : World) : Prop where
  keys : IRow w a1 ks
  seals : SRow w a2 xs
  few1 : ks.length ≤ 10
  few2 : xs.length ≤ 8
  below : Below W.heap.size W w
theorem Drawn.later {W : World} {a1 a2 : Option Addr} {ks : List Int} {xs : List Sl} {w w' : World} (h : Drawn W a1 ks a2 xs w) (hb : Below w.heap.size w w') : Drawn W a1 ks a2 xs w' :=
  ⟨h.keys.later hb, h.seals.later hb, h.few1, h.few2, h.below.trans (hb.mono h.below.size)⟩

set_option maxRecDepth 100000 in
set_option maxHeartbeats 1000000 in
theorem drawKeys_any (a : Option Addr) (len cap : Nat) (w : World) (h : Code w a len cap) :
    Calls Tryd.prog 25 #[.slice a len cap] w fun r w' => ∃ (a1 : Option Addr) (c1 : Nat) (ks : List Int) (a2 : Option Addr) (c2 : Nat) (xs : List Sl), r = .returned (.tuple #[.slice a1 ks.length c1, .slice a2 xs.length c2]) ∧ Drawn w a1 ks a2 xs w' := by
  go_enter Tryd.func25, Tryd.ntmps25
  go_wp2_with fail
  refine (l6Open_any a len cap w h).mono ?_
  rintro r w1 ⟨rfl, ⟨sv, L, R1⟩, b1⟩
  have HR : Hid (Rd w1 w.heap.size sv L 0 ∧ Below w.heap.size w w1) := ⟨R1, b1⟩
  clear h R1 b1
  go_wp2_with fail
  refine (l71Keys_any w.heap.size sv L w1 HR.out.1).mono ?_
  rintro r w2 ⟨v1, ks, q, rfl, hk, hq0, hq1, D2⟩
  have H2 : Hid (Dr w1 w.heap.size sv L 3 1 w2 q v1 ks.length (ks.map (Value.int .i64))) := D2
  clear D2
  go_wp2_with fail
  refine (l71Seals_any w.heap.size sv L q w2 H2.out.rd (by omega) (by omega)).mono ?_
  rintro r w3 ⟨v2, xs, q2, rfl, hx, hq20, hq21, D3⟩
  have O3 : OwnI w3 w1.heap.size v1 ks := owns_grew H2.out.own D3.grew H2.out.hbr
  obtain ⟨a1, c1, rfl, r1⟩ := O3.row
  obtain ⟨a2, c2, rfl, _, r2, _⟩ := own_row D3.own
  have B3 : Below w.heap.size w w3 := HR.out.2.trans (((H2.out.grew.below (Nat.le_refl _) HR.out.2.size)).trans (D3.grew.below (Nat.le_refl _) (Nat.le_trans HR.out.2.size H2.out.grew.size)))
  have HD : Hid (Drawn w a1 ks a2 xs w3) := ⟨r1, r2, by omega, hx, B3⟩
  clear D3 O3 r1 r2 B3 H2 HR
  go_wp2_with fail
  go_ret2
  exact ⟨a1, c1, ks, a2, c2, xs, rfl, HD.out⟩

end Go.Proofs.YtepnijocfilgoaaDoor
