/-
  The text of a word in form, cut by the specification: its first line, each seal's text, an empty piece; the first line's four numbers. Nothing of the program is walked here.
-/
import Derived.Test.YtopikapamfmalaaGreatDoorMsgReadMath
namespace Go.Proofs.YtopikapamfmalaaGreatDoor

theorem cut_lines : ∀ (xs : List Sl) (acc : List ByteArray), (∀ s ∈ xs, s.ok = true) → (linesL [] xs).foldl (cutStep 10) (acc ++ [⟨#[]⟩]) = acc ++ xs.map Sl.text ++ [⟨#[]⟩]
  | [], acc, _ => by simp [linesL]
  | s :: xs, acc, hok => by
    have hs := hok s List.mem_cons_self
    rw [linesL_cons, cutStep_at _ _ _ (text_line hs), cut_lines xs _ (fun u hu => hok u (List.mem_cons_of_mem _ hu))]
    simp
theorem cut_msg {m n k f : Int} {xs : List Sl} (h : msgB m n k f xs = true) : cutL 10 (msgT m n k f xs).data.toList = tB (headN m n k f) :: (xs.map Sl.text ++ [⟨#[]⟩]) := by
  have e : (msgT m n k f xs).data.toList = headN m n k f ++ 10 :: linesL [] xs := by rw [msgT_list h, headL_N, List.append_assoc]; rfl
  rw [e, cutL, show [(⟨#[]⟩ : ByteArray)] = [] ++ [⟨#[]⟩] from rfl, cutStep_at _ _ _ (headN_line h), cut_lines xs _ (msg_seals h).2]
  rfl
theorem cut_head {m n k f : Int} {xs : List Sl} (h : msgB m n k f xs = true) : cutL 32 (tB (headN m n k f)).data.toList = [decB m, decB n, decB k, decB f] := by
  obtain ⟨⟨m0, m1⟩, ⟨n0, n1⟩, ⟨k0, k1⟩, ⟨f0, f1⟩⟩ := msg_bounds h
  rw [tB_list, headN, cutL, show [(⟨#[]⟩ : ByteArray)] = [] ++ [⟨#[]⟩] from rfl]
  rw [cutStep_at _ _ _ (digL_blank (by omega) (by omega)), cutStep_at _ _ _ (digL_blank n0 (by omega)), cutStep_at _ _ _ (digL_blank k0 (by omega)), cut_no _ _ (digL_blank f0 (by omega))]
  rfl

end Go.Proofs.YtopikapamfmalaaGreatDoor
