/- Contracts of the document's answers for layer 7: texts. -/
import Derived.Test.YtmkpacbalnkdbaaRef07Right
namespace Go.Proofs.Ytmkpacbalnkdbaa.Ci
set_option maxRecDepth 100000
open Go.ChangeShapes Go.WideShapes Go.ChangeAt Go.RowKit
open Dec Words V4 V6 Ad
set_option linter.unusedVariables false
theorem cat3 (a b : List UInt8) : Value.string (⟨a.toArray⟩ ++ ⟨#[47]⟩ ++ ⟨b.toArray⟩) = .string ⟨(a ++ 47 :: b).toArray⟩ := by
  show Value.string (⟨a.toArray⟩ ++ ⟨[47].toArray⟩ ++ ⟨b.toArray⟩) = _
  simp only [ByteArray.mk_append_mk]
  simp
set_option maxHeartbeats 4000000 in
theorem rtextN_any (n : Net) (w : World) (hn : n.ok) :
    Calls Try.prog 6 #[.agg #[.bool n.a.v6, .int .u64 n.a.hi, .int .u64 n.a.lo, .int .i64 n.n]] w fun e w' => e = .returned (.string ⟨(textN n).toArray⟩) ∧ Below w.heap.size w w' := by
  have RI := Lib.hid (fun W => rrightN_any n W hn)
  cases hr : rightN n
  · have E : Hid (textN n = []) := Lib.hid (textN_no hr)
    rw [hr] at RI
    clear hr
    go_enter Try.func6, Try.ntmps6
    go_wp2_with fail
    refine (RI.out _).mono ?_
    rintro e w1 ⟨rfl, hb1⟩
    go_wp2_with fail
    go_ret
    exact ⟨ret_s (a := []) E.out.symm, ((Below.refl _ _).alloc (Nat.le_refl _) _).trans (hb1.mono (by simp))⟩
  · have E : Hid (textA n.a ++ 47 :: text n.n = textN n) := Lib.hid (by unfold textN; rw [if_pos hr])
    rw [hr] at RI
    clear hr
    have K1 : Hid (∀ W, ST n w W → Calls Try.prog 15 #[.agg #[.bool n.a.v6, .int .u64 n.a.hi, .int .u64 n.a.lo]] W fun e w' => e = .returned (.string ⟨(textA n.a).toArray⟩) ∧ ST n w w') := Lib.hid fun W h => (rtextA_any n.a W hn.1).mono fun e w' ⟨he, hb⟩ => ⟨he, ST.of (low_trans h.2.2.2.2 hb)⟩
    have K2 : Hid (∀ W, ST n w W → Calls Try.prog 16 #[.int .i64 n.n] W fun e w' => e = .returned (.string ⟨(text n.n).toArray⟩) ∧ ST n w w') := Lib.hid fun W h => (rtext_any n.n W hn.2.1 hn.2.2).mono fun e w' ⟨he, hb⟩ => ⟨he, ST.of (low_trans h.2.2.2.2 hb)⟩
    have JD : Hid (∀ W, ST n w W → ST n w W.drew) := Lib.hid fun W h => ST.of (low_drewN h.2.2.2.2 1)
    have JA : Hid (∀ W o, ST n w W → ST n w (W.alloc o)) := Lib.hid fun W o h => ST.of (Below.alloc h.2.2.2.2 h.2.2.2.2.size o)
    have tl1 := textA_len n.a
    have tl2 := text_len n.n hn.2.1 hn.2.2
    have hc1 : ∀ W, (Op.stringOp .add (⟨(textA n.a).toArray⟩ : ByteArray) ⟨#[47]⟩).run Try.prog W = .ok (.string (⟨(textA n.a).toArray⟩ ++ ⟨#[47]⟩)) W :=
      fun W => run_string_add_sum W _ _ (by rw [size_mk]; show _ + 1 ≤ _; omega)
    have hc2 : ∀ W, (Op.stringOp .add ((⟨(textA n.a).toArray⟩ : ByteArray) ++ ⟨#[47]⟩) ⟨(text n.n).toArray⟩).run Try.prog W = .ok (.string (⟨(textA n.a).toArray⟩ ++ ⟨#[47]⟩ ++ ⟨(text n.n).toArray⟩)) W :=
      fun W => run_string_add_sum W _ _ (by rw [ByteArray.size_append, size_mk (textA n.a), size_mk (text n.n)]; show _ + 1 + _ ≤ _; omega)
    clear tl1 tl2
    go_enter Try.func6, Try.ntmps6
    go_wp2_with fail
    refine (RI.out _).mono ?_
    rintro e w1 ⟨rfl, hb1⟩
    have hS1 : ST n w w1 := ST.of hb1
    clear hb1 RI
    obtain ⟨k0, k1, k2, k3, hs⟩ := id hS1
    go_wp2_with fail
    go_region_with (first
      | (go_at_call 15; (with_reducible refine (K1.out _ (by (repeat (first | assumption | refine JD.out _ ?_ | refine JA.out _ _ ?_)))).mono ?_); rintro e w9 ⟨rfl, hkw⟩; obtain ⟨k0, k1, k2, k3, hs⟩ := id hkw)
      | (go_at_call 16; (with_reducible refine (K2.out _ (by (repeat (first | assumption | refine JD.out _ ?_ | refine JA.out _ _ ?_)))).mono ?_); rintro e w9 ⟨rfl, hkw⟩; obtain ⟨k0, k1, k2, k3, hs⟩ := id hkw))
    all_goals clear K1 K2 JD JA hc1 hc2
    all_goals go_wp2_with fail
    all_goals go_ret
    all_goals exact ⟨by show Ending.returned (.string (⟨(textA n.a).toArray⟩ ++ ⟨#[47]⟩ ++ ⟨(text n.n).toArray⟩)) = _; rw [cat3, E.out], ((Below.refl _ _).alloc (Nat.le_refl _) _).trans (hs.mono (by simp))⟩
end Go.Proofs.Ytmkpacbalnkdbaa.Ci
