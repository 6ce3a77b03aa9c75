/- Contracts of the document's answers for layer 6: what needs no text. -/
import Derived.Test.YtdlbhcakfciagaaAddrAll
import Derived.Test.YtdlbhcakfciagaaRef05All
namespace Go.Proofs.Ytdlbhcakfciagaa.Ad
set_option maxRecDepth 100000
open Go.ChangeShapes Go.WideShapes Go.ChangeAt Go.RowKit
set_option linter.unusedVariables false
theorem rright_any (a : Adr) (w : World) (ha : a.ok) :
    Calls Try.prog 34 #[.agg #[.bool a.v6, .int .u64 a.hi, .int .u64 a.lo]] w fun e w' => e = .returned (.bool (rightA a)) ∧ Below w.heap.size w w' := by
  obtain ⟨v, hi, lo⟩ := a
  obtain ⟨h1, h2⟩ := ha
  simp only [] at h1 h2
  by_cases h0 : hi = 0
  · subst h0
    cases v
    · have E : Hid (rightA ⟨false, 0, lo⟩ = decide (lo < 4294967296)) := Lib.hid (by simp [rightA])
      go_enter Try.func34, Try.ntmps34
      go_wp2
      go_ret
      exact ⟨ret_b (by rw [E.out, Bool.eq_iff_iff, decide_eq_true_eq, decide_eq_true_eq]; omega), (Below.refl _ _).alloc (Nat.le_refl _) _⟩
    · have E : Hid (rightA ⟨true, 0, lo⟩ = !decide (lo / 4294967296 = 65535)) := Lib.hid (by simp [rightA, stands])
      go_enter Try.func34, Try.ntmps34
      go_wp2
      go_ret
      exact ⟨ret_b (by rw [E.out, Bool.eq_iff_iff, bne_iff_ne, Bool.not_eq_true', decide_eq_false_iff_not]; omega), (Below.refl _ _).alloc (Nat.le_refl _) _⟩
  · have e1 : ((hi : Int) == 0) = false := by rw [beq_eq_false_iff_ne]; omega
    have e2 : ((hi : Int) != 0) = true := by rw [bne_iff_ne]; omega
    cases v
    · have E : Hid (rightA ⟨false, hi, lo⟩ = false) := Lib.hid (by simp [rightA, h0])
      clear h0
      go_enter Try.func34, Try.ntmps34
      go_wp2
      go_ret
      exact ⟨ret_b E.out.symm, (Below.refl _ _).alloc (Nat.le_refl _) _⟩
    · have E : Hid (rightA ⟨true, hi, lo⟩ = true) := Lib.hid (by simp [rightA, stands, h0])
      clear h0
      go_enter Try.func34, Try.ntmps34
      go_wp2
      go_ret
      exact ⟨ret_b E.out.symm, (Below.refl _ _).alloc (Nat.le_refl _) _⟩
end Go.Proofs.Ytdlbhcakfciagaa.Ad
/- Contracts of the document's answers for layer 6: texts. -/
namespace Go.Proofs.Ytdlbhcakfciagaa.Ad
set_option maxRecDepth 100000
open Go.ChangeShapes Go.WideShapes Go.ChangeAt Go.RowKit
open Dec Words V4 V6
set_option linter.unusedVariables false
set_option maxHeartbeats 1000000 in
theorem rtextA_any (a : Adr) (w : World) (ha : a.ok) :
    Calls Try.prog 40 #[.agg #[.bool a.v6, .int .u64 a.hi, .int .u64 a.lo]] w fun e w' => e = .returned (.string ⟨(textA a).toArray⟩) ∧ Below w.heap.size w w' := by
  obtain ⟨v, hi, lo⟩ := a
  obtain ⟨h1, h2⟩ := ha
  simp only [] at h1 h2
  cases v
  · cases hr : rightA ⟨false, hi, lo⟩
    · have E : Hid (textA ⟨false, hi, lo⟩ = []) := Lib.hid (textA_no hr)
      have RI := Lib.hid (fun W => rright_any ⟨false, hi, lo⟩ W ⟨h1, h2⟩)
      rw [hr] at RI
      clear hr
      go_enter Try.func40, Try.ntmps40
      go_wp2_with fail
      refine (RI.out _).mono ?_
      rintro e w1 ⟨rfl, hb1⟩
      go_wp2_with fail
      go_ret
      exact ⟨ret_s (a := []) E.out.symm, ((Below.refl _ _).alloc (Nat.le_refl _) _).trans (hb1.mono (by simp))⟩
    · have RI := Lib.hid (fun W => rright_any ⟨false, hi, lo⟩ W ⟨h1, h2⟩)
      have hlo : lo < 4294967296 := by
        unfold rightA at hr
        simp only [Bool.false_eq_true, if_false, Bool.and_eq_true, decide_eq_true_eq] at hr
        exact hr.2
      have E : Hid (textA ⟨false, hi, lo⟩ = text4 lo) := Lib.hid (by unfold textA; rw [hr]; rfl)
      rw [hr] at RI
      clear hr
      go_enter Try.func40, Try.ntmps40
      go_wp2_with fail
      refine (RI.out _).mono ?_
      rintro e w1 ⟨rfl, hb1⟩
      obtain ⟨hc, hf⟩ := old hb1
      go_wp2_with fail
      refine (rtext4_any lo _ hlo).mono ?_
      rintro e w2 ⟨rfl, hb2⟩
      go_wp2_with fail
      go_ret
      exact ⟨ret_s E.out.symm, ((Below.refl _ _).alloc (Nat.le_refl _) _).trans ((low_trans hb1 hb2).mono (by simp))⟩
  · cases hr : rightA ⟨true, hi, lo⟩
    · have E : Hid (textA ⟨true, hi, lo⟩ = []) := Lib.hid (textA_no hr)
      have RI := Lib.hid (fun W => rright_any ⟨true, hi, lo⟩ W ⟨h1, h2⟩)
      rw [hr] at RI
      clear hr
      go_enter Try.func40, Try.ntmps40
      go_wp2_with fail
      refine (RI.out _).mono ?_
      rintro e w1 ⟨rfl, hb1⟩
      go_wp2_with fail
      go_ret
      exact ⟨ret_s (a := []) E.out.symm, ((Below.refl _ _).alloc (Nat.le_refl _) _).trans (hb1.mono (by simp))⟩
    · have RI := Lib.hid (fun W => rright_any ⟨true, hi, lo⟩ W ⟨h1, h2⟩)
      have E : Hid (textA ⟨true, hi, lo⟩ = text6 hi lo) := Lib.hid (by unfold textA; rw [hr]; rfl)
      rw [hr] at RI
      clear hr
      go_enter Try.func40, Try.ntmps40
      go_wp2_with fail
      refine (RI.out _).mono ?_
      rintro e w1 ⟨rfl, hb1⟩
      obtain ⟨hc, hf⟩ := old hb1
      go_wp2_with fail
      refine (rtext6_any hi lo _ h1 h2).mono ?_
      rintro e w2 ⟨rfl, hb2⟩
      go_wp2_with fail
      go_ret
      exact ⟨ret_s E.out.symm, ((Below.refl _ _).alloc (Nat.le_refl _) _).trans ((low_trans hb1 hb2).mono (by simp))⟩
end Go.Proofs.Ytdlbhcakfciagaa.Ad
