/- Contracts of the document's answers for layer 6: what needs no text. -/
import Derived.Test.YtlnbjkbbnhjkgaaAddrAll
import Derived.Test.YtlnbjkbbnhjkgaaRef05All
namespace Go.Proofs.Ytlnbjkbbnhjkgaa.Ad
set_option maxRecDepth 100000
open Go.ChangeShapes Go.WideShapes Go.ChangeAt Go.RowKit
set_option linter.unusedVariables false
theorem rright_any (a : Adr) (w : World) (ha : a.ok) :
    Calls Try.prog 41 #[.agg #[.bool a.v6, .int .u64 a.hi, .int .u64 a.lo]] w fun e w' => e = .returned (.bool (rightA a)) ∧ Below w.heap.size w w' := by
  obtain ⟨v, hi, lo⟩ := a
  obtain ⟨h1, h2⟩ := ha
  simp only [] at h1 h2
  by_cases h0 : hi = 0
  · subst h0
    cases v
    · have E : Hid (rightA ⟨false, 0, lo⟩ = decide (lo < 4294967296)) := Lib.hid (by simp [rightA])
      go_enter Try.func41, Try.ntmps41
      go_wp2
      go_ret
      exact ⟨ret_b (by rw [E.out, Bool.eq_iff_iff, decide_eq_true_eq, decide_eq_true_eq]; omega), (Below.refl _ _).alloc (Nat.le_refl _) _⟩
    · have E : Hid (rightA ⟨true, 0, lo⟩ = !decide (lo / 4294967296 = 65535)) := Lib.hid (by simp [rightA, stands])
      go_enter Try.func41, Try.ntmps41
      go_wp2
      go_ret
      exact ⟨ret_b (by rw [E.out, Bool.eq_iff_iff, bne_iff_ne, Bool.not_eq_true', decide_eq_false_iff_not]; omega), (Below.refl _ _).alloc (Nat.le_refl _) _⟩
  · have e1 : ((hi : Int) == 0) = false := by rw [beq_eq_false_iff_ne]; omega
    have e2 : ((hi : Int) != 0) = true := by rw [bne_iff_ne]; omega
    cases v
    · have E : Hid (rightA ⟨false, hi, lo⟩ = false) := Lib.hid (by simp [rightA, h0])
      clear h0
      go_enter Try.func41, Try.ntmps41
      go_wp2
      go_ret
      exact ⟨ret_b E.out.symm, (Below.refl _ _).alloc (Nat.le_refl _) _⟩
    · have E : Hid (rightA ⟨true, hi, lo⟩ = true) := Lib.hid (by simp [rightA, stands, h0])
      clear h0
      go_enter Try.func41, Try.ntmps41
      go_wp2
      go_ret
      exact ⟨ret_b E.out.symm, (Below.refl _ _).alloc (Nat.le_refl _) _⟩
set_option maxHeartbeats 2000000 in
theorem rcompare_any (a b : Adr) (w : World) (ha : a.ok) (hb : b.ok) :
    Calls Try.prog 42 #[.agg #[.bool a.v6, .int .u64 a.hi, .int .u64 a.lo], .agg #[.bool b.v6, .int .u64 b.hi, .int .u64 b.lo]] w fun e w' => e = .returned (.int .i64 (cmpA a b)) ∧ Below w.heap.size w w' := by
  obtain ⟨a1, a2⟩ := ha
  obtain ⟨b1, b2⟩ := hb
  cases hs : sameA a b
  · by_cases hv : a.v6 = b.v6
    · have EQ := fun W => eqAdr a b W
      rw [hs] at EQ
      obtain ⟨v1, v2, v3⟩ := bby hv
      by_cases hh : a.hi = b.hi
      · obtain ⟨i1, i2⟩ := iiy hh
        by_cases hl : a.lo < b.lo
        · have E : Hid (cmpA a b = -1) := Lib.hid (by unfold cmpA lessA; rw [hs, if_pos hv, if_pos hh, decide_eq_true hl]; rfl)
          clear hs hv hh
          go_enter Try.func42, Try.ntmps42
          go_wp2
          go_ret
          exact ⟨ret_i E.out.symm, two_low _ _ _⟩
        · have E : Hid (cmpA a b = 1) := Lib.hid (by unfold cmpA lessA; rw [hs, if_pos hv, if_pos hh, decide_eq_false hl]; rfl)
          clear hs hv hh
          go_enter Try.func42, Try.ntmps42
          go_wp2
          go_ret
          exact ⟨ret_i E.out.symm, two_low _ _ _⟩
      · obtain ⟨i1, i2⟩ := iin hh
        by_cases hl : a.hi < b.hi
        · have E : Hid (cmpA a b = -1) := Lib.hid (by unfold cmpA lessA; rw [hs, if_pos hv, if_neg hh, decide_eq_true hl]; rfl)
          clear hs hv hh
          go_enter Try.func42, Try.ntmps42
          go_wp2
          go_ret
          exact ⟨ret_i E.out.symm, two_low _ _ _⟩
        · have E : Hid (cmpA a b = 1) := Lib.hid (by unfold cmpA lessA; rw [hs, if_pos hv, if_neg hh, decide_eq_false hl]; rfl)
          clear hs hv hh
          go_enter Try.func42, Try.ntmps42
          go_wp2
          go_ret
          exact ⟨ret_i E.out.symm, two_low _ _ _⟩
    · obtain ⟨v, hi, lo⟩ := a
      obtain ⟨v', hi', lo'⟩ := b
      simp only [] at a1 a2 b1 b2
      cases v
      · cases v'
        · exact absurd rfl hv
        · have EQ := fun W => eqAdr ⟨false, hi, lo⟩ ⟨true, hi', lo'⟩ W
          rw [hs] at EQ
          have E : Hid (cmpA ⟨false, hi, lo⟩ ⟨true, hi', lo'⟩ = -1) := Lib.hid (by unfold cmpA; rw [hs]; rfl)
          clear hs hv
          go_enter Try.func42, Try.ntmps42
          go_wp2
          all_goals go_ret
          all_goals exact ⟨ret_i E.out.symm, two_low _ _ _⟩
      · cases v'
        · have EQ := fun W => eqAdr ⟨true, hi, lo⟩ ⟨false, hi', lo'⟩ W
          rw [hs] at EQ
          have E : Hid (cmpA ⟨true, hi, lo⟩ ⟨false, hi', lo'⟩ = 1) := Lib.hid (by unfold cmpA; rw [hs]; rfl)
          clear hs hv
          go_enter Try.func42, Try.ntmps42
          go_wp2
          all_goals go_ret
          all_goals exact ⟨ret_i E.out.symm, two_low _ _ _⟩
        · exact absurd rfl hv
  · have EQ := fun W => eqAdr a b W
    rw [hs] at EQ
    have E : Hid (cmpA a b = 0) := Lib.hid (by unfold cmpA; rw [hs]; rfl)
    clear hs
    go_enter Try.func42, Try.ntmps42
    go_wp2
    go_ret
    exact ⟨ret_i E.out.symm, two_low _ _ _⟩
end Go.Proofs.Ytlnbjkbbnhjkgaa.Ad
/- Contracts of the document's answers for layer 6: texts. -/
namespace Go.Proofs.Ytlnbjkbbnhjkgaa.Ad
set_option maxRecDepth 100000
open Go.ChangeShapes Go.WideShapes Go.ChangeAt Go.RowKit
open Dec Words V4 V6
set_option linter.unusedVariables false
end Go.Proofs.Ytlnbjkbbnhjkgaa.Ad
