/- Contracts of the document's answers for layer 6: what needs no text. -/
import Derived.Test.YtboojhpconongaaDoorAddrAll
import Derived.Test.YtboojhpconongaaDoorRef05All
namespace Go.Proofs.YtboojhpconongaaDoor.Ad
set_option maxRecDepth 100000
open Go.ChangeShapes Go.WideShapes Go.ChangeAt Go.RowKit
set_option linter.unusedVariables false
theorem rv6_any (hi lo : Nat) (w : World) (h1 : hi < 18446744073709551616) (h2 : lo < 18446744073709551616) :
    Calls Tryd.prog 21 #[.int .u64 hi, .int .u64 lo] w fun e w' => e = .returned (.agg #[.bool (v6A hi lo).v6, .int .u64 (v6A hi lo).hi, .int .u64 (v6A hi lo).lo]) ∧ Below w.heap.size w w' := by
  by_cases h0 : hi = 0
  · by_cases hl : lo / 4294967296 = 65535
    · have E : v6A hi lo = ⟨false, 0, lo % 4294967296⟩ := v6A_yes (by rw [stands_iff]; exact ⟨h0, hl⟩)
      rw [E]
      clear E
      subst h0
      have e1 : ((lo : Int) / 4294967296 == 65535) = true := by rw [beq_iff_eq]; omega
      go_enter Tryd.func21, Tryd.ntmps21
      go_wp2
      exact bodyPost_ret (v := .agg #[.bool false, .int .u64 0, .int .u64 ((lo : Int) % 4294967296)]) (by simp [results, Tryd.results21, go_sem]) rfl ⟨by simp, (Below.refl _ _).alloc (Nat.le_refl _) _⟩
    · have E : v6A hi lo = ⟨true, hi, lo⟩ := v6A_no (by rw [← Bool.not_eq_true, stands_iff]; exact fun e => hl e.2)
      rw [E]
      clear E
      subst h0
      have e1 : ((lo : Int) / 4294967296 == 65535) = false := by rw [beq_eq_false_iff_ne]; omega
      go_enter Tryd.func21, Tryd.ntmps21
      go_wp2
      exact bodyPost_ret (v := .agg #[.bool true, .int .u64 0, .int .u64 lo]) (by simp [results, Tryd.results21, go_sem]) rfl ⟨rfl, (Below.refl _ _).alloc (Nat.le_refl _) _⟩
  · have E : v6A hi lo = ⟨true, hi, lo⟩ := v6A_no (by rw [← Bool.not_eq_true, stands_iff]; exact fun e => h0 e.1)
    rw [E]
    clear E
    have e1 : ((hi : Int) == 0) = false := by rw [beq_eq_false_iff_ne]; omega
    go_enter Tryd.func21, Tryd.ntmps21
    go_wp2
    exact bodyPost_ret (v := .agg #[.bool true, .int .u64 hi, .int .u64 lo]) (by simp [results, Tryd.results21, go_sem]) rfl ⟨rfl, (Below.refl _ _).alloc (Nat.le_refl _) _⟩
theorem rright_any (a : Adr) (w : World) (ha : a.ok) :
    Calls Tryd.prog 23 #[.agg #[.bool a.v6, .int .u64 a.hi, .int .u64 a.lo]] w fun e w' => e = .returned (.bool (rightA a)) ∧ Below w.heap.size w w' := by
  obtain ⟨v, hi, lo⟩ := a
  obtain ⟨h1, h2⟩ := ha
  simp only [] at h1 h2
  by_cases h0 : hi = 0
  · subst h0
    cases v
    · have E : Hid (rightA ⟨false, 0, lo⟩ = decide (lo < 4294967296)) := Lib.hid (by simp [rightA])
      go_enter Tryd.func23, Tryd.ntmps23
      go_wp2
      go_ret
      exact ⟨ret_b (by rw [E.out, Bool.eq_iff_iff, decide_eq_true_eq, decide_eq_true_eq]; omega), (Below.refl _ _).alloc (Nat.le_refl _) _⟩
    · have E : Hid (rightA ⟨true, 0, lo⟩ = !decide (lo / 4294967296 = 65535)) := Lib.hid (by simp [rightA, stands])
      go_enter Tryd.func23, Tryd.ntmps23
      go_wp2
      go_ret
      exact ⟨ret_b (by rw [E.out, Bool.eq_iff_iff, bne_iff_ne, Bool.not_eq_true', decide_eq_false_iff_not]; omega), (Below.refl _ _).alloc (Nat.le_refl _) _⟩
  · have e1 : ((hi : Int) == 0) = false := by rw [beq_eq_false_iff_ne]; omega
    have e2 : ((hi : Int) != 0) = true := by rw [bne_iff_ne]; omega
    cases v
    · have E : Hid (rightA ⟨false, hi, lo⟩ = false) := Lib.hid (by simp [rightA, h0])
      clear h0
      go_enter Tryd.func23, Tryd.ntmps23
      go_wp2
      go_ret
      exact ⟨ret_b E.out.symm, (Below.refl _ _).alloc (Nat.le_refl _) _⟩
    · have E : Hid (rightA ⟨true, hi, lo⟩ = true) := Lib.hid (by simp [rightA, stands, h0])
      clear h0
      go_enter Tryd.func23, Tryd.ntmps23
      go_wp2
      go_ret
      exact ⟨ret_b E.out.symm, (Below.refl _ _).alloc (Nat.le_refl _) _⟩
set_option maxHeartbeats 2000000 in
theorem rcompare_any (a b : Adr) (w : World) (ha : a.ok) (hb : b.ok) :
    Calls Tryd.prog 31 #[.agg #[.bool a.v6, .int .u64 a.hi, .int .u64 a.lo], .agg #[.bool b.v6, .int .u64 b.hi, .int .u64 b.lo]] w fun e w' => e = .returned (.int .i64 (cmpA a b)) ∧ Below w.heap.size w w' := by
  obtain ⟨a1, a2⟩ := ha
  obtain ⟨b1, b2⟩ := hb
  cases hs : sameA a b
  · by_cases hv : a.v6 = b.v6
    · have EQ := fun W => eqAdr a b W
      rw [hs] at EQ
      obtain ⟨v1, v2, v3⟩ := bby hv
      by_cases hh : a.hi = b.hi
      · obtain ⟨i1, i2⟩ := iiy hh
        by_cases hl : a.lo < b.lo
        · have E : Hid (cmpA a b = -1) := Lib.hid (by unfold cmpA lessA; rw [hs, if_pos hv, if_pos hh, decide_eq_true hl]; rfl)
          clear hs hv hh
          go_enter Tryd.func31, Tryd.ntmps31
          go_wp2
          go_ret
          exact ⟨ret_i E.out.symm, two_low _ _ _⟩
        · have E : Hid (cmpA a b = 1) := Lib.hid (by unfold cmpA lessA; rw [hs, if_pos hv, if_pos hh, decide_eq_false hl]; rfl)
          clear hs hv hh
          go_enter Tryd.func31, Tryd.ntmps31
          go_wp2
          go_ret
          exact ⟨ret_i E.out.symm, two_low _ _ _⟩
      · obtain ⟨i1, i2⟩ := iin hh
        by_cases hl : a.hi < b.hi
        · have E : Hid (cmpA a b = -1) := Lib.hid (by unfold cmpA lessA; rw [hs, if_pos hv, if_neg hh, decide_eq_true hl]; rfl)
          clear hs hv hh
          go_enter Tryd.func31, Tryd.ntmps31
          go_wp2
          go_ret
          exact ⟨ret_i E.out.symm, two_low _ _ _⟩
        · have E : Hid (cmpA a b = 1) := Lib.hid (by unfold cmpA lessA; rw [hs, if_pos hv, if_neg hh, decide_eq_false hl]; rfl)
          clear hs hv hh
          go_enter Tryd.func31, Tryd.ntmps31
          go_wp2
          go_ret
          exact ⟨ret_i E.out.symm, two_low _ _ _⟩
    · obtain ⟨v, hi, lo⟩ := a
      obtain ⟨v', hi', lo'⟩ := b
      simp only [] at a1 a2 b1 b2
      cases v
      · cases v'
        · exact absurd rfl hv
        · have EQ := fun W => eqAdr ⟨false, hi, lo⟩ ⟨true, hi', lo'⟩ W
          rw [hs] at EQ
          have E : Hid (cmpA ⟨false, hi, lo⟩ ⟨true, hi', lo'⟩ = -1) := Lib.hid (by unfold cmpA; rw [hs]; rfl)
          clear hs hv
          go_enter Tryd.func31, Tryd.ntmps31
          go_wp2
          all_goals go_ret
          all_goals exact ⟨ret_i E.out.symm, two_low _ _ _⟩
      · cases v'
        · have EQ := fun W => eqAdr ⟨true, hi, lo⟩ ⟨false, hi', lo'⟩ W
          rw [hs] at EQ
          have E : Hid (cmpA ⟨true, hi, lo⟩ ⟨false, hi', lo'⟩ = 1) := Lib.hid (by unfold cmpA; rw [hs]; rfl)
          clear hs hv
          go_enter Tryd.func31, Tryd.ntmps31
          go_wp2
          all_goals go_ret
          all_goals exact ⟨ret_i E.out.symm, two_low _ _ _⟩
        · exact absurd rfl hv
  · have EQ := fun W => eqAdr a b W
    rw [hs] at EQ
    have E : Hid (cmpA a b = 0) := Lib.hid (by unfold cmpA; rw [hs]; rfl)
    clear hs
    go_enter Tryd.func31, Tryd.ntmps31
    go_wp2
    go_ret
    exact ⟨ret_i E.out.symm, two_low _ _ _⟩
end Go.Proofs.YtboojhpconongaaDoor.Ad
/- Contracts of the document's answers for layer 6: texts. -/
namespace Go.Proofs.YtboojhpconongaaDoor.Ad
set_option maxRecDepth 100000
open Go.ChangeShapes Go.WideShapes Go.ChangeAt Go.RowKit
open Dec Words V4 V6
set_option linter.unusedVariables false
set_option maxHeartbeats 1000000 in
theorem rtextA_any (a : Adr) (w : World) (ha : a.ok) :
    Calls Tryd.prog 26 #[.agg #[.bool a.v6, .int .u64 a.hi, .int .u64 a.lo]] w fun e w' => e = .returned (.string ⟨(textA a).toArray⟩) ∧ Below w.heap.size w w' := by
  obtain ⟨v, hi, lo⟩ := a
  obtain ⟨h1, h2⟩ := ha
  simp only [] at h1 h2
  cases v
  · cases hr : rightA ⟨false, hi, lo⟩
    · have E : Hid (textA ⟨false, hi, lo⟩ = []) := Lib.hid (textA_no hr)
      have RI := Lib.hid (fun W => rright_any ⟨false, hi, lo⟩ W ⟨h1, h2⟩)
      rw [hr] at RI
      clear hr
      go_enter Tryd.func26, Tryd.ntmps26
      go_wp2_with fail
      refine (RI.out _).mono ?_
      rintro e w1 ⟨rfl, hb1⟩
      go_wp2_with fail
      go_ret
      exact ⟨ret_s (a := []) E.out.symm, ((Below.refl _ _).alloc (Nat.le_refl _) _).trans (hb1.mono (by simp))⟩
    · have RI := Lib.hid (fun W => rright_any ⟨false, hi, lo⟩ W ⟨h1, h2⟩)
      have hlo : lo < 4294967296 := by
        unfold rightA at hr
        simp only [Bool.false_eq_true, if_false, Bool.and_eq_true, decide_eq_true_eq] at hr
        exact hr.2
      have E : Hid (textA ⟨false, hi, lo⟩ = text4 lo) := Lib.hid (by unfold textA; rw [hr]; rfl)
      rw [hr] at RI
      clear hr
      go_enter Tryd.func26, Tryd.ntmps26
      go_wp2_with fail
      refine (RI.out _).mono ?_
      rintro e w1 ⟨rfl, hb1⟩
      obtain ⟨hc, hf⟩ := old hb1
      go_wp2_with fail
      refine (rtext4_any lo _ hlo).mono ?_
      rintro e w2 ⟨rfl, hb2⟩
      go_wp2_with fail
      go_ret
      exact ⟨ret_s E.out.symm, ((Below.refl _ _).alloc (Nat.le_refl _) _).trans ((low_trans hb1 hb2).mono (by simp))⟩
  · cases hr : rightA ⟨true, hi, lo⟩
    · have E : Hid (textA ⟨true, hi, lo⟩ = []) := Lib.hid (textA_no hr)
      have RI := Lib.hid (fun W => rright_any ⟨true, hi, lo⟩ W ⟨h1, h2⟩)
      rw [hr] at RI
      clear hr
      go_enter Tryd.func26, Tryd.ntmps26
      go_wp2_with fail
      refine (RI.out _).mono ?_
      rintro e w1 ⟨rfl, hb1⟩
      go_wp2_with fail
      go_ret
      exact ⟨ret_s (a := []) E.out.symm, ((Below.refl _ _).alloc (Nat.le_refl _) _).trans (hb1.mono (by simp))⟩
    · have RI := Lib.hid (fun W => rright_any ⟨true, hi, lo⟩ W ⟨h1, h2⟩)
      have E : Hid (textA ⟨true, hi, lo⟩ = text6 hi lo) := Lib.hid (by unfold textA; rw [hr]; rfl)
      rw [hr] at RI
      clear hr
      go_enter Tryd.func26, Tryd.ntmps26
      go_wp2_with fail
      refine (RI.out _).mono ?_
      rintro e w1 ⟨rfl, hb1⟩
      obtain ⟨hc, hf⟩ := old hb1
      go_wp2_with fail
      refine (rtext6_any hi lo _ h1 h2).mono ?_
      rintro e w2 ⟨rfl, hb2⟩
      go_wp2_with fail
      go_ret
      exact ⟨ret_s E.out.symm, ((Below.refl _ _).alloc (Nat.le_refl _) _).trans ((low_trans hb1 hb2).mono (by simp))⟩
end Go.Proofs.YtboojhpconongaaDoor.Ad
