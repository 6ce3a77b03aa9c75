/- Contracts of the document's answers for layer 6: what needs no text. -/
import Derived.Test.YtmkpacbalnkdbaaAddrAll
import Derived.Test.YtmkpacbalnkdbaaRef05All
namespace Go.Proofs.Ytmkpacbalnkdbaa.Ad
set_option maxRecDepth 100000
open Go.ChangeShapes Go.WideShapes Go.ChangeAt Go.RowKit
set_option linter.unusedVariables false
theorem rbits_any (a : Adr) (w : World) :
    Calls Try.prog 22 #[.agg #[.bool a.v6, .int .u64 a.hi, .int .u64 a.lo]] w fun e w' => e = .returned (.int .i64 (bitsA a : Nat)) ∧ Below w.heap.size w w' := by
  unfold bitsA
  cases e : a.v6
  · go_enter Try.func22, Try.ntmps22
    go_wp2
    go_ret
    exact ⟨rfl, (Below.refl _ _).alloc (Nat.le_refl _) _⟩
  · go_enter Try.func22, Try.ntmps22
    go_wp2
    go_ret
    exact ⟨rfl, (Below.refl _ _).alloc (Nat.le_refl _) _⟩
theorem rbits_is (a : Adr) {n : Nat} (h : bitsA a = n) (w : World) :
    Calls Try.prog 22 #[.agg #[.bool a.v6, .int .u64 a.hi, .int .u64 a.lo]] w fun e w' => e = .returned (.int .i64 n) ∧ Below w.heap.size w w' := by
  rw [← h]; exact rbits_any a w
theorem rright_any (a : Adr) (w : World) (ha : a.ok) :
    Calls Try.prog 5 #[.agg #[.bool a.v6, .int .u64 a.hi, .int .u64 a.lo]] w fun e w' => e = .returned (.bool (rightA a)) ∧ Below w.heap.size w w' := by
  obtain ⟨v, hi, lo⟩ := a
  obtain ⟨h1, h2⟩ := ha
  simp only [] at h1 h2
  by_cases h0 : hi = 0
  · subst h0
    cases v
    · have E : Hid (rightA ⟨false, 0, lo⟩ = decide (lo < 4294967296)) := Lib.hid (by simp [rightA])
      go_enter Try.func5, Try.ntmps5
      go_wp2
      go_ret
      exact ⟨ret_b (by rw [E.out, Bool.eq_iff_iff, decide_eq_true_eq, decide_eq_true_eq]; omega), (Below.refl _ _).alloc (Nat.le_refl _) _⟩
    · have E : Hid (rightA ⟨true, 0, lo⟩ = !decide (lo / 4294967296 = 65535)) := Lib.hid (by simp [rightA, stands])
      go_enter Try.func5, Try.ntmps5
      go_wp2
      go_ret
      exact ⟨ret_b (by rw [E.out, Bool.eq_iff_iff, bne_iff_ne, Bool.not_eq_true', decide_eq_false_iff_not]; omega), (Below.refl _ _).alloc (Nat.le_refl _) _⟩
  · have e1 : ((hi : Int) == 0) = false := by rw [beq_eq_false_iff_ne]; omega
    have e2 : ((hi : Int) != 0) = true := by rw [bne_iff_ne]; omega
    cases v
    · have E : Hid (rightA ⟨false, hi, lo⟩ = false) := Lib.hid (by simp [rightA, h0])
      clear h0
      go_enter Try.func5, Try.ntmps5
      go_wp2
      go_ret
      exact ⟨ret_b E.out.symm, (Below.refl _ _).alloc (Nat.le_refl _) _⟩
    · have E : Hid (rightA ⟨true, hi, lo⟩ = true) := Lib.hid (by simp [rightA, stands, h0])
      clear h0
      go_enter Try.func5, Try.ntmps5
      go_wp2
      go_ret
      exact ⟨ret_b E.out.symm, (Below.refl _ _).alloc (Nat.le_refl _) _⟩
set_option maxHeartbeats 1000000 in
theorem rbit_any (a : Adr) (i : Int) (w : World) (ha : a.ok) (hi1 : -9223372036854775808 ≤ i) (hi2 : i ≤ 9223372036854775807) :
    Calls Try.prog 20 #[.agg #[.bool a.v6, .int .u64 a.hi, .int .u64 a.lo], .int .i64 i] w fun e w' => e = .returned (.int .i64 (bitA a i)) ∧ Below w.heap.size w w' := by
  have hbs : bitsA a = 128 ∨ bitsA a = 32 := by unfold bitsA; split <;> omega
  by_cases h0 : i < 0
  · have E : Hid (bitA a i = 0) := Lib.hid (by unfold bitA; rw [if_neg (by omega)])
    go_enter Try.func20, Try.ntmps20
    go_wp2_with fail
    go_ret
    exact ⟨ret_i E.out.symm, (Below.refl _ _).alloc (Nat.le_refl _) _⟩
  · by_cases h1 : (bitsA a : Int) ≤ i
    · have E : Hid (bitA a i = 0) := Lib.hid (by unfold bitA; rw [if_neg (by omega)])
      go_enter Try.func20, Try.ntmps20
      go_wp2_with fail
      refine (rbits_any a _).mono ?_
      rintro e w1 ⟨rfl, hb1⟩
      go_wp2_with fail
      go_ret
      exact ⟨ret_i E.out.symm, ((Below.refl _ _).alloc (Nat.le_refl _) _).trans (hb1.mono (by simp))⟩
    · obtain ⟨k, rfl⟩ := Int.eq_ofNat_of_zero_le (Int.not_lt.1 h0)
      have E : Hid (bitA a k = (bitN a k : Nat)) := Lib.hid (by unfold bitA; rw [if_pos (by omega), Int.toNat_natCast])
      clear hi1 hi2 h0
      obtain ⟨v, hi, lo⟩ := a
      obtain ⟨ha1, ha2⟩ := ha
      simp only [] at ha1 ha2
      cases v
      · have BI := Lib.hid (rbits_is ⟨false, hi, lo⟩ (n := 32) rfl)
        have EN : Hid (bitN ⟨false, hi, lo⟩ k = lo / 2 ^ (31 - k) % 2) := Lib.hid rfl
        clear hbs
        have hk : k < 32 := by simp [bitsA] at h1; omega
        clear h1
        go_enter Try.func20, Try.ntmps20
        go_wp2_with fail
        refine (BI.out _).mono ?_
        rintro e w1 ⟨rfl, hb1⟩
        obtain ⟨hc, hf⟩ := old hb1
        go_wp2_with fail
        go_ret
        exact ⟨ret_i (by rw [E.out, EN.out]; exact bit_one _ _ ha2), ((Below.refl _ _).alloc (Nat.le_refl _) _).trans (hb1.mono (by simp))⟩
      · have BI := Lib.hid (rbits_is ⟨true, hi, lo⟩ (n := 128) rfl)
        clear hbs
        by_cases h64 : k < 64
        · have EN : Hid (bitN ⟨true, hi, lo⟩ k = hi / 2 ^ (63 - k % 64) % 2) := Lib.hid (by unfold bitN; rw [if_pos rfl, if_pos h64, Nat.mod_eq_of_lt h64])
          have hk : k < 128 := by omega
          clear h1
          go_enter Try.func20, Try.ntmps20
          go_wp2_with fail
          refine (BI.out _).mono ?_
          rintro e w1 ⟨rfl, hb1⟩
          obtain ⟨hc, hf⟩ := old hb1
          go_wp2_with fail
          go_ret
          exact ⟨ret_i (by rw [E.out, EN.out]; exact bit_one _ _ ha1), ((Below.refl _ _).alloc (Nat.le_refl _) _).trans (hb1.mono (by simp))⟩
        · have EN : Hid (bitN ⟨true, hi, lo⟩ k = lo / 2 ^ (63 - k % 64) % 2) := Lib.hid (by unfold bitN; rw [if_pos rfl, if_neg h64]; simp [bitsA] at h1; congr 3; omega)
          have hk : k < 128 := by simp [bitsA] at h1; omega
          clear h1
          go_enter Try.func20, Try.ntmps20
          go_wp2_with fail
          refine (BI.out _).mono ?_
          rintro e w1 ⟨rfl, hb1⟩
          obtain ⟨hc, hf⟩ := old hb1
          go_wp2_with fail
          go_ret
          exact ⟨ret_i (by rw [E.out, EN.out]; exact bit_one _ _ ha2), ((Below.refl _ _).alloc (Nat.le_refl _) _).trans (hb1.mono (by simp))⟩
end Go.Proofs.Ytmkpacbalnkdbaa.Ad
/- Contracts of the document's answers for layer 6: texts. -/
namespace Go.Proofs.Ytmkpacbalnkdbaa.Ad
set_option maxRecDepth 100000
open Go.ChangeShapes Go.WideShapes Go.ChangeAt Go.RowKit
open Dec Words V4 V6
set_option linter.unusedVariables false
set_option maxHeartbeats 1000000 in
theorem rtextA_any (a : Adr) (w : World) (ha : a.ok) :
    Calls Try.prog 15 #[.agg #[.bool a.v6, .int .u64 a.hi, .int .u64 a.lo]] w fun e w' => e = .returned (.string ⟨(textA a).toArray⟩) ∧ Below w.heap.size w w' := by
  obtain ⟨v, hi, lo⟩ := a
  obtain ⟨h1, h2⟩ := ha
  simp only [] at h1 h2
  cases v
  · cases hr : rightA ⟨false, hi, lo⟩
    · have E : Hid (textA ⟨false, hi, lo⟩ = []) := Lib.hid (textA_no hr)
      have RI := Lib.hid (fun W => rright_any ⟨false, hi, lo⟩ W ⟨h1, h2⟩)
      rw [hr] at RI
      clear hr
      go_enter Try.func15, Try.ntmps15
      go_wp2_with fail
      refine (RI.out _).mono ?_
      rintro e w1 ⟨rfl, hb1⟩
      go_wp2_with fail
      go_ret
      exact ⟨ret_s (a := []) E.out.symm, ((Below.refl _ _).alloc (Nat.le_refl _) _).trans (hb1.mono (by simp))⟩
    · have RI := Lib.hid (fun W => rright_any ⟨false, hi, lo⟩ W ⟨h1, h2⟩)
      have hlo : lo < 4294967296 := by
        unfold rightA at hr
        simp only [Bool.false_eq_true, if_false, Bool.and_eq_true, decide_eq_true_eq] at hr
        exact hr.2
      have E : Hid (textA ⟨false, hi, lo⟩ = text4 lo) := Lib.hid (by unfold textA; rw [hr]; rfl)
      rw [hr] at RI
      clear hr
      go_enter Try.func15, Try.ntmps15
      go_wp2_with fail
      refine (RI.out _).mono ?_
      rintro e w1 ⟨rfl, hb1⟩
      obtain ⟨hc, hf⟩ := old hb1
      go_wp2_with fail
      refine (rtext4_any lo _ hlo).mono ?_
      rintro e w2 ⟨rfl, hb2⟩
      go_wp2_with fail
      go_ret
      exact ⟨ret_s E.out.symm, ((Below.refl _ _).alloc (Nat.le_refl _) _).trans ((low_trans hb1 hb2).mono (by simp))⟩
  · cases hr : rightA ⟨true, hi, lo⟩
    · have E : Hid (textA ⟨true, hi, lo⟩ = []) := Lib.hid (textA_no hr)
      have RI := Lib.hid (fun W => rright_any ⟨true, hi, lo⟩ W ⟨h1, h2⟩)
      rw [hr] at RI
      clear hr
      go_enter Try.func15, Try.ntmps15
      go_wp2_with fail
      refine (RI.out _).mono ?_
      rintro e w1 ⟨rfl, hb1⟩
      go_wp2_with fail
      go_ret
      exact ⟨ret_s (a := []) E.out.symm, ((Below.refl _ _).alloc (Nat.le_refl _) _).trans (hb1.mono (by simp))⟩
    · have RI := Lib.hid (fun W => rright_any ⟨true, hi, lo⟩ W ⟨h1, h2⟩)
      have E : Hid (textA ⟨true, hi, lo⟩ = text6 hi lo) := Lib.hid (by unfold textA; rw [hr]; rfl)
      rw [hr] at RI
      clear hr
      go_enter Try.func15, Try.ntmps15
      go_wp2_with fail
      refine (RI.out _).mono ?_
      rintro e w1 ⟨rfl, hb1⟩
      obtain ⟨hc, hf⟩ := old hb1
      go_wp2_with fail
      refine (rtext6_any hi lo _ h1 h2).mono ?_
      rintro e w2 ⟨rfl, hb2⟩
      go_wp2_with fail
      go_ret
      exact ⟨ret_s E.out.symm, ((Below.refl _ _).alloc (Nat.le_refl _) _).trans ((low_trans hb1 hb2).mono (by simp))⟩
end Go.Proofs.Ytmkpacbalnkdbaa.Ad
