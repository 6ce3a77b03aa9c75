/- Contracts of the document's answers for layer 6: what needs no text. -/
import Derived.Test.YtcjdfgpkcafpdaaAddrAll
import Derived.Test.YtcjdfgpkcafpdaaRef05All
namespace Go.Proofs.Ytcjdfgpkcafpdaa.Ad
set_option maxRecDepth 100000
open Go.ChangeShapes Go.WideShapes Go.ChangeAt Go.RowKit
set_option linter.unusedVariables false
theorem rbits_any (a : Adr) (w : World) :
    Calls Try.prog 47 #[.agg #[.bool a.v6, .int .u64 a.hi, .int .u64 a.lo]] w fun e w' => e = .returned (.int .i64 (bitsA a : Nat)) ∧ Below w.heap.size w w' := by
  unfold bitsA
  cases e : a.v6
  · go_enter Try.func47, Try.ntmps47
    go_wp2
    go_ret
    exact ⟨rfl, (Below.refl _ _).alloc (Nat.le_refl _) _⟩
  · go_enter Try.func47, Try.ntmps47
    go_wp2
    go_ret
    exact ⟨rfl, (Below.refl _ _).alloc (Nat.le_refl _) _⟩
theorem rbits_is (a : Adr) {n : Nat} (h : bitsA a = n) (w : World) :
    Calls Try.prog 47 #[.agg #[.bool a.v6, .int .u64 a.hi, .int .u64 a.lo]] w fun e w' => e = .returned (.int .i64 n) ∧ Below w.heap.size w w' := by
  rw [← h]; exact rbits_any a w
theorem rright_any (a : Adr) (w : World) (ha : a.ok) :
    Calls Try.prog 46 #[.agg #[.bool a.v6, .int .u64 a.hi, .int .u64 a.lo]] w fun e w' => e = .returned (.bool (rightA a)) ∧ Below w.heap.size w w' := by
  obtain ⟨v, hi, lo⟩ := a
  obtain ⟨h1, h2⟩ := ha
  simp only [] at h1 h2
  by_cases h0 : hi = 0
  · subst h0
    cases v
    · have E : Hid (rightA ⟨false, 0, lo⟩ = decide (lo < 4294967296)) := Lib.hid (by simp [rightA])
      go_enter Try.func46, Try.ntmps46
      go_wp2
      go_ret
      exact ⟨ret_b (by rw [E.out, Bool.eq_iff_iff, decide_eq_true_eq, decide_eq_true_eq]; omega), (Below.refl _ _).alloc (Nat.le_refl _) _⟩
    · have E : Hid (rightA ⟨true, 0, lo⟩ = !decide (lo / 4294967296 = 65535)) := Lib.hid (by simp [rightA, stands])
      go_enter Try.func46, Try.ntmps46
      go_wp2
      go_ret
      exact ⟨ret_b (by rw [E.out, Bool.eq_iff_iff, bne_iff_ne, Bool.not_eq_true', decide_eq_false_iff_not]; omega), (Below.refl _ _).alloc (Nat.le_refl _) _⟩
  · have e1 : ((hi : Int) == 0) = false := by rw [beq_eq_false_iff_ne]; omega
    have e2 : ((hi : Int) != 0) = true := by rw [bne_iff_ne]; omega
    cases v
    · have E : Hid (rightA ⟨false, hi, lo⟩ = false) := Lib.hid (by simp [rightA, h0])
      clear h0
      go_enter Try.func46, Try.ntmps46
      go_wp2
      go_ret
      exact ⟨ret_b E.out.symm, (Below.refl _ _).alloc (Nat.le_refl _) _⟩
    · have E : Hid (rightA ⟨true, hi, lo⟩ = true) := Lib.hid (by simp [rightA, stands, h0])
      clear h0
      go_enter Try.func46, Try.ntmps46
      go_wp2
      go_ret
      exact ⟨ret_b E.out.symm, (Below.refl _ _).alloc (Nat.le_refl _) _⟩
set_option maxHeartbeats 2000000 in
theorem rcompare_any (a b : Adr) (w : World) (ha : a.ok) (hb : b.ok) :
    Calls Try.prog 41 #[.agg #[.bool a.v6, .int .u64 a.hi, .int .u64 a.lo], .agg #[.bool b.v6, .int .u64 b.hi, .int .u64 b.lo]] w fun e w' => e = .returned (.int .i64 (cmpA a b)) ∧ Below w.heap.size w w' := by
  obtain ⟨a1, a2⟩ := ha
  obtain ⟨b1, b2⟩ := hb
  cases hs : sameA a b
  · by_cases hv : a.v6 = b.v6
    · have EQ := fun W => eqAdr a b W
      rw [hs] at EQ
      obtain ⟨v1, v2, v3⟩ := bby hv
      by_cases hh : a.hi = b.hi
      · obtain ⟨i1, i2⟩ := iiy hh
        by_cases hl : a.lo < b.lo
        · have E : Hid (cmpA a b = -1) := Lib.hid (by unfold cmpA lessA; rw [hs, if_pos hv, if_pos hh, decide_eq_true hl]; rfl)
          clear hs hv hh
          go_enter Try.func41, Try.ntmps41
          go_wp2
          go_ret
          exact ⟨ret_i E.out.symm, two_low _ _ _⟩
        · have E : Hid (cmpA a b = 1) := Lib.hid (by unfold cmpA lessA; rw [hs, if_pos hv, if_pos hh, decide_eq_false hl]; rfl)
          clear hs hv hh
          go_enter Try.func41, Try.ntmps41
          go_wp2
          go_ret
          exact ⟨ret_i E.out.symm, two_low _ _ _⟩
      · obtain ⟨i1, i2⟩ := iin hh
        by_cases hl : a.hi < b.hi
        · have E : Hid (cmpA a b = -1) := Lib.hid (by unfold cmpA lessA; rw [hs, if_pos hv, if_neg hh, decide_eq_true hl]; rfl)
          clear hs hv hh
          go_enter Try.func41, Try.ntmps41
          go_wp2
          go_ret
          exact ⟨ret_i E.out.symm, two_low _ _ _⟩
        · have E : Hid (cmpA a b = 1) := Lib.hid (by unfold cmpA lessA; rw [hs, if_pos hv, if_neg hh, decide_eq_false hl]; rfl)
          clear hs hv hh
          go_enter Try.func41, Try.ntmps41
          go_wp2
          go_ret
          exact ⟨ret_i E.out.symm, two_low _ _ _⟩
    · obtain ⟨v, hi, lo⟩ := a
      obtain ⟨v', hi', lo'⟩ := b
      simp only [] at a1 a2 b1 b2
      cases v
      · cases v'
        · exact absurd rfl hv
        · have EQ := fun W => eqAdr ⟨false, hi, lo⟩ ⟨true, hi', lo'⟩ W
          rw [hs] at EQ
          have E : Hid (cmpA ⟨false, hi, lo⟩ ⟨true, hi', lo'⟩ = -1) := Lib.hid (by unfold cmpA; rw [hs]; rfl)
          clear hs hv
          go_enter Try.func41, Try.ntmps41
          go_wp2
          all_goals go_ret
          all_goals exact ⟨ret_i E.out.symm, two_low _ _ _⟩
      · cases v'
        · have EQ := fun W => eqAdr ⟨true, hi, lo⟩ ⟨false, hi', lo'⟩ W
          rw [hs] at EQ
          have E : Hid (cmpA ⟨true, hi, lo⟩ ⟨false, hi', lo'⟩ = 1) := Lib.hid (by unfold cmpA; rw [hs]; rfl)
          clear hs hv
          go_enter Try.func41, Try.ntmps41
          go_wp2
          all_goals go_ret
          all_goals exact ⟨ret_i E.out.symm, two_low _ _ _⟩
        · exact absurd rfl hv
  · have EQ := fun W => eqAdr a b W
    rw [hs] at EQ
    have E : Hid (cmpA a b = 0) := Lib.hid (by unfold cmpA; rw [hs]; rfl)
    clear hs
    go_enter Try.func41, Try.ntmps41
    go_wp2
    go_ret
    exact ⟨ret_i E.out.symm, two_low _ _ _⟩
set_option maxHeartbeats 1000000 in
theorem rbit_any (a : Adr) (i : Int) (w : World) (ha : a.ok) (hi1 : -9223372036854775808 ≤ i) (hi2 : i ≤ 9223372036854775807) :
    Calls Try.prog 48 #[.agg #[.bool a.v6, .int .u64 a.hi, .int .u64 a.lo], .int .i64 i] w fun e w' => e = .returned (.int .i64 (bitA a i)) ∧ Below w.heap.size w w' := by
  have hbs : bitsA a = 128 ∨ bitsA a = 32 := by unfold bitsA; split <;> omega
  by_cases h0 : i < 0
  · have E : Hid (bitA a i = 0) := Lib.hid (by unfold bitA; rw [if_neg (by omega)])
    go_enter Try.func48, Try.ntmps48
    go_wp2_with fail
    go_ret
    exact ⟨ret_i E.out.symm, (Below.refl _ _).alloc (Nat.le_refl _) _⟩
  · by_cases h1 : (bitsA a : Int) ≤ i
    · have E : Hid (bitA a i = 0) := Lib.hid (by unfold bitA; rw [if_neg (by omega)])
      go_enter Try.func48, Try.ntmps48
      go_wp2_with fail
      refine (rbits_any a _).mono ?_
      rintro e w1 ⟨rfl, hb1⟩
      go_wp2_with fail
      go_ret
      exact ⟨ret_i E.out.symm, ((Below.refl _ _).alloc (Nat.le_refl _) _).trans (hb1.mono (by simp))⟩
    · obtain ⟨k, rfl⟩ := Int.eq_ofNat_of_zero_le (Int.not_lt.1 h0)
      have E : Hid (bitA a k = (bitN a k : Nat)) := Lib.hid (by unfold bitA; rw [if_pos (by omega), Int.toNat_natCast])
      clear hi1 hi2 h0
      obtain ⟨v, hi, lo⟩ := a
      obtain ⟨ha1, ha2⟩ := ha
      simp only [] at ha1 ha2
      cases v
      · have BI := Lib.hid (rbits_is ⟨false, hi, lo⟩ (n := 32) rfl)
        have EN : Hid (bitN ⟨false, hi, lo⟩ k = lo / 2 ^ (31 - k) % 2) := Lib.hid rfl
        clear hbs
        have hk : k < 32 := by simp [bitsA] at h1; omega
        clear h1
        go_enter Try.func48, Try.ntmps48
        go_wp2_with fail
        refine (BI.out _).mono ?_
        rintro e w1 ⟨rfl, hb1⟩
        obtain ⟨hc, hf⟩ := old hb1
        go_wp2_with fail
        go_ret
        exact ⟨ret_i (by rw [E.out, EN.out]; exact bit_one _ _ ha2), ((Below.refl _ _).alloc (Nat.le_refl _) _).trans (hb1.mono (by simp))⟩
      · have BI := Lib.hid (rbits_is ⟨true, hi, lo⟩ (n := 128) rfl)
        clear hbs
        by_cases h64 : k < 64
        · have EN : Hid (bitN ⟨true, hi, lo⟩ k = hi / 2 ^ (63 - k % 64) % 2) := Lib.hid (by unfold bitN; rw [if_pos rfl, if_pos h64, Nat.mod_eq_of_lt h64])
          have hk : k < 128 := by omega
          clear h1
          go_enter Try.func48, Try.ntmps48
          go_wp2_with fail
          refine (BI.out _).mono ?_
          rintro e w1 ⟨rfl, hb1⟩
          obtain ⟨hc, hf⟩ := old hb1
          go_wp2_with fail
          go_ret
          exact ⟨ret_i (by rw [E.out, EN.out]; exact bit_one _ _ ha1), ((Below.refl _ _).alloc (Nat.le_refl _) _).trans (hb1.mono (by simp))⟩
        · have EN : Hid (bitN ⟨true, hi, lo⟩ k = lo / 2 ^ (63 - k % 64) % 2) := Lib.hid (by unfold bitN; rw [if_pos rfl, if_neg h64]; simp [bitsA] at h1; congr 3; omega)
          have hk : k < 128 := by simp [bitsA] at h1; omega
          clear h1
          go_enter Try.func48, Try.ntmps48
          go_wp2_with fail
          refine (BI.out _).mono ?_
          rintro e w1 ⟨rfl, hb1⟩
          obtain ⟨hc, hf⟩ := old hb1
          go_wp2_with fail
          go_ret
          exact ⟨ret_i (by rw [E.out, EN.out]; exact bit_one _ _ ha2), ((Below.refl _ _).alloc (Nat.le_refl _) _).trans (hb1.mono (by simp))⟩
end Go.Proofs.Ytcjdfgpkcafpdaa.Ad
/- Contracts of the document's answers for layer 6: texts. -/
namespace Go.Proofs.Ytcjdfgpkcafpdaa.Ad
set_option maxRecDepth 100000
open Go.ChangeShapes Go.WideShapes Go.ChangeAt Go.RowKit
open Dec Words V4 V6
set_option linter.unusedVariables false
end Go.Proofs.Ytcjdfgpkcafpdaa.Ad
