/- Contracts of the document's answers for layer 6: what needs no text. -/
import Derived.Test.YtefkolkagebffaaGreatDoorAddrAll
import Derived.Test.YtefkolkagebffaaGreatDoorRef05All
namespace Go.Proofs.YtefkolkagebffaaGreatDoor.Ad
set_option maxRecDepth 100000
open Go.ChangeShapes Go.WideShapes Go.ChangeAt Go.RowKit
set_option linter.unusedVariables false
theorem rbits_any (a : Adr) (w : World) :
    Calls Tryz.prog 74 #[.agg #[.bool a.v6, .int .u64 a.hi, .int .u64 a.lo]] w fun e w' => e = .returned (.int .i64 (bitsA a : Nat)) ∧ Below w.heap.size w w' := by
  unfold bitsA
  cases e : a.v6
  · go_enter Tryz.func74, Tryz.ntmps74
    go_wp2
    go_ret
    exact ⟨rfl, (Below.refl _ _).alloc (Nat.le_refl _) _⟩
  · go_enter Tryz.func74, Tryz.ntmps74
    go_wp2
    go_ret
    exact ⟨rfl, (Below.refl _ _).alloc (Nat.le_refl _) _⟩
theorem rbits_is (a : Adr) {n : Nat} (h : bitsA a = n) (w : World) :
    Calls Tryz.prog 74 #[.agg #[.bool a.v6, .int .u64 a.hi, .int .u64 a.lo]] w fun e w' => e = .returned (.int .i64 n) ∧ Below w.heap.size w w' := by
  rw [← h]; exact rbits_any a w
theorem rv6_any (hi lo : Nat) (w : World) (h1 : hi < 18446744073709551616) (h2 : lo < 18446744073709551616) :
    Calls Tryz.prog 114 #[.int .u64 hi, .int .u64 lo] w fun e w' => e = .returned (.agg #[.bool (v6A hi lo).v6, .int .u64 (v6A hi lo).hi, .int .u64 (v6A hi lo).lo]) ∧ Below w.heap.size w w' := by
  by_cases h0 : hi = 0
  · by_cases hl : lo / 4294967296 = 65535
    · have E : v6A hi lo = ⟨false, 0, lo % 4294967296⟩ := v6A_yes (by rw [stands_iff]; exact ⟨h0, hl⟩)
      rw [E]
      clear E
      subst h0
      have e1 : ((lo : Int) / 4294967296 == 65535) = true := by rw [beq_iff_eq]; omega
      go_enter Tryz.func114, Tryz.ntmps114
      go_wp2
      exact bodyPost_ret (v := .agg #[.bool false, .int .u64 0, .int .u64 ((lo : Int) % 4294967296)]) (by simp [results, Tryz.results114, go_sem]) rfl ⟨by simp, (Below.refl _ _).alloc (Nat.le_refl _) _⟩
    · have E : v6A hi lo = ⟨true, hi, lo⟩ := v6A_no (by rw [← Bool.not_eq_true, stands_iff]; exact fun e => hl e.2)
      rw [E]
      clear E
      subst h0
      have e1 : ((lo : Int) / 4294967296 == 65535) = false := by rw [beq_eq_false_iff_ne]; omega
      go_enter Tryz.func114, Tryz.ntmps114
      go_wp2
      exact bodyPost_ret (v := .agg #[.bool true, .int .u64 0, .int .u64 lo]) (by simp [results, Tryz.results114, go_sem]) rfl ⟨rfl, (Below.refl _ _).alloc (Nat.le_refl _) _⟩
  · have E : v6A hi lo = ⟨true, hi, lo⟩ := v6A_no (by rw [← Bool.not_eq_true, stands_iff]; exact fun e => h0 e.1)
    rw [E]
    clear E
    have e1 : ((hi : Int) == 0) = false := by rw [beq_eq_false_iff_ne]; omega
    go_enter Tryz.func114, Tryz.ntmps114
    go_wp2
    exact bodyPost_ret (v := .agg #[.bool true, .int .u64 hi, .int .u64 lo]) (by simp [results, Tryz.results114, go_sem]) rfl ⟨rfl, (Below.refl _ _).alloc (Nat.le_refl _) _⟩
theorem rright_any (a : Adr) (w : World) (ha : a.ok) :
    Calls Tryz.prog 73 #[.agg #[.bool a.v6, .int .u64 a.hi, .int .u64 a.lo]] w fun e w' => e = .returned (.bool (rightA a)) ∧ Below w.heap.size w w' := by
  obtain ⟨v, hi, lo⟩ := a
  obtain ⟨h1, h2⟩ := ha
  simp only [] at h1 h2
  by_cases h0 : hi = 0
  · subst h0
    cases v
    · have E : Hid (rightA ⟨false, 0, lo⟩ = decide (lo < 4294967296)) := Lib.hid (by simp [rightA])
      go_enter Tryz.func73, Tryz.ntmps73
      go_wp2
      go_ret
      exact ⟨ret_b (by rw [E.out, Bool.eq_iff_iff, decide_eq_true_eq, decide_eq_true_eq]; omega), (Below.refl _ _).alloc (Nat.le_refl _) _⟩
    · have E : Hid (rightA ⟨true, 0, lo⟩ = !decide (lo / 4294967296 = 65535)) := Lib.hid (by simp [rightA, stands])
      go_enter Tryz.func73, Tryz.ntmps73
      go_wp2
      go_ret
      exact ⟨ret_b (by rw [E.out, Bool.eq_iff_iff, bne_iff_ne, Bool.not_eq_true', decide_eq_false_iff_not]; omega), (Below.refl _ _).alloc (Nat.le_refl _) _⟩
  · have e1 : ((hi : Int) == 0) = false := by rw [beq_eq_false_iff_ne]; omega
    have e2 : ((hi : Int) != 0) = true := by rw [bne_iff_ne]; omega
    cases v
    · have E : Hid (rightA ⟨false, hi, lo⟩ = false) := Lib.hid (by simp [rightA, h0])
      clear h0
      go_enter Tryz.func73, Tryz.ntmps73
      go_wp2
      go_ret
      exact ⟨ret_b E.out.symm, (Below.refl _ _).alloc (Nat.le_refl _) _⟩
    · have E : Hid (rightA ⟨true, hi, lo⟩ = true) := Lib.hid (by simp [rightA, stands, h0])
      clear h0
      go_enter Tryz.func73, Tryz.ntmps73
      go_wp2
      go_ret
      exact ⟨ret_b E.out.symm, (Below.refl _ _).alloc (Nat.le_refl _) _⟩
set_option maxHeartbeats 2000000 in
theorem rcompare_any (a b : Adr) (w : World) (ha : a.ok) (hb : b.ok) :
    Calls Tryz.prog 46 #[.agg #[.bool a.v6, .int .u64 a.hi, .int .u64 a.lo], .agg #[.bool b.v6, .int .u64 b.hi, .int .u64 b.lo]] w fun e w' => e = .returned (.int .i64 (cmpA a b)) ∧ Below w.heap.size w w' := by
  obtain ⟨a1, a2⟩ := ha
  obtain ⟨b1, b2⟩ := hb
  cases hs : sameA a b
  · by_cases hv : a.v6 = b.v6
    · have EQ := fun W => eqAdr a b W
      rw [hs] at EQ
      obtain ⟨v1, v2, v3⟩ := bby hv
      by_cases hh : a.hi = b.hi
      · obtain ⟨i1, i2⟩ := iiy hh
        by_cases hl : a.lo < b.lo
        · have E : Hid (cmpA a b = -1) := Lib.hid (by unfold cmpA lessA; rw [hs, if_pos hv, if_pos hh, decide_eq_true hl]; rfl)
          clear hs hv hh
          go_enter Tryz.func46, Tryz.ntmps46
          go_wp2
          go_ret
          exact ⟨ret_i E.out.symm, two_low _ _ _⟩
        · have E : Hid (cmpA a b = 1) := Lib.hid (by unfold cmpA lessA; rw [hs, if_pos hv, if_pos hh, decide_eq_false hl]; rfl)
          clear hs hv hh
          go_enter Tryz.func46, Tryz.ntmps46
          go_wp2
          go_ret
          exact ⟨ret_i E.out.symm, two_low _ _ _⟩
      · obtain ⟨i1, i2⟩ := iin hh
        by_cases hl : a.hi < b.hi
        · have E : Hid (cmpA a b = -1) := Lib.hid (by unfold cmpA lessA; rw [hs, if_pos hv, if_neg hh, decide_eq_true hl]; rfl)
          clear hs hv hh
          go_enter Tryz.func46, Tryz.ntmps46
          go_wp2
          go_ret
          exact ⟨ret_i E.out.symm, two_low _ _ _⟩
        · have E : Hid (cmpA a b = 1) := Lib.hid (by unfold cmpA lessA; rw [hs, if_pos hv, if_neg hh, decide_eq_false hl]; rfl)
          clear hs hv hh
          go_enter Tryz.func46, Tryz.ntmps46
          go_wp2
          go_ret
          exact ⟨ret_i E.out.symm, two_low _ _ _⟩
    · obtain ⟨v, hi, lo⟩ := a
      obtain ⟨v', hi', lo'⟩ := b
      simp only [] at a1 a2 b1 b2
      cases v
      · cases v'
        · exact absurd rfl hv
        · have EQ := fun W => eqAdr ⟨false, hi, lo⟩ ⟨true, hi', lo'⟩ W
          rw [hs] at EQ
          have E : Hid (cmpA ⟨false, hi, lo⟩ ⟨true, hi', lo'⟩ = -1) := Lib.hid (by unfold cmpA; rw [hs]; rfl)
          clear hs hv
          go_enter Tryz.func46, Tryz.ntmps46
          go_wp2
          all_goals go_ret
          all_goals exact ⟨ret_i E.out.symm, two_low _ _ _⟩
      · cases v'
        · have EQ := fun W => eqAdr ⟨true, hi, lo⟩ ⟨false, hi', lo'⟩ W
          rw [hs] at EQ
          have E : Hid (cmpA ⟨true, hi, lo⟩ ⟨false, hi', lo'⟩ = 1) := Lib.hid (by unfold cmpA; rw [hs]; rfl)
          clear hs hv
          go_enter Tryz.func46, Tryz.ntmps46
          go_wp2
          all_goals go_ret
          all_goals exact ⟨ret_i E.out.symm, two_low _ _ _⟩
        · exact absurd rfl hv
  · have EQ := fun W => eqAdr a b W
    rw [hs] at EQ
    have E : Hid (cmpA a b = 0) := Lib.hid (by unfold cmpA; rw [hs]; rfl)
    clear hs
    go_enter Tryz.func46, Tryz.ntmps46
    go_wp2
    go_ret
    exact ⟨ret_i E.out.symm, two_low _ _ _⟩
set_option maxHeartbeats 1000000 in
theorem rbit_any (a : Adr) (i : Int) (w : World) (ha : a.ok) (hi1 : -9223372036854775808 ≤ i) (hi2 : i ≤ 9223372036854775807) :
    Calls Tryz.prog 75 #[.agg #[.bool a.v6, .int .u64 a.hi, .int .u64 a.lo], .int .i64 i] w fun e w' => e = .returned (.int .i64 (bitA a i)) ∧ Below w.heap.size w w' := by
  have hbs : bitsA a = 128 ∨ bitsA a = 32 := by unfold bitsA; split <;> omega
  by_cases h0 : i < 0
  · have E : Hid (bitA a i = 0) := Lib.hid (by unfold bitA; rw [if_neg (by omega)])
    go_enter Tryz.func75, Tryz.ntmps75
    go_wp2_with fail
    go_ret
    exact ⟨ret_i E.out.symm, (Below.refl _ _).alloc (Nat.le_refl _) _⟩
  · by_cases h1 : (bitsA a : Int) ≤ i
    · have E : Hid (bitA a i = 0) := Lib.hid (by unfold bitA; rw [if_neg (by omega)])
      go_enter Tryz.func75, Tryz.ntmps75
      go_wp2_with fail
      refine (rbits_any a _).mono ?_
      rintro e w1 ⟨rfl, hb1⟩
      go_wp2_with fail
      go_ret
      exact ⟨ret_i E.out.symm, ((Below.refl _ _).alloc (Nat.le_refl _) _).trans (hb1.mono (by simp))⟩
    · obtain ⟨k, rfl⟩ := Int.eq_ofNat_of_zero_le (Int.not_lt.1 h0)
      have E : Hid (bitA a k = (bitN a k : Nat)) := Lib.hid (by unfold bitA; rw [if_pos (by omega), Int.toNat_natCast])
      clear hi1 hi2 h0
      obtain ⟨v, hi, lo⟩ := a
      obtain ⟨ha1, ha2⟩ := ha
      simp only [] at ha1 ha2
      cases v
      · have BI := Lib.hid (rbits_is ⟨false, hi, lo⟩ (n := 32) rfl)
        have EN : Hid (bitN ⟨false, hi, lo⟩ k = lo / 2 ^ (31 - k) % 2) := Lib.hid rfl
        clear hbs
        have hk : k < 32 := by simp [bitsA] at h1; omega
        clear h1
        go_enter Tryz.func75, Tryz.ntmps75
        go_wp2_with fail
        refine (BI.out _).mono ?_
        rintro e w1 ⟨rfl, hb1⟩
        obtain ⟨hc, hf⟩ := old hb1
        go_wp2_with fail
        go_ret
        exact ⟨ret_i (by rw [E.out, EN.out]; exact bit_one _ _ ha2), ((Below.refl _ _).alloc (Nat.le_refl _) _).trans (hb1.mono (by simp))⟩
      · have BI := Lib.hid (rbits_is ⟨true, hi, lo⟩ (n := 128) rfl)
        clear hbs
        by_cases h64 : k < 64
        · have EN : Hid (bitN ⟨true, hi, lo⟩ k = hi / 2 ^ (63 - k % 64) % 2) := Lib.hid (by unfold bitN; rw [if_pos rfl, if_pos h64, Nat.mod_eq_of_lt h64])
          have hk : k < 128 := by omega
          clear h1
          go_enter Tryz.func75, Tryz.ntmps75
          go_wp2_with fail
          refine (BI.out _).mono ?_
          rintro e w1 ⟨rfl, hb1⟩
          obtain ⟨hc, hf⟩ := old hb1
          go_wp2_with fail
          go_ret
          exact ⟨ret_i (by rw [E.out, EN.out]; exact bit_one _ _ ha1), ((Below.refl _ _).alloc (Nat.le_refl _) _).trans (hb1.mono (by simp))⟩
        · have EN : Hid (bitN ⟨true, hi, lo⟩ k = lo / 2 ^ (63 - k % 64) % 2) := Lib.hid (by unfold bitN; rw [if_pos rfl, if_neg h64]; simp [bitsA] at h1; congr 3; omega)
          have hk : k < 128 := by simp [bitsA] at h1; omega
          clear h1
          go_enter Tryz.func75, Tryz.ntmps75
          go_wp2_with fail
          refine (BI.out _).mono ?_
          rintro e w1 ⟨rfl, hb1⟩
          obtain ⟨hc, hf⟩ := old hb1
          go_wp2_with fail
          go_ret
          exact ⟨ret_i (by rw [E.out, EN.out]; exact bit_one _ _ ha2), ((Below.refl _ _).alloc (Nat.le_refl _) _).trans (hb1.mono (by simp))⟩
end Go.Proofs.YtefkolkagebffaaGreatDoor.Ad
/- Contracts of the document's answers for layer 6: texts. -/
namespace Go.Proofs.YtefkolkagebffaaGreatDoor.Ad
set_option maxRecDepth 100000
open Go.ChangeShapes Go.WideShapes Go.ChangeAt Go.RowKit
open Dec Words V4 V6
set_option linter.unusedVariables false
set_option maxHeartbeats 1000000 in
theorem rtextA_any (a : Adr) (w : World) (ha : a.ok) :
    Calls Tryz.prog 76 #[.agg #[.bool a.v6, .int .u64 a.hi, .int .u64 a.lo]] w fun e w' => e = .returned (.string ⟨(textA a).toArray⟩) ∧ Below w.heap.size w w' := by
  obtain ⟨v, hi, lo⟩ := a
  obtain ⟨h1, h2⟩ := ha
  simp only [] at h1 h2
  cases v
  · cases hr : rightA ⟨false, hi, lo⟩
    · have E : Hid (textA ⟨false, hi, lo⟩ = []) := Lib.hid (textA_no hr)
      have RI := Lib.hid (fun W => rright_any ⟨false, hi, lo⟩ W ⟨h1, h2⟩)
      rw [hr] at RI
      clear hr
      go_enter Tryz.func76, Tryz.ntmps76
      go_wp2_with fail
      refine (RI.out _).mono ?_
      rintro e w1 ⟨rfl, hb1⟩
      go_wp2_with fail
      go_ret
      exact ⟨ret_s (a := []) E.out.symm, ((Below.refl _ _).alloc (Nat.le_refl _) _).trans (hb1.mono (by simp))⟩
    · have RI := Lib.hid (fun W => rright_any ⟨false, hi, lo⟩ W ⟨h1, h2⟩)
      have hlo : lo < 4294967296 := by
        unfold rightA at hr
        simp only [Bool.false_eq_true, if_false, Bool.and_eq_true, decide_eq_true_eq] at hr
        exact hr.2
      have E : Hid (textA ⟨false, hi, lo⟩ = text4 lo) := Lib.hid (by unfold textA; rw [hr]; rfl)
      rw [hr] at RI
      clear hr
      go_enter Tryz.func76, Tryz.ntmps76
      go_wp2_with fail
      refine (RI.out _).mono ?_
      rintro e w1 ⟨rfl, hb1⟩
      obtain ⟨hc, hf⟩ := old hb1
      go_wp2_with fail
      refine (rtext4_any lo _ hlo).mono ?_
      rintro e w2 ⟨rfl, hb2⟩
      go_wp2_with fail
      go_ret
      exact ⟨ret_s E.out.symm, ((Below.refl _ _).alloc (Nat.le_refl _) _).trans ((low_trans hb1 hb2).mono (by simp))⟩
  · cases hr : rightA ⟨true, hi, lo⟩
    · have E : Hid (textA ⟨true, hi, lo⟩ = []) := Lib.hid (textA_no hr)
      have RI := Lib.hid (fun W => rright_any ⟨true, hi, lo⟩ W ⟨h1, h2⟩)
      rw [hr] at RI
      clear hr
      go_enter Tryz.func76, Tryz.ntmps76
      go_wp2_with fail
      refine (RI.out _).mono ?_
      rintro e w1 ⟨rfl, hb1⟩
      go_wp2_with fail
      go_ret
      exact ⟨ret_s (a := []) E.out.symm, ((Below.refl _ _).alloc (Nat.le_refl _) _).trans (hb1.mono (by simp))⟩
    · have RI := Lib.hid (fun W => rright_any ⟨true, hi, lo⟩ W ⟨h1, h2⟩)
      have E : Hid (textA ⟨true, hi, lo⟩ = text6 hi lo) := Lib.hid (by unfold textA; rw [hr]; rfl)
      rw [hr] at RI
      clear hr
      go_enter Tryz.func76, Tryz.ntmps76
      go_wp2_with fail
      refine (RI.out _).mono ?_
      rintro e w1 ⟨rfl, hb1⟩
      obtain ⟨hc, hf⟩ := old hb1
      go_wp2_with fail
      refine (rtext6_any hi lo _ h1 h2).mono ?_
      rintro e w2 ⟨rfl, hb2⟩
      go_wp2_with fail
      go_ret
      exact ⟨ret_s E.out.symm, ((Below.refl _ _).alloc (Nat.le_refl _) _).trans ((low_trans hb1 hb2).mono (by simp))⟩
set_option maxHeartbeats 2000000 in
theorem rparseA_any (l : List UInt8) (w : World) (hl : l.length < 4294967000) : Calls Tryz.prog 62 #[.string ⟨l.toArray⟩] w (ParseA l w) := by
  cases h4 : ok4 l
  · have P4 := Lib.hid (rparse4_any l)
    unfold Parse4 at P4
    rw [h4] at P4
    have P6 := Lib.hid (rparse6_any l)
    unfold Parse6 at P6
    cases h6 : ok6 l
    · have E1 : Hid (parseA l = ⟨false, 0, 0⟩) := Lib.hid (by unfold parseA; rw [h4, h6]; rfl)
      have E2 : Hid (okA l = false) := Lib.hid (by unfold okA; rw [h4, h6]; rfl)
      rw [h6] at P6
      clear h4 h6
      go_enter Tryz.func62, Tryz.ntmps62
      go_wp2_with fail
      refine (P4.out _ (by omega)).mono ?_
      rintro e w1 ⟨rfl, hb1⟩
      go_wp2_with fail
      refine (P6.out _ (by omega)).mono ?_
      rintro e w2 ⟨rfl, hb2⟩
      have hb12 := low_trans hb1 hb2
      obtain ⟨hc, hf⟩ := old hb12
      go_wp2
      exact bodyPost_ret (v := .tuple #[.agg #[.bool false, .int .u64 0, .int .u64 0], .bool false]) (by simp [results, Tryz.results62, go_sem, hc]) rfl (parseA_mk E1.out E2.out rfl ((((((Below.refl _ _).alloc (Nat.le_refl _) _).trans (hb12.mono (by simp))).setCell (by simp) _).setCell (by simp) _).setCell (by simp) _))
    · have E1 : Hid (parseA l = v6A (hi6 l) (lo6 l)) := Lib.hid (by unfold parseA; rw [h4, h6]; rfl)
      have E2 : Hid (okA l = true) := Lib.hid (by unfold okA; rw [h4, h6]; rfl)
      rw [h6] at P6
      clear h4 h6
      have V := Lib.hid (fun W => rv6_any (hi6 l) (lo6 l) W (hi6_lt l) (lo6_lt l))
      go_enter Tryz.func62, Tryz.ntmps62
      go_wp2_with fail
      refine (P4.out _ (by omega)).mono ?_
      rintro e w1 ⟨rfl, hb1⟩
      go_wp2_with fail
      refine (P6.out _ (by omega)).mono ?_
      rintro e w2 ⟨rfl, hb2⟩
      go_wp2_with fail
      refine (V.out _).mono ?_
      rintro e w3 ⟨rfl, hb3⟩
      have hb123 := low_trans (low_trans hb1 hb2) hb3
      obtain ⟨hc, hf⟩ := old hb123
      go_wp2
      exact bodyPost_ret (v := .tuple #[.agg #[.bool (v6A (hi6 l) (lo6 l)).v6, .int .u64 (v6A (hi6 l) (lo6 l)).hi, .int .u64 (v6A (hi6 l) (lo6 l)).lo], .bool true]) (by simp [results, Tryz.results62, go_sem, hc]) rfl (parseA_mk E1.out E2.out rfl ((((((Below.refl _ _).alloc (Nat.le_refl _) _).trans (hb123.mono (by simp))).setCell (by simp) _).setCell (by simp) _).setCell (by simp) _))
  · have P4 := Lib.hid (rparse4_any l)
    unfold Parse4 at P4
    rw [h4] at P4
    have E1 : Hid (parseA l = v4A (num4 l)) := Lib.hid (by unfold parseA; rw [h4]; rfl)
    have E2 : Hid (okA l = true) := Lib.hid (by unfold okA; rw [h4]; rfl)
    have hn4 := num4_lt l
    clear h4
    go_enter Tryz.func62, Tryz.ntmps62
    go_wp2_with fail
    refine (P4.out _ (by omega)).mono ?_
    rintro e w1 ⟨rfl, hb1⟩
    obtain ⟨hc, hf⟩ := old hb1
    go_wp2
    exact bodyPost_ret (v := .tuple #[.agg #[.bool false, .int .u64 0, .int .u64 (num4 l)], .bool true]) (by simp [results, Tryz.results62, go_sem, hc]) rfl (parseA_mk E1.out E2.out rfl ((((((Below.refl _ _).alloc (Nat.le_refl _) _).trans (hb1.mono (by simp))).setCell (by simp) _).setCell (by simp) _).setCell (by simp) _))
end Go.Proofs.YtefkolkagebffaaGreatDoor.Ad
