/- Contracts of the document's answers for layer 7: masks, and what is made. -/
import Derived.Test.YtoanbaaonkckmaaDoorRef07
namespace Go.Proofs.YtoanbaaonkckmaaDoor.Ci
set_option maxRecDepth 100000
open Go.ChangeShapes Go.WideShapes Go.ChangeAt Go.RowKit
open Dec Words V4 V6 Ad
set_option linter.unusedVariables false
theorem mask_six {hi lo k : Nat} {i : Int} (hr : rightA ⟨true, hi, lo⟩ = true) (hk : k = min i.toNat 128) : maskA ⟨true, hi, lo⟩ i = ⟨true, keep hi (64 - k), keep lo (128 - k)⟩ := by
  unfold maskA
  rw [if_pos hr, show bitsA ⟨true, hi, lo⟩ = 128 from rfl, ← hk]
  unfold firstA
  rw [show bitsA ⟨true, hi, lo⟩ = 128 from rfl]
  simp only []
  rw [show 128 - k - 64 = 64 - k from by omega]
theorem mask_four {lo k : Nat} {i : Int} (hr : rightA ⟨false, 0, lo⟩ = true) (hk : k = min i.toNat 32) : maskA ⟨false, 0, lo⟩ i = ⟨false, 0, keep lo (128 - (96 + k))⟩ := by
  unfold maskA
  rw [if_pos hr, show bitsA ⟨false, 0, lo⟩ = 32 from rfl, ← hk]
  unfold firstA
  rw [show bitsA ⟨false, 0, lo⟩ = 32 from rfl]
  simp only []
  rw [keep_nil, show 32 - k = 128 - (96 + k) from by omega]
set_option maxHeartbeats 4000000 in
theorem rmask_any (a : Adr) (i : Int) (w : World) (ha : a.ok) (h1 : -9223372036854775808 ≤ i) (h2 : i ≤ 9223372036854775807) :
    Calls Tryd.prog 13 #[.agg #[.bool a.v6, .int .u64 a.hi, .int .u64 a.lo], .int .i64 i] w fun e w' => e = .returned (.agg #[.bool (maskA a i).v6, .int .u64 (maskA a i).hi, .int .u64 (maskA a i).lo]) ∧ Below w.heap.size w w' := by
  have RI := Lib.hid (fun W => rright_any a W ha)
  cases hr : rightA a
  · have E : maskA a i = ⟨false, 0, 0⟩ := by unfold maskA; rw [hr]; rfl
    rw [E]
    clear E
    simp only []
    rw [hr] at RI
    clear hr
    go_enter Tryd.func13, Tryd.ntmps13
    go_wp2_with fail
    refine (RI.out _).mono ?_
    rintro e w1 ⟨rfl, hb1⟩
    obtain ⟨hc, hf⟩ := old hb1
    go_wp2_with fail
    exact bodyPost_ret (v := .agg #[.bool false, .int .u64 0, .int .u64 0]) (by simp [results, Tryd.results13, go_sem, hc]) rfl ⟨rfl, ((((two_low _ _ _).trans (hb1.mono (by simp; omega))).setCell (by simp) _).setCell (by simp) _).setCell (by simp) _⟩
  · obtain ⟨v, hi, lo⟩ := a
    obtain ⟨ha1, ha2⟩ := ha
    simp only [] at ha1 ha2
    cases v
    · have hhi : hi = 0 := by unfold rightA at hr; simp at hr; exact hr.1
      subst hhi
      have BI := Lib.hid (rbits_is ⟨false, 0, lo⟩ (n := 32) rfl)
      by_cases hi0 : i < 0
      · have E := mask_four (k := 0) (i := i) hr (by omega)
        rw [E]
        clear E
        simp only []
        have CU : Hid (∀ W, Calls Tryd.prog 32 #[.int .u64 0, .int .u64 lo, .int .i64 96] W fun e w' => e = .returned (.tuple #[.int .u64 (keep 0 (64 - 96) : Nat), .int .u64 (keep lo (128 - 96) : Nat)]) ∧ W = w') := Lib.hid fun W => rcut_any 0 lo 96 W (by omega) ha2 (by omega)
        rw [hr] at RI
        clear hr
        go_enter Tryd.func13, Tryd.ntmps13
        go_wp2_with fail
        refine (RI.out _).mono ?_
        rintro e w1 ⟨rfl, hb1⟩
        obtain ⟨hc, hf⟩ := old hb1
        go_wp2_with fail
        refine (BI.out _).mono ?_
        rintro e w2 ⟨rfl, hb2⟩
        have hb12 := low_trans hb1 hb2
        clear hc hf
        obtain ⟨hc, hf⟩ := old hb12
        go_wp2_with fail
        refine (CU.out _).mono ?_
        rintro e w4 ⟨rfl, rfl⟩
        go_wp2_with fail
        exact bodyPost_ret (v := .agg #[.bool false, .int .u64 0, .int .u64 (keep lo (128 - (96 + 0)) : Nat)]) (by simp [results, Tryd.results13, go_sem, hc]) rfl ⟨rfl, ((((two_low _ _ _).trans (hb12.mono (by simp; omega))).setCell (by simp) _).setCell (by simp) _).setCell (by simp) _⟩
      · by_cases hi1 : 32 < i
        · have E := mask_four (k := 32) (i := i) hr (by omega)
          rw [E]
          clear E
          simp only []
          have CU : Hid (∀ W, Calls Tryd.prog 32 #[.int .u64 0, .int .u64 lo, .int .i64 128] W fun e w' => e = .returned (.tuple #[.int .u64 (keep 0 (64 - 128) : Nat), .int .u64 (keep lo (128 - 128) : Nat)]) ∧ W = w') := Lib.hid fun W => rcut_any 0 lo 128 W (by omega) ha2 (by omega)
          rw [hr] at RI
          clear hr
          go_enter Tryd.func13, Tryd.ntmps13
          go_wp2_with fail
          refine (RI.out _).mono ?_
          rintro e w1 ⟨rfl, hb1⟩
          obtain ⟨hc, hf⟩ := old hb1
          go_wp2_with fail
          refine (BI.out _).mono ?_
          rintro e w2 ⟨rfl, hb2⟩
          have hb12 := low_trans hb1 hb2
          clear hc hf
          obtain ⟨hc, hf⟩ := old hb12
          go_wp2_with fail
          refine (BI.out _).mono ?_
          rintro e w3 ⟨rfl, hb3⟩
          have hb13 := low_trans hb12 hb3
          clear hc hf
          obtain ⟨hc, hf⟩ := old hb13
          go_wp2_with fail
          refine (CU.out _).mono ?_
          rintro e w4 ⟨rfl, rfl⟩
          go_wp2_with fail
          exact bodyPost_ret (v := .agg #[.bool false, .int .u64 0, .int .u64 (keep lo (128 - (96 + 32)) : Nat)]) (by simp [results, Tryd.results13, go_sem, hc]) rfl ⟨rfl, ((((two_low _ _ _).trans (hb13.mono (by simp; omega))).setCell (by simp) _).setCell (by simp) _).setCell (by simp) _⟩
        · obtain ⟨k, rfl⟩ := Int.eq_ofNat_of_zero_le (Int.not_lt.1 hi0)
          have hk : k ≤ 32 := by omega
          clear hi0 hi1
          have E := mask_four (k := k) (i := (k : Int)) hr (by omega)
          rw [E]
          clear E
          simp only []
          have CU : Hid (∀ W, Calls Tryd.prog 32 #[.int .u64 0, .int .u64 lo, .int .i64 (96 + (k : Int))] W fun e w' => e = .returned (.tuple #[.int .u64 (keep 0 (64 - (96 + k)) : Nat), .int .u64 (keep lo (128 - (96 + k)) : Nat)]) ∧ W = w') := Lib.hid fun W => by rw [show (96 + (k : Int)) = ((96 + k : Nat) : Int) from by omega]; exact rcut_any 0 lo (96 + k) W (by omega) ha2 (by omega)
          rw [hr] at RI
          clear hr
          go_enter Tryd.func13, Tryd.ntmps13
          go_wp2_with fail
          refine (RI.out _).mono ?_
          rintro e w1 ⟨rfl, hb1⟩
          obtain ⟨hc, hf⟩ := old hb1
          go_wp2_with fail
          refine (BI.out _).mono ?_
          rintro e w2 ⟨rfl, hb2⟩
          have hb12 := low_trans hb1 hb2
          clear hc hf
          obtain ⟨hc, hf⟩ := old hb12
          go_wp2_with fail
          refine (CU.out _).mono ?_
          rintro e w4 ⟨rfl, rfl⟩
          go_wp2_with fail
          exact bodyPost_ret (v := .agg #[.bool false, .int .u64 0, .int .u64 (keep lo (128 - (96 + k)) : Nat)]) (by simp [results, Tryd.results13, go_sem, hc]) rfl ⟨rfl, ((((two_low _ _ _).trans (hb12.mono (by simp; omega))).setCell (by simp) _).setCell (by simp) _).setCell (by simp) _⟩
    · have BI := Lib.hid (rbits_is ⟨true, hi, lo⟩ (n := 128) rfl)
      by_cases hi0 : i < 0
      · have E := mask_six (k := 0) (i := i) hr (by omega)
        rw [E]
        clear E
        simp only []
        have CU : Hid (∀ W, Calls Tryd.prog 32 #[.int .u64 hi, .int .u64 lo, .int .i64 0] W fun e w' => e = .returned (.tuple #[.int .u64 (keep hi (64 - 0) : Nat), .int .u64 (keep lo (128 - 0) : Nat)]) ∧ W = w') := Lib.hid fun W => rcut_any hi lo 0 W (by omega) ha2 (by omega)
        rw [hr] at RI
        clear hr
        go_enter Tryd.func13, Tryd.ntmps13
        go_wp2_with fail
        refine (RI.out _).mono ?_
        rintro e w1 ⟨rfl, hb1⟩
        obtain ⟨hc, hf⟩ := old hb1
        go_wp2_with fail
        refine (BI.out _).mono ?_
        rintro e w2 ⟨rfl, hb2⟩
        have hb12 := low_trans hb1 hb2
        clear hc hf
        obtain ⟨hc, hf⟩ := old hb12
        go_wp2_with fail
        refine (CU.out _).mono ?_
        rintro e w4 ⟨rfl, rfl⟩
        go_wp2_with fail
        exact bodyPost_ret (v := .agg #[.bool true, .int .u64 (keep hi (64 - 0) : Nat), .int .u64 (keep lo (128 - 0) : Nat)]) (by simp [results, Tryd.results13, go_sem, hc]) rfl ⟨rfl, ((((two_low _ _ _).trans (hb12.mono (by simp; omega))).setCell (by simp) _).setCell (by simp) _).setCell (by simp) _⟩
      · by_cases hi1 : 128 < i
        · have E := mask_six (k := 128) (i := i) hr (by omega)
          rw [E]
          clear E
          simp only []
          have CU : Hid (∀ W, Calls Tryd.prog 32 #[.int .u64 hi, .int .u64 lo, .int .i64 128] W fun e w' => e = .returned (.tuple #[.int .u64 (keep hi (64 - 128) : Nat), .int .u64 (keep lo (128 - 128) : Nat)]) ∧ W = w') := Lib.hid fun W => rcut_any hi lo 128 W (by omega) ha2 (by omega)
          rw [hr] at RI
          clear hr
          go_enter Tryd.func13, Tryd.ntmps13
          go_wp2_with fail
          refine (RI.out _).mono ?_
          rintro e w1 ⟨rfl, hb1⟩
          obtain ⟨hc, hf⟩ := old hb1
          go_wp2_with fail
          refine (BI.out _).mono ?_
          rintro e w2 ⟨rfl, hb2⟩
          have hb12 := low_trans hb1 hb2
          clear hc hf
          obtain ⟨hc, hf⟩ := old hb12
          go_wp2_with fail
          refine (BI.out _).mono ?_
          rintro e w3 ⟨rfl, hb3⟩
          have hb13 := low_trans hb12 hb3
          clear hc hf
          obtain ⟨hc, hf⟩ := old hb13
          go_wp2_with fail
          refine (CU.out _).mono ?_
          rintro e w4 ⟨rfl, rfl⟩
          go_wp2_with fail
          exact bodyPost_ret (v := .agg #[.bool true, .int .u64 (keep hi (64 - 128) : Nat), .int .u64 (keep lo (128 - 128) : Nat)]) (by simp [results, Tryd.results13, go_sem, hc]) rfl ⟨rfl, ((((two_low _ _ _).trans (hb13.mono (by simp; omega))).setCell (by simp) _).setCell (by simp) _).setCell (by simp) _⟩
        · obtain ⟨k, rfl⟩ := Int.eq_ofNat_of_zero_le (Int.not_lt.1 hi0)
          have hk : k ≤ 128 := by omega
          clear hi0 hi1
          have E := mask_six (k := k) (i := (k : Int)) hr (by omega)
          rw [E]
          clear E
          simp only []
          have CU : Hid (∀ W, Calls Tryd.prog 32 #[.int .u64 hi, .int .u64 lo, .int .i64 (k : Int)] W fun e w' => e = .returned (.tuple #[.int .u64 (keep hi (64 - k) : Nat), .int .u64 (keep lo (128 - k) : Nat)]) ∧ W = w') := Lib.hid fun W => rcut_any hi lo k W (by omega) ha2 (by omega)
          rw [hr] at RI
          clear hr
          go_enter Tryd.func13, Tryd.ntmps13
          go_wp2_with fail
          refine (RI.out _).mono ?_
          rintro e w1 ⟨rfl, hb1⟩
          obtain ⟨hc, hf⟩ := old hb1
          go_wp2_with fail
          refine (BI.out _).mono ?_
          rintro e w2 ⟨rfl, hb2⟩
          have hb12 := low_trans hb1 hb2
          clear hc hf
          obtain ⟨hc, hf⟩ := old hb12
          go_wp2_with fail
          refine (CU.out _).mono ?_
          rintro e w4 ⟨rfl, rfl⟩
          go_wp2_with fail
          exact bodyPost_ret (v := .agg #[.bool true, .int .u64 (keep hi (64 - k) : Nat), .int .u64 (keep lo (128 - k) : Nat)]) (by simp [results, Tryd.results13, go_sem, hc]) rfl ⟨rfl, ((((two_low _ _ _).trans (hb12.mono (by simp; omega))).setCell (by simp) _).setCell (by simp) _).setCell (by simp) _⟩
end Go.Proofs.YtoanbaaonkckmaaDoor.Ci
