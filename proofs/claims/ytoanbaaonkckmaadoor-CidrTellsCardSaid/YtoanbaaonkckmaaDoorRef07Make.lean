/- Contracts of the document's answers for layer 7: what is made. -/
import Derived.Test.YtoanbaaonkckmaaDoorRef07Mask
namespace Go.Proofs.YtoanbaaonkckmaaDoor.Ci
set_option maxRecDepth 100000
open Go.ChangeShapes Go.WideShapes Go.ChangeAt Go.RowKit
open Dec Words V4 V6 Ad
set_option linter.unusedVariables false
set_option maxHeartbeats 2000000 in
theorem rmake_any (a : Adr) (i : Int) (w : World) (ha : a.ok) (h1 : -9223372036854775808 ≤ i) (h2 : i ≤ 9223372036854775807) :
    Calls Tryd.prog 7 #[.agg #[.bool a.v6, .int .u64 a.hi, .int .u64 a.lo], .int .i64 i] w fun e w' => e = .returned (.tuple #[.agg #[.bool (makeN a i).a.v6, .int .u64 (makeN a i).a.hi, .int .u64 (makeN a i).a.lo, .int .i64 (makeN a i).n], .bool (makeB a i)]) ∧ Below w.heap.size w w' := by
  have RI := Lib.hid (fun W => rright_any a W ha)
  have BI := Lib.hid (fun W => rbits_any a W)
  have hb := bitsA_two a
  cases hr : rightA a
  · have EB : makeB a i = false := by rw [← Bool.not_eq_true, makeB_iff]; simp [hr]; try omega
    have E : makeN a i = zero := by unfold makeN; rw [EB]; rfl
    rw [E, EB]
    clear E EB
    simp only [zero]
    rw [hr] at RI
    clear hr hb
    go_enter Tryd.func7, Tryd.ntmps7
    go_wp2_with fail
    refine (RI.out _).mono ?_
    rintro e w1 ⟨rfl, hb1⟩
    obtain ⟨hc, hf⟩ := old hb1
    go_wp2_with fail
    exact bodyPost_ret (v := .tuple #[.agg #[.bool false, .int .u64 0, .int .u64 0, .int .i64 0], .bool false]) (by simp [results, Tryd.results7, go_sem, hc]) rfl ⟨rfl, (((((two_low _ _ _).trans (hb1.mono (by simp; omega))).setCell (by simp) _).setCell (by simp) _).setCell (by simp) _).setCell (by simp) _⟩
  · by_cases hi : i < 0
    · have EB : makeB a i = false := by rw [← Bool.not_eq_true, makeB_iff]; simp [hr]; try omega
      have E : makeN a i = zero := by unfold makeN; rw [EB]; rfl
      rw [E, EB]
      clear E EB
      simp only [zero]
      rw [hr] at RI
      clear hr hb
      go_enter Tryd.func7, Tryd.ntmps7
      go_wp2_with fail
      refine (RI.out _).mono ?_
      rintro e w1 ⟨rfl, hb1⟩
      obtain ⟨hc, hf⟩ := old hb1
      go_wp2_with fail
      exact bodyPost_ret (v := .tuple #[.agg #[.bool false, .int .u64 0, .int .u64 0, .int .i64 0], .bool false]) (by simp [results, Tryd.results7, go_sem, hc]) rfl ⟨rfl, (((((two_low _ _ _).trans (hb1.mono (by simp; omega))).setCell (by simp) _).setCell (by simp) _).setCell (by simp) _).setCell (by simp) _⟩
    · by_cases hk : (bitsA a : Int) < i
      · have EB : makeB a i = false := by rw [← Bool.not_eq_true, makeB_iff]; simp [hr]; try omega
        have E : makeN a i = zero := by unfold makeN; rw [EB]; rfl
        rw [E, EB]
        clear E EB
        simp only [zero]
        rw [hr] at RI
        clear hr hb
        go_enter Tryd.func7, Tryd.ntmps7
        go_wp2_with fail
        refine (RI.out _).mono ?_
        rintro e w1 ⟨rfl, hb1⟩
        obtain ⟨hc, hf⟩ := old hb1
        go_wp2_with fail
        refine (BI.out _).mono ?_
        rintro e w2 ⟨rfl, hb2⟩
        have hb12 := low_trans hb1 hb2
        clear hc hf
        obtain ⟨hc, hf⟩ := old hb12
        go_wp2_with fail
        exact bodyPost_ret (v := .tuple #[.agg #[.bool false, .int .u64 0, .int .u64 0, .int .i64 0], .bool false]) (by simp [results, Tryd.results7, go_sem, hc]) rfl ⟨rfl, (((((two_low _ _ _).trans (hb12.mono (by simp; omega))).setCell (by simp) _).setCell (by simp) _).setCell (by simp) _).setCell (by simp) _⟩
      · obtain ⟨k, rfl⟩ := Int.eq_ofNat_of_zero_le (Int.not_lt.1 hi)
        have hk' : k ≤ bitsA a := by omega
        have EB : makeB a (k : Int) = true := (makeB_iff _ _).2 ⟨hr, by omega, by omega⟩
        have E : makeN a (k : Int) = ⟨firstA a k, (k : Int)⟩ := by unfold makeN; rw [EB]; rfl
        rw [E, EB]
        clear E EB
        simp only []
        have FM : maskA a (k : Int) = firstA a k := by unfold maskA; rw [if_pos hr, Int.toNat_natCast, Nat.min_eq_left hk']
        have FI := Lib.hid (fun W => rmask_any a (k : Int) W ha (by omega) (by omega))
        rw [FM] at FI
        clear FM
        rw [hr] at RI
        clear hr hi hk
        have hk9 : k ≤ 128 := by omega
        clear hb
        go_enter Tryd.func7, Tryd.ntmps7
        go_wp2_with fail
        refine (RI.out _).mono ?_
        rintro e w1 ⟨rfl, hb1⟩
        obtain ⟨hc, hf⟩ := old hb1
        go_wp2_with fail
        refine (BI.out _).mono ?_
        rintro e w2 ⟨rfl, hb2⟩
        have hb12 := low_trans hb1 hb2
        clear hc hf
        obtain ⟨hc, hf⟩ := old hb12
        go_wp2_with fail
        refine (FI.out _).mono ?_
        rintro e w3 ⟨rfl, hb3⟩
        have hb13 := low_trans hb12 hb3
        clear hc hf
        obtain ⟨hc, hf⟩ := old hb13
        go_wp2_with fail
        exact bodyPost_ret (v := .tuple #[.agg #[.bool (firstA a k).v6, .int .u64 (firstA a k).hi, .int .u64 (firstA a k).lo, .int .i64 (k : Nat)], .bool true]) (by simp [results, Tryd.results7, go_sem, hc]) rfl ⟨rfl, (((((two_low _ _ _).trans (hb13.mono (by simp; omega))).setCell (by simp) _).setCell (by simp) _).setCell (by simp) _).setCell (by simp) _⟩
end Go.Proofs.YtoanbaaonkckmaaDoor.Ci
