/- Contracts of the document's answers for layer 8. -/
import Derived.Test.YtmkpacbalnkdbaaRef07Text
import Derived.Test.YtmkpacbalnkdbaaGroup
namespace Go.Proofs.Ytmkpacbalnkdbaa.Gr
set_option maxRecDepth 100000
open Go.ChangeShapes Go.WideShapes Go.ChangeAt Go.RowKit
open Dec Words V4 V6 Ad Ci
set_option linter.unusedVariables false
theorem mod_cut (n m : Nat) (hm : 0 < m) (hn : n < 18446744073709551616) : (n : Int).tmod (m : Int) = ((n % m : Nat) : Int) ∧ IntKind.u64.wrap ((n % m : Nat) : Int) = ((n % m : Nat) : Int) ∧ IntKind.u64.wrap ((n : Int) - ((n % m : Nat) : Int)) = ((n - n % m : Nat) : Int) ∧ (n : Int) - (n : Int) % (m : Int) = ((n - n % m : Nat) : Int) := by
  have h := Nat.mod_le n m
  refine ⟨?_, ?_, ?_, ?_⟩
  · rw [Int.tmod_eq_emod_of_nonneg (by omega)]; norm_cast
  · rw [IntKind.wrap_u64]; omega
  · rw [IntKind.wrap_u64]; omega
  · rw [← Int.natCast_emod]; omega
set_option maxHeartbeats 2000000 in
theorem rgroupOf_any (a : Adr) (w : World) (ha : a.ok) :
    Calls Try.prog 7 #[.agg #[.bool a.v6, .int .u64 a.hi, .int .u64 a.lo]] w fun e w' => e = .returned (.agg #[.bool (groupN a).a.v6, .int .u64 (groupN a).a.hi, .int .u64 (groupN a).a.lo, .int .i64 (groupN a).n]) ∧ Below w.heap.size w w' := by
  have RI := Lib.hid (fun W => rright_any a W ha)
  cases hr : rightA a
  · rw [group_no hr]
    simp only [zero]
    rw [hr] at RI
    clear hr
    go_enter Try.func7, Try.ntmps7
    go_wp2_with fail
    refine (RI.out _).mono ?_
    rintro e w1 ⟨rfl, hb1⟩
    obtain ⟨hc, hf⟩ := old hb1
    go_wp2_with fail
    exact bodyPost_ret (v := .agg #[.bool false, .int .u64 0, .int .u64 0, .int .i64 0]) (by simp [results, Try.results7, go_sem, hc]) rfl ⟨rfl, (((((two_low _ _ _).trans (hb1.mono (by simp; omega))).setCell (by simp) _).setCell (by simp) _).setCell (by simp) _).setCell (by simp) _⟩
  · obtain ⟨v, hi, lo⟩ := a
    obtain ⟨h1, h2⟩ := ha
    simp only [] at h1 h2
    rw [hr] at RI
    cases v
    · rw [group_four hr]
      simp only []
      obtain ⟨m1, m2, m3, m4⟩ := mod_cut lo 65536 (by decide) h2
      rw [show ((65536 : Nat) : Int) = 65536 from rfl] at m1 m4
      generalize lo - lo % 65536 = x at *
      generalize lo % 65536 = y at *
      clear hr
      go_enter Try.func7, Try.ntmps7
      go_wp2_with fail
      refine (RI.out _).mono ?_
      rintro e w1 ⟨rfl, hb1⟩
      obtain ⟨hc, hf⟩ := old hb1
      go_wp2_with fail
      exact bodyPost_ret (v := .agg #[.bool false, .int .u64 0, .int .u64 x, .int .i64 16]) (by simp [results, Try.results7, go_sem, hc]) rfl ⟨rfl, (((((two_low _ _ _).trans (hb1.mono (by simp; omega))).setCell (by simp) _).setCell (by simp) _).setCell (by simp) _).setCell (by simp) _⟩
    · rw [group_six hr h2]
      simp only []
      obtain ⟨m1, m2, m3, m4⟩ := mod_cut hi 4294967296 (by decide) h1
      rw [show ((4294967296 : Nat) : Int) = 4294967296 from rfl] at m1 m4
      generalize hi - hi % 4294967296 = x at *
      generalize hi % 4294967296 = y at *
      clear hr
      go_enter Try.func7, Try.ntmps7
      go_wp2_with fail
      refine (RI.out _).mono ?_
      rintro e w1 ⟨rfl, hb1⟩
      obtain ⟨hc, hf⟩ := old hb1
      go_wp2_with fail
      exact bodyPost_ret (v := .agg #[.bool true, .int .u64 x, .int .u64 0, .int .i64 32]) (by simp [results, Try.results7, go_sem, hc]) rfl ⟨rfl, (((((two_low _ _ _).trans (hb1.mono (by simp; omega))).setCell (by simp) _).setCell (by simp) _).setCell (by simp) _).setCell (by simp) _⟩
theorem rsame_off (a b : Adr) (w : World) (ha : a.ok) (hb : b.ok) (h : rightA a = false ∨ rightA b = false ∨ a.v6 ≠ b.v6) :
    Calls Try.prog 10 #[.agg #[.bool a.v6, .int .u64 a.hi, .int .u64 a.lo], .agg #[.bool b.v6, .int .u64 b.hi, .int .u64 b.lo]] w fun e w' => e = .returned (.bool (sameG a b)) ∧ Below w.heap.size w w' := by
  have K1 : Hid (∀ W, SAB a b w W → Calls Try.prog 5 #[.agg #[.bool a.v6, .int .u64 a.hi, .int .u64 a.lo]] W fun e w' => e = .returned (.bool (rightA a)) ∧ SAB a b w w') := Lib.hid fun W h => (rright_any a W ha).mono fun e w' ⟨he, hb⟩ => ⟨he, h.on hb⟩
  have K2 : Hid (∀ W, SAB a b w W → Calls Try.prog 5 #[.agg #[.bool b.v6, .int .u64 b.hi, .int .u64 b.lo]] W fun e w' => e = .returned (.bool (rightA b)) ∧ SAB a b w w') := Lib.hid fun W h => (rright_any b W hb).mono fun e w' ⟨he, hb⟩ => ⟨he, h.on hb⟩
  have hk0 : SAB a b w ((w.alloc (.cells #[.bool a.v6, .int .u64 a.hi, .int .u64 a.lo] 24)).alloc (.cells #[.bool b.v6, .int .u64 b.hi, .int .u64 b.lo] 24)) := SAB.of (Below.refl _ _)
  obtain ⟨c0, c1, c2, c3, c4, c5, hs⟩ := id hk0
  cases hra : rightA a
  · have E : Hid (sameG a b = false) := Lib.hid (sameG_noA hra)
    rw [hra] at K1
    clear hra h
    go_enter Try.func10, Try.ntmps10
    go_wp2_with fail
    (with_reducible refine (K1.out _ hk0).mono ?_)
    rintro e w1 ⟨rfl, hk1⟩
    go_wp2_with fail
    go_ret
    exact ⟨ret_b E.out.symm, SAB.low hk1⟩
  · cases hrb : rightA b
    · have E : Hid (sameG a b = false) := Lib.hid (sameG_noB hrb)
      rw [hra] at K1
      rw [hrb] at K2
      clear hra hrb h
      go_enter Try.func10, Try.ntmps10
      go_wp2_with fail
      (with_reducible refine (K1.out _ hk0).mono ?_)
      rintro e w1 ⟨rfl, hk1⟩
      clear c0 c1 c2 c3 c4 c5 hs
      obtain ⟨c0, c1, c2, c3, c4, c5, hs⟩ := id hk1
      go_wp2_with fail
      (with_reducible refine (K2.out _ hk1).mono ?_)
      rintro e w2 ⟨rfl, hk2⟩
      go_wp2_with fail
      go_ret
      exact ⟨ret_b E.out.symm, SAB.low hk2⟩
    · have hv : a.v6 ≠ b.v6 := by
        rcases h with h | h | h
        · rw [hra] at h; cases h
        · rw [hrb] at h; cases h
        · exact h
      have E : Hid (sameG a b = false) := Lib.hid (sameG_kinds hra hrb hv)
      obtain ⟨g1, g2, g3⟩ := bbn hv
      rw [hra] at K1
      rw [hrb] at K2
      clear hra hrb h hv
      go_enter Try.func10, Try.ntmps10
      go_wp2_with fail
      (with_reducible refine (K1.out _ hk0).mono ?_)
      rintro e w1 ⟨rfl, hk1⟩
      clear c0 c1 c2 c3 c4 c5 hs
      obtain ⟨c0, c1, c2, c3, c4, c5, hs⟩ := id hk1
      go_wp2_with fail
      (with_reducible refine (K2.out _ hk1).mono ?_)
      rintro e w2 ⟨rfl, hk2⟩
      clear c0 c1 c2 c3 c4 c5 hs
      obtain ⟨c0, c1, c2, c3, c4, c5, hs⟩ := id hk2
      go_wp2_with fail
      go_ret
      exact ⟨ret_b E.out.symm, SAB.low hk2⟩
end Go.Proofs.Ytmkpacbalnkdbaa.Gr
