/- Contracts of the document's answers for layer 8. -/
import Derived.Test.YtlnbjkbbnhjkgaaRef07All
import Derived.Test.YtlnbjkbbnhjkgaaGroupAll
import Derived.Deep.RegionHeld3
namespace Go.Proofs.Ytlnbjkbbnhjkgaa.Gr
set_option maxRecDepth 100000
open Go.ChangeShapes Go.WideShapes Go.ChangeAt Go.RowKit
open Dec Words V4 V6 Ad Ci
set_option linter.unusedVariables false
theorem mod_cut (n m : Nat) (hm : 0 < m) (hn : n < 18446744073709551616) : (n : Int).tmod (m : Int) = ((n % m : Nat) : Int) ∧ IntKind.u64.wrap ((n % m : Nat) : Int) = ((n % m : Nat) : Int) ∧ IntKind.u64.wrap ((n : Int) - ((n % m : Nat) : Int)) = ((n - n % m : Nat) : Int) ∧ (n : Int) - (n : Int) % (m : Int) = ((n - n % m : Nat) : Int) := by
  have h := Nat.mod_le n m
  refine ⟨?_, ?_, ?_, ?_⟩
  · rw [Int.tmod_eq_emod_of_nonneg (by omega)]; norm_cast
  · rw [IntKind.wrap_u64]; omega
  · rw [IntKind.wrap_u64]; omega
  · rw [← Int.natCast_emod]; omega
set_option maxHeartbeats 2000000 in
theorem rgroupOf_any (a : Adr) (w : World) (ha : a.ok) :
    Calls Try.prog 31 #[.agg #[.bool a.v6, .int .u64 a.hi, .int .u64 a.lo]] w fun e w' => e = .returned (.agg #[.bool (groupN a).a.v6, .int .u64 (groupN a).a.hi, .int .u64 (groupN a).a.lo, .int .i64 (groupN a).n]) ∧ Below w.heap.size w w' := by
  have RI := Lib.hid (fun W => rright_any a W ha)
  cases hr : rightA a
  · rw [group_no hr]
    simp only [zero]
    rw [hr] at RI
    clear hr
    go_enter Try.func31, Try.ntmps31
    go_wp2_with fail
    refine (RI.out _).mono ?_
    rintro e w1 ⟨rfl, hb1⟩
    obtain ⟨hc, hf⟩ := old hb1
    go_wp2_with fail
    exact bodyPost_ret (v := .agg #[.bool false, .int .u64 0, .int .u64 0, .int .i64 0]) (by simp [results, Try.results31, go_sem, hc]) rfl ⟨rfl, (((((two_low _ _ _).trans (hb1.mono (by simp; omega))).setCell (by simp) _).setCell (by simp) _).setCell (by simp) _).setCell (by simp) _⟩
  · obtain ⟨v, hi, lo⟩ := a
    obtain ⟨h1, h2⟩ := ha
    simp only [] at h1 h2
    rw [hr] at RI
    cases v
    · rw [group_four hr]
      simp only []
      obtain ⟨m1, m2, m3, m4⟩ := mod_cut lo 65536 (by decide) h2
      rw [show ((65536 : Nat) : Int) = 65536 from rfl] at m1 m4
      generalize lo - lo % 65536 = x at *
      generalize lo % 65536 = y at *
      clear hr
      go_enter Try.func31, Try.ntmps31
      go_wp2_with fail
      refine (RI.out _).mono ?_
      rintro e w1 ⟨rfl, hb1⟩
      obtain ⟨hc, hf⟩ := old hb1
      go_wp2_with fail
      exact bodyPost_ret (v := .agg #[.bool false, .int .u64 0, .int .u64 x, .int .i64 16]) (by simp [results, Try.results31, go_sem, hc]) rfl ⟨rfl, (((((two_low _ _ _).trans (hb1.mono (by simp; omega))).setCell (by simp) _).setCell (by simp) _).setCell (by simp) _).setCell (by simp) _⟩
    · rw [group_six hr h2]
      simp only []
      obtain ⟨m1, m2, m3, m4⟩ := mod_cut hi 4294967296 (by decide) h1
      rw [show ((4294967296 : Nat) : Int) = 4294967296 from rfl] at m1 m4
      generalize hi - hi % 4294967296 = x at *
      generalize hi % 4294967296 = y at *
      clear hr
      go_enter Try.func31, Try.ntmps31
      go_wp2_with fail
      refine (RI.out _).mono ?_
      rintro e w1 ⟨rfl, hb1⟩
      obtain ⟨hc, hf⟩ := old hb1
      go_wp2_with fail
      exact bodyPost_ret (v := .agg #[.bool true, .int .u64 x, .int .u64 0, .int .i64 32]) (by simp [results, Try.results31, go_sem, hc]) rfl ⟨rfl, (((((two_low _ _ _).trans (hb1.mono (by simp; omega))).setCell (by simp) _).setCell (by simp) _).setCell (by simp) _).setCell (by simp) _⟩
end Go.Proofs.Ytlnbjkbbnhjkgaa.Gr
/- Contracts of the document's answers for layer 8: two addresses of one kind. -/
namespace Go.Proofs.Ytlnbjkbbnhjkgaa.Gr
set_option maxRecDepth 100000
open Go.ChangeShapes Go.WideShapes Go.ChangeAt Go.RowKit
open Dec Words V4 V6 Ad Ci
set_option linter.unusedVariables false
end Go.Proofs.Ytlnbjkbbnhjkgaa.Gr
/- Contracts of the document's answers for layer 8: two addresses of one kind. -/
namespace Go.Proofs.Ytlnbjkbbnhjkgaa.Gr
set_option maxRecDepth 100000
open Go.ChangeShapes Go.WideShapes Go.ChangeAt Go.RowKit
open Dec Words V4 V6 Ad Ci
set_option linter.unusedVariables false
end Go.Proofs.Ytlnbjkbbnhjkgaa.Gr
/- Contracts of the document's answers for layer 8: two addresses of one kind. -/
namespace Go.Proofs.Ytlnbjkbbnhjkgaa.Gr
set_option maxRecDepth 100000
open Go.ChangeShapes Go.WideShapes Go.ChangeAt Go.RowKit
open Dec Words V4 V6 Ad Ci
set_option linter.unusedVariables false
end Go.Proofs.Ytlnbjkbbnhjkgaa.Gr
