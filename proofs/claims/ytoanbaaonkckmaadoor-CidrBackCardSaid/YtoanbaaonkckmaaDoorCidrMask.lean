/- Contract of package cidr: masks. -/
import Derived.Test.YtoanbaaonkckmaaDoorCidr
import Derived.Deep.RegionWith
namespace Go.Proofs.YtoanbaaonkckmaaDoor.Ci
set_option maxRecDepth 100000
open Go.ChangeShapes Go.WideShapes Go.ChangeAt Go.RowKit
open Dec Words V4 V6 Ad
set_option linter.unusedVariables false
theorem mfrozen_left {W w' : World} (h : Below W.heap.size W w') {b o : Nat} (hl : b < W.heap.size) (hc : W.frozen? ⟨b, o, none⟩ = false) : w'.frozen? ⟨b, o, none⟩ = false := ((old h).2 b o hl).trans hc
abbrev SM (a : Adr) (w : World) (w' : World) : Prop := w'.cell? ⟨w.heap.size, 0, none⟩ = some (.bool a.v6) ∧ w'.cell? ⟨w.heap.size, 1, none⟩ = some (.int .u64 a.hi) ∧ w'.cell? ⟨w.heap.size, 2, none⟩ = some (.int .u64 a.lo) ∧ w'.cell? ⟨w.heap.size + 1, 0, none⟩ = some (.bool false) ∧ w'.cell? ⟨w.heap.size + 1, 1, none⟩ = some (.int .u64 0) ∧ w'.cell? ⟨w.heap.size + 1, 2, none⟩ = some (.int .u64 0) ∧ w'.frozen? ⟨w.heap.size + 1, 0, none⟩ = false ∧ w'.frozen? ⟨w.heap.size + 1, 1, none⟩ = false ∧ w'.frozen? ⟨w.heap.size + 1, 2, none⟩ = false ∧ Stays ((w.alloc (.cells #[.bool a.v6, .int .u64 a.hi, .int .u64 a.lo] 24)).alloc (.cells #[.bool false, .int .u64 0, .int .u64 0] 24)) w'
theorem SM.of {a : Adr} {w w' : World} (h : Stays ((w.alloc (.cells #[.bool a.v6, .int .u64 a.hi, .int .u64 a.lo] 24)).alloc (.cells #[.bool false, .int .u64 0, .int .u64 0] 24)) w') : SM a w w' := ⟨cells_left h (by simp [go_sem]), cells_left h (by simp [go_sem]), cells_left h (by simp [go_sem]), cells_left h (by simp [go_sem]), cells_left h (by simp [go_sem]), cells_left h (by simp [go_sem]), mfrozen_left h (by simp) (by simp [go_sem]), mfrozen_left h (by simp) (by simp [go_sem]), mfrozen_left h (by simp) (by simp [go_sem]), h⟩
set_option maxHeartbeats 4000000 in
theorem mask_any (a : Adr) (i : Int) (w : World) (ha : a.ok) (h1 : -9223372036854775808 ≤ i) (h2 : i ≤ 9223372036854775807) :
    Calls Tryd.prog 12 #[.agg #[.bool a.v6, .int .u64 a.hi, .int .u64 a.lo], .int .i64 i] w fun e w' => e = .returned (.agg #[.bool (maskA a i).v6, .int .u64 (maskA a i).hi, .int .u64 (maskA a i).lo]) ∧ Below w.heap.size w w' := by
  have RI := Lib.hid (fun W => right_any a W ha)
  cases hr : rightA a
  · have E : maskA a i = ⟨false, 0, 0⟩ := by unfold maskA; rw [hr]; rfl
    rw [E]
    clear E
    simp only []
    rw [hr] at RI
    clear hr
    go_enter Tryd.func12, Tryd.ntmps12
    go_wp2_with fail
    refine (RI.out _).mono ?_
    rintro e w1 ⟨rfl, hb1⟩
    obtain ⟨hc, hf⟩ := old hb1
    go_wp2_with fail
    exact bodyPost_ret (v := .agg #[.bool false, .int .u64 0, .int .u64 0]) (by simp [results, Tryd.results12, go_sem, hc]) rfl ⟨rfl, ((((two_low _ _ _).trans (hb1.mono (by simp; omega))).setCell (by simp) _).setCell (by simp) _).setCell (by simp) _⟩
  · obtain ⟨k, hk⟩ : ∃ k : Nat, k = min i.toNat (bitsA a) := ⟨_, rfl⟩
    have E : maskA a i = firstA a k := by unfold maskA; rw [hr, hk]; rfl
    rw [E]
    clear E
    have hb := bitsA_two a
    have hk1 : k ≤ bitsA a := by omega
    have BI := Lib.hid (fun W => bits_any a W)
    have FI := Lib.hid (fun W => first_any a k W ha hk1)
    obtain ⟨m, hm⟩ : ∃ m : Nat, m = i.toNat := ⟨_, rfl⟩
    have M1 : max i 0 = (m : Int) := by omega
    have M2 : min (m : Int) (bitsA a : Int) = (k : Int) := by omega
    have M3 : min m (bitsA a) = k := by omega
    rw [hr] at RI
    clear hr hb hm hk hk1
    have K1 : Hid (∀ W, SM a w W → Calls Tryd.prog 21 #[.agg #[.bool a.v6, .int .u64 a.hi, .int .u64 a.lo]] W fun e w' => e = .returned (.int .i64 (bitsA a : Nat)) ∧ SM a w w') := Lib.hid fun W h => (BI.out W).mono fun e w' ⟨he, hb⟩ => ⟨he, SM.of (low_trans h.2.2.2.2.2.2.2.2.2 hb)⟩
    have K2 : Hid (∀ W, SM a w W → Calls Tryd.prog 22 #[.agg #[.bool a.v6, .int .u64 a.hi, .int .u64 a.lo], .int .i64 (k : Nat)] W fun e w' => e = .returned (.agg #[.bool (firstA a k).v6, .int .u64 (firstA a k).hi, .int .u64 (firstA a k).lo]) ∧ SM a w w') := Lib.hid fun W h => (FI.out W).mono fun e w' ⟨he, hb⟩ => ⟨he, SM.of (low_trans h.2.2.2.2.2.2.2.2.2 hb)⟩
    have JD : ∀ W, SM a w W → SM a w W.drew := fun W h => SM.of (low_drewN h.2.2.2.2.2.2.2.2.2 1)
    have JD := Lib.hid JD
    clear BI FI
    go_enter Tryd.func12, Tryd.ntmps12
    go_wp2_with fail
    refine (RI.out _).mono ?_
    rintro e w1 ⟨rfl, hb1⟩
    have hS1 : SM a w w1 := SM.of hb1
    clear hb1 RI
    obtain ⟨k0, k1, k2, k3, k4, k5, f0, f1, f2, hs⟩ := id hS1
    go_wp2_with fail
    go_region_with (first
      | (go_at_call 21; (with_reducible refine (K1.out _ (by first | assumption | exact JD.out _ ‹_›)).mono ?_); rintro e w9 ⟨rfl, hkw⟩; obtain ⟨k0, k1, k2, k3, k4, k5, f0, f1, f2, hs⟩ := id hkw)
      | (go_at_call 22; (with_reducible refine (K2.out _ (by first | assumption | exact JD.out _ ‹_›)).mono ?_); rintro e w9 ⟨rfl, hkw⟩; obtain ⟨k0, k1, k2, k3, k4, k5, f0, f1, f2, hs⟩ := id hkw))
    all_goals clear K1 K2 JD
    all_goals go_wp2_with fail
    all_goals exact bodyPost_ret (v := .agg #[.bool (firstA a k).v6, .int .u64 (firstA a k).hi, .int .u64 (firstA a k).lo]) (by simp [results, Tryd.results12, go_sem, k3, k4, k5]) rfl ⟨rfl, ((((two_low _ _ _).trans (hs.mono (by simp; omega))).setCell (by simp) _).setCell (by simp) _).setCell (by simp) _⟩
end Go.Proofs.YtoanbaaonkckmaaDoor.Ci
