/- Contracts of the document's answers for layer 8: two addresses of one kind. -/
import Derived.Test.YtmkpacbalnkdbaaRef08
import Derived.Deep.RegionHeld3
namespace Go.Proofs.Ytmkpacbalnkdbaa.Gr
set_option maxRecDepth 100000
open Go.ChangeShapes Go.WideShapes Go.ChangeAt Go.RowKit
open Dec Words V4 V6 Ad Ci
set_option linter.unusedVariables false
set_option maxHeartbeats 8000000 in
theorem rsame_on16 (h1 l1 h2 l2 : Nat) (w : World) (ha : (⟨false, h1, l1⟩ : Adr).ok) (hb : (⟨false, h2, l2⟩ : Adr).ok) (hra : rightA ⟨false, h1, l1⟩ = true) (hrb : rightA ⟨false, h2, l2⟩ = true) :
    Calls Try.prog 10 #[.agg #[.bool false, .int .u64 h1, .int .u64 l1], .agg #[.bool false, .int .u64 h2, .int .u64 l2]] w fun e w' => e = .returned (.bool (sameG ⟨false, h1, l1⟩ ⟨false, h2, l2⟩)) ∧ Below w.heap.size w w' := by
  have K1 : Hid (∀ W, SAB ⟨false, h1, l1⟩ ⟨false, h2, l2⟩ w W → Calls Try.prog 5 #[.agg #[.bool false, .int .u64 h1, .int .u64 l1]] W fun e w' => e = .returned (.bool true) ∧ SAB ⟨false, h1, l1⟩ ⟨false, h2, l2⟩ w w') := Lib.hid fun W h => by
    have := rright_any ⟨false, h1, l1⟩ W ha
    rw [hra] at this
    exact this.mono fun e w' ⟨he, hb⟩ => ⟨he, h.on hb⟩
  have K2 : Hid (∀ W, SAB ⟨false, h1, l1⟩ ⟨false, h2, l2⟩ w W → Calls Try.prog 5 #[.agg #[.bool false, .int .u64 h2, .int .u64 l2]] W fun e w' => e = .returned (.bool true) ∧ SAB ⟨false, h1, l1⟩ ⟨false, h2, l2⟩ w w') := Lib.hid fun W h => by
    have := rright_any ⟨false, h2, l2⟩ W hb
    rw [hrb] at this
    exact this.mono fun e w' ⟨he, hb⟩ => ⟨he, h.on hb⟩
  have KA : Hid (∀ W k, k < 16 → SAB ⟨false, h1, l1⟩ ⟨false, h2, l2⟩ w W → Calls Try.prog 20 #[.agg #[.bool false, .int .u64 h1, .int .u64 l1], .int .i64 (k : Nat)] W fun e w' => e = .returned (.int .i64 (bitN ⟨false, h1, l1⟩ k : Nat)) ∧ SAB ⟨false, h1, l1⟩ ⟨false, h2, l2⟩ w w') := Lib.hid fun W k hk h => by
    have := rbit_any ⟨false, h1, l1⟩ (k : Int) W ha (by omega) (by omega)
    rw [bitA_in (show k < bitsA ⟨false, h1, l1⟩ by simp [bitsA]; omega)] at this
    exact this.mono fun e w' ⟨he, hb⟩ => ⟨he, h.on hb⟩
  have KB : Hid (∀ W k, k < 16 → SAB ⟨false, h1, l1⟩ ⟨false, h2, l2⟩ w W → Calls Try.prog 20 #[.agg #[.bool false, .int .u64 h2, .int .u64 l2], .int .i64 (k : Nat)] W fun e w' => e = .returned (.int .i64 (bitN ⟨false, h2, l2⟩ k : Nat)) ∧ SAB ⟨false, h1, l1⟩ ⟨false, h2, l2⟩ w w') := Lib.hid fun W k hk h => by
    have := rbit_any ⟨false, h2, l2⟩ (k : Int) W hb (by omega) (by omega)
    rw [bitA_in (show k < bitsA ⟨false, h2, l2⟩ by simp [bitsA]; omega)] at this
    exact this.mono fun e w' ⟨he, hb⟩ => ⟨he, h.on hb⟩
  have JD : Hid (∀ W, SAB ⟨false, h1, l1⟩ ⟨false, h2, l2⟩ w W → SAB ⟨false, h1, l1⟩ ⟨false, h2, l2⟩ w W.drew) := Lib.hid fun W h => SAB.of (low_drewN h.2.2.2.2.2.2 1)
  have HS : Hid (sameG ⟨false, h1, l1⟩ ⟨false, h2, l2⟩ = true ↔ ∀ j, j < 16 → bitN ⟨false, h1, l1⟩ j = bitN ⟨false, h2, l2⟩ j) := Lib.hid (sameG_bits ha hb hra hrb rfl)
  have hk0 : SAB ⟨false, h1, l1⟩ ⟨false, h2, l2⟩ w ((w.alloc (.cells #[.bool false, .int .u64 h1, .int .u64 l1] 24)).alloc (.cells #[.bool false, .int .u64 h2, .int .u64 l2] 24)) := SAB.of (Below.refl _ _)
  obtain ⟨c0, c1, c2, c3, c4, c5, hs⟩ := id hk0
  clear hra hrb ha hb
  go_enter Try.func10, Try.ntmps10
  go_wp2_with fail
  (with_reducible refine (K1.out _ hk0).mono ?_)
  rintro e w1 ⟨rfl, hk1⟩
  clear c0 c1 c2 c3 c4 c5 hs
  obtain ⟨c0, c1, c2, c3, c4, c5, hs⟩ := id hk1
  go_wp2_with fail
  (with_reducible refine (K2.out _ hk1).mono ?_)
  rintro e w2 ⟨rfl, hk2⟩
  clear c0 c1 c2 c3 c4 c5 hs
  obtain ⟨c0, c1, c2, c3, c4, c5, hs⟩ := id hk2
  go_wp2_with fail
  clear c0 c1 c2 c3 c4 c5 hs
  go_loopw [5] (fun i wr => ∃ k : Nat, i = .int .i64 k ∧ k ≤ 32 ∧ Hid (∀ j, j < k → j < 16 → bitN ⟨false, h1, l1⟩ j = bitN ⟨false, h2, l2⟩ j) ∧ SAB ⟨false, h1, l1⟩ ⟨false, h2, l2⟩ w wr) (fun i _ => 32 - (intOf i).toNat)
  case atStart => exact ⟨0, rfl, by omega, Lib.hid (fun j h1 _ => absurd h1 (by omega)), hk2⟩
  case round =>
    obtain ⟨k, rfl, hk, HA, hSr⟩ := hrel
    obtain ⟨c0, c1, c2, c3, c4, c5, hs⟩ := id hSr
    by_cases hlt : k < 32
    · by_cases hlk : k < 16
      · by_cases e : bitN ⟨false, h1, l1⟩ k = bitN ⟨false, h2, l2⟩ k
        · have K4 := Lib.hid (fun W => KA.out W k hlk)
          have K5 := Lib.hid (fun W => KB.out W k hlk)
          rw [← e] at K5
          have HA2 : Hid (∀ j, j < k + 1 → j < 16 → bitN ⟨false, h1, l1⟩ j = bitN ⟨false, h2, l2⟩ j) := Lib.hid (fun j h1 h2 => by
            rcases Nat.lt_succ_iff_lt_or_eq.1 h1 with h | rfl
            · exact HA.out j h h2
            · exact e)
          have hd : decide ((k : Int) < 16) = true := decide_eq_true (by omega)
          clear e
          go_wp2_with fail
          go_region_held3 (fun w' => w'.cell? ⟨w.heap.size, 0, none⟩ = some (.bool false) ∧ w'.cell? ⟨w.heap.size, 1, none⟩ = some (.int .u64 h1) ∧ w'.cell? ⟨w.heap.size, 2, none⟩ = some (.int .u64 l1) ∧ w'.cell? ⟨w.heap.size + 1, 0, none⟩ = some (.bool false) ∧ w'.cell? ⟨w.heap.size + 1, 1, none⟩ = some (.int .u64 h2) ∧ w'.cell? ⟨w.heap.size + 1, 2, none⟩ = some (.int .u64 l2) ∧ Stays ((w.alloc (.cells #[.bool false, .int .u64 h1, .int .u64 l1] 24)).alloc (.cells #[.bool false, .int .u64 h2, .int .u64 l2] 24)) w')
            (first | assumption | exact JD.out _ ‹_›)
            (first
              | (go_at_call 20; (with_reducible first | refine (K4.out _ ‹_›).mono ?_ | refine (K5.out _ ‹_›).mono ?_); rintro e w9 ⟨rfl, hkw⟩))
          all_goals clear c0 c1 c2 c3 c4 c5 hs
          all_goals (
            go_wp2
            go_roundw
            case rel => exact ⟨k + 1, by go_num, by omega, HA2, by assumption⟩
            case measure => simp [intOf]; omega)
        · have K4 := Lib.hid (fun W => KA.out W k hlk)
          have K5 := Lib.hid (fun W => KB.out W k hlk)
          obtain ⟨g1, g2⟩ := iin e
          have E : Hid (sameG ⟨false, h1, l1⟩ ⟨false, h2, l2⟩ = false) := Lib.hid (by
            rw [← Bool.not_eq_true, HS.out]
            exact fun h => e (h k hlk))
          have hd : decide ((k : Int) < 16) = true := decide_eq_true (by omega)
          clear e
          go_wp2_with fail
          go_region_held3 (fun w' => w'.cell? ⟨w.heap.size, 0, none⟩ = some (.bool false) ∧ w'.cell? ⟨w.heap.size, 1, none⟩ = some (.int .u64 h1) ∧ w'.cell? ⟨w.heap.size, 2, none⟩ = some (.int .u64 l1) ∧ w'.cell? ⟨w.heap.size + 1, 0, none⟩ = some (.bool false) ∧ w'.cell? ⟨w.heap.size + 1, 1, none⟩ = some (.int .u64 h2) ∧ w'.cell? ⟨w.heap.size + 1, 2, none⟩ = some (.int .u64 l2) ∧ Stays ((w.alloc (.cells #[.bool false, .int .u64 h1, .int .u64 l1] 24)).alloc (.cells #[.bool false, .int .u64 h2, .int .u64 l2] 24)) w')
            (first | assumption | exact JD.out _ ‹_›)
            (first
              | (go_at_call 20; (with_reducible first | refine (K4.out _ ‹_›).mono ?_ | refine (K5.out _ ‹_›).mono ?_); rintro e w9 ⟨rfl, hkw⟩))
          all_goals (
            go_wp2
            go_ret
            exact ⟨ret_b E.out.symm, SAB.low (‹SAB ⟨false, h1, l1⟩ ⟨false, h2, l2⟩ w _›)⟩)
      · have HA2 : Hid (∀ j, j < k + 1 → j < 16 → bitN ⟨false, h1, l1⟩ j = bitN ⟨false, h2, l2⟩ j) := Lib.hid (fun j h1 h2 => HA.out j (by omega) h2)
        have hd : decide ((k : Int) < 16) = false := decide_eq_false (by omega)
        go_wp2_with fail
        go_quiet (fail)
        go_wp2
        go_roundw
        case rel => exact ⟨k + 1, by go_num, by omega, HA2, SAB.of (low_drewN hSr.2.2.2.2.2.2 _)⟩
        case measure => simp [intOf]; omega
    · obtain rfl : k = 32 := by omega
      have E : Hid (sameG ⟨false, h1, l1⟩ ⟨false, h2, l2⟩ = true) := Lib.hid (by
        rw [HS.out]
        exact fun j h => HA.out j (by omega) h)
      go_wp2_with fail
      go_ret
      exact ⟨ret_b E.out.symm, SAB.low hSr⟩
end Go.Proofs.Ytmkpacbalnkdbaa.Gr
