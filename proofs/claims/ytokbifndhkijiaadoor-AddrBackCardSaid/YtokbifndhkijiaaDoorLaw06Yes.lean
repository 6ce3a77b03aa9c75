/- Of the second statement of layer 6: where the address is right. -/
import Derived.Test.YtokbifndhkijiaaDoorLaw06
namespace Go.Proofs.YtokbifndhkijiaaDoor
set_option maxRecDepth 100000
open Go.ChangeShapes Go.WideShapes Go.ChangeAt Go.RowKit
open Words Dec V4 V6 Ad
set_option linter.unusedVariables false
abbrev S06d (a b : Adr) (w w2 : World) (w' : World) : Prop := w'.cell? ⟨w.heap.size, 0, none⟩ = some (.bool a.v6) ∧ w'.cell? ⟨w.heap.size, 1, none⟩ = some (.int .u64 a.hi) ∧ w'.cell? ⟨w.heap.size, 2, none⟩ = some (.int .u64 a.lo) ∧ w'.cell? ⟨w.heap.size + 1, 0, none⟩ = some (.bool b.v6) ∧ w'.cell? ⟨w.heap.size + 1, 1, none⟩ = some (.int .u64 b.hi) ∧ w'.cell? ⟨w.heap.size + 1, 2, none⟩ = some (.int .u64 b.lo) ∧ w'.cell? ⟨w2.heap.size, 0, none⟩ = some (.bool (parseA (textA a)).v6) ∧ w'.cell? ⟨w2.heap.size, 1, none⟩ = some (.int .u64 (parseA (textA a)).hi) ∧ w'.cell? ⟨w2.heap.size, 2, none⟩ = some (.int .u64 (parseA (textA a)).lo) ∧ Stays (w2.alloc (.cells #[.bool (parseA (textA a)).v6, .int .u64 (parseA (textA a)).hi, .int .u64 (parseA (textA a)).lo] 24)) w'
abbrev S06e (a b : Adr) (l : List UInt8) (w w5 : World) (w' : World) : Prop := w'.cell? ⟨w.heap.size, 0, none⟩ = some (.bool a.v6) ∧ w'.cell? ⟨w.heap.size, 1, none⟩ = some (.int .u64 a.hi) ∧ w'.cell? ⟨w.heap.size, 2, none⟩ = some (.int .u64 a.lo) ∧ w'.cell? ⟨w.heap.size + 1, 0, none⟩ = some (.bool b.v6) ∧ w'.cell? ⟨w.heap.size + 1, 1, none⟩ = some (.int .u64 b.hi) ∧ w'.cell? ⟨w.heap.size + 1, 2, none⟩ = some (.int .u64 b.lo) ∧ w'.cell? ⟨w5.heap.size, 0, none⟩ = some (.bool (parseA l).v6) ∧ w'.cell? ⟨w5.heap.size, 1, none⟩ = some (.int .u64 (parseA l).hi) ∧ w'.cell? ⟨w5.heap.size, 2, none⟩ = some (.int .u64 (parseA l).lo) ∧ Stays (w5.alloc (.cells #[.bool (parseA l).v6, .int .u64 (parseA l).hi, .int .u64 (parseA l).lo] 24)) w'
theorem two_new (w : World) (a b : Adr) (t : TypeId) :
    let w' := (w.alloc (.cells #[.bool a.v6, .int .u64 a.hi, .int .u64 a.lo] t)).alloc (.cells #[.bool b.v6, .int .u64 b.hi, .int .u64 b.lo] t)
    (w'.cell? ⟨w.heap.size, 0, none⟩ = some (.bool a.v6) ∧ w'.cell? ⟨w.heap.size, 1, none⟩ = some (.int .u64 a.hi) ∧ w'.cell? ⟨w.heap.size, 2, none⟩ = some (.int .u64 a.lo)) ∧
    (w'.cell? ⟨w.heap.size + 1, 0, none⟩ = some (.bool b.v6) ∧ w'.cell? ⟨w.heap.size + 1, 1, none⟩ = some (.int .u64 b.hi) ∧ w'.cell? ⟨w.heap.size + 1, 2, none⟩ = some (.int .u64 b.lo)) := by
  have n1 := cell_new w (.bool a.v6) (.int .u64 a.hi) (.int .u64 a.lo) t
  have n2 := cell_new (w.alloc (.cells #[.bool a.v6, .int .u64 a.hi, .int .u64 a.lo] t)) (.bool b.v6) (.int .u64 b.hi) (.int .u64 b.lo) t
  have s1 : Stays (w.alloc (.cells #[.bool a.v6, .int .u64 a.hi, .int .u64 a.lo] t)) ((w.alloc (.cells #[.bool a.v6, .int .u64 a.hi, .int .u64 a.lo] t)).alloc (.cells #[.bool b.v6, .int .u64 b.hi, .int .u64 b.lo] t)) := (Below.refl _ _).alloc (Nat.le_refl _) _
  have e1 : (w.alloc (.cells #[.bool a.v6, .int .u64 a.hi, .int .u64 a.lo] t)).heap.size = w.heap.size + 1 := by simp
  rw [e1] at n2
  exact ⟨⟨cells_left s1 n1.1, cells_left s1 n1.2.1, cells_left s1 n1.2.2⟩, n2⟩
theorem neqAdr (a b : Adr) (w : World) : (binOp .neq 24 (.agg #[.bool a.v6, .int .u64 a.hi, .int .u64 a.lo]) (.agg #[.bool b.v6, .int .u64 b.hi, .int .u64 b.lo])).run Tryd.prog w = .ok (.bool (!sameA a b)) w := by
  have h := eqAdr a b w
  rw [run_eql_struct] at h
  rw [run_neq_struct]
  generalize (Op.equalIn 10000 24 (.agg #[.bool a.v6, .int .u64 a.hi, .int .u64 a.lo]) (.agg #[.bool b.v6, .int .u64 b.hi, .int .u64 b.lo])).run Tryd.prog w = r at h
  cases r with
  | ok x w' =>
    simp only [Result.andThen_ok, Result.ok.injEq, Value.bool.injEq] at h ⊢
    obtain ⟨rfl, rfl⟩ := h
    exact ⟨rfl, rfl⟩
  | halt x w' => cases h
def sameTo (a b : Adr) : Nat → Bool
  | 0 => true
  | k + 1 => sameTo a b k && (bitA a (k : Int) == bitA b (k : Int))
theorem sameTo_iff (a b : Adr) : ∀ k, sameTo a b k = true ↔ ∀ j, j < k → bitA a (j : Int) = bitA b (j : Int)
  | 0 => by simp [sameTo]
  | k + 1 => by
    rw [sameTo, Bool.and_eq_true, sameTo_iff a b k, beq_iff_eq]
    constructor
    · rintro ⟨h1, h2⟩ j hj
      by_cases e : j = k
      · subst e; exact h2
      · exact h1 j (by omega)
    · exact fun h => ⟨fun j hj => h j (by omega), h k (by omega)⟩
theorem same_all {a b : Adr} (ha : a.ok) (hb : b.ok) (ra : rightA a = true) (rb : rightA b = true) (hv : bitsA a = bitsA b) : (sameTo a b (bitsA a) == sameA a b) = true := by
  rw [beq_iff_eq, Bool.eq_iff_iff, sameTo_iff, sameA_iff]
  constructor
  · intro h
    refine bits_same ha hb ra rb hv fun i hi => ?_
    have := h i hi
    unfold bitA at this
    rw [if_pos (by omega), if_pos (by rw [← hv]; omega), Int.toNat_natCast] at this
    omega
  · rintro rfl j _; rfl
set_option maxHeartbeats 16000000 in
theorem back_yes (w : World) (a : Adr) (ha : a.ok) (b : Adr) (hb : b.ok) (l : List UInt8) (hl : l.length ≤ 1000) (hL : Lens w) (hr : rightA a = true) :
    Calls Tryd.prog 4 #[.agg #[.bool a.v6, .int .u64 a.hi, .int .u64 a.lo], .agg #[.bool b.v6, .int .u64 b.hi, .int .u64 b.lo], .string ⟨l.toArray⟩] w fun e w' => e = .returned (.bool true) ∧ Below w.heap.size w w' := by
  have h10 : ¬ 1000 < l.length := by omega
  have hB : Below w.heap.size w ((w.alloc (.cells #[.bool a.v6, .int .u64 a.hi, .int .u64 a.lo] 24)).alloc (.cells #[.bool b.v6, .int .u64 b.hi, .int .u64 b.lo] 24)) := two_low _ _ _
  have hLS := hL.below hB
  have TN := two_new w a b 24
  have TL := textA_len a
  have T1 := Lib.hid (fun W => textA_any a W ha)
  have P1 := Lib.hid (parseA_any (textA a))
  unfold ParseA at P1
  obtain ⟨hk1, hk2⟩ := backA ha hr
  rw [hk1] at P1
  have NQ : ∀ W, (binOp .neq 24 (.agg #[.bool (parseA (textA a)).v6, .int .u64 (parseA (textA a)).hi, .int .u64 (parseA (textA a)).lo]) (.agg #[.bool a.v6, .int .u64 a.hi, .int .u64 a.lo])).run Tryd.prog W = .ok (.bool false) W := fun W => by rw [neqAdr, hk2, (sameA_iff a a).2 rfl]; rfl
  clear hk1 hk2
  go_enter Tryd.func4, Tryd.ntmps4
  go_wp2_with fail
  (with_reducible refine (T1.out _).mono ?_)
  rintro e w1 ⟨rfl, hb1⟩
  go_wp2_with fail
  (with_reducible refine (P1.out _ (by omega) (hLS.below hb1)).mono ?_)
  rintro e w2 ⟨rfl, hb2⟩
  have hs03 : Stays ((w.alloc (.cells #[.bool a.v6, .int .u64 a.hi, .int .u64 a.lo] 24)).alloc (.cells #[.bool b.v6, .int .u64 b.hi, .int .u64 b.lo] 24)) (w2.alloc (.cells #[.bool (parseA (textA a)).v6, .int .u64 (parseA (textA a)).hi, .int .u64 (parseA (textA a)).lo] 24)) := (low_trans hb1 hb2).alloc (low_trans hb1 hb2).size _
  have hL3 := hLS.below hs03
  have IN : ∀ w', Stays (w2.alloc (.cells #[.bool (parseA (textA a)).v6, .int .u64 (parseA (textA a)).hi, .int .u64 (parseA (textA a)).lo] 24)) w' → S06d a b w w2 w' := fun w' h => ⟨cells_left h (cells_left hs03 TN.1.1), cells_left h (cells_left hs03 TN.1.2.1), cells_left h (cells_left hs03 TN.1.2.2), cells_left h (cells_left hs03 TN.2.1), cells_left h (cells_left hs03 TN.2.2.1), cells_left h (cells_left hs03 TN.2.2.2), cells_left h (cell_new _ _ _ _ _).1, cells_left h (cell_new _ _ _ _ _).2.1, cells_left h (cell_new _ _ _ _ _).2.2, h⟩
  have K1 : Hid (∀ W, S06d a b w w2 W → Calls Tryd.prog 9 #[.agg #[.bool a.v6, .int .u64 a.hi, .int .u64 a.lo]] W fun e w' => e = .returned (.bool (rightA a)) ∧ S06d a b w w2 w') := by
    intro W h
    have hs : Stays (w2.alloc (.cells #[.bool (parseA (textA a)).v6, .int .u64 (parseA (textA a)).hi, .int .u64 (parseA (textA a)).lo] 24)) W := h.2.2.2.2.2.2.2.2.2
    have hc : Calls Tryd.prog 9 #[.agg #[.bool a.v6, .int .u64 a.hi, .int .u64 a.lo]] W fun e w' => e = .returned (.bool (rightA a)) ∧ Below W.heap.size W w' := right_any a W ha
    exact hc.mono fun e w' ⟨he, hb⟩ => ⟨he, IN _ (low_trans hs hb)⟩
  have K2 : Hid (∀ W, S06d a b w w2 W → Calls Tryd.prog 11 #[.agg #[.bool a.v6, .int .u64 a.hi, .int .u64 a.lo]] W fun e w' => e = .returned (.string ⟨(textA a).toArray⟩) ∧ S06d a b w w2 w') := by
    intro W h
    have hs : Stays (w2.alloc (.cells #[.bool (parseA (textA a)).v6, .int .u64 (parseA (textA a)).hi, .int .u64 (parseA (textA a)).lo] 24)) W := h.2.2.2.2.2.2.2.2.2
    have hc : Calls Tryd.prog 11 #[.agg #[.bool a.v6, .int .u64 a.hi, .int .u64 a.lo]] W fun e w' => e = .returned (.string ⟨(textA a).toArray⟩) ∧ Below W.heap.size W w' := textA_any a W ha
    exact hc.mono fun e w' ⟨he, hb⟩ => ⟨he, IN _ (low_trans hs hb)⟩
  have K3 : Hid (∀ W, S06d a b w w2 W → Calls Tryd.prog 7 #[.string ⟨l.toArray⟩] W fun e w' => e = .returned (.tuple #[.agg #[.bool (parseA l).v6, .int .u64 (parseA l).hi, .int .u64 (parseA l).lo], .bool (okA l)]) ∧ S06d a b w w2 w') := by
    intro W h
    have hs : Stays (w2.alloc (.cells #[.bool (parseA (textA a)).v6, .int .u64 (parseA (textA a)).hi, .int .u64 (parseA (textA a)).lo] 24)) W := h.2.2.2.2.2.2.2.2.2
    have hc : Calls Tryd.prog 7 #[.string ⟨l.toArray⟩] W fun e w' => e = .returned (.tuple #[.agg #[.bool (parseA l).v6, .int .u64 (parseA l).hi, .int .u64 (parseA l).lo], .bool (okA l)]) ∧ Below W.heap.size W w' := parseA_any l W (by omega) (hL3.below hs)
    exact hc.mono fun e w' ⟨he, hb⟩ => ⟨he, IN _ (low_trans hs hb)⟩
  have hk0 : S06d a b w w2 (w2.alloc (.cells #[.bool (parseA (textA a)).v6, .int .u64 (parseA (textA a)).hi, .int .u64 (parseA (textA a)).lo] 24)) := IN _ (Below.refl _ _)
  obtain ⟨k0_0, k0_1, k0_2, k0_3, k0_4, k0_5, k0_6, k0_7, k0_8, hs0⟩ := id hk0
  rw [hr] at K1
  go_wp2_with fail
  (with_reducible refine (K1.out _ hk0).mono ?_)
  rintro e w3 ⟨rfl, hS3⟩
  obtain ⟨k3_0, k3_1, k3_2, k3_3, k3_4, k3_5, k3_6, k3_7, k3_8, hs3⟩ := id hS3
  go_wp2_with fail
  (with_reducible refine (K1.out _ hS3).mono ?_)
  rintro e w4 ⟨rfl, hS4⟩
  obtain ⟨k4_0, k4_1, k4_2, k4_3, k4_4, k4_5, k4_6, k4_7, k4_8, hs4⟩ := id hS4
  go_wp2_with fail
  cases hok : okA l
  · rw [hok] at K3
    have NZ : ∀ W, (binOp .neq 24 (.agg #[.bool (parseA l).v6, .int .u64 (parseA l).hi, .int .u64 (parseA l).lo]) (.agg #[.bool false, .int .u64 0, .int .u64 0])).run Tryd.prog W = .ok (.bool false) W := by
      intro W
      have h := neqAdr (parseA l) ⟨false, 0, 0⟩ W
      rw [show sameA (parseA l) ⟨false, 0, 0⟩ = true from by rw [parseA_no hok]; rfl] at h
      exact h
    (with_reducible refine (K3.out _ hS4).mono ?_)
    rintro e w5 ⟨rfl, hS5⟩
    have hs06 : Stays ((w.alloc (.cells #[.bool a.v6, .int .u64 a.hi, .int .u64 a.lo] 24)).alloc (.cells #[.bool b.v6, .int .u64 b.hi, .int .u64 b.lo] 24)) (w5.alloc (.cells #[.bool (parseA l).v6, .int .u64 (parseA l).hi, .int .u64 (parseA l).lo] 24)) := (low_trans hs03 hS5.2.2.2.2.2.2.2.2.2).alloc (low_trans hs03 hS5.2.2.2.2.2.2.2.2.2).size _
    have hL6 := hLS.below hs06
    clear IN K1 K2 K3 hS3 hS4 hS5 k0_0 k0_1 k0_2 k0_3 k0_4 k0_5 k0_6 k0_7 k0_8 hs0 k3_0 k3_1 k3_2 k3_3 k3_4 k3_5 k3_6 k3_7 k3_8 hs3 k4_0 k4_1 k4_2 k4_3 k4_4 k4_5 k4_6 k4_7 k4_8 hs4
    have JN : ∀ w', Stays (w5.alloc (.cells #[.bool (parseA l).v6, .int .u64 (parseA l).hi, .int .u64 (parseA l).lo] 24)) w' → S06e a b l w w5 w' := fun w' h => ⟨cells_left h (cells_left hs06 TN.1.1), cells_left h (cells_left hs06 TN.1.2.1), cells_left h (cells_left hs06 TN.1.2.2), cells_left h (cells_left hs06 TN.2.1), cells_left h (cells_left hs06 TN.2.2.1), cells_left h (cells_left hs06 TN.2.2.2), cells_left h (cell_new _ _ _ _ _).1, cells_left h (cell_new _ _ _ _ _).2.1, cells_left h (cell_new _ _ _ _ _).2.2, h⟩
    have M1 : Hid (∀ W, S06e a b l w w5 W → Calls Tryd.prog 9 #[.agg #[.bool a.v6, .int .u64 a.hi, .int .u64 a.lo]] W fun e w' => e = .returned (.bool (rightA a)) ∧ S06e a b l w w5 w') := by
      intro W h
      have hs : Stays (w5.alloc (.cells #[.bool (parseA l).v6, .int .u64 (parseA l).hi, .int .u64 (parseA l).lo] 24)) W := h.2.2.2.2.2.2.2.2.2
      have hc : Calls Tryd.prog 9 #[.agg #[.bool a.v6, .int .u64 a.hi, .int .u64 a.lo]] W fun e w' => e = .returned (.bool (rightA a)) ∧ Below W.heap.size W w' := right_any a W ha
      exact hc.mono fun e w' ⟨he, hb⟩ => ⟨he, JN _ (low_trans hs hb)⟩
    have M2 : Hid (∀ W, S06e a b l w w5 W → Calls Tryd.prog 9 #[.agg #[.bool b.v6, .int .u64 b.hi, .int .u64 b.lo]] W fun e w' => e = .returned (.bool (rightA b)) ∧ S06e a b l w w5 w') := by
      intro W h
      have hs : Stays (w5.alloc (.cells #[.bool (parseA l).v6, .int .u64 (parseA l).hi, .int .u64 (parseA l).lo] 24)) W := h.2.2.2.2.2.2.2.2.2
      have hc : Calls Tryd.prog 9 #[.agg #[.bool b.v6, .int .u64 b.hi, .int .u64 b.lo]] W fun e w' => e = .returned (.bool (rightA b)) ∧ Below W.heap.size W w' := right_any b W hb
      exact hc.mono fun e w' ⟨he, hb⟩ => ⟨he, JN _ (low_trans hs hb)⟩
    have M3 : Hid (∀ W, S06e a b l w w5 W → Calls Tryd.prog 9 #[.agg #[.bool (parseA l).v6, .int .u64 (parseA l).hi, .int .u64 (parseA l).lo]] W fun e w' => e = .returned (.bool (rightA (parseA l))) ∧ S06e a b l w w5 w') := by
      intro W h
      have hs : Stays (w5.alloc (.cells #[.bool (parseA l).v6, .int .u64 (parseA l).hi, .int .u64 (parseA l).lo] 24)) W := h.2.2.2.2.2.2.2.2.2
      have hc : Calls Tryd.prog 9 #[.agg #[.bool (parseA l).v6, .int .u64 (parseA l).hi, .int .u64 (parseA l).lo]] W fun e w' => e = .returned (.bool (rightA (parseA l))) ∧ Below W.heap.size W w' := right_any (parseA l) W (parseA_ok l)
      exact hc.mono fun e w' ⟨he, hb⟩ => ⟨he, JN _ (low_trans hs hb)⟩
    have M4 : Hid (∀ W, S06e a b l w w5 W → Calls Tryd.prog 13 #[.agg #[.bool a.v6, .int .u64 a.hi, .int .u64 a.lo]] W fun e w' => e = .returned (.int .i64 (bitsA a : Nat)) ∧ S06e a b l w w5 w') := by
      intro W h
      have hs : Stays (w5.alloc (.cells #[.bool (parseA l).v6, .int .u64 (parseA l).hi, .int .u64 (parseA l).lo] 24)) W := h.2.2.2.2.2.2.2.2.2
      have hc : Calls Tryd.prog 13 #[.agg #[.bool a.v6, .int .u64 a.hi, .int .u64 a.lo]] W fun e w' => e = .returned (.int .i64 (bitsA a : Nat)) ∧ Below W.heap.size W w' := bits_any a W
      exact hc.mono fun e w' ⟨he, hb⟩ => ⟨he, JN _ (low_trans hs hb)⟩
    have M5 : Hid (∀ W, S06e a b l w w5 W → Calls Tryd.prog 13 #[.agg #[.bool b.v6, .int .u64 b.hi, .int .u64 b.lo]] W fun e w' => e = .returned (.int .i64 (bitsA b : Nat)) ∧ S06e a b l w w5 w') := by
      intro W h
      have hs : Stays (w5.alloc (.cells #[.bool (parseA l).v6, .int .u64 (parseA l).hi, .int .u64 (parseA l).lo] 24)) W := h.2.2.2.2.2.2.2.2.2
      have hc : Calls Tryd.prog 13 #[.agg #[.bool b.v6, .int .u64 b.hi, .int .u64 b.lo]] W fun e w' => e = .returned (.int .i64 (bitsA b : Nat)) ∧ Below W.heap.size W w' := bits_any b W
      exact hc.mono fun e w' ⟨he, hb⟩ => ⟨he, JN _ (low_trans hs hb)⟩
    have M6 : Hid (∀ W, S06e a b l w w5 W → Calls Tryd.prog 6 #[] W fun e w' => e = .returned (.bool true) ∧ S06e a b l w w5 w') := by
      intro W h
      have hs : Stays (w5.alloc (.cells #[.bool (parseA l).v6, .int .u64 (parseA l).hi, .int .u64 (parseA l).lo] 24)) W := h.2.2.2.2.2.2.2.2.2
      have hc : Calls Tryd.prog 6 #[] W fun e w' => e = .returned (.bool true) ∧ Below W.heap.size W w' := awake06_any W (hL6.below hs)
      exact hc.mono fun e w' ⟨he, hb⟩ => ⟨he, JN _ (low_trans hs hb)⟩
    have hk6 : S06e a b l w w5 (w5.alloc (.cells #[.bool (parseA l).v6, .int .u64 (parseA l).hi, .int .u64 (parseA l).lo] 24)) := JN _ (Below.refl _ _)
    obtain ⟨k6_0, k6_1, k6_2, k6_3, k6_4, k6_5, k6_6, k6_7, k6_8, hs6⟩ := id hk6
    clear hok
    go_wp2_with fail
    have hS7 := hk6
    rw [hr] at M1
    cases hrb : rightA b
    · rw [hrb] at M2
      clear hrb
      have JD : ∀ W, S06e a b l w w5 W → S06e a b l w w5 W.drew := fun W h => JN _ (low_drewN h.2.2.2.2.2.2.2.2.2 1)
      go_region_with (first
          | (go_at_call 9; (with_reducible refine (M1.out _ (by first | assumption | exact JD _ ‹_›)).mono ?_); rintro e w9 ⟨rfl, hkw⟩; obtain ⟨r0, r1, r2, r3, r4, r5, r6, r7, r8, hrs⟩ := id hkw)
          | (go_at_call 9; (with_reducible refine (M2.out _ (by first | assumption | exact JD _ ‹_›)).mono ?_); rintro e w9 ⟨rfl, hkw⟩; obtain ⟨r0, r1, r2, r3, r4, r5, r6, r7, r8, hrs⟩ := id hkw))
      all_goals go_wp2_with fail
      all_goals (with_reducible refine (M6.out _ (by first | assumption | exact JD _ ‹_›)).mono ?_)
      all_goals rintro e w8 ⟨rfl, hS8⟩
      all_goals go_wp2_with fail
      all_goals go_ret
      all_goals exact ⟨rfl, hB.trans ((low_trans hs06 hS8.2.2.2.2.2.2.2.2.2).mono hB.size)⟩
    · by_cases hv : bitsA a = bitsA b
      · obtain ⟨v1, v2⟩ := iiy hv
        have ES := Lib.hid (same_all ha hb hr hrb hv)
        have EQ := fun W => eqAdr a b W
        rw [hrb] at M2
        clear hrb hv
        go_region_held3 (fun w' => w'.cell? ⟨w.heap.size, 0, none⟩ = some (.bool a.v6) ∧ w'.cell? ⟨w.heap.size, 1, none⟩ = some (.int .u64 a.hi) ∧ w'.cell? ⟨w.heap.size, 2, none⟩ = some (.int .u64 a.lo) ∧ w'.cell? ⟨w.heap.size + 1, 0, none⟩ = some (.bool b.v6) ∧ w'.cell? ⟨w.heap.size + 1, 1, none⟩ = some (.int .u64 b.hi) ∧ w'.cell? ⟨w.heap.size + 1, 2, none⟩ = some (.int .u64 b.lo) ∧ w'.cell? ⟨w5.heap.size, 0, none⟩ = some (.bool (parseA l).v6) ∧ w'.cell? ⟨w5.heap.size, 1, none⟩ = some (.int .u64 (parseA l).hi) ∧ w'.cell? ⟨w5.heap.size, 2, none⟩ = some (.int .u64 (parseA l).lo) ∧ Stays (w5.alloc (.cells #[.bool (parseA l).v6, .int .u64 (parseA l).hi, .int .u64 (parseA l).lo] 24)) w')
          (first | assumption | exact JN _ (low_drewN (‹S06e a b l w w5 _›).2.2.2.2.2.2.2.2.2 1))
          (first
            | (go_at_call 9; (with_reducible refine (M1.out _ ‹_›).mono ?_); rintro e w9 ⟨rfl, hkw⟩)
            | (go_at_call 9; (with_reducible refine (M2.out _ ‹_›).mono ?_); rintro e w9 ⟨rfl, hkw⟩)
            | (go_at_call 13; (with_reducible refine (M4.out _ ‹_›).mono ?_); rintro e w9 ⟨rfl, hkw⟩)
            | (go_at_call 13; (with_reducible refine (M5.out _ ‹_›).mono ?_); rintro e w9 ⟨rfl, hkw⟩))
        have hn : bitsA a ≤ 128 := by unfold bitsA; split <;> omega
        go_wp2_with fail
        go_loopw [11, 12] (fun s i wr => ∃ k : Nat, k ≤ bitsA a ∧ i = .int .i64 k ∧ s = .bool (sameTo a b k) ∧ S06e a b l w w5 wr) (fun _ i _ => bitsA a - (intOf i).toNat)
        case atStart => exact ⟨0, Nat.zero_le _, rfl, rfl, ‹_›⟩
        case round =>
          obtain ⟨k, hk, rfl, rfl, hSr⟩ := hrel
          obtain ⟨k7_0, k7_1, k7_2, k7_3, k7_4, k7_5, k7_6, k7_7, k7_8, hs7⟩ := id hSr
          by_cases hlt : k < bitsA a
          · cases hsk : sameTo a b k
            · have HS : Hid (sameTo a b (k + 1) = false) := Lib.hid (by rw [sameTo, hsk]; rfl)
              clear hsk
              go_wp2_with fail
              (with_reducible refine (M4.out _ hSr).mono ?_)
              rintro e w10 ⟨rfl, hS10⟩
              obtain ⟨k10_0, k10_1, k10_2, k10_3, k10_4, k10_5, k10_6, k10_7, k10_8, hs10⟩ := id hS10
              go_wp2_with fail
              go_quiet (fail)
              go_wp2_with fail
              go_roundw
              case rel => exact ⟨k + 1, by omega, by go_num, by rw [HS.out], JN _ (low_drewN hS10.2.2.2.2.2.2.2.2.2 _)⟩
              case measure => simp [intOf]; omega
            · have HS : Hid (sameTo a b (k + 1) = (bitA a k == bitA b k)) := Lib.hid (by rw [sameTo, hsk]; rfl)
              clear hsk
              go_wp2_with fail
              (with_reducible refine (M4.out _ hSr).mono ?_)
              rintro e w10 ⟨rfl, hS10⟩
              obtain ⟨k10_0, k10_1, k10_2, k10_3, k10_4, k10_5, k10_6, k10_7, k10_8, hs10⟩ := id hS10
              go_wp2_with fail
              have JN : ∀ w', Stays (w5.alloc (.cells #[.bool (parseA l).v6, .int .u64 (parseA l).hi, .int .u64 (parseA l).lo] 24)) w' → S06e a b l w w5 w' := fun w' h => ⟨cells_left h (cells_left hs06 TN.1.1), cells_left h (cells_left hs06 TN.1.2.1), cells_left h (cells_left hs06 TN.1.2.2), cells_left h (cells_left hs06 TN.2.1), cells_left h (cells_left hs06 TN.2.2.1), cells_left h (cells_left hs06 TN.2.2.2), cells_left h (cell_new _ _ _ _ _).1, cells_left h (cell_new _ _ _ _ _).2.1, cells_left h (cell_new _ _ _ _ _).2.2, h⟩
              have B1 : Hid (∀ W, S06e a b l w w5 W → Calls Tryd.prog 15 #[.agg #[.bool a.v6, .int .u64 a.hi, .int .u64 a.lo], .int .i64 k] W fun e w' => e = .returned (.int .i64 (bitA a k)) ∧ S06e a b l w w5 w') := by
                intro W h
                have hs : Stays (w5.alloc (.cells #[.bool (parseA l).v6, .int .u64 (parseA l).hi, .int .u64 (parseA l).lo] 24)) W := h.2.2.2.2.2.2.2.2.2
                have hc : Calls Tryd.prog 15 #[.agg #[.bool a.v6, .int .u64 a.hi, .int .u64 a.lo], .int .i64 k] W fun e w' => e = .returned (.int .i64 (bitA a k)) ∧ Below W.heap.size W w' := bit_any a k W ha (by omega) (by omega)
                exact hc.mono fun e w' ⟨he, hb⟩ => ⟨he, JN _ (low_trans hs hb)⟩
              have B2 : Hid (∀ W, S06e a b l w w5 W → Calls Tryd.prog 15 #[.agg #[.bool b.v6, .int .u64 b.hi, .int .u64 b.lo], .int .i64 k] W fun e w' => e = .returned (.int .i64 (bitA b k)) ∧ S06e a b l w w5 w') := by
                intro W h
                have hs : Stays (w5.alloc (.cells #[.bool (parseA l).v6, .int .u64 (parseA l).hi, .int .u64 (parseA l).lo] 24)) W := h.2.2.2.2.2.2.2.2.2
                have hc : Calls Tryd.prog 15 #[.agg #[.bool b.v6, .int .u64 b.hi, .int .u64 b.lo], .int .i64 k] W fun e w' => e = .returned (.int .i64 (bitA b k)) ∧ Below W.heap.size W w' := bit_any b k W hb (by omega) (by omega)
                exact hc.mono fun e w' ⟨he, hb⟩ => ⟨he, JN _ (low_trans hs hb)⟩
              have hk8 : S06e a b l w w5 (w5.alloc (.cells #[.bool (parseA l).v6, .int .u64 (parseA l).hi, .int .u64 (parseA l).lo] 24)) := JN _ (Below.refl _ _)
              go_region_held3 (fun w' => w'.cell? ⟨w.heap.size, 0, none⟩ = some (.bool a.v6) ∧ w'.cell? ⟨w.heap.size, 1, none⟩ = some (.int .u64 a.hi) ∧ w'.cell? ⟨w.heap.size, 2, none⟩ = some (.int .u64 a.lo) ∧ w'.cell? ⟨w.heap.size + 1, 0, none⟩ = some (.bool b.v6) ∧ w'.cell? ⟨w.heap.size + 1, 1, none⟩ = some (.int .u64 b.hi) ∧ w'.cell? ⟨w.heap.size + 1, 2, none⟩ = some (.int .u64 b.lo) ∧ w'.cell? ⟨w5.heap.size, 0, none⟩ = some (.bool (parseA l).v6) ∧ w'.cell? ⟨w5.heap.size, 1, none⟩ = some (.int .u64 (parseA l).hi) ∧ w'.cell? ⟨w5.heap.size, 2, none⟩ = some (.int .u64 (parseA l).lo) ∧ Stays (w5.alloc (.cells #[.bool (parseA l).v6, .int .u64 (parseA l).hi, .int .u64 (parseA l).lo] 24)) w')
                (first | assumption | exact JN _ (low_drewN (‹S06e a b l w w5 _›).2.2.2.2.2.2.2.2.2 1))
                (first
                  | (go_at_call 15; (with_reducible refine (B1.out _ ‹_›).mono ?_); rintro e w9 ⟨rfl, hkw⟩)
                  | (go_at_call 15; (with_reducible refine (B2.out _ ‹_›).mono ?_); rintro e w9 ⟨rfl, hkw⟩))
              go_wp2_with fail
              go_roundw
              case rel => exact ⟨k + 1, by omega, by go_num, by rw [HS.out], ‹_›⟩
              case measure => simp [intOf]; omega
          · obtain rfl : k = bitsA a := by omega
            have ES := ES.out
            go_wp2_with fail
            (with_reducible refine (M4.out _ hSr).mono ?_)
            rintro e w10 ⟨rfl, hS10⟩
            obtain ⟨k10_0, k10_1, k10_2, k10_3, k10_4, k10_5, k10_6, k10_7, k10_8, hs10⟩ := id hS10
            go_wp2_with fail
            (with_reducible refine (M6.out _ hS10).mono ?_)
            rintro e w11 ⟨rfl, hS11⟩
            go_wp2_with fail
            go_ret
            exact ⟨rfl, hB.trans ((low_trans hs06 hS11.2.2.2.2.2.2.2.2.2).mono hB.size)⟩
      · obtain ⟨v1, v2⟩ := iin hv
        rw [hrb] at M2
        clear hrb hv
        go_region_held3 (fun w' => w'.cell? ⟨w.heap.size, 0, none⟩ = some (.bool a.v6) ∧ w'.cell? ⟨w.heap.size, 1, none⟩ = some (.int .u64 a.hi) ∧ w'.cell? ⟨w.heap.size, 2, none⟩ = some (.int .u64 a.lo) ∧ w'.cell? ⟨w.heap.size + 1, 0, none⟩ = some (.bool b.v6) ∧ w'.cell? ⟨w.heap.size + 1, 1, none⟩ = some (.int .u64 b.hi) ∧ w'.cell? ⟨w.heap.size + 1, 2, none⟩ = some (.int .u64 b.lo) ∧ w'.cell? ⟨w5.heap.size, 0, none⟩ = some (.bool (parseA l).v6) ∧ w'.cell? ⟨w5.heap.size, 1, none⟩ = some (.int .u64 (parseA l).hi) ∧ w'.cell? ⟨w5.heap.size, 2, none⟩ = some (.int .u64 (parseA l).lo) ∧ Stays (w5.alloc (.cells #[.bool (parseA l).v6, .int .u64 (parseA l).hi, .int .u64 (parseA l).lo] 24)) w')
          (first | assumption | exact JN _ (low_drewN (‹S06e a b l w w5 _›).2.2.2.2.2.2.2.2.2 1))
          (first
            | (go_at_call 9; (with_reducible refine (M1.out _ ‹_›).mono ?_); rintro e w9 ⟨rfl, hkw⟩)
            | (go_at_call 9; (with_reducible refine (M2.out _ ‹_›).mono ?_); rintro e w9 ⟨rfl, hkw⟩)
            | (go_at_call 13; (with_reducible refine (M4.out _ ‹_›).mono ?_); rintro e w9 ⟨rfl, hkw⟩)
            | (go_at_call 13; (with_reducible refine (M5.out _ ‹_›).mono ?_); rintro e w9 ⟨rfl, hkw⟩))
        go_wp2_with fail
        (with_reducible refine (M6.out _ ‹_›).mono ?_)
        rintro e w8 ⟨rfl, hS8⟩
        go_wp2_with fail
        go_ret
        exact ⟨rfl, hB.trans ((low_trans hs06 hS8.2.2.2.2.2.2.2.2.2).mono hB.size)⟩
  · rw [hok] at K3
    (with_reducible refine (K3.out _ hS4).mono ?_)
    rintro e w5 ⟨rfl, hS5⟩
    have hs06 : Stays ((w.alloc (.cells #[.bool a.v6, .int .u64 a.hi, .int .u64 a.lo] 24)).alloc (.cells #[.bool b.v6, .int .u64 b.hi, .int .u64 b.lo] 24)) (w5.alloc (.cells #[.bool (parseA l).v6, .int .u64 (parseA l).hi, .int .u64 (parseA l).lo] 24)) := (low_trans hs03 hS5.2.2.2.2.2.2.2.2.2).alloc (low_trans hs03 hS5.2.2.2.2.2.2.2.2.2).size _
    have hL6 := hLS.below hs06
    clear IN K1 K2 K3 hS3 hS4 hS5 k0_0 k0_1 k0_2 k0_3 k0_4 k0_5 k0_6 k0_7 k0_8 hs0 k3_0 k3_1 k3_2 k3_3 k3_4 k3_5 k3_6 k3_7 k3_8 hs3 k4_0 k4_1 k4_2 k4_3 k4_4 k4_5 k4_6 k4_7 k4_8 hs4
    have JN : ∀ w', Stays (w5.alloc (.cells #[.bool (parseA l).v6, .int .u64 (parseA l).hi, .int .u64 (parseA l).lo] 24)) w' → S06e a b l w w5 w' := fun w' h => ⟨cells_left h (cells_left hs06 TN.1.1), cells_left h (cells_left hs06 TN.1.2.1), cells_left h (cells_left hs06 TN.1.2.2), cells_left h (cells_left hs06 TN.2.1), cells_left h (cells_left hs06 TN.2.2.1), cells_left h (cells_left hs06 TN.2.2.2), cells_left h (cell_new _ _ _ _ _).1, cells_left h (cell_new _ _ _ _ _).2.1, cells_left h (cell_new _ _ _ _ _).2.2, h⟩
    have M1 : Hid (∀ W, S06e a b l w w5 W → Calls Tryd.prog 9 #[.agg #[.bool a.v6, .int .u64 a.hi, .int .u64 a.lo]] W fun e w' => e = .returned (.bool (rightA a)) ∧ S06e a b l w w5 w') := by
      intro W h
      have hs : Stays (w5.alloc (.cells #[.bool (parseA l).v6, .int .u64 (parseA l).hi, .int .u64 (parseA l).lo] 24)) W := h.2.2.2.2.2.2.2.2.2
      have hc : Calls Tryd.prog 9 #[.agg #[.bool a.v6, .int .u64 a.hi, .int .u64 a.lo]] W fun e w' => e = .returned (.bool (rightA a)) ∧ Below W.heap.size W w' := right_any a W ha
      exact hc.mono fun e w' ⟨he, hb⟩ => ⟨he, JN _ (low_trans hs hb)⟩
    have M2 : Hid (∀ W, S06e a b l w w5 W → Calls Tryd.prog 9 #[.agg #[.bool b.v6, .int .u64 b.hi, .int .u64 b.lo]] W fun e w' => e = .returned (.bool (rightA b)) ∧ S06e a b l w w5 w') := by
      intro W h
      have hs : Stays (w5.alloc (.cells #[.bool (parseA l).v6, .int .u64 (parseA l).hi, .int .u64 (parseA l).lo] 24)) W := h.2.2.2.2.2.2.2.2.2
      have hc : Calls Tryd.prog 9 #[.agg #[.bool b.v6, .int .u64 b.hi, .int .u64 b.lo]] W fun e w' => e = .returned (.bool (rightA b)) ∧ Below W.heap.size W w' := right_any b W hb
      exact hc.mono fun e w' ⟨he, hb⟩ => ⟨he, JN _ (low_trans hs hb)⟩
    have M3 : Hid (∀ W, S06e a b l w w5 W → Calls Tryd.prog 9 #[.agg #[.bool (parseA l).v6, .int .u64 (parseA l).hi, .int .u64 (parseA l).lo]] W fun e w' => e = .returned (.bool (rightA (parseA l))) ∧ S06e a b l w w5 w') := by
      intro W h
      have hs : Stays (w5.alloc (.cells #[.bool (parseA l).v6, .int .u64 (parseA l).hi, .int .u64 (parseA l).lo] 24)) W := h.2.2.2.2.2.2.2.2.2
      have hc : Calls Tryd.prog 9 #[.agg #[.bool (parseA l).v6, .int .u64 (parseA l).hi, .int .u64 (parseA l).lo]] W fun e w' => e = .returned (.bool (rightA (parseA l))) ∧ Below W.heap.size W w' := right_any (parseA l) W (parseA_ok l)
      exact hc.mono fun e w' ⟨he, hb⟩ => ⟨he, JN _ (low_trans hs hb)⟩
    have M4 : Hid (∀ W, S06e a b l w w5 W → Calls Tryd.prog 13 #[.agg #[.bool a.v6, .int .u64 a.hi, .int .u64 a.lo]] W fun e w' => e = .returned (.int .i64 (bitsA a : Nat)) ∧ S06e a b l w w5 w') := by
      intro W h
      have hs : Stays (w5.alloc (.cells #[.bool (parseA l).v6, .int .u64 (parseA l).hi, .int .u64 (parseA l).lo] 24)) W := h.2.2.2.2.2.2.2.2.2
      have hc : Calls Tryd.prog 13 #[.agg #[.bool a.v6, .int .u64 a.hi, .int .u64 a.lo]] W fun e w' => e = .returned (.int .i64 (bitsA a : Nat)) ∧ Below W.heap.size W w' := bits_any a W
      exact hc.mono fun e w' ⟨he, hb⟩ => ⟨he, JN _ (low_trans hs hb)⟩
    have M5 : Hid (∀ W, S06e a b l w w5 W → Calls Tryd.prog 13 #[.agg #[.bool b.v6, .int .u64 b.hi, .int .u64 b.lo]] W fun e w' => e = .returned (.int .i64 (bitsA b : Nat)) ∧ S06e a b l w w5 w') := by
      intro W h
      have hs : Stays (w5.alloc (.cells #[.bool (parseA l).v6, .int .u64 (parseA l).hi, .int .u64 (parseA l).lo] 24)) W := h.2.2.2.2.2.2.2.2.2
      have hc : Calls Tryd.prog 13 #[.agg #[.bool b.v6, .int .u64 b.hi, .int .u64 b.lo]] W fun e w' => e = .returned (.int .i64 (bitsA b : Nat)) ∧ Below W.heap.size W w' := bits_any b W
      exact hc.mono fun e w' ⟨he, hb⟩ => ⟨he, JN _ (low_trans hs hb)⟩
    have M6 : Hid (∀ W, S06e a b l w w5 W → Calls Tryd.prog 6 #[] W fun e w' => e = .returned (.bool true) ∧ S06e a b l w w5 w') := by
      intro W h
      have hs : Stays (w5.alloc (.cells #[.bool (parseA l).v6, .int .u64 (parseA l).hi, .int .u64 (parseA l).lo] 24)) W := h.2.2.2.2.2.2.2.2.2
      have hc : Calls Tryd.prog 6 #[] W fun e w' => e = .returned (.bool true) ∧ Below W.heap.size W w' := awake06_any W (hL6.below hs)
      exact hc.mono fun e w' ⟨he, hb⟩ => ⟨he, JN _ (low_trans hs hb)⟩
    have hk6 : S06e a b l w w5 (w5.alloc (.cells #[.bool (parseA l).v6, .int .u64 (parseA l).hi, .int .u64 (parseA l).lo] 24)) := JN _ (Below.refl _ _)
    obtain ⟨k6_0, k6_1, k6_2, k6_3, k6_4, k6_5, k6_6, k6_7, k6_8, hs6⟩ := id hk6
    rw [parseA_right hok] at M3
    clear hok
    go_wp2_with fail
    (with_reducible refine (M3.out _ hk6).mono ?_)
    rintro e w7 ⟨rfl, hS7⟩
    clear k6_0 k6_1 k6_2 k6_3 k6_4 k6_5 k6_6 k6_7 k6_8 hs6
    obtain ⟨k6_0, k6_1, k6_2, k6_3, k6_4, k6_5, k6_6, k6_7, k6_8, hs6⟩ := id hS7
    go_wp2_with fail
    rw [hr] at M1
    cases hrb : rightA b
    · rw [hrb] at M2
      clear hrb
      have JD : ∀ W, S06e a b l w w5 W → S06e a b l w w5 W.drew := fun W h => JN _ (low_drewN h.2.2.2.2.2.2.2.2.2 1)
      go_region_with (first
          | (go_at_call 9; (with_reducible refine (M1.out _ (by first | assumption | exact JD _ ‹_›)).mono ?_); rintro e w9 ⟨rfl, hkw⟩; obtain ⟨r0, r1, r2, r3, r4, r5, r6, r7, r8, hrs⟩ := id hkw)
          | (go_at_call 9; (with_reducible refine (M2.out _ (by first | assumption | exact JD _ ‹_›)).mono ?_); rintro e w9 ⟨rfl, hkw⟩; obtain ⟨r0, r1, r2, r3, r4, r5, r6, r7, r8, hrs⟩ := id hkw))
      all_goals go_wp2_with fail
      all_goals (with_reducible refine (M6.out _ (by first | assumption | exact JD _ ‹_›)).mono ?_)
      all_goals rintro e w8 ⟨rfl, hS8⟩
      all_goals go_wp2_with fail
      all_goals go_ret
      all_goals exact ⟨rfl, hB.trans ((low_trans hs06 hS8.2.2.2.2.2.2.2.2.2).mono hB.size)⟩
    · by_cases hv : bitsA a = bitsA b
      · obtain ⟨v1, v2⟩ := iiy hv
        have ES := Lib.hid (same_all ha hb hr hrb hv)
        have EQ := fun W => eqAdr a b W
        rw [hrb] at M2
        clear hrb hv
        go_region_held3 (fun w' => w'.cell? ⟨w.heap.size, 0, none⟩ = some (.bool a.v6) ∧ w'.cell? ⟨w.heap.size, 1, none⟩ = some (.int .u64 a.hi) ∧ w'.cell? ⟨w.heap.size, 2, none⟩ = some (.int .u64 a.lo) ∧ w'.cell? ⟨w.heap.size + 1, 0, none⟩ = some (.bool b.v6) ∧ w'.cell? ⟨w.heap.size + 1, 1, none⟩ = some (.int .u64 b.hi) ∧ w'.cell? ⟨w.heap.size + 1, 2, none⟩ = some (.int .u64 b.lo) ∧ w'.cell? ⟨w5.heap.size, 0, none⟩ = some (.bool (parseA l).v6) ∧ w'.cell? ⟨w5.heap.size, 1, none⟩ = some (.int .u64 (parseA l).hi) ∧ w'.cell? ⟨w5.heap.size, 2, none⟩ = some (.int .u64 (parseA l).lo) ∧ Stays (w5.alloc (.cells #[.bool (parseA l).v6, .int .u64 (parseA l).hi, .int .u64 (parseA l).lo] 24)) w')
          (first | assumption | exact JN _ (low_drewN (‹S06e a b l w w5 _›).2.2.2.2.2.2.2.2.2 1))
          (first
            | (go_at_call 9; (with_reducible refine (M1.out _ ‹_›).mono ?_); rintro e w9 ⟨rfl, hkw⟩)
            | (go_at_call 9; (with_reducible refine (M2.out _ ‹_›).mono ?_); rintro e w9 ⟨rfl, hkw⟩)
            | (go_at_call 13; (with_reducible refine (M4.out _ ‹_›).mono ?_); rintro e w9 ⟨rfl, hkw⟩)
            | (go_at_call 13; (with_reducible refine (M5.out _ ‹_›).mono ?_); rintro e w9 ⟨rfl, hkw⟩))
        have hn : bitsA a ≤ 128 := by unfold bitsA; split <;> omega
        go_wp2_with fail
        go_loopw [11, 12] (fun s i wr => ∃ k : Nat, k ≤ bitsA a ∧ i = .int .i64 k ∧ s = .bool (sameTo a b k) ∧ S06e a b l w w5 wr) (fun _ i _ => bitsA a - (intOf i).toNat)
        case atStart => exact ⟨0, Nat.zero_le _, rfl, rfl, ‹_›⟩
        case round =>
          obtain ⟨k, hk, rfl, rfl, hSr⟩ := hrel
          obtain ⟨k7_0, k7_1, k7_2, k7_3, k7_4, k7_5, k7_6, k7_7, k7_8, hs7⟩ := id hSr
          by_cases hlt : k < bitsA a
          · cases hsk : sameTo a b k
            · have HS : Hid (sameTo a b (k + 1) = false) := Lib.hid (by rw [sameTo, hsk]; rfl)
              clear hsk
              go_wp2_with fail
              (with_reducible refine (M4.out _ hSr).mono ?_)
              rintro e w10 ⟨rfl, hS10⟩
              obtain ⟨k10_0, k10_1, k10_2, k10_3, k10_4, k10_5, k10_6, k10_7, k10_8, hs10⟩ := id hS10
              go_wp2_with fail
              go_quiet (fail)
              go_wp2_with fail
              go_roundw
              case rel => exact ⟨k + 1, by omega, by go_num, by rw [HS.out], JN _ (low_drewN hS10.2.2.2.2.2.2.2.2.2 _)⟩
              case measure => simp [intOf]; omega
            · have HS : Hid (sameTo a b (k + 1) = (bitA a k == bitA b k)) := Lib.hid (by rw [sameTo, hsk]; rfl)
              clear hsk
              go_wp2_with fail
              (with_reducible refine (M4.out _ hSr).mono ?_)
              rintro e w10 ⟨rfl, hS10⟩
              obtain ⟨k10_0, k10_1, k10_2, k10_3, k10_4, k10_5, k10_6, k10_7, k10_8, hs10⟩ := id hS10
              go_wp2_with fail
              have JN : ∀ w', Stays (w5.alloc (.cells #[.bool (parseA l).v6, .int .u64 (parseA l).hi, .int .u64 (parseA l).lo] 24)) w' → S06e a b l w w5 w' := fun w' h => ⟨cells_left h (cells_left hs06 TN.1.1), cells_left h (cells_left hs06 TN.1.2.1), cells_left h (cells_left hs06 TN.1.2.2), cells_left h (cells_left hs06 TN.2.1), cells_left h (cells_left hs06 TN.2.2.1), cells_left h (cells_left hs06 TN.2.2.2), cells_left h (cell_new _ _ _ _ _).1, cells_left h (cell_new _ _ _ _ _).2.1, cells_left h (cell_new _ _ _ _ _).2.2, h⟩
              have B1 : Hid (∀ W, S06e a b l w w5 W → Calls Tryd.prog 15 #[.agg #[.bool a.v6, .int .u64 a.hi, .int .u64 a.lo], .int .i64 k] W fun e w' => e = .returned (.int .i64 (bitA a k)) ∧ S06e a b l w w5 w') := by
                intro W h
                have hs : Stays (w5.alloc (.cells #[.bool (parseA l).v6, .int .u64 (parseA l).hi, .int .u64 (parseA l).lo] 24)) W := h.2.2.2.2.2.2.2.2.2
                have hc : Calls Tryd.prog 15 #[.agg #[.bool a.v6, .int .u64 a.hi, .int .u64 a.lo], .int .i64 k] W fun e w' => e = .returned (.int .i64 (bitA a k)) ∧ Below W.heap.size W w' := bit_any a k W ha (by omega) (by omega)
                exact hc.mono fun e w' ⟨he, hb⟩ => ⟨he, JN _ (low_trans hs hb)⟩
              have B2 : Hid (∀ W, S06e a b l w w5 W → Calls Tryd.prog 15 #[.agg #[.bool b.v6, .int .u64 b.hi, .int .u64 b.lo], .int .i64 k] W fun e w' => e = .returned (.int .i64 (bitA b k)) ∧ S06e a b l w w5 w') := by
                intro W h
                have hs : Stays (w5.alloc (.cells #[.bool (parseA l).v6, .int .u64 (parseA l).hi, .int .u64 (parseA l).lo] 24)) W := h.2.2.2.2.2.2.2.2.2
                have hc : Calls Tryd.prog 15 #[.agg #[.bool b.v6, .int .u64 b.hi, .int .u64 b.lo], .int .i64 k] W fun e w' => e = .returned (.int .i64 (bitA b k)) ∧ Below W.heap.size W w' := bit_any b k W hb (by omega) (by omega)
                exact hc.mono fun e w' ⟨he, hb⟩ => ⟨he, JN _ (low_trans hs hb)⟩
              have hk8 : S06e a b l w w5 (w5.alloc (.cells #[.bool (parseA l).v6, .int .u64 (parseA l).hi, .int .u64 (parseA l).lo] 24)) := JN _ (Below.refl _ _)
              go_region_held3 (fun w' => w'.cell? ⟨w.heap.size, 0, none⟩ = some (.bool a.v6) ∧ w'.cell? ⟨w.heap.size, 1, none⟩ = some (.int .u64 a.hi) ∧ w'.cell? ⟨w.heap.size, 2, none⟩ = some (.int .u64 a.lo) ∧ w'.cell? ⟨w.heap.size + 1, 0, none⟩ = some (.bool b.v6) ∧ w'.cell? ⟨w.heap.size + 1, 1, none⟩ = some (.int .u64 b.hi) ∧ w'.cell? ⟨w.heap.size + 1, 2, none⟩ = some (.int .u64 b.lo) ∧ w'.cell? ⟨w5.heap.size, 0, none⟩ = some (.bool (parseA l).v6) ∧ w'.cell? ⟨w5.heap.size, 1, none⟩ = some (.int .u64 (parseA l).hi) ∧ w'.cell? ⟨w5.heap.size, 2, none⟩ = some (.int .u64 (parseA l).lo) ∧ Stays (w5.alloc (.cells #[.bool (parseA l).v6, .int .u64 (parseA l).hi, .int .u64 (parseA l).lo] 24)) w')
                (first | assumption | exact JN _ (low_drewN (‹S06e a b l w w5 _›).2.2.2.2.2.2.2.2.2 1))
                (first
                  | (go_at_call 15; (with_reducible refine (B1.out _ ‹_›).mono ?_); rintro e w9 ⟨rfl, hkw⟩)
                  | (go_at_call 15; (with_reducible refine (B2.out _ ‹_›).mono ?_); rintro e w9 ⟨rfl, hkw⟩))
              go_wp2_with fail
              go_roundw
              case rel => exact ⟨k + 1, by omega, by go_num, by rw [HS.out], ‹_›⟩
              case measure => simp [intOf]; omega
          · obtain rfl : k = bitsA a := by omega
            have ES := ES.out
            go_wp2_with fail
            (with_reducible refine (M4.out _ hSr).mono ?_)
            rintro e w10 ⟨rfl, hS10⟩
            obtain ⟨k10_0, k10_1, k10_2, k10_3, k10_4, k10_5, k10_6, k10_7, k10_8, hs10⟩ := id hS10
            go_wp2_with fail
            (with_reducible refine (M6.out _ hS10).mono ?_)
            rintro e w11 ⟨rfl, hS11⟩
            go_wp2_with fail
            go_ret
            exact ⟨rfl, hB.trans ((low_trans hs06 hS11.2.2.2.2.2.2.2.2.2).mono hB.size)⟩
      · obtain ⟨v1, v2⟩ := iin hv
        rw [hrb] at M2
        clear hrb hv
        go_region_held3 (fun w' => w'.cell? ⟨w.heap.size, 0, none⟩ = some (.bool a.v6) ∧ w'.cell? ⟨w.heap.size, 1, none⟩ = some (.int .u64 a.hi) ∧ w'.cell? ⟨w.heap.size, 2, none⟩ = some (.int .u64 a.lo) ∧ w'.cell? ⟨w.heap.size + 1, 0, none⟩ = some (.bool b.v6) ∧ w'.cell? ⟨w.heap.size + 1, 1, none⟩ = some (.int .u64 b.hi) ∧ w'.cell? ⟨w.heap.size + 1, 2, none⟩ = some (.int .u64 b.lo) ∧ w'.cell? ⟨w5.heap.size, 0, none⟩ = some (.bool (parseA l).v6) ∧ w'.cell? ⟨w5.heap.size, 1, none⟩ = some (.int .u64 (parseA l).hi) ∧ w'.cell? ⟨w5.heap.size, 2, none⟩ = some (.int .u64 (parseA l).lo) ∧ Stays (w5.alloc (.cells #[.bool (parseA l).v6, .int .u64 (parseA l).hi, .int .u64 (parseA l).lo] 24)) w')
          (first | assumption | exact JN _ (low_drewN (‹S06e a b l w w5 _›).2.2.2.2.2.2.2.2.2 1))
          (first
            | (go_at_call 9; (with_reducible refine (M1.out _ ‹_›).mono ?_); rintro e w9 ⟨rfl, hkw⟩)
            | (go_at_call 9; (with_reducible refine (M2.out _ ‹_›).mono ?_); rintro e w9 ⟨rfl, hkw⟩)
            | (go_at_call 13; (with_reducible refine (M4.out _ ‹_›).mono ?_); rintro e w9 ⟨rfl, hkw⟩)
            | (go_at_call 13; (with_reducible refine (M5.out _ ‹_›).mono ?_); rintro e w9 ⟨rfl, hkw⟩))
        go_wp2_with fail
        (with_reducible refine (M6.out _ ‹_›).mono ?_)
        rintro e w8 ⟨rfl, hS8⟩
        go_wp2_with fail
        go_ret
        exact ⟨rfl, hB.trans ((low_trans hs06 hS8.2.2.2.2.2.2.2.2.2).mono hB.size)⟩
end Go.Proofs.YtokbifndhkijiaaDoor
