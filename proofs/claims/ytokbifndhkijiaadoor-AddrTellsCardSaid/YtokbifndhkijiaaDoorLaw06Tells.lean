/- The first statement of layer 6, proved: any address is told, and any text is read, as the document says; for all addresses, all texts and all numbers, under the row's listed variables. -/
import Derived.Test.YtokbifndhkijiaaDoorLaw06
namespace Go.Proofs.YtokbifndhkijiaaDoor
set_option maxRecDepth 100000
open Go.ChangeShapes Go.WideShapes Go.ChangeAt Go.RowKit
open Words Dec V4 V6 Ad
set_option linter.unusedVariables false
abbrev S06b (a : Adr) (l : List UInt8) (w w1 w2 : World) (w' : World) : Prop := w'.cell? ⟨w.heap.size, 0, none⟩ = some (.bool a.v6) ∧ w'.cell? ⟨w.heap.size, 1, none⟩ = some (.int .u64 a.hi) ∧ w'.cell? ⟨w.heap.size, 2, none⟩ = some (.int .u64 a.lo) ∧ w'.cell? ⟨w1.heap.size, 0, none⟩ = some (.bool (parseA l).v6) ∧ w'.cell? ⟨w1.heap.size, 1, none⟩ = some (.int .u64 (parseA l).hi) ∧ w'.cell? ⟨w1.heap.size, 2, none⟩ = some (.int .u64 (parseA l).lo) ∧ w'.cell? ⟨w2.heap.size, 0, none⟩ = some (.bool (parseA l).v6) ∧ w'.cell? ⟨w2.heap.size, 1, none⟩ = some (.int .u64 (parseA l).hi) ∧ w'.cell? ⟨w2.heap.size, 2, none⟩ = some (.int .u64 (parseA l).lo) ∧ Stays (w2.alloc (.cells #[.bool (parseA l).v6, .int .u64 (parseA l).hi, .int .u64 (parseA l).lo] 24)) w'
theorem same_self (a : Adr) : sameA a a = true := (sameA_iff a a).2 rfl
set_option maxHeartbeats 8000000 in
theorem addrTells_walk (w : World) (a : Adr) (ha : a.ok) (l : List UInt8) (hl : l.length ≤ 9223372036854775807) (i : Int) (hi : -9223372036854775808 ≤ i ∧ i ≤ 9223372036854775807) (hL : Lens w) :
    Calls Tryd.prog 3 #[.agg #[.bool a.v6, .int .u64 a.hi, .int .u64 a.lo], .string ⟨l.toArray⟩, .int .i64 i] w fun e w' => e = .returned (.bool true) ∧ Below w.heap.size w w' := by
  have hL0 := hL.below ((Below.refl w.heap.size w).alloc (Nat.le_refl _) (.cells #[.bool a.v6, .int .u64 a.hi, .int .u64 a.lo] 24))
  by_cases h : 1000 < l.length
  · go_enter Tryd.func3, Tryd.ntmps3
    go_wp2_with fail
    refine (awake06_any _ hL0).mono ?_
    rintro e w1 ⟨rfl, hb1⟩
    go_wp2_with fail
    go_ret
    exact ⟨rfl, ((Below.refl _ _).alloc (Nat.le_refl _) _).trans (hb1.mono (by simp))⟩
  · have EQ1 : ∀ W, (binOp .eql 24 (.agg #[.bool (parseA l).v6, .int .u64 (parseA l).hi, .int .u64 (parseA l).lo]) (.agg #[.bool (parseA l).v6, .int .u64 (parseA l).hi, .int .u64 (parseA l).lo])).run Tryd.prog W = .ok (.bool true) W := fun W => by rw [eqAdr, same_self]
    have EQ2 : ∀ W, (binOp .eql 24 (.agg #[.bool (v6A a.hi a.lo).v6, .int .u64 (v6A a.hi a.lo).hi, .int .u64 (v6A a.hi a.lo).lo]) (.agg #[.bool (v6A a.hi a.lo).v6, .int .u64 (v6A a.hi a.lo).hi, .int .u64 (v6A a.hi a.lo).lo])).run Tryd.prog W = .ok (.bool true) W := fun W => by rw [eqAdr, same_self]
    go_enter Tryd.func3, Tryd.ntmps3
    go_wp2_with fail
    refine (parseA_any l _ (by omega) hL0).mono ?_
    rintro e w1 ⟨rfl, hb1⟩
    go_wp2_with fail
    refine (rparseA_any l _ (by omega)).mono ?_
    rintro e w2 ⟨rfl, hb2⟩
    have hs1 : Stays (w1.alloc (.cells #[.bool (parseA l).v6, .int .u64 (parseA l).hi, .int .u64 (parseA l).lo] 24)) (w2.alloc (.cells #[.bool (parseA l).v6, .int .u64 (parseA l).hi, .int .u64 (parseA l).lo] 24)) := hb2.alloc hb2.size _
    have hs0 : Stays (w.alloc (.cells #[.bool a.v6, .int .u64 a.hi, .int .u64 a.lo] 24)) (w2.alloc (.cells #[.bool (parseA l).v6, .int .u64 (parseA l).hi, .int .u64 (parseA l).lo] 24)) := low_trans (hb1.alloc hb1.size _) hs1
    have hL2 := hL0.below hs0
    go_wp2_with fail
    have IN : ∀ w', Stays (w2.alloc (.cells #[.bool (parseA l).v6, .int .u64 (parseA l).hi, .int .u64 (parseA l).lo] 24)) w' → S06b a l w w1 w2 w' := fun w' h => ⟨cells_left h (cells_left hs0 (cell_new _ _ _ _ _).1), cells_left h (cells_left hs0 (cell_new _ _ _ _ _).2.1), cells_left h (cells_left hs0 (cell_new _ _ _ _ _).2.2), cells_left h (cells_left hs1 (cell_new _ _ _ _ _).1), cells_left h (cells_left hs1 (cell_new _ _ _ _ _).2.1), cells_left h (cells_left hs1 (cell_new _ _ _ _ _).2.2), cells_left h (cell_new _ _ _ _ _).1, cells_left h (cell_new _ _ _ _ _).2.1, cells_left h (cell_new _ _ _ _ _).2.2, h⟩
    have K1 : Hid (∀ W, S06b a l w w1 w2 W → Calls Tryd.prog 9 #[.agg #[.bool a.v6, .int .u64 a.hi, .int .u64 a.lo]] W fun e w' => e = .returned (.bool (rightA a)) ∧ S06b a l w w1 w2 w') := by
      intro W h
      have hs : Stays (w2.alloc (.cells #[.bool (parseA l).v6, .int .u64 (parseA l).hi, .int .u64 (parseA l).lo] 24)) W := h.2.2.2.2.2.2.2.2.2
      have hc : Calls Tryd.prog 9 #[.agg #[.bool a.v6, .int .u64 a.hi, .int .u64 a.lo]] W fun e w' => e = .returned (.bool (rightA a)) ∧ Below W.heap.size W w' := right_any a W ha
      exact hc.mono fun e w' ⟨he, hb⟩ => ⟨he, IN _ (low_trans hs hb)⟩
    have K2 : Hid (∀ W, S06b a l w w1 w2 W → Calls Tryd.prog 10 #[.agg #[.bool a.v6, .int .u64 a.hi, .int .u64 a.lo]] W fun e w' => e = .returned (.bool (rightA a)) ∧ S06b a l w w1 w2 w') := by
      intro W h
      have hs : Stays (w2.alloc (.cells #[.bool (parseA l).v6, .int .u64 (parseA l).hi, .int .u64 (parseA l).lo] 24)) W := h.2.2.2.2.2.2.2.2.2
      have hc : Calls Tryd.prog 10 #[.agg #[.bool a.v6, .int .u64 a.hi, .int .u64 a.lo]] W fun e w' => e = .returned (.bool (rightA a)) ∧ Below W.heap.size W w' := rright_any a W ha
      exact hc.mono fun e w' ⟨he, hb⟩ => ⟨he, IN _ (low_trans hs hb)⟩
    have K3 : Hid (∀ W, S06b a l w w1 w2 W → Calls Tryd.prog 11 #[.agg #[.bool a.v6, .int .u64 a.hi, .int .u64 a.lo]] W fun e w' => e = .returned (.string ⟨(textA a).toArray⟩) ∧ S06b a l w w1 w2 w') := by
      intro W h
      have hs : Stays (w2.alloc (.cells #[.bool (parseA l).v6, .int .u64 (parseA l).hi, .int .u64 (parseA l).lo] 24)) W := h.2.2.2.2.2.2.2.2.2
      have hc : Calls Tryd.prog 11 #[.agg #[.bool a.v6, .int .u64 a.hi, .int .u64 a.lo]] W fun e w' => e = .returned (.string ⟨(textA a).toArray⟩) ∧ Below W.heap.size W w' := textA_any a W ha
      exact hc.mono fun e w' ⟨he, hb⟩ => ⟨he, IN _ (low_trans hs hb)⟩
    have K4 : Hid (∀ W, S06b a l w w1 w2 W → Calls Tryd.prog 12 #[.agg #[.bool a.v6, .int .u64 a.hi, .int .u64 a.lo]] W fun e w' => e = .returned (.string ⟨(textA a).toArray⟩) ∧ S06b a l w w1 w2 w') := by
      intro W h
      have hs : Stays (w2.alloc (.cells #[.bool (parseA l).v6, .int .u64 (parseA l).hi, .int .u64 (parseA l).lo] 24)) W := h.2.2.2.2.2.2.2.2.2
      have hc : Calls Tryd.prog 12 #[.agg #[.bool a.v6, .int .u64 a.hi, .int .u64 a.lo]] W fun e w' => e = .returned (.string ⟨(textA a).toArray⟩) ∧ Below W.heap.size W w' := rtextA_any a W ha
      exact hc.mono fun e w' ⟨he, hb⟩ => ⟨he, IN _ (low_trans hs hb)⟩
    have K5 : Hid (∀ W, S06b a l w w1 w2 W → Calls Tryd.prog 13 #[.agg #[.bool a.v6, .int .u64 a.hi, .int .u64 a.lo]] W fun e w' => e = .returned (.int .i64 (bitsA a : Nat)) ∧ S06b a l w w1 w2 w') := by
      intro W h
      have hs : Stays (w2.alloc (.cells #[.bool (parseA l).v6, .int .u64 (parseA l).hi, .int .u64 (parseA l).lo] 24)) W := h.2.2.2.2.2.2.2.2.2
      have hc : Calls Tryd.prog 13 #[.agg #[.bool a.v6, .int .u64 a.hi, .int .u64 a.lo]] W fun e w' => e = .returned (.int .i64 (bitsA a : Nat)) ∧ Below W.heap.size W w' := bits_any a W
      exact hc.mono fun e w' ⟨he, hb⟩ => ⟨he, IN _ (low_trans hs hb)⟩
    have K6 : Hid (∀ W, S06b a l w w1 w2 W → Calls Tryd.prog 14 #[.agg #[.bool a.v6, .int .u64 a.hi, .int .u64 a.lo]] W fun e w' => e = .returned (.int .i64 (bitsA a : Nat)) ∧ S06b a l w w1 w2 w') := by
      intro W h
      have hs : Stays (w2.alloc (.cells #[.bool (parseA l).v6, .int .u64 (parseA l).hi, .int .u64 (parseA l).lo] 24)) W := h.2.2.2.2.2.2.2.2.2
      have hc : Calls Tryd.prog 14 #[.agg #[.bool a.v6, .int .u64 a.hi, .int .u64 a.lo]] W fun e w' => e = .returned (.int .i64 (bitsA a : Nat)) ∧ Below W.heap.size W w' := rbits_any a W
      exact hc.mono fun e w' ⟨he, hb⟩ => ⟨he, IN _ (low_trans hs hb)⟩
    have K7 : Hid (∀ W, S06b a l w w1 w2 W → Calls Tryd.prog 15 #[.agg #[.bool a.v6, .int .u64 a.hi, .int .u64 a.lo], .int .i64 i] W fun e w' => e = .returned (.int .i64 (bitA a i)) ∧ S06b a l w w1 w2 w') := by
      intro W h
      have hs : Stays (w2.alloc (.cells #[.bool (parseA l).v6, .int .u64 (parseA l).hi, .int .u64 (parseA l).lo] 24)) W := h.2.2.2.2.2.2.2.2.2
      have hc : Calls Tryd.prog 15 #[.agg #[.bool a.v6, .int .u64 a.hi, .int .u64 a.lo], .int .i64 i] W fun e w' => e = .returned (.int .i64 (bitA a i)) ∧ Below W.heap.size W w' := bit_any a i W ha hi.1 hi.2
      exact hc.mono fun e w' ⟨he, hb⟩ => ⟨he, IN _ (low_trans hs hb)⟩
    have K8 : Hid (∀ W, S06b a l w w1 w2 W → Calls Tryd.prog 16 #[.agg #[.bool a.v6, .int .u64 a.hi, .int .u64 a.lo], .int .i64 i] W fun e w' => e = .returned (.int .i64 (bitA a i)) ∧ S06b a l w w1 w2 w') := by
      intro W h
      have hs : Stays (w2.alloc (.cells #[.bool (parseA l).v6, .int .u64 (parseA l).hi, .int .u64 (parseA l).lo] 24)) W := h.2.2.2.2.2.2.2.2.2
      have hc : Calls Tryd.prog 16 #[.agg #[.bool a.v6, .int .u64 a.hi, .int .u64 a.lo], .int .i64 i] W fun e w' => e = .returned (.int .i64 (bitA a i)) ∧ Below W.heap.size W w' := rbit_any a i W ha hi.1 hi.2
      exact hc.mono fun e w' ⟨he, hb⟩ => ⟨he, IN _ (low_trans hs hb)⟩
    have K9 : Hid (∀ W, S06b a l w w1 w2 W → Calls Tryd.prog 17 #[.int .u64 a.hi, .int .u64 a.lo] W fun e w' => e = .returned (.agg #[.bool (v6A a.hi a.lo).v6, .int .u64 (v6A a.hi a.lo).hi, .int .u64 (v6A a.hi a.lo).lo]) ∧ S06b a l w w1 w2 w') := by
      intro W h
      have hs : Stays (w2.alloc (.cells #[.bool (parseA l).v6, .int .u64 (parseA l).hi, .int .u64 (parseA l).lo] 24)) W := h.2.2.2.2.2.2.2.2.2
      have hc : Calls Tryd.prog 17 #[.int .u64 a.hi, .int .u64 a.lo] W fun e w' => e = .returned (.agg #[.bool (v6A a.hi a.lo).v6, .int .u64 (v6A a.hi a.lo).hi, .int .u64 (v6A a.hi a.lo).lo]) ∧ Below W.heap.size W w' := v6_any a.hi a.lo W ha.1 ha.2
      exact hc.mono fun e w' ⟨he, hb⟩ => ⟨he, IN _ (low_trans hs hb)⟩
    have K10 : Hid (∀ W, S06b a l w w1 w2 W → Calls Tryd.prog 18 #[.int .u64 a.hi, .int .u64 a.lo] W fun e w' => e = .returned (.agg #[.bool (v6A a.hi a.lo).v6, .int .u64 (v6A a.hi a.lo).hi, .int .u64 (v6A a.hi a.lo).lo]) ∧ S06b a l w w1 w2 w') := by
      intro W h
      have hs : Stays (w2.alloc (.cells #[.bool (parseA l).v6, .int .u64 (parseA l).hi, .int .u64 (parseA l).lo] 24)) W := h.2.2.2.2.2.2.2.2.2
      have hc : Calls Tryd.prog 18 #[.int .u64 a.hi, .int .u64 a.lo] W fun e w' => e = .returned (.agg #[.bool (v6A a.hi a.lo).v6, .int .u64 (v6A a.hi a.lo).hi, .int .u64 (v6A a.hi a.lo).lo]) ∧ Below W.heap.size W w' := rv6_any a.hi a.lo W ha.1 ha.2
      exact hc.mono fun e w' ⟨he, hb⟩ => ⟨he, IN _ (low_trans hs hb)⟩
    have K11 : Hid (∀ W, S06b a l w w1 w2 W → Calls Tryd.prog 6 #[] W fun e w' => e = .returned (.bool true) ∧ S06b a l w w1 w2 w') := by
      intro W h
      have hs : Stays (w2.alloc (.cells #[.bool (parseA l).v6, .int .u64 (parseA l).hi, .int .u64 (parseA l).lo] 24)) W := h.2.2.2.2.2.2.2.2.2
      have hc : Calls Tryd.prog 6 #[] W fun e w' => e = .returned (.bool true) ∧ Below W.heap.size W w' := awake06_any W (hL2.below hs)
      exact hc.mono fun e w' ⟨he, hb⟩ => ⟨he, IN _ (low_trans hs hb)⟩
    have hk0 : S06b a l w w1 w2 (w2.alloc (.cells #[.bool (parseA l).v6, .int .u64 (parseA l).hi, .int .u64 (parseA l).lo] 24)) := IN _ (Below.refl _ _)
    go_region_held3 (fun w' => w'.cell? ⟨w.heap.size, 0, none⟩ = some (.bool a.v6) ∧ w'.cell? ⟨w.heap.size, 1, none⟩ = some (.int .u64 a.hi) ∧ w'.cell? ⟨w.heap.size, 2, none⟩ = some (.int .u64 a.lo) ∧ w'.cell? ⟨w1.heap.size, 0, none⟩ = some (.bool (parseA l).v6) ∧ w'.cell? ⟨w1.heap.size, 1, none⟩ = some (.int .u64 (parseA l).hi) ∧ w'.cell? ⟨w1.heap.size, 2, none⟩ = some (.int .u64 (parseA l).lo) ∧ w'.cell? ⟨w2.heap.size, 0, none⟩ = some (.bool (parseA l).v6) ∧ w'.cell? ⟨w2.heap.size, 1, none⟩ = some (.int .u64 (parseA l).hi) ∧ w'.cell? ⟨w2.heap.size, 2, none⟩ = some (.int .u64 (parseA l).lo) ∧ Stays (w2.alloc (.cells #[.bool (parseA l).v6, .int .u64 (parseA l).hi, .int .u64 (parseA l).lo] 24)) w')
      (first | assumption | exact IN _ (low_drewN (‹S06b a l w w1 w2 _›).2.2.2.2.2.2.2.2.2 1))
      (first
        | (go_at_call 9; (with_reducible refine (K1.out _ ‹_›).mono ?_); rintro e w9 ⟨rfl, hkw⟩)
        | (go_at_call 10; (with_reducible refine (K2.out _ ‹_›).mono ?_); rintro e w9 ⟨rfl, hkw⟩)
        | (go_at_call 11; (with_reducible refine (K3.out _ ‹_›).mono ?_); rintro e w9 ⟨rfl, hkw⟩)
        | (go_at_call 12; (with_reducible refine (K4.out _ ‹_›).mono ?_); rintro e w9 ⟨rfl, hkw⟩)
        | (go_at_call 13; (with_reducible refine (K5.out _ ‹_›).mono ?_); rintro e w9 ⟨rfl, hkw⟩)
        | (go_at_call 14; (with_reducible refine (K6.out _ ‹_›).mono ?_); rintro e w9 ⟨rfl, hkw⟩)
        | (go_at_call 15; (with_reducible refine (K7.out _ ‹_›).mono ?_); rintro e w9 ⟨rfl, hkw⟩)
        | (go_at_call 16; (with_reducible refine (K8.out _ ‹_›).mono ?_); rintro e w9 ⟨rfl, hkw⟩)
        | (go_at_call 17; (with_reducible refine (K9.out _ ‹_›).mono ?_); rintro e w9 ⟨rfl, hkw⟩)
        | (go_at_call 18; (with_reducible refine (K10.out _ ‹_›).mono ?_); rintro e w9 ⟨rfl, hkw⟩)
        | (go_at_call 6; (with_reducible refine (K11.out _ ‹_›).mono ?_); rintro e w9 ⟨rfl, hkw⟩))
    go_wp2
    go_ret
    exact ⟨rfl, ((Below.refl _ _).alloc (Nat.le_refl _) _).trans ((low_trans hs0 (‹S06b a l w w1 w2 _›).2.2.2.2.2.2.2.2.2).mono (by simp))⟩
namespace addrTells
theorem contract (H : Type) (enc : TypeId × Value → H) (W : World) (base : Nat) (args : Array Value) (ds gs : List (DataW H)) (before : List MemPlace)
    (hval0 : ∀ (j : Nat) t v, Tryd.f3.params[j]? = some t → args[j]? = some v → Value.okWide Tryd.prog W .any base t v)
    (hW : DataW.Whole enc Tryd.prog Tryd.f3.params.toList Rows.addrTellsSpec.vars false W args.toList ds gs before) (hSh : W.ShapedOpen Tryd.prog) :
    Calls Tryd.prog 3 args W fun e W' => ∃ v, e = .returned v ∧ Rows.addrTellsSpec.post enc Tryd.prog Tryd.f3 false true false false W args v W' := by
  have hval : ∀ (j : Nat) t v, Tryd.f3.params[j]? = some t → args[j]? = some v → Value.okWide Tryd.prog W .any base t v := hval0
  have hW' := hW
  obtain ⟨p, q, hA0, hV, _, _, _⟩ := hW
  have hA : DataW.TrodAll enc Tryd.prog W 0 (fun _ => true) true Tryd.f3.params.toList args.toList ds p := hA0
  rw [Tryd.params3] at hA hval
  obtain ⟨v0, vs0, d0, ds0, p0, q0, hargs, rfl, rfl, h0, r0⟩ := trodAll_cons hA
  obtain ⟨v1, vs1, d1, ds1, p1, q1, rfl, rfl, rfl, h1, r1⟩ := trodAll_cons r0
  obtain ⟨v2, vs2, d2, ds2, p2, q2, rfl, rfl, rfl, h2, r2⟩ := trodAll_cons r1
  obtain ⟨rfl, rfl, rfl⟩ := trodAll_nil r2
  obtain rfl : args = #[v0, v1, v2] := by cases args; simp_all
  obtain ⟨rfl, rfl⟩ := trodVars_none hV
  obtain ⟨a0, z0, rfl, rfl, rfl⟩ := open_adr (tb := 4) (ti := 22) Tryd.underlying24 (by kernel_rfl) (by kernel_rfl) rfl rfl rfl Tryd.underlying4 Tryd.underlying22 (hval 0 24 v0 rfl rfl) h0
  obtain ⟨b1, rfl, rfl, rfl, w1⟩ := ChangeMaps.open_string Tryd.underlying9 (hval 1 9 v1 rfl rfl) h1
  obtain ⟨a1, rfl⟩ : ∃ a : List UInt8, b1 = ⟨a.toArray⟩ := ⟨b1.data.toList, (str_same _).symm⟩
  have z1 : a1.length ≤ 9223372036854775807 := by unfold maxLen at w1; rw [← len_size, str_back] at w1; exact w1
  obtain ⟨b2, rfl, rfl, rfl, w2⟩ := open_int Tryd.underlying3 (hval 2 3 v2 rfl rfl) h2
  clear hA0 hval0
  refine (addrTells_walk W a0 z0 a1 (by omega) b2 (wf64 w2) (V6.Lens.start hSh)).mono fun e W' ⟨he, hg⟩ => ?_
  subst he
  exact ⟨_, rfl, post_law laidOut (by kernel_rfl) (by kernel_rfl) Tryd.underlying4 rfl hW' rfl rfl rfl hg⟩
set_option maxRecDepth 100000 in
theorem lifted (os : Os) (started : os.Started) (H : Type) (enc : TypeId × Value → H) (F : Stop.Interp) :
    ReturnsInHanded {} Tryd.checked os 3 .any ((OpenSpec.ofChange Rows.addrTellsSpec).preRow enc Tryd.prog Tryd.f3 Rows.addrTellsRow.domain false Rows.addrTellsRow.laid) (((OpenSpec.ofChange Rows.addrTellsSpec).at F).post enc Tryd.prog Tryd.f3 false true false false) := by
  refine returnsInHanded_of_row (C := Tryd.checked) (s := OpenSpec.ofChange Rows.addrTellsSpec) own started (by kernel_rfl) Tryd.func3
    (witness_laid (enc := enc) (C := Tryd.checked) (s := OpenSpec.ofChange Rows.addrTellsSpec) (laid := Rows.addrTellsRow.laid) #[.agg #[.bool false, .int .u64 0, .int .u64 0], .string ByteArray.empty, .int .i64 0] (World.shaped_of_ZipB (by kernel_rfl) (by kernel_rfl)) (by kernel_rfl)
      (OpenSpec.preRow_of_cond 8 (x := ([.agg [.lit (.bool false), .lit (.int .u64 0), .lit (.int .u64 0)], .lit (.string []), .lit (.int .i64 0)], [], [])) (by kernel_rfl) (by kernel_rfl) (fun k hk => by cases hk) (by kernel_rfl)
        (by rw [MakeChecks.laidMetH_plain _ _ _ (by kernel_rfl)]; exact laidMet_laidAll _ (by kernel_rfl) (by kernel_rfl)))) ?_
  intro W base args ds gs before hval hW _ hcond _ _ hsh _
  exact contract H enc W base args ds gs before hval hW hsh
theorem over : Rows.addrTellsRow.holds Tryd.pinned (OpenSpec.ofChange Rows.addrTellsSpec) :=
  OpenClaim.holds_of_cond 3 Tryd.f3 rfl rfl rfl rfl rfl rfl rfl ⟨rfl, rfl, rfl, rfl, rfl⟩ rfl rfl rfl rfl rfl (by kernel_rfl) Tryd.func3 (by kernel_rfl)
    (of_decide_eq_true (by kernel_rfl)) (by unfold Func.isWrapper; first | (rw [if_pos (by decide +kernel)]; kernel_rfl) | (rw [if_neg (by decide +kernel)]; exact ⟨rfl, rfl⟩))
    (fun os started H enc _ F => by rw [OpenClaim.pre_eq_preRow]; exact lifted os started H enc F)
/-- ████ THE STATEMENT ████ -/
theorem proved : Rows.AddrTellsCardSaid :=
  Claim7.holds_tied_plain_at .later [] Rows.addrTellsCard.laidKinds Rows.addrTellsCard.laidTests Rows.addrTellsCard.stood.harness Rows.addrTellsCard.stood.looks over (fun _ h => by cases h) (by kernel_rfl) (fun _ h => by cases h) addrTells_row_tie rfl ⟨rfl, rfl⟩ (by kernel_rfl) rfl
    (fun f fn hf hfn => by
      obtain rfl : f = 3 := Option.some.inj ((show Tryd.prog.funcNamed Rows.addrTellsRow.func = some 3 by kernel_rfl).symm.trans hf) |>.symm
      obtain rfl : fn = Tryd.f3 := (Option.some.inj (Tryd.func3.symm.trans hfn)).symm
      exact ⟨by kernel_rfl, no_standin (by kernel_rfl)⟩)
    (by kernel_rfl)
end addrTells
end Go.Proofs.YtokbifndhkijiaaDoor
