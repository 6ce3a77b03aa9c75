/- Groups of addresses, in plain words: what is one group. -/
import Derived.Test.YtgnjbbohphoojaaMath
import Derived.Test.YtgnjbbohphoojaaCidrAll
import Derived.Test.YtgnjbbohphoojaaRef07All
import Derived.Deep.RegionHeld3
namespace Go.Proofs.Ytgnjbbohphoojaa.Gr
set_option maxRecDepth 100000
open Dec Words V4 V6 Ad Ci
def sizeG (a : Adr) : Nat := if a.v6 then 32 else 16
def groupN (a : Adr) : Net := makeN a (sizeG a : Int)
def sameG (a b : Adr) : Bool := rightA a && sameN (groupN a) (groupN b)
def textG (a : Adr) : List UInt8 := if rightA a then textN (groupN a) else []
theorem size_le (a : Adr) : sizeG a ≤ bitsA a ∧ 0 < sizeG a ∧ sizeG a ≤ 32 := by
  unfold sizeG bitsA; cases a.v6 <;> simp
theorem group_make {a : Adr} (h : rightA a = true) : makeB a (sizeG a : Int) = true := (makeB_iff _ _).2 ⟨h, by omega, by have := size_le a; omega⟩
theorem group_yes {a : Adr} (h : rightA a = true) : groupN a = ⟨firstA a (sizeG a), (sizeG a : Int)⟩ := by
  unfold groupN makeN; rw [if_pos (group_make h), Int.toNat_natCast]
theorem group_no {a : Adr} (h : rightA a = false) : groupN a = zero := by
  unfold groupN makeN makeB; rw [h]; rfl
theorem group_ok {a : Adr} (h : a.ok) : (groupN a).ok := makeN_ok h _
theorem group_right {a : Adr} (h : rightA a = true) : rightN (groupN a) = true := make_right (group_make h)
theorem keep_mod (n k : Nat) : keep n k = n - n % 2 ^ k := by
  unfold keep
  have := Nat.div_add_mod' n (2 ^ k)
  omega
theorem group_six {hi lo : Nat} (h : rightA ⟨true, hi, lo⟩ = true) (hl : lo < 18446744073709551616) : groupN ⟨true, hi, lo⟩ = ⟨⟨true, hi - hi % 4294967296, 0⟩, 32⟩ := by
  have e : keep lo 96 = 0 := keep_low (Nat.lt_trans hl (by decide))
  rw [group_yes h]
  simp only [sizeG, firstA, bitsA, if_true]
  rw [show 128 - 32 - 64 = 32 from rfl, show 128 - 32 = 96 from rfl, e, keep_mod hi 32]; rfl
theorem group_four {hi lo : Nat} (h : rightA ⟨false, hi, lo⟩ = true) : groupN ⟨false, hi, lo⟩ = ⟨⟨false, 0, lo - lo % 65536⟩, 16⟩ := by
  have h0 : hi = 0 := by
    unfold rightA at h
    rw [if_neg (by simp), Bool.and_eq_true, decide_eq_true_eq] at h
    exact h.1
  subst h0
  rw [group_yes h]
  simp only [sizeG, firstA, bitsA]
  rw [if_neg (by simp), if_neg (by simp), show 32 - 16 - 64 = 0 from rfl, show 32 - 16 = 16 from rfl, keep_nil, keep_mod lo 16]; rfl
theorem sameG_noA {a b : Adr} (h : rightA a = false) : sameG a b = false := by unfold sameG; rw [h]; rfl
theorem sameG_noB {a b : Adr} (h : rightA b = false) : sameG a b = false := by
  unfold sameG
  cases ha : rightA a
  · rfl
  · rw [Bool.true_and, ← Bool.not_eq_true, sameN_iff, group_yes ha, group_no h]
    intro e
    have := congrArg Net.n e
    have h2 := (size_le a).2.1
    simp only [zero] at this
    omega
theorem group_kind {a : Adr} (h : rightA a = true) : (groupN a).a.v6 = a.v6 := by rw [group_yes h]; rfl
theorem sameG_kinds {a b : Adr} (ra : rightA a = true) (rb : rightA b = true) (h : a.v6 ≠ b.v6) : sameG a b = false := by
  unfold sameG
  rw [ra, Bool.true_and, ← Bool.not_eq_true, sameN_iff]
  intro e
  have := congrArg (fun n => n.a.v6) e
  simp only [group_kind ra, group_kind rb] at this
  exact h this
theorem sameG_is {a b : Adr} (ra : rightA a = true) : sameG a b = sameN (groupN a) (groupN b) := by unfold sameG; rw [ra, Bool.true_and]
theorem group_has {a : Adr} (h : rightA a = true) : hasN (groupN a) a = true := by
  unfold hasN
  have e : (groupN a).n = (sizeG a : Int) := by rw [group_yes h]
  rw [e, group_make h, Bool.true_and, sameN_iff]; rfl
theorem sameN_symm (m n : Net) : sameN m n = sameN n m := by
  rw [Bool.eq_iff_iff, sameN_iff, sameN_iff]; exact ⟨Eq.symm, Eq.symm⟩
theorem sameG_has {a b : Adr} (ra : rightA a = true) (rb : rightA b = true) : hasN (groupN a) b = sameG a b := by
  have e : (groupN a).n = (sizeG a : Int) := by rw [group_yes ra]
  by_cases hv : a.v6 = b.v6
  · have hs : sizeG a = sizeG b := by unfold sizeG; rw [hv]
    unfold hasN
    rw [e, hs, group_make rb, Bool.true_and, sameG_is ra, sameN_symm]; rfl
  · rw [sameG_kinds ra rb hv]
    unfold hasN
    cases hm : makeB b (groupN a).n
    · rfl
    · rw [Bool.true_and, ← Bool.not_eq_true, sameN_iff]
      intro h
      have h2 := congrArg (fun n => n.a.v6) h
      unfold makeN at h2
      rw [if_pos hm] at h2
      simp only [group_kind ra, firstA] at h2
      exact hv h2.symm
theorem top_same {x y s k : Nat} (hx : x < 2 ^ (s + k)) (hy : y < 2 ^ (s + k)) : x / 2 ^ s = y / 2 ^ s ↔ ∀ j, j < k → x / 2 ^ (s + k - 1 - j) % 2 = y / 2 ^ (s + k - 1 - j) % 2 := by
  constructor
  · intro h j hj
    rw [show s + k - 1 - j = s + (k - 1 - j) by omega, Nat.pow_add, ← Nat.div_div_eq_div_mul, ← Nat.div_div_eq_div_mul, h]
  · intro h
    refine Nat.eq_of_testBit_eq fun i => ?_
    rw [← Nat.shiftRight_eq_div_pow, ← Nat.shiftRight_eq_div_pow, Nat.testBit_shiftRight, Nat.testBit_shiftRight]
    by_cases hi : i < k
    · have := h (k - 1 - i) (by omega)
      rw [show s + k - 1 - (k - 1 - i) = s + i by omega] at this
      rw [Nat.testBit_eq_decide_div_mod_eq, Nat.testBit_eq_decide_div_mod_eq, this]
    · have hp : 2 ^ (s + k) ≤ 2 ^ (s + i) := Nat.pow_le_pow_right (by omega) (by omega)
      rw [Nat.testBit_lt_two_pow (Nat.lt_of_lt_of_le hx hp), Nat.testBit_lt_two_pow (Nat.lt_of_lt_of_le hy hp)]
theorem keep_top (x y s : Nat) : keep x s = keep y s ↔ x / 2 ^ s = y / 2 ^ s := by
  unfold keep
  constructor
  · intro h; exact Nat.eq_of_mul_eq_mul_right (Nat.two_pow_pos s) h
  · intro h; rw [h]
theorem sameG_bits {a b : Adr} (ha : a.ok) (hb : b.ok) (ra : rightA a = true) (rb : rightA b = true) (hv : a.v6 = b.v6) : sameG a b = true ↔ ∀ j, j < sizeG a → bitN a j = bitN b j := by
  rw [sameG_is ra, sameN_iff]
  obtain ⟨v, h1, l1⟩ := a
  obtain ⟨v', h2, l2⟩ := b
  simp only [] at hv
  subst hv
  obtain ⟨ha1, ha2⟩ := ha
  obtain ⟨hb1, hb2⟩ := hb
  simp only [] at ha1 ha2 hb1 hb2
  cases v
  · unfold rightA at ra rb
    simp at ra rb
    have T := top_same (s := 16) (k := 16) (x := l1) (y := l2) (by omega) (by omega)
    rw [group_yes (by unfold rightA; simp [ra]), group_yes (by unfold rightA; simp [rb])]
    simp only [sizeG, firstA, bitsA, bitN, Net.mk.injEq, Adr.mk.injEq, true_and, and_true]
    rw [if_neg (by simp), if_neg (by simp), show 32 - 16 - 64 = 0 from rfl, show 32 - 16 = 16 from rfl, keep_top, keep_top, ra.1, rb.1]
    simp only [true_and]
    rw [T]
    constructor
    · intro h j hj
      have := h j hj
      rwa [show 16 + 16 - 1 - j = 31 - j from by omega] at this
    · intro h j hj
      have := h j hj
      rwa [show 16 + 16 - 1 - j = 31 - j from by omega]
  · have T := top_same (s := 32) (k := 32) (x := h1) (y := h2) (by omega) (by omega)
    rw [group_six ra ha2, group_six rb hb2]
    simp only [sizeG, bitN, Net.mk.injEq, Adr.mk.injEq, true_and, and_true, if_true]
    have e1 := keep_mod h1 32
    have e2 := keep_mod h2 32
    rw [show (2 : Nat) ^ 32 = 4294967296 from by decide] at e1 e2
    rw [← e1, ← e2, keep_top, T]
    constructor
    · intro h j hj
      have := h j hj
      rw [if_pos (by omega), if_pos (by omega)]
      rwa [show 32 + 32 - 1 - j = 63 - j from by omega] at this
    · intro h j hj
      have := h j hj
      rw [if_pos (by omega), if_pos (by omega)] at this
      rwa [show 32 + 32 - 1 - j = 63 - j from by omega]
theorem textG_no {a : Adr} (h : rightA a = false) : textG a = [] := by unfold textG; rw [h]; rfl
theorem textG_yes {a : Adr} (h : rightA a = true) : textG a = textN (groupN a) := by unfold textG; rw [if_pos h]
end Go.Proofs.Ytgnjbbohphoojaa.Gr
/- Contracts of package group. -/
namespace Go.Proofs.Ytgnjbbohphoojaa.Gr
set_option maxRecDepth 100000
open Go.ChangeShapes Go.WideShapes Go.ChangeAt Go.RowKit
open Dec Words V4 V6 Ad Ci
set_option linter.unusedVariables false
theorem size_any (a : Adr) (w : World) :
    Calls Try.prog 66 #[.agg #[.bool a.v6, .int .u64 a.hi, .int .u64 a.lo]] w fun e w' => e = .returned (.int .i64 (sizeG a : Nat)) ∧ Below w.heap.size w w' := by
  obtain ⟨v, hi, lo⟩ := a
  cases v
  · have E : Hid (((sizeG ⟨false, hi, lo⟩ : Nat) : Int) = 16) := Lib.hid rfl
    go_enter Try.func66, Try.ntmps66
    go_wp2_with fail
    go_ret
    exact ⟨ret_i E.out.symm, (Below.refl _ _).alloc (Nat.le_refl _) _⟩
  · have E : Hid (((sizeG ⟨true, hi, lo⟩ : Nat) : Int) = 32) := Lib.hid rfl
    go_enter Try.func66, Try.ntmps66
    go_wp2_with fail
    go_ret
    exact ⟨ret_i E.out.symm, (Below.refl _ _).alloc (Nat.le_refl _) _⟩
set_option maxHeartbeats 4000000 in
theorem groupOf_any (a : Adr) (w : World) (ha : a.ok) :
    Calls Try.prog 45 #[.agg #[.bool a.v6, .int .u64 a.hi, .int .u64 a.lo]] w fun e w' => e = .returned (.agg #[.bool (groupN a).a.v6, .int .u64 (groupN a).a.hi, .int .u64 (groupN a).a.lo, .int .i64 (groupN a).n]) ∧ Below w.heap.size w w' := by
  have hb := size_le a
  have MK := Lib.hid (fun W => make_any a (sizeG a : Int) W ha (by omega) (by omega))
  have BI := Lib.hid (fun W => size_any a W)
  have c0 : ∀ w', Stays ((w.alloc (.cells #[.bool a.v6, .int .u64 a.hi, .int .u64 a.lo] 31)).alloc (.cells #[.bool false, .int .u64 0, .int .u64 0, .int .i64 0] 43)) w' → SF a w w' := fun w' h => ⟨cells_left h (by simp [go_sem]), cells_left h (by simp [go_sem]), cells_left h (by simp [go_sem]), cells_left h (by simp [go_sem]), cells_left h (by simp [go_sem]), cells_left h (by simp [go_sem]), cells_left h (by simp [go_sem]), frozen_left h (by simp) (by simp [go_sem]), frozen_left h (by simp) (by simp [go_sem]), frozen_left h (by simp) (by simp [go_sem]), frozen_left h (by simp) (by simp [go_sem]), h⟩
  have IN := Lib.hid c0
  have K1 : Hid (∀ W, SF a w W → Calls Try.prog 66 #[.agg #[.bool a.v6, .int .u64 a.hi, .int .u64 a.lo]] W fun e w' => e = .returned (.int .i64 (sizeG a : Nat)) ∧ SF a w w' ∧ Below W.heap.size W w') := Lib.hid fun W h => (BI.out W).mono fun e w' ⟨he, hb⟩ => ⟨he, IN.out _ (low_trans h.2.2.2.2.2.2.2.2.2.2.2 hb), hb⟩
  have K2 : Hid (∀ W, SF a w W → Calls Try.prog 65 #[.agg #[.bool a.v6, .int .u64 a.hi, .int .u64 a.lo], .int .i64 (sizeG a : Nat)] W fun e w' => e = .returned (.tuple #[.agg #[.bool (makeN a (sizeG a : Int)).a.v6, .int .u64 (makeN a (sizeG a : Int)).a.hi, .int .u64 (makeN a (sizeG a : Int)).a.lo, .int .i64 (makeN a (sizeG a : Int)).n], .bool (makeB a (sizeG a : Int))]) ∧ SF a w w' ∧ Below W.heap.size W w') := Lib.hid fun W h => (MK.out W).mono fun e w' ⟨he, hb⟩ => ⟨he, IN.out _ (low_trans h.2.2.2.2.2.2.2.2.2.2.2 hb), hb⟩
  have E : Hid (groupN a = makeN a (sizeG a : Int)) := Lib.hid rfl
  rw [E.out]
  have hk0 : SF a w ((w.alloc (.cells #[.bool a.v6, .int .u64 a.hi, .int .u64 a.lo] 31)).alloc (.cells #[.bool false, .int .u64 0, .int .u64 0, .int .i64 0] 43)) := c0 _ (Below.refl _ _)
  clear c0 hb
  go_enter Try.func45, Try.ntmps45
  go_wp2_with fail
  go_region_held3 (fun w' => w'.cell? ⟨w.heap.size, 0, none⟩ = some (.bool a.v6) ∧ w'.cell? ⟨w.heap.size, 1, none⟩ = some (.int .u64 a.hi) ∧ w'.cell? ⟨w.heap.size, 2, none⟩ = some (.int .u64 a.lo) ∧ w'.cell? ⟨w.heap.size + 1, 0, none⟩ = some (.bool false) ∧ w'.cell? ⟨w.heap.size + 1, 1, none⟩ = some (.int .u64 0) ∧ w'.cell? ⟨w.heap.size + 1, 2, none⟩ = some (.int .u64 0) ∧ w'.cell? ⟨w.heap.size + 1, 3, none⟩ = some (.int .i64 0) ∧ w'.frozen? ⟨w.heap.size + 1, 0, none⟩ = false ∧ w'.frozen? ⟨w.heap.size + 1, 1, none⟩ = false ∧ w'.frozen? ⟨w.heap.size + 1, 2, none⟩ = false ∧ w'.frozen? ⟨w.heap.size + 1, 3, none⟩ = false ∧ Stays ((w.alloc (.cells #[.bool a.v6, .int .u64 a.hi, .int .u64 a.lo] 31)).alloc (.cells #[.bool false, .int .u64 0, .int .u64 0, .int .i64 0] 43)) w')
    (first
      | assumption
      | (refine IN.out _ ?_; repeat (first | exact Below.refl _ _ | exact Lib.Hid.out ‹_› | exact (‹SF a w _›).2.2.2.2.2.2.2.2.2.2.2 | refine low_drew ?_ | refine Below.alloc ?_ (by first | (simp; done) | (simp; omega)) _ | refine Below.setCell ?_ (by first | (simp; done) | (simp; omega)) _)))
    (first
      | (go_at_call 66; (with_reducible refine (K1.out _ ‹_›).mono ?_); rintro e wb ⟨rfl, hkw, hbw⟩; have hst := Lib.hid hkw.2.2.2.2.2.2.2.2.2.2.2; obtain ⟨z0, z1, z2, z3, z4, z5⟩ := sizes (show w.heap.size + 2 ≤ wb.heap.size by have := hkw.2.2.2.2.2.2.2.2.2.2.2.size; simpa using this); (try (have z6 : w.heap.size + 2 < wb.heap.size := by have := hbw.size; simp at this; omega)); obtain ⟨hcb, hfb⟩ := old hbw)
      | (go_at_call 65; (with_reducible refine (K2.out _ ‹_›).mono ?_); rintro e wm ⟨rfl, hkw, hbw⟩; have hst := Lib.hid hkw.2.2.2.2.2.2.2.2.2.2.2; obtain ⟨z0, z1, z2, z3, z4, z5⟩ := sizes (show w.heap.size + 2 ≤ wm.heap.size by have := hkw.2.2.2.2.2.2.2.2.2.2.2.size; simpa using this); (try (have z6 : w.heap.size + 2 < wm.heap.size := by have := hbw.size; simp at this; omega)); obtain ⟨hcm, hfm⟩ := old hbw))
  all_goals clear MK BI IN K1 K2
  all_goals (first
    | refine swap (P := fun w5 => Exit.then _ _ _ _ w5) (R := fun w5 => SF a w w5 ∧ OF (makeN a (sizeG a : Int)) wm.heap.size w5) ⟨by with_reducible assumption, by with_reducible exact own_new⟩ ?_
    | refine swap (P := fun w5 => Exit.then _ _ _ _ w5) (R := fun w5 => SF a w w5 ∧ OF (makeN a (sizeG a : Int)) wb.heap.size w5) ⟨by with_reducible assumption, by (with_reducible refine own_set ?_ ?_ ?_ ?_) <;> (rw [hcm _ _ (by simp)]; simp [go_sem])⟩ ?_
    | refine swap (P := fun w5 => Exit.then _ _ _ _ w5) (R := fun w5 => SF a w w5 ∧ OF (makeN a (sizeG a : Int)) (w.heap.size + 1 + 1) w5) ⟨by with_reducible assumption, by (with_reducible refine own_set ?_ ?_ ?_ ?_) <;> (rw [hcm _ _ (by omega), hcb _ _ (by simp)]; simp [go_sem])⟩ ?_)
  all_goals rintro w5 ⟨⟨k0, k1, k2, k3, k4, k5, k6, f0, f1, f2, f3, hs9⟩, o0, o1, o2, o3⟩
  all_goals try clear hcm hfm
  all_goals try clear hcb hfb
  all_goals go_wp2_with fail
  all_goals exact bodyPost_ret (v := .agg #[.bool (makeN a (sizeG a : Int)).a.v6, .int .u64 (makeN a (sizeG a : Int)).a.hi, .int .u64 (makeN a (sizeG a : Int)).a.lo, .int .i64 (makeN a (sizeG a : Int)).n]) (by simp [results, Try.results45, go_sem, k3, k4, k5, k6]) rfl ⟨rfl, (((((two_low _ _ _).trans (hs9.mono (by simp; omega))).setCell (by simp) _).setCell (by simp) _).setCell (by simp) _).setCell (by simp) _⟩
abbrev SAB (a b : Adr) (w : World) (w' : World) : Prop := w'.cell? ⟨w.heap.size, 0, none⟩ = some (.bool a.v6) ∧ w'.cell? ⟨w.heap.size, 1, none⟩ = some (.int .u64 a.hi) ∧ w'.cell? ⟨w.heap.size, 2, none⟩ = some (.int .u64 a.lo) ∧ w'.cell? ⟨w.heap.size + 1, 0, none⟩ = some (.bool b.v6) ∧ w'.cell? ⟨w.heap.size + 1, 1, none⟩ = some (.int .u64 b.hi) ∧ w'.cell? ⟨w.heap.size + 1, 2, none⟩ = some (.int .u64 b.lo) ∧ Stays ((w.alloc (.cells #[.bool a.v6, .int .u64 a.hi, .int .u64 a.lo] 31)).alloc (.cells #[.bool b.v6, .int .u64 b.hi, .int .u64 b.lo] 31)) w'
theorem SAB.of {a b : Adr} {w w' : World} (h : Stays ((w.alloc (.cells #[.bool a.v6, .int .u64 a.hi, .int .u64 a.lo] 31)).alloc (.cells #[.bool b.v6, .int .u64 b.hi, .int .u64 b.lo] 31)) w') : SAB a b w w' :=
  ⟨Ci.cells_left h (by simp [go_sem]), Ci.cells_left h (by simp [go_sem]), Ci.cells_left h (by simp [go_sem]), Ci.cells_left h (by simp [go_sem]), Ci.cells_left h (by simp [go_sem]), Ci.cells_left h (by simp [go_sem]), h⟩
theorem SAB.on {a b : Adr} {w w1 w2 : World} (h : SAB a b w w1) (k : Below w1.heap.size w1 w2) : SAB a b w w2 := SAB.of (low_trans h.2.2.2.2.2.2 k)
theorem SAB.low {a b : Adr} {w w1 : World} (h : SAB a b w w1) : Below w.heap.size w w1 := (two_low _ _ _).trans (h.2.2.2.2.2.2.mono (by simp; omega))
theorem BX.on {a : Adr} {w w1 w2 : World} (h : Boxed a.v6 a.hi a.lo w w1) (k : Below w1.heap.size w1 w2) : Boxed a.v6 a.hi a.lo w w2 := box_left (low_trans h.2.2.2 k)
theorem BX.low {a : Adr} {w w1 : World} (h : Boxed a.v6 a.hi a.lo w w1) : Below w.heap.size w w1 := ((Below.refl _ _).alloc (Nat.le_refl _) _).trans (h.2.2.2.mono (by simp))
end Go.Proofs.Ytgnjbbohphoojaa.Gr
/- Contracts of the document's answers for layer 8. -/
namespace Go.Proofs.Ytgnjbbohphoojaa.Gr
set_option maxRecDepth 100000
open Go.ChangeShapes Go.WideShapes Go.ChangeAt Go.RowKit
open Dec Words V4 V6 Ad Ci
set_option linter.unusedVariables false
theorem mod_cut (n m : Nat) (hm : 0 < m) (hn : n < 18446744073709551616) : (n : Int).tmod (m : Int) = ((n % m : Nat) : Int) ∧ IntKind.u64.wrap ((n % m : Nat) : Int) = ((n % m : Nat) : Int) ∧ IntKind.u64.wrap ((n : Int) - ((n % m : Nat) : Int)) = ((n - n % m : Nat) : Int) ∧ (n : Int) - (n : Int) % (m : Int) = ((n - n % m : Nat) : Int) := by
  have h := Nat.mod_le n m
  refine ⟨?_, ?_, ?_, ?_⟩
  · rw [Int.tmod_eq_emod_of_nonneg (by omega)]; norm_cast
  · rw [IntKind.wrap_u64]; omega
  · rw [IntKind.wrap_u64]; omega
  · rw [← Int.natCast_emod]; omega
theorem rsame_off (a b : Adr) (w : World) (ha : a.ok) (hb : b.ok) (h : rightA a = false ∨ rightA b = false ∨ a.v6 ≠ b.v6) :
    Calls Try.prog 10 #[.agg #[.bool a.v6, .int .u64 a.hi, .int .u64 a.lo], .agg #[.bool b.v6, .int .u64 b.hi, .int .u64 b.lo]] w fun e w' => e = .returned (.bool (sameG a b)) ∧ Below w.heap.size w w' := by
  have K1 : Hid (∀ W, SAB a b w W → Calls Try.prog 19 #[.agg #[.bool a.v6, .int .u64 a.hi, .int .u64 a.lo]] W fun e w' => e = .returned (.bool (rightA a)) ∧ SAB a b w w') := Lib.hid fun W h => (rright_any a W ha).mono fun e w' ⟨he, hb⟩ => ⟨he, h.on hb⟩
  have K2 : Hid (∀ W, SAB a b w W → Calls Try.prog 19 #[.agg #[.bool b.v6, .int .u64 b.hi, .int .u64 b.lo]] W fun e w' => e = .returned (.bool (rightA b)) ∧ SAB a b w w') := Lib.hid fun W h => (rright_any b W hb).mono fun e w' ⟨he, hb⟩ => ⟨he, h.on hb⟩
  have hk0 : SAB a b w ((w.alloc (.cells #[.bool a.v6, .int .u64 a.hi, .int .u64 a.lo] 31)).alloc (.cells #[.bool b.v6, .int .u64 b.hi, .int .u64 b.lo] 31)) := SAB.of (Below.refl _ _)
  obtain ⟨c0, c1, c2, c3, c4, c5, hs⟩ := id hk0
  cases hra : rightA a
  · have E : Hid (sameG a b = false) := Lib.hid (sameG_noA hra)
    rw [hra] at K1
    clear hra h
    go_enter Try.func10, Try.ntmps10
    go_wp2_with fail
    (with_reducible refine (K1.out _ hk0).mono ?_)
    rintro e w1 ⟨rfl, hk1⟩
    go_wp2_with fail
    go_ret
    exact ⟨ret_b E.out.symm, SAB.low hk1⟩
  · cases hrb : rightA b
    · have E : Hid (sameG a b = false) := Lib.hid (sameG_noB hrb)
      rw [hra] at K1
      rw [hrb] at K2
      clear hra hrb h
      go_enter Try.func10, Try.ntmps10
      go_wp2_with fail
      (with_reducible refine (K1.out _ hk0).mono ?_)
      rintro e w1 ⟨rfl, hk1⟩
      clear c0 c1 c2 c3 c4 c5 hs
      obtain ⟨c0, c1, c2, c3, c4, c5, hs⟩ := id hk1
      go_wp2_with fail
      (with_reducible refine (K2.out _ hk1).mono ?_)
      rintro e w2 ⟨rfl, hk2⟩
      go_wp2_with fail
      go_ret
      exact ⟨ret_b E.out.symm, SAB.low hk2⟩
    · have hv : a.v6 ≠ b.v6 := by
        rcases h with h | h | h
        · rw [hra] at h; cases h
        · rw [hrb] at h; cases h
        · exact h
      have E : Hid (sameG a b = false) := Lib.hid (sameG_kinds hra hrb hv)
      obtain ⟨g1, g2, g3⟩ := bbn hv
      rw [hra] at K1
      rw [hrb] at K2
      clear hra hrb h hv
      go_enter Try.func10, Try.ntmps10
      go_wp2_with fail
      (with_reducible refine (K1.out _ hk0).mono ?_)
      rintro e w1 ⟨rfl, hk1⟩
      clear c0 c1 c2 c3 c4 c5 hs
      obtain ⟨c0, c1, c2, c3, c4, c5, hs⟩ := id hk1
      go_wp2_with fail
      (with_reducible refine (K2.out _ hk1).mono ?_)
      rintro e w2 ⟨rfl, hk2⟩
      clear c0 c1 c2 c3 c4 c5 hs
      obtain ⟨c0, c1, c2, c3, c4, c5, hs⟩ := id hk2
      go_wp2_with fail
      go_ret
      exact ⟨ret_b E.out.symm, SAB.low hk2⟩
end Go.Proofs.Ytgnjbbohphoojaa.Gr
/- Contracts of the document's answers for layer 8: two addresses of one kind. -/
namespace Go.Proofs.Ytgnjbbohphoojaa.Gr
set_option maxRecDepth 100000
open Go.ChangeShapes Go.WideShapes Go.ChangeAt Go.RowKit
open Dec Words V4 V6 Ad Ci
set_option linter.unusedVariables false
set_option maxHeartbeats 8000000 in
theorem rsame_on32 (h1 l1 h2 l2 : Nat) (w : World) (ha : (⟨true, h1, l1⟩ : Adr).ok) (hb : (⟨true, h2, l2⟩ : Adr).ok) (hra : rightA ⟨true, h1, l1⟩ = true) (hrb : rightA ⟨true, h2, l2⟩ = true) :
    Calls Try.prog 10 #[.agg #[.bool true, .int .u64 h1, .int .u64 l1], .agg #[.bool true, .int .u64 h2, .int .u64 l2]] w fun e w' => e = .returned (.bool (sameG ⟨true, h1, l1⟩ ⟨true, h2, l2⟩)) ∧ Below w.heap.size w w' := by
  have K1 : Hid (∀ W, SAB ⟨true, h1, l1⟩ ⟨true, h2, l2⟩ w W → Calls Try.prog 19 #[.agg #[.bool true, .int .u64 h1, .int .u64 l1]] W fun e w' => e = .returned (.bool true) ∧ SAB ⟨true, h1, l1⟩ ⟨true, h2, l2⟩ w w') := Lib.hid fun W h => by
    have := rright_any ⟨true, h1, l1⟩ W ha
    rw [hra] at this
    exact this.mono fun e w' ⟨he, hb⟩ => ⟨he, h.on hb⟩
  have K2 : Hid (∀ W, SAB ⟨true, h1, l1⟩ ⟨true, h2, l2⟩ w W → Calls Try.prog 19 #[.agg #[.bool true, .int .u64 h2, .int .u64 l2]] W fun e w' => e = .returned (.bool true) ∧ SAB ⟨true, h1, l1⟩ ⟨true, h2, l2⟩ w w') := Lib.hid fun W h => by
    have := rright_any ⟨true, h2, l2⟩ W hb
    rw [hrb] at this
    exact this.mono fun e w' ⟨he, hb⟩ => ⟨he, h.on hb⟩
  have KA : Hid (∀ W k, k < 32 → SAB ⟨true, h1, l1⟩ ⟨true, h2, l2⟩ w W → Calls Try.prog 20 #[.agg #[.bool true, .int .u64 h1, .int .u64 l1], .int .i64 (k : Nat)] W fun e w' => e = .returned (.int .i64 (bitN ⟨true, h1, l1⟩ k : Nat)) ∧ SAB ⟨true, h1, l1⟩ ⟨true, h2, l2⟩ w w') := Lib.hid fun W k hk h => by
    have := rbit_any ⟨true, h1, l1⟩ (k : Int) W ha (by omega) (by omega)
    rw [bitA_in (show k < bitsA ⟨true, h1, l1⟩ by simp [bitsA]; omega)] at this
    exact this.mono fun e w' ⟨he, hb⟩ => ⟨he, h.on hb⟩
  have KB : Hid (∀ W k, k < 32 → SAB ⟨true, h1, l1⟩ ⟨true, h2, l2⟩ w W → Calls Try.prog 20 #[.agg #[.bool true, .int .u64 h2, .int .u64 l2], .int .i64 (k : Nat)] W fun e w' => e = .returned (.int .i64 (bitN ⟨true, h2, l2⟩ k : Nat)) ∧ SAB ⟨true, h1, l1⟩ ⟨true, h2, l2⟩ w w') := Lib.hid fun W k hk h => by
    have := rbit_any ⟨true, h2, l2⟩ (k : Int) W hb (by omega) (by omega)
    rw [bitA_in (show k < bitsA ⟨true, h2, l2⟩ by simp [bitsA]; omega)] at this
    exact this.mono fun e w' ⟨he, hb⟩ => ⟨he, h.on hb⟩
  have JD : Hid (∀ W, SAB ⟨true, h1, l1⟩ ⟨true, h2, l2⟩ w W → SAB ⟨true, h1, l1⟩ ⟨true, h2, l2⟩ w W.drew) := Lib.hid fun W h => SAB.of (low_drewN h.2.2.2.2.2.2 1)
  have HS : Hid (sameG ⟨true, h1, l1⟩ ⟨true, h2, l2⟩ = true ↔ ∀ j, j < 32 → bitN ⟨true, h1, l1⟩ j = bitN ⟨true, h2, l2⟩ j) := Lib.hid (sameG_bits ha hb hra hrb rfl)
  have hk0 : SAB ⟨true, h1, l1⟩ ⟨true, h2, l2⟩ w ((w.alloc (.cells #[.bool true, .int .u64 h1, .int .u64 l1] 31)).alloc (.cells #[.bool true, .int .u64 h2, .int .u64 l2] 31)) := SAB.of (Below.refl _ _)
  obtain ⟨c0, c1, c2, c3, c4, c5, hs⟩ := id hk0
  clear hra hrb ha hb
  go_enter Try.func10, Try.ntmps10
  go_wp2_with fail
  (with_reducible refine (K1.out _ hk0).mono ?_)
  rintro e w1 ⟨rfl, hk1⟩
  clear c0 c1 c2 c3 c4 c5 hs
  obtain ⟨c0, c1, c2, c3, c4, c5, hs⟩ := id hk1
  go_wp2_with fail
  (with_reducible refine (K2.out _ hk1).mono ?_)
  rintro e w2 ⟨rfl, hk2⟩
  clear c0 c1 c2 c3 c4 c5 hs
  obtain ⟨c0, c1, c2, c3, c4, c5, hs⟩ := id hk2
  go_wp2_with fail
  clear c0 c1 c2 c3 c4 c5 hs
  go_loopw [5] (fun i wr => ∃ k : Nat, i = .int .i64 k ∧ k ≤ 32 ∧ Hid (∀ j, j < k → j < 32 → bitN ⟨true, h1, l1⟩ j = bitN ⟨true, h2, l2⟩ j) ∧ SAB ⟨true, h1, l1⟩ ⟨true, h2, l2⟩ w wr) (fun i _ => 32 - (intOf i).toNat)
  case atStart => exact ⟨0, rfl, by omega, Lib.hid (fun j h1 _ => absurd h1 (by omega)), hk2⟩
  case round =>
    obtain ⟨k, rfl, hk, HA, hSr⟩ := hrel
    obtain ⟨c0, c1, c2, c3, c4, c5, hs⟩ := id hSr
    by_cases hlt : k < 32
    · have hlk : k < 32 := hlt
      by_cases e : bitN ⟨true, h1, l1⟩ k = bitN ⟨true, h2, l2⟩ k
      · have K4 := Lib.hid (fun W => KA.out W k hlk)
        have K5 := Lib.hid (fun W => KB.out W k hlk)
        rw [← e] at K5
        have HA2 : Hid (∀ j, j < k + 1 → j < 32 → bitN ⟨true, h1, l1⟩ j = bitN ⟨true, h2, l2⟩ j) := Lib.hid (fun j h1 h2 => by
          rcases Nat.lt_succ_iff_lt_or_eq.1 h1 with h | rfl
          · exact HA.out j h h2
          · exact e)
        clear e
        go_wp2_with fail
        first
          | (go_region_with (first
            | (go_at_call 20; (with_reducible first | refine (K4.out _ (by (repeat (first | assumption | refine JD.out _ ?_)))).mono ?_ | refine (K5.out _ (by (repeat (first | assumption | refine JD.out _ ?_)))).mono ?_); rintro e w9 ⟨rfl, hkw⟩; obtain ⟨c0, c1, c2, c3, c4, c5, hs⟩ := id hkw)))
          | fail
        all_goals clear c0 c1 c2 c3 c4 c5 hs
        all_goals (
          go_wp2
          go_roundw
          case rel => exact ⟨k + 1, by go_num, by omega, HA2, by assumption⟩
          case measure => simp [intOf]; omega)
      · have K4 := Lib.hid (fun W => KA.out W k hlk)
        have K5 := Lib.hid (fun W => KB.out W k hlk)
        obtain ⟨g1, g2⟩ := iin e
        have E : Hid (sameG ⟨true, h1, l1⟩ ⟨true, h2, l2⟩ = false) := Lib.hid (by
          rw [← Bool.not_eq_true, HS.out]
          exact fun h => e (h k hlk))
        clear e
        go_wp2_with fail
        first
          | (go_region_with (first
            | (go_at_call 20; (with_reducible first | refine (K4.out _ (by (repeat (first | assumption | refine JD.out _ ?_)))).mono ?_ | refine (K5.out _ (by (repeat (first | assumption | refine JD.out _ ?_)))).mono ?_); rintro e w9 ⟨rfl, hkw⟩; obtain ⟨c0, c1, c2, c3, c4, c5, hs⟩ := id hkw)))
          | fail
        all_goals (
          go_wp2
          go_ret
          exact ⟨ret_b E.out.symm, SAB.low (‹SAB ⟨true, h1, l1⟩ ⟨true, h2, l2⟩ w _›)⟩)
    · obtain rfl : k = 32 := by omega
      have E : Hid (sameG ⟨true, h1, l1⟩ ⟨true, h2, l2⟩ = true) := Lib.hid (by
        rw [HS.out]
        exact fun j h => HA.out j (by omega) h)
      go_wp2_with fail
      go_ret
      exact ⟨ret_b E.out.symm, SAB.low hSr⟩
end Go.Proofs.Ytgnjbbohphoojaa.Gr
/- Contracts of the document's answers for layer 8: two addresses of one kind. -/
namespace Go.Proofs.Ytgnjbbohphoojaa.Gr
set_option maxRecDepth 100000
open Go.ChangeShapes Go.WideShapes Go.ChangeAt Go.RowKit
open Dec Words V4 V6 Ad Ci
set_option linter.unusedVariables false
set_option maxHeartbeats 8000000 in
theorem rsame_on16 (h1 l1 h2 l2 : Nat) (w : World) (ha : (⟨false, h1, l1⟩ : Adr).ok) (hb : (⟨false, h2, l2⟩ : Adr).ok) (hra : rightA ⟨false, h1, l1⟩ = true) (hrb : rightA ⟨false, h2, l2⟩ = true) :
    Calls Try.prog 10 #[.agg #[.bool false, .int .u64 h1, .int .u64 l1], .agg #[.bool false, .int .u64 h2, .int .u64 l2]] w fun e w' => e = .returned (.bool (sameG ⟨false, h1, l1⟩ ⟨false, h2, l2⟩)) ∧ Below w.heap.size w w' := by
  have K1 : Hid (∀ W, SAB ⟨false, h1, l1⟩ ⟨false, h2, l2⟩ w W → Calls Try.prog 19 #[.agg #[.bool false, .int .u64 h1, .int .u64 l1]] W fun e w' => e = .returned (.bool true) ∧ SAB ⟨false, h1, l1⟩ ⟨false, h2, l2⟩ w w') := Lib.hid fun W h => by
    have := rright_any ⟨false, h1, l1⟩ W ha
    rw [hra] at this
    exact this.mono fun e w' ⟨he, hb⟩ => ⟨he, h.on hb⟩
  have K2 : Hid (∀ W, SAB ⟨false, h1, l1⟩ ⟨false, h2, l2⟩ w W → Calls Try.prog 19 #[.agg #[.bool false, .int .u64 h2, .int .u64 l2]] W fun e w' => e = .returned (.bool true) ∧ SAB ⟨false, h1, l1⟩ ⟨false, h2, l2⟩ w w') := Lib.hid fun W h => by
    have := rright_any ⟨false, h2, l2⟩ W hb
    rw [hrb] at this
    exact this.mono fun e w' ⟨he, hb⟩ => ⟨he, h.on hb⟩
  have KA : Hid (∀ W k, k < 16 → SAB ⟨false, h1, l1⟩ ⟨false, h2, l2⟩ w W → Calls Try.prog 20 #[.agg #[.bool false, .int .u64 h1, .int .u64 l1], .int .i64 (k : Nat)] W fun e w' => e = .returned (.int .i64 (bitN ⟨false, h1, l1⟩ k : Nat)) ∧ SAB ⟨false, h1, l1⟩ ⟨false, h2, l2⟩ w w') := Lib.hid fun W k hk h => by
    have := rbit_any ⟨false, h1, l1⟩ (k : Int) W ha (by omega) (by omega)
    rw [bitA_in (show k < bitsA ⟨false, h1, l1⟩ by simp [bitsA]; omega)] at this
    exact this.mono fun e w' ⟨he, hb⟩ => ⟨he, h.on hb⟩
  have KB : Hid (∀ W k, k < 16 → SAB ⟨false, h1, l1⟩ ⟨false, h2, l2⟩ w W → Calls Try.prog 20 #[.agg #[.bool false, .int .u64 h2, .int .u64 l2], .int .i64 (k : Nat)] W fun e w' => e = .returned (.int .i64 (bitN ⟨false, h2, l2⟩ k : Nat)) ∧ SAB ⟨false, h1, l1⟩ ⟨false, h2, l2⟩ w w') := Lib.hid fun W k hk h => by
    have := rbit_any ⟨false, h2, l2⟩ (k : Int) W hb (by omega) (by omega)
    rw [bitA_in (show k < bitsA ⟨false, h2, l2⟩ by simp [bitsA]; omega)] at this
    exact this.mono fun e w' ⟨he, hb⟩ => ⟨he, h.on hb⟩
  have JD : Hid (∀ W, SAB ⟨false, h1, l1⟩ ⟨false, h2, l2⟩ w W → SAB ⟨false, h1, l1⟩ ⟨false, h2, l2⟩ w W.drew) := Lib.hid fun W h => SAB.of (low_drewN h.2.2.2.2.2.2 1)
  have HS : Hid (sameG ⟨false, h1, l1⟩ ⟨false, h2, l2⟩ = true ↔ ∀ j, j < 16 → bitN ⟨false, h1, l1⟩ j = bitN ⟨false, h2, l2⟩ j) := Lib.hid (sameG_bits ha hb hra hrb rfl)
  have hk0 : SAB ⟨false, h1, l1⟩ ⟨false, h2, l2⟩ w ((w.alloc (.cells #[.bool false, .int .u64 h1, .int .u64 l1] 31)).alloc (.cells #[.bool false, .int .u64 h2, .int .u64 l2] 31)) := SAB.of (Below.refl _ _)
  obtain ⟨c0, c1, c2, c3, c4, c5, hs⟩ := id hk0
  clear hra hrb ha hb
  go_enter Try.func10, Try.ntmps10
  go_wp2_with fail
  (with_reducible refine (K1.out _ hk0).mono ?_)
  rintro e w1 ⟨rfl, hk1⟩
  clear c0 c1 c2 c3 c4 c5 hs
  obtain ⟨c0, c1, c2, c3, c4, c5, hs⟩ := id hk1
  go_wp2_with fail
  (with_reducible refine (K2.out _ hk1).mono ?_)
  rintro e w2 ⟨rfl, hk2⟩
  clear c0 c1 c2 c3 c4 c5 hs
  obtain ⟨c0, c1, c2, c3, c4, c5, hs⟩ := id hk2
  go_wp2_with fail
  clear c0 c1 c2 c3 c4 c5 hs
  go_loopw [5] (fun i wr => ∃ k : Nat, i = .int .i64 k ∧ k ≤ 32 ∧ Hid (∀ j, j < k → j < 16 → bitN ⟨false, h1, l1⟩ j = bitN ⟨false, h2, l2⟩ j) ∧ SAB ⟨false, h1, l1⟩ ⟨false, h2, l2⟩ w wr) (fun i _ => 32 - (intOf i).toNat)
  case atStart => exact ⟨0, rfl, by omega, Lib.hid (fun j h1 _ => absurd h1 (by omega)), hk2⟩
  case round =>
    obtain ⟨k, rfl, hk, HA, hSr⟩ := hrel
    obtain ⟨c0, c1, c2, c3, c4, c5, hs⟩ := id hSr
    by_cases hlt : k < 32
    · by_cases hlk : k < 16
      · by_cases e : bitN ⟨false, h1, l1⟩ k = bitN ⟨false, h2, l2⟩ k
        · have K4 := Lib.hid (fun W => KA.out W k hlk)
          have K5 := Lib.hid (fun W => KB.out W k hlk)
          rw [← e] at K5
          have HA2 : Hid (∀ j, j < k + 1 → j < 16 → bitN ⟨false, h1, l1⟩ j = bitN ⟨false, h2, l2⟩ j) := Lib.hid (fun j h1 h2 => by
            rcases Nat.lt_succ_iff_lt_or_eq.1 h1 with h | rfl
            · exact HA.out j h h2
            · exact e)
          have hd : decide ((k : Int) < 16) = true := decide_eq_true (by omega)
          clear e
          go_wp2_with fail
          go_region_held3 (fun w' => w'.cell? ⟨w.heap.size, 0, none⟩ = some (.bool false) ∧ w'.cell? ⟨w.heap.size, 1, none⟩ = some (.int .u64 h1) ∧ w'.cell? ⟨w.heap.size, 2, none⟩ = some (.int .u64 l1) ∧ w'.cell? ⟨w.heap.size + 1, 0, none⟩ = some (.bool false) ∧ w'.cell? ⟨w.heap.size + 1, 1, none⟩ = some (.int .u64 h2) ∧ w'.cell? ⟨w.heap.size + 1, 2, none⟩ = some (.int .u64 l2) ∧ Stays ((w.alloc (.cells #[.bool false, .int .u64 h1, .int .u64 l1] 31)).alloc (.cells #[.bool false, .int .u64 h2, .int .u64 l2] 31)) w')
            (first | assumption | exact JD.out _ ‹_›)
            (first
              | (go_at_call 20; (with_reducible first | refine (K4.out _ ‹_›).mono ?_ | refine (K5.out _ ‹_›).mono ?_); rintro e w9 ⟨rfl, hkw⟩))
          all_goals clear c0 c1 c2 c3 c4 c5 hs
          all_goals (
            go_wp2
            go_roundw
            case rel => exact ⟨k + 1, by go_num, by omega, HA2, by assumption⟩
            case measure => simp [intOf]; omega)
        · have K4 := Lib.hid (fun W => KA.out W k hlk)
          have K5 := Lib.hid (fun W => KB.out W k hlk)
          obtain ⟨g1, g2⟩ := iin e
          have E : Hid (sameG ⟨false, h1, l1⟩ ⟨false, h2, l2⟩ = false) := Lib.hid (by
            rw [← Bool.not_eq_true, HS.out]
            exact fun h => e (h k hlk))
          have hd : decide ((k : Int) < 16) = true := decide_eq_true (by omega)
          clear e
          go_wp2_with fail
          go_region_held3 (fun w' => w'.cell? ⟨w.heap.size, 0, none⟩ = some (.bool false) ∧ w'.cell? ⟨w.heap.size, 1, none⟩ = some (.int .u64 h1) ∧ w'.cell? ⟨w.heap.size, 2, none⟩ = some (.int .u64 l1) ∧ w'.cell? ⟨w.heap.size + 1, 0, none⟩ = some (.bool false) ∧ w'.cell? ⟨w.heap.size + 1, 1, none⟩ = some (.int .u64 h2) ∧ w'.cell? ⟨w.heap.size + 1, 2, none⟩ = some (.int .u64 l2) ∧ Stays ((w.alloc (.cells #[.bool false, .int .u64 h1, .int .u64 l1] 31)).alloc (.cells #[.bool false, .int .u64 h2, .int .u64 l2] 31)) w')
            (first | assumption | exact JD.out _ ‹_›)
            (first
              | (go_at_call 20; (with_reducible first | refine (K4.out _ ‹_›).mono ?_ | refine (K5.out _ ‹_›).mono ?_); rintro e w9 ⟨rfl, hkw⟩))
          all_goals (
            go_wp2
            go_ret
            exact ⟨ret_b E.out.symm, SAB.low (‹SAB ⟨false, h1, l1⟩ ⟨false, h2, l2⟩ w _›)⟩)
      · have HA2 : Hid (∀ j, j < k + 1 → j < 16 → bitN ⟨false, h1, l1⟩ j = bitN ⟨false, h2, l2⟩ j) := Lib.hid (fun j h1 h2 => HA.out j (by omega) h2)
        have hd : decide ((k : Int) < 16) = false := decide_eq_false (by omega)
        go_wp2_with fail
        go_quiet (fail)
        go_wp2
        go_roundw
        case rel => exact ⟨k + 1, by go_num, by omega, HA2, SAB.of (low_drewN hSr.2.2.2.2.2.2 _)⟩
        case measure => simp [intOf]; omega
    · obtain rfl : k = 32 := by omega
      have E : Hid (sameG ⟨false, h1, l1⟩ ⟨false, h2, l2⟩ = true) := Lib.hid (by
        rw [HS.out]
        exact fun j h => HA.out j (by omega) h)
      go_wp2_with fail
      go_ret
      exact ⟨ret_b E.out.symm, SAB.low hSr⟩
end Go.Proofs.Ytgnjbbohphoojaa.Gr
/- Contracts of the document's answers for layer 8: two addresses of one kind. -/
namespace Go.Proofs.Ytgnjbbohphoojaa.Gr
set_option maxRecDepth 100000
open Go.ChangeShapes Go.WideShapes Go.ChangeAt Go.RowKit
open Dec Words V4 V6 Ad Ci
set_option linter.unusedVariables false
theorem rsameG_any (a b : Adr) (w : World) (ha : a.ok) (hb : b.ok) :
    Calls Try.prog 10 #[.agg #[.bool a.v6, .int .u64 a.hi, .int .u64 a.lo], .agg #[.bool b.v6, .int .u64 b.hi, .int .u64 b.lo]] w fun e w' => e = .returned (.bool (sameG a b)) ∧ Below w.heap.size w w' := by
  cases hra : rightA a
  · exact rsame_off a b w ha hb (Or.inl hra)
  · cases hrb : rightA b
    · exact rsame_off a b w ha hb (Or.inr (Or.inl hrb))
    · by_cases hv : a.v6 = b.v6
      · obtain ⟨v, h1, l1⟩ := a
        obtain ⟨v2, h2, l2⟩ := b
        simp only [] at hv
        subst hv
        cases v
        · exact rsame_on16 h1 l1 h2 l2 w ha hb hra hrb
        · exact rsame_on32 h1 l1 h2 l2 w ha hb hra hrb
      · exact rsame_off a b w ha hb (Or.inr (Or.inr hv))
end Go.Proofs.Ytgnjbbohphoojaa.Gr
