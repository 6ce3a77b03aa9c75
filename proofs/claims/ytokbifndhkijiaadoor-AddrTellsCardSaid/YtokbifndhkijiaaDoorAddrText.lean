/- Contracts of package addr: texts, and the order. -/
import Derived.Test.YtokbifndhkijiaaDoorAddrRight
import Derived.Test.YtokbifndhkijiaaDoorIpv6Write
import Derived.Test.YtokbifndhkijiaaDoorIpv6Read
namespace Go.Proofs.YtokbifndhkijiaaDoor.Ad
set_option maxRecDepth 100000
open Go.ChangeShapes Go.WideShapes Go.ChangeAt Go.RowKit
open Dec Words V4 V6
set_option linter.unusedVariables false
theorem compare_any (a b : Adr) (w : World) (ha : a.ok) (hb : b.ok) :
    Calls Tryd.prog 19 #[.agg #[.bool a.v6, .int .u64 a.hi, .int .u64 a.lo], .agg #[.bool b.v6, .int .u64 b.hi, .int .u64 b.lo]] w fun e w' => e = .returned (.int .i64 (cmpA a b)) ∧ Below w.heap.size w w' := by
  have EQ := fun W => eqAdr a b W
  cases hs : sameA a b
  · rw [hs] at EQ
    have BE := Lib.hid (before_any a b)
    cases hl : lessA a b
    · have E : Hid (cmpA a b = 1) := Lib.hid (by unfold cmpA; rw [hs, hl]; rfl)
      rw [hl] at BE
      clear hs hl
      go_enter Tryd.func19, Tryd.ntmps19
      go_wp2_with fail
      refine (BE.out _ ha hb).mono ?_
      rintro e w1 ⟨rfl, hb1⟩
      go_wp2_with fail
      go_ret
      exact ⟨ret_i E.out.symm, (two_low _ _ _).trans (hb1.mono (by simp; omega))⟩
    · have E : Hid (cmpA a b = -1) := Lib.hid (by unfold cmpA; rw [hs, hl]; rfl)
      rw [hl] at BE
      clear hs hl
      go_enter Tryd.func19, Tryd.ntmps19
      go_wp2_with fail
      refine (BE.out _ ha hb).mono ?_
      rintro e w1 ⟨rfl, hb1⟩
      go_wp2_with fail
      go_ret
      exact ⟨ret_i E.out.symm, (two_low _ _ _).trans (hb1.mono (by simp; omega))⟩
  · rw [hs] at EQ
    have E : Hid (cmpA a b = 0) := Lib.hid (by unfold cmpA; rw [hs]; rfl)
    clear hs
    go_enter Tryd.func19, Tryd.ntmps19
    go_wp2_with fail
    go_ret
    exact ⟨ret_i E.out.symm, two_low _ _ _⟩
set_option maxHeartbeats 1000000 in
theorem textA_any (a : Adr) (w : World) (ha : a.ok) :
    Calls Tryd.prog 11 #[.agg #[.bool a.v6, .int .u64 a.hi, .int .u64 a.lo]] w fun e w' => e = .returned (.string ⟨(textA a).toArray⟩) ∧ Below w.heap.size w w' := by
  obtain ⟨v, hi, lo⟩ := a
  obtain ⟨h1, h2⟩ := ha
  simp only [] at h1 h2
  cases v
  · cases hr : rightA ⟨false, hi, lo⟩
    · have E : Hid (textA ⟨false, hi, lo⟩ = []) := Lib.hid (textA_no hr)
      have RI := Lib.hid (fun W => right_any ⟨false, hi, lo⟩ W ⟨h1, h2⟩)
      rw [hr] at RI
      clear hr
      go_enter Tryd.func11, Tryd.ntmps11
      go_wp2_with fail
      refine (RI.out _).mono ?_
      rintro e w1 ⟨rfl, hb1⟩
      go_wp2_with fail
      go_ret
      exact ⟨ret_s (a := []) E.out.symm, ((Below.refl _ _).alloc (Nat.le_refl _) _).trans (hb1.mono (by simp))⟩
    · have RI := Lib.hid (fun W => right_any ⟨false, hi, lo⟩ W ⟨h1, h2⟩)
      have hlo : lo < 4294967296 := by
        unfold rightA at hr
        simp only [Bool.false_eq_true, if_false, Bool.and_eq_true, decide_eq_true_eq] at hr
        exact hr.2
      have E : Hid (textA ⟨false, hi, lo⟩ = text4 lo) := Lib.hid (by unfold textA; rw [hr]; rfl)
      rw [hr] at RI
      clear hr
      go_enter Tryd.func11, Tryd.ntmps11
      go_wp2_with fail
      refine (RI.out _).mono ?_
      rintro e w1 ⟨rfl, hb1⟩
      obtain ⟨hc, hf⟩ := old hb1
      go_wp2_with fail
      refine (text4_any lo _ hlo).mono ?_
      rintro e w2 ⟨rfl, hb2⟩
      go_wp2_with fail
      go_ret
      exact ⟨ret_s E.out.symm, ((Below.refl _ _).alloc (Nat.le_refl _) _).trans ((low_trans hb1 hb2).mono (by simp))⟩
  · cases hr : rightA ⟨true, hi, lo⟩
    · have E : Hid (textA ⟨true, hi, lo⟩ = []) := Lib.hid (textA_no hr)
      have RI := Lib.hid (fun W => right_any ⟨true, hi, lo⟩ W ⟨h1, h2⟩)
      rw [hr] at RI
      clear hr
      go_enter Tryd.func11, Tryd.ntmps11
      go_wp2_with fail
      refine (RI.out _).mono ?_
      rintro e w1 ⟨rfl, hb1⟩
      go_wp2_with fail
      go_ret
      exact ⟨ret_s (a := []) E.out.symm, ((Below.refl _ _).alloc (Nat.le_refl _) _).trans (hb1.mono (by simp))⟩
    · have RI := Lib.hid (fun W => right_any ⟨true, hi, lo⟩ W ⟨h1, h2⟩)
      have E : Hid (textA ⟨true, hi, lo⟩ = text6 hi lo) := Lib.hid (by unfold textA; rw [hr]; rfl)
      rw [hr] at RI
      clear hr
      go_enter Tryd.func11, Tryd.ntmps11
      go_wp2_with fail
      refine (RI.out _).mono ?_
      rintro e w1 ⟨rfl, hb1⟩
      obtain ⟨hc, hf⟩ := old hb1
      go_wp2_with fail
      refine (text6_any hi lo _ h1 h2).mono ?_
      rintro e w2 ⟨rfl, hb2⟩
      go_wp2_with fail
      go_ret
      exact ⟨ret_s E.out.symm, ((Below.refl _ _).alloc (Nat.le_refl _) _).trans ((low_trans hb1 hb2).mono (by simp))⟩
def ParseA (l : List UInt8) (w : World) (e : Ending) (w' : World) : Prop := e = .returned (.tuple #[.agg #[.bool (parseA l).v6, .int .u64 (parseA l).hi, .int .u64 (parseA l).lo], .bool (okA l)]) ∧ Below w.heap.size w w'
theorem parseA_mk {l : List UInt8} {w w' : World} {e : Ending} {a : Adr} {b : Bool} (ha : parseA l = a) (hb : okA l = b) (he : e = .returned (.tuple #[.agg #[.bool a.v6, .int .u64 a.hi, .int .u64 a.lo], .bool b])) (h : Below w.heap.size w w') : ParseA l w e w' := by
  subst ha hb; exact ⟨he, h⟩
set_option maxHeartbeats 2000000 in
theorem parseA_any (l : List UInt8) (w : World) (hl : l.length < 4294967000) (hL : Lens w) : Calls Tryd.prog 7 #[.string ⟨l.toArray⟩] w (ParseA l w) := by
  cases h4 : ok4 l
  · have P4 := Lib.hid (parse4_any l)
    unfold Parse4 at P4
    rw [h4] at P4
    have P6 := Lib.hid (parse6_any l)
    unfold Parse6 at P6
    cases h6 : ok6 l
    · have E1 : Hid (parseA l = ⟨false, 0, 0⟩) := Lib.hid (by unfold parseA; rw [h4, h6]; rfl)
      have E2 : Hid (okA l = false) := Lib.hid (by unfold okA; rw [h4, h6]; rfl)
      rw [h6] at P6
      clear h4 h6
      go_enter Tryd.func7, Tryd.ntmps7
      go_wp2_with fail
      refine (P4.out _ (by omega)).mono ?_
      rintro e w1 ⟨rfl, hb1⟩
      have hL1 := (hL.below ((Below.refl _ _).alloc (Nat.le_refl _) _)).below hb1
      go_wp2_with fail
      refine (P6.out _ (by omega) hL1).mono ?_
      rintro e w2 ⟨rfl, hb2⟩
      have hb12 := low_trans hb1 hb2
      obtain ⟨hc, hf⟩ := old hb12
      go_wp2
      exact bodyPost_ret (v := .tuple #[.agg #[.bool false, .int .u64 0, .int .u64 0], .bool false]) (by simp [results, Tryd.results7, go_sem, hc]) rfl (parseA_mk E1.out E2.out rfl ((((((Below.refl _ _).alloc (Nat.le_refl _) _).trans (hb12.mono (by simp))).setCell (by simp) _).setCell (by simp) _).setCell (by simp) _))
    · have E1 : Hid (parseA l = v6A (hi6 l) (lo6 l)) := Lib.hid (by unfold parseA; rw [h4, h6]; rfl)
      have E2 : Hid (okA l = true) := Lib.hid (by unfold okA; rw [h4, h6]; rfl)
      rw [h6] at P6
      clear h4 h6
      have V := Lib.hid (fun W => v6_any (hi6 l) (lo6 l) W (hi6_lt l) (lo6_lt l))
      go_enter Tryd.func7, Tryd.ntmps7
      go_wp2_with fail
      refine (P4.out _ (by omega)).mono ?_
      rintro e w1 ⟨rfl, hb1⟩
      have hL1 := (hL.below ((Below.refl _ _).alloc (Nat.le_refl _) _)).below hb1
      go_wp2_with fail
      refine (P6.out _ (by omega) hL1).mono ?_
      rintro e w2 ⟨rfl, hb2⟩
      go_wp2_with fail
      refine (V.out _).mono ?_
      rintro e w3 ⟨rfl, hb3⟩
      have hb123 := low_trans (low_trans hb1 hb2) hb3
      obtain ⟨hc, hf⟩ := old hb123
      go_wp2
      exact bodyPost_ret (v := .tuple #[.agg #[.bool (v6A (hi6 l) (lo6 l)).v6, .int .u64 (v6A (hi6 l) (lo6 l)).hi, .int .u64 (v6A (hi6 l) (lo6 l)).lo], .bool true]) (by simp [results, Tryd.results7, go_sem, hc]) rfl (parseA_mk E1.out E2.out rfl ((((((Below.refl _ _).alloc (Nat.le_refl _) _).trans (hb123.mono (by simp))).setCell (by simp) _).setCell (by simp) _).setCell (by simp) _))
  · have P4 := Lib.hid (parse4_any l)
    unfold Parse4 at P4
    rw [h4] at P4
    have E1 : Hid (parseA l = v4A (num4 l)) := Lib.hid (by unfold parseA; rw [h4]; rfl)
    have E2 : Hid (okA l = true) := Lib.hid (by unfold okA; rw [h4]; rfl)
    have hn4 := num4_lt l
    clear h4
    go_enter Tryd.func7, Tryd.ntmps7
    go_wp2_with fail
    refine (P4.out _ (by omega)).mono ?_
    rintro e w1 ⟨rfl, hb1⟩
    go_wp2_with fail
    refine (v4_any (num4 l) _ hn4).mono ?_
    rintro e w2 ⟨rfl, hb2⟩
    have hb12 := low_trans hb1 hb2
    obtain ⟨hc, hf⟩ := old hb12
    go_wp2
    exact bodyPost_ret (v := .tuple #[.agg #[.bool (v4A (num4 l)).v6, .int .u64 (v4A (num4 l)).hi, .int .u64 (v4A (num4 l)).lo], .bool true]) (by simp [results, Tryd.results7, go_sem, hc]) rfl (parseA_mk E1.out E2.out rfl ((((((Below.refl _ _).alloc (Nat.le_refl _) _).trans (hb12.mono (by simp))).setCell (by simp) _).setCell (by simp) _).setCell (by simp) _))
end Go.Proofs.YtokbifndhkijiaaDoor.Ad
