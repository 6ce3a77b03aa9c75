/- Contracts of the document's answers for layer 9: who is right, texts, one order. -/
import Derived.Test.YtboojhpconongaaDoorEndp
import Derived.Test.YtboojhpconongaaDoorRef06All
namespace Go.Proofs.YtboojhpconongaaDoor.En
set_option maxRecDepth 100000
open Go.ChangeShapes Go.WideShapes Go.ChangeAt Go.RowKit
open Dec Words V4 V6 Ad
set_option linter.unusedVariables false
set_option maxHeartbeats 2000000 in
theorem rrightE_any (x : Endp) (w : World) (hx : x.ok) :
    Calls Tryd.prog 10 #[.agg #[.bool x.a.v6, .int .u64 x.a.hi, .int .u64 x.a.lo, .int .i64 x.n]] w fun e w' => e = .returned (.bool (rightE x)) ∧ Below w.heap.size w w' := by
  have K1 : Hid (∀ W, SE x w W → Calls Tryd.prog 23 #[.agg #[.bool x.a.v6, .int .u64 x.a.hi, .int .u64 x.a.lo]] W fun e w' => e = .returned (.bool (rightA x.a)) ∧ SE x w w') := Lib.hid fun W h => by
    have hc : Calls Tryd.prog 23 #[.agg #[.bool x.a.v6, .int .u64 x.a.hi, .int .u64 x.a.lo]] W fun e w' => e = .returned (.bool (rightA x.a)) ∧ Below W.heap.size W w' := rright_any x.a W hx.1
    exact hc.mono fun e w' ⟨he, hb⟩ => ⟨he, h.on hb⟩
  have hk0 : SE x w (w.alloc (.cells #[.bool x.a.v6, .int .u64 x.a.hi, .int .u64 x.a.lo, .int .i64 x.n] 26)) := SE.of (Below.refl _ _)
  obtain ⟨c0, c1, c2, c3, hs⟩ := id hk0
  have E : Hid (rightE x = (rightA x.a && (decide (1 ≤ x.n) && decide (x.n ≤ 65535)))) := Lib.hid rfl
  cases hr : rightA x.a
  · rw [hr] at K1 E
    clear hr
    go_enter Tryd.func10, Tryd.ntmps10
    go_wp2_with fail
    (with_reducible refine (K1.out _ hk0).mono ?_)
    rintro e w1 ⟨rfl, hk1⟩
    clear c0 c1 c2 c3 hs
    obtain ⟨c0, c1, c2, c3, hs⟩ := id hk1
    go_wp2_with fail
    go_ret
    exact ⟨ret_b (by rw [E.out]; rfl), SE.low hk1⟩
  · rw [hr] at K1 E
    clear hr
    by_cases h1 : 1 ≤ x.n
    · have p1 : 0 < x.n := by omega
      by_cases h2 : x.n ≤ 65535
      · have p2 : x.n < 65536 := by omega
        go_enter Tryd.func10, Tryd.ntmps10
        go_wp2_with fail
        (with_reducible refine (K1.out _ hk0).mono ?_)
        rintro e w1 ⟨rfl, hk1⟩
        clear c0 c1 c2 c3 hs
        obtain ⟨c0, c1, c2, c3, hs⟩ := id hk1
        go_wp2_with fail
        go_ret
        exact ⟨ret_b (by rw [E.out, Bool.eq_iff_iff]; first | (simp; done) | (simp; omega)), SE.low hk1⟩
      · have p2 : ¬ x.n < 65536 := by omega
        go_enter Tryd.func10, Tryd.ntmps10
        go_wp2_with fail
        (with_reducible refine (K1.out _ hk0).mono ?_)
        rintro e w1 ⟨rfl, hk1⟩
        clear c0 c1 c2 c3 hs
        obtain ⟨c0, c1, c2, c3, hs⟩ := id hk1
        go_wp2_with fail
        go_ret
        exact ⟨ret_b (by rw [E.out, Bool.eq_iff_iff]; first | (simp; done) | (simp; omega)), SE.low hk1⟩
    · have p1 : ¬ 0 < x.n := by omega
      go_enter Tryd.func10, Tryd.ntmps10
      go_wp2_with fail
      (with_reducible refine (K1.out _ hk0).mono ?_)
      rintro e w1 ⟨rfl, hk1⟩
      clear c0 c1 c2 c3 hs
      obtain ⟨c0, c1, c2, c3, hs⟩ := id hk1
      go_wp2_with fail
      go_ret
      exact ⟨ret_b (by rw [E.out, Bool.eq_iff_iff]; first | (simp; done) | (simp; omega)), SE.low hk1⟩
set_option maxHeartbeats 4000000 in
theorem rtextE_any (x : Endp) (w : World) (hx : x.ok) :
    Calls Tryd.prog 12 #[.agg #[.bool x.a.v6, .int .u64 x.a.hi, .int .u64 x.a.lo, .int .i64 x.n]] w fun e w' => e = .returned (.string ⟨(textE x).toArray⟩) ∧ Below w.heap.size w w' := by
  have K1 : Hid (∀ W, SE x w W → Calls Tryd.prog 10 #[.agg #[.bool x.a.v6, .int .u64 x.a.hi, .int .u64 x.a.lo, .int .i64 x.n]] W fun e w' => e = .returned (.bool (rightE x)) ∧ SE x w w') := Lib.hid fun W h => by
    have hc : Calls Tryd.prog 10 #[.agg #[.bool x.a.v6, .int .u64 x.a.hi, .int .u64 x.a.lo, .int .i64 x.n]] W fun e w' => e = .returned (.bool (rightE x)) ∧ Below W.heap.size W w' := rrightE_any x W hx
    exact hc.mono fun e w' ⟨he, hb⟩ => ⟨he, h.on hb⟩
  have K2 : Hid (∀ W, SE x w W → Calls Tryd.prog 26 #[.agg #[.bool x.a.v6, .int .u64 x.a.hi, .int .u64 x.a.lo]] W fun e w' => e = .returned (.string ⟨(textA x.a).toArray⟩) ∧ SE x w w') := Lib.hid fun W h => by
    have hc : Calls Tryd.prog 26 #[.agg #[.bool x.a.v6, .int .u64 x.a.hi, .int .u64 x.a.lo]] W fun e w' => e = .returned (.string ⟨(textA x.a).toArray⟩) ∧ Below W.heap.size W w' := rtextA_any x.a W hx.1
    exact hc.mono fun e w' ⟨he, hb⟩ => ⟨he, h.on hb⟩
  have K3 : Hid (∀ W, SE x w W → Calls Tryd.prog 27 #[.int .i64 x.n] W fun e w' => e = .returned (.string ⟨(text x.n).toArray⟩) ∧ SE x w w') := Lib.hid fun W h => by
    have hc : Calls Tryd.prog 27 #[.int .i64 x.n] W fun e w' => e = .returned (.string ⟨(text x.n).toArray⟩) ∧ Below W.heap.size W w' := rtext_any x.n W hx.2.1 hx.2.2
    exact hc.mono fun e w' ⟨he, hb⟩ => ⟨he, h.on hb⟩
  have JD : Hid (∀ W, SE x w W → SE x w W.drew) := Lib.hid fun W h => SE.of (low_drewN h.2.2.2.2 1)
  have tl1 := textA_len x.a
  have tl2 := text_len x.n hx.2.1 hx.2.2
  have hk0 : SE x w (w.alloc (.cells #[.bool x.a.v6, .int .u64 x.a.hi, .int .u64 x.a.lo, .int .i64 x.n] 26)) := SE.of (Below.refl _ _)
  obtain ⟨c0, c1, c2, c3, hs⟩ := id hk0
  cases hr : rightE x
  · have E : Hid (textE x = [45]) := Lib.hid (textE_no hr)
    rw [hr] at K1
    clear hr
    go_enter Tryd.func12, Tryd.ntmps12
    go_wp2_with fail
    (with_reducible refine (K1.out _ hk0).mono ?_)
    rintro e w1 ⟨rfl, hk1⟩
    clear c0 c1 c2 c3 hs
    obtain ⟨c0, c1, c2, c3, hs⟩ := id hk1
    go_wp2_with fail
    go_ret
    exact ⟨ret_s (a := [45]) E.out.symm, SE.low hk1⟩
  · obtain ⟨v, hv⟩ : ∃ v, x.a.v6 = v := ⟨_, rfl⟩
    cases v
    · have E : Hid (textE x = textA x.a ++ 58 :: text x.n) := Lib.hid (by rw [textE_of hr]; unfold hostT; rw [hv]; simp)
      rw [hr] at K1
      have HV := Lib.hid hv
      clear hr hv
      generalize textA x.a = T at *
      generalize text x.n = D at *
      have g3 := fun W => add_is (a := T) (b := [58]) (c := T ++ [58]) (by simp) (by simp; omega) W
      have g4 := fun W => add_is (a := T ++ [58]) (b := D) (c := T ++ 58 :: D) (by simp) (by simp; omega) W
      clear tl1 tl2
      go_enter Tryd.func12, Tryd.ntmps12
      go_wp2_with fail
      (with_reducible refine (K1.out _ hk0).mono ?_)
      rintro e w1 ⟨rfl, hk1⟩
      clear c0 c1 c2 c3 hs
      obtain ⟨c0, c1, c2, c3, hs⟩ := id hk1
      have hv := HV.out
      go_wp2_with fail
      clear hv
      go_region_held3 (fun w' => w'.cell? ⟨w.heap.size, 0, none⟩ = some (.bool x.a.v6) ∧ w'.cell? ⟨w.heap.size, 1, none⟩ = some (.int .u64 x.a.hi) ∧ w'.cell? ⟨w.heap.size, 2, none⟩ = some (.int .u64 x.a.lo) ∧ w'.cell? ⟨w.heap.size, 3, none⟩ = some (.int .i64 x.n) ∧ Stays (w.alloc (.cells #[.bool x.a.v6, .int .u64 x.a.hi, .int .u64 x.a.lo, .int .i64 x.n] 26)) w')
        (first | assumption | exact JD.out _ ‹_›)
        (first
          | (go_at_call 26; (with_reducible refine (K2.out _ ‹_›).mono ?_); rintro e w9 ⟨rfl, hkw⟩)
          | (go_at_call 27; (with_reducible refine (K3.out _ ‹_›).mono ?_); rintro e w9 ⟨rfl, hkw⟩))
      all_goals (go_wp2; go_ret; exact ⟨ret_s E.out.symm, SE.low (‹SE x w _›)⟩)
    · have E : Hid (textE x = 91 :: (textA x.a ++ 93 :: 58 :: text x.n)) := Lib.hid (by rw [textE_of hr]; unfold hostT; rw [hv]; simp)
      rw [hr] at K1
      have HV := Lib.hid hv
      clear hr hv
      generalize textA x.a = T at *
      generalize text x.n = D at *
      have g1 := fun W => add_is (a := [91]) (b := T) (c := 91 :: T) (by simp) (by simp; omega) W
      have g2 := fun W => add_is (a := 91 :: T) (b := [93, 58]) (c := 91 :: (T ++ [93, 58])) (by simp) (by simp; omega) W
      have g4 := fun W => add_is (a := 91 :: (T ++ [93, 58])) (b := D) (c := 91 :: (T ++ 93 :: 58 :: D)) (by simp) (by simp; omega) W
      clear tl1 tl2
      go_enter Tryd.func12, Tryd.ntmps12
      go_wp2_with fail
      (with_reducible refine (K1.out _ hk0).mono ?_)
      rintro e w1 ⟨rfl, hk1⟩
      clear c0 c1 c2 c3 hs
      obtain ⟨c0, c1, c2, c3, hs⟩ := id hk1
      have hv := HV.out
      go_wp2_with fail
      clear hv
      go_region_held3 (fun w' => w'.cell? ⟨w.heap.size, 0, none⟩ = some (.bool x.a.v6) ∧ w'.cell? ⟨w.heap.size, 1, none⟩ = some (.int .u64 x.a.hi) ∧ w'.cell? ⟨w.heap.size, 2, none⟩ = some (.int .u64 x.a.lo) ∧ w'.cell? ⟨w.heap.size, 3, none⟩ = some (.int .i64 x.n) ∧ Stays (w.alloc (.cells #[.bool x.a.v6, .int .u64 x.a.hi, .int .u64 x.a.lo, .int .i64 x.n] 26)) w')
        (first | assumption | exact JD.out _ ‹_›)
        (first
          | (go_at_call 26; (with_reducible refine (K2.out _ ‹_›).mono ?_); rintro e w9 ⟨rfl, hkw⟩)
          | (go_at_call 27; (with_reducible refine (K3.out _ ‹_›).mono ?_); rintro e w9 ⟨rfl, hkw⟩))
      all_goals (go_wp2; go_ret; exact ⟨ret_s E.out.symm, SE.low (‹SE x w _›)⟩)
set_option maxHeartbeats 4000000 in
theorem rcompareE_any (x y : Endp) (w : World) (hx : x.ok) (hy : y.ok) :
    Calls Tryd.prog 14 #[.agg #[.bool x.a.v6, .int .u64 x.a.hi, .int .u64 x.a.lo, .int .i64 x.n], .agg #[.bool y.a.v6, .int .u64 y.a.hi, .int .u64 y.a.lo, .int .i64 y.n]] w fun e w' => e = .returned (.int .i64 (cmpE x y)) ∧ Below w.heap.size w w' := by
  have K1 : Hid (∀ W, SEE x y w W → Calls Tryd.prog 31 #[.agg #[.bool x.a.v6, .int .u64 x.a.hi, .int .u64 x.a.lo], .agg #[.bool y.a.v6, .int .u64 y.a.hi, .int .u64 y.a.lo]] W fun e w' => e = .returned (.int .i64 (cmpA x.a y.a)) ∧ SEE x y w w') := Lib.hid fun W h => by
    have hc : Calls Tryd.prog 31 #[.agg #[.bool x.a.v6, .int .u64 x.a.hi, .int .u64 x.a.lo], .agg #[.bool y.a.v6, .int .u64 y.a.hi, .int .u64 y.a.lo]] W fun e w' => e = .returned (.int .i64 (cmpA x.a y.a)) ∧ Below W.heap.size W w' := rcompare_any x.a y.a W hx.1 hy.1
    exact hc.mono fun e w' ⟨he, hb⟩ => ⟨he, h.on hb⟩
  have hk0 : SEE x y w ((w.alloc (.cells #[.bool x.a.v6, .int .u64 x.a.hi, .int .u64 x.a.lo, .int .i64 x.n] 26)).alloc (.cells #[.bool y.a.v6, .int .u64 y.a.hi, .int .u64 y.a.lo, .int .i64 y.n] 26)) := SEE.of (Below.refl _ _)
  obtain ⟨c0, c1, c2, c3, c4, c5, c6, c7, hs⟩ := id hk0
  by_cases h0 : cmpA x.a y.a = 0
  · have e1 : (cmpA x.a y.a != 0) = false := by rw [bne_eq_false_iff_eq]; exact h0
    by_cases hn : x.n = y.n
    · have E : Hid (cmpE x y = cmpA x.a y.a) := Lib.hid (by unfold cmpE; rw [if_pos h0, h0, (cmpI_zero _ _).2 hn])
      have e2 : (x.n == y.n) = true := by rw [beq_iff_eq]; exact hn
      clear h0 hn
      go_enter Tryd.func14, Tryd.ntmps14
      go_wp2_with fail
      (with_reducible refine (K1.out _ hk0).mono ?_)
      rintro e w1 ⟨rfl, hk1⟩
      clear c0 c1 c2 c3 c4 c5 c6 c7 hs
      obtain ⟨c0, c1, c2, c3, c4, c5, c6, c7, hs⟩ := id hk1
      go_wp2_with fail
      go_ret
      exact ⟨ret_i E.out.symm, SEE.low hk1⟩
    · have e2 : (x.n == y.n) = false := by rw [beq_eq_false_iff_ne]; exact hn
      by_cases hl : x.n < y.n
      · have E : Hid (cmpE x y = -1) := Lib.hid (by unfold cmpE cmpI; rw [if_pos h0, if_pos hl])
        clear h0 hn
        go_enter Tryd.func14, Tryd.ntmps14
        go_wp2_with fail
        (with_reducible refine (K1.out _ hk0).mono ?_)
        rintro e w1 ⟨rfl, hk1⟩
        clear c0 c1 c2 c3 c4 c5 c6 c7 hs
        obtain ⟨c0, c1, c2, c3, c4, c5, c6, c7, hs⟩ := id hk1
        go_wp2_with fail
        go_ret
        exact ⟨ret_i E.out.symm, SEE.low hk1⟩
      · have E : Hid (cmpE x y = 1) := Lib.hid (by unfold cmpE cmpI; rw [if_pos h0, if_neg hl, if_pos (by omega)])
        clear h0 hn
        go_enter Tryd.func14, Tryd.ntmps14
        go_wp2_with fail
        (with_reducible refine (K1.out _ hk0).mono ?_)
        rintro e w1 ⟨rfl, hk1⟩
        clear c0 c1 c2 c3 c4 c5 c6 c7 hs
        obtain ⟨c0, c1, c2, c3, c4, c5, c6, c7, hs⟩ := id hk1
        go_wp2_with fail
        go_ret
        exact ⟨ret_i E.out.symm, SEE.low hk1⟩
  · have e1 : (cmpA x.a y.a != 0) = true := by rw [bne_iff_ne]; exact h0
    have E : Hid (cmpE x y = cmpA x.a y.a) := Lib.hid (by unfold cmpE; rw [if_neg h0])
    clear h0
    go_enter Tryd.func14, Tryd.ntmps14
    go_wp2_with fail
    (with_reducible refine (K1.out _ hk0).mono ?_)
    rintro e w1 ⟨rfl, hk1⟩
    clear c0 c1 c2 c3 c4 c5 c6 c7 hs
    obtain ⟨c0, c1, c2, c3, c4, c5, c6, c7, hs⟩ := id hk1
    go_wp2_with fail
    go_ret
    exact ⟨ret_i E.out.symm, SEE.low hk1⟩
end Go.Proofs.YtboojhpconongaaDoor.En
