/- Contracts of package endp: who is right, texts, one order. -/
import Derived.Test.YtboojhpconongaaDoorAddrAll
import Derived.Test.YtboojhpconongaaDoorCidr
import Derived.Test.YtboojhpconongaaDoorEndpMath
import Derived.Deep.RegionWith
import Derived.Deep.RegionHeld3
import Derived.Deep.Draws
import Derived.Lib.Small
namespace Go.Proofs.YtboojhpconongaaDoor.En
set_option maxRecDepth 100000
open Go.ChangeShapes Go.WideShapes Go.ChangeAt Go.RowKit
open Dec Words V4 V6 Ad
set_option linter.unusedVariables false
theorem cell_new4 (w : World) (x y z u : Value) (t : TypeId) : (w.alloc (.cells #[x, y, z, u] t)).cell? ⟨w.heap.size, 0, none⟩ = some x ∧ (w.alloc (.cells #[x, y, z, u] t)).cell? ⟨w.heap.size, 1, none⟩ = some y ∧ (w.alloc (.cells #[x, y, z, u] t)).cell? ⟨w.heap.size, 2, none⟩ = some z ∧ (w.alloc (.cells #[x, y, z, u] t)).cell? ⟨w.heap.size, 3, none⟩ = some u := by
  refine ⟨?_, ?_, ?_, ?_⟩ <;> (rw [cell_of_row _ _ _ _ _ _ (heap_alloc_new w _)]; rfl)
/-- Two strings, one behind the other, as lists. -/
theorem add_lists (a b : List UInt8) (h : a.length + b.length ≤ 140737488355328) (W : World) : (Op.stringOp .add (⟨a.toArray⟩ : ByteArray) ⟨b.toArray⟩).run Tryd.prog W = .ok (.string ⟨(a ++ b).toArray⟩) W := by
  rw [run_string_add_sum W _ _ (by rw [size_mk, size_mk]; omega), ByteArray.mk_append_mk]
theorem add_is {a b c : List UInt8} (e : a ++ b = c) (h : c.length ≤ 140737488355328) (W : World) : (Op.stringOp .add (⟨a.toArray⟩ : ByteArray) ⟨b.toArray⟩).run Tryd.prog W = .ok (.string ⟨c.toArray⟩) W := by
  subst e; exact add_lists a b (by simpa using h) W
abbrev SE (x : Endp) (w : World) (w' : World) : Prop := w'.cell? ⟨w.heap.size, 0, none⟩ = some (.bool x.a.v6) ∧ w'.cell? ⟨w.heap.size, 1, none⟩ = some (.int .u64 x.a.hi) ∧ w'.cell? ⟨w.heap.size, 2, none⟩ = some (.int .u64 x.a.lo) ∧ w'.cell? ⟨w.heap.size, 3, none⟩ = some (.int .i64 x.n) ∧ Stays (w.alloc (.cells #[.bool x.a.v6, .int .u64 x.a.hi, .int .u64 x.a.lo, .int .i64 x.n] 26)) w'
theorem SE.of {x : Endp} {w w' : World} (h : Stays (w.alloc (.cells #[.bool x.a.v6, .int .u64 x.a.hi, .int .u64 x.a.lo, .int .i64 x.n] 26)) w') : SE x w w' := ⟨Ci.cells_left h (cell_new4 _ _ _ _ _ _).1, Ci.cells_left h (cell_new4 _ _ _ _ _ _).2.1, Ci.cells_left h (cell_new4 _ _ _ _ _ _).2.2.1, Ci.cells_left h (cell_new4 _ _ _ _ _ _).2.2.2, h⟩
theorem SE.on {x : Endp} {w w1 w2 : World} (h : SE x w w1) (k : Below w1.heap.size w1 w2) : SE x w w2 := SE.of (low_trans h.2.2.2.2 k)
theorem SE.low {x : Endp} {w w1 : World} (h : SE x w w1) : Below w.heap.size w w1 := ((Below.refl _ _).alloc (Nat.le_refl _) _).trans (h.2.2.2.2.mono (by simp))
abbrev SEE (x y : Endp) (w : World) (w' : World) : Prop := w'.cell? ⟨w.heap.size, 0, none⟩ = some (.bool x.a.v6) ∧ w'.cell? ⟨w.heap.size, 1, none⟩ = some (.int .u64 x.a.hi) ∧ w'.cell? ⟨w.heap.size, 2, none⟩ = some (.int .u64 x.a.lo) ∧ w'.cell? ⟨w.heap.size, 3, none⟩ = some (.int .i64 x.n) ∧ w'.cell? ⟨w.heap.size + 1, 0, none⟩ = some (.bool y.a.v6) ∧ w'.cell? ⟨w.heap.size + 1, 1, none⟩ = some (.int .u64 y.a.hi) ∧ w'.cell? ⟨w.heap.size + 1, 2, none⟩ = some (.int .u64 y.a.lo) ∧ w'.cell? ⟨w.heap.size + 1, 3, none⟩ = some (.int .i64 y.n) ∧ Stays ((w.alloc (.cells #[.bool x.a.v6, .int .u64 x.a.hi, .int .u64 x.a.lo, .int .i64 x.n] 26)).alloc (.cells #[.bool y.a.v6, .int .u64 y.a.hi, .int .u64 y.a.lo, .int .i64 y.n] 26)) w'
theorem two_ends (w : World) (x y : Endp) : ((w.alloc (.cells #[.bool x.a.v6, .int .u64 x.a.hi, .int .u64 x.a.lo, .int .i64 x.n] 26)).alloc (.cells #[.bool y.a.v6, .int .u64 y.a.hi, .int .u64 y.a.lo, .int .i64 y.n] 26)).cell? ⟨w.heap.size, 0, none⟩ = some (.bool x.a.v6) ∧ ((w.alloc (.cells #[.bool x.a.v6, .int .u64 x.a.hi, .int .u64 x.a.lo, .int .i64 x.n] 26)).alloc (.cells #[.bool y.a.v6, .int .u64 y.a.hi, .int .u64 y.a.lo, .int .i64 y.n] 26)).cell? ⟨w.heap.size, 1, none⟩ = some (.int .u64 x.a.hi) ∧ ((w.alloc (.cells #[.bool x.a.v6, .int .u64 x.a.hi, .int .u64 x.a.lo, .int .i64 x.n] 26)).alloc (.cells #[.bool y.a.v6, .int .u64 y.a.hi, .int .u64 y.a.lo, .int .i64 y.n] 26)).cell? ⟨w.heap.size, 2, none⟩ = some (.int .u64 x.a.lo) ∧ ((w.alloc (.cells #[.bool x.a.v6, .int .u64 x.a.hi, .int .u64 x.a.lo, .int .i64 x.n] 26)).alloc (.cells #[.bool y.a.v6, .int .u64 y.a.hi, .int .u64 y.a.lo, .int .i64 y.n] 26)).cell? ⟨w.heap.size, 3, none⟩ = some (.int .i64 x.n) ∧ ((w.alloc (.cells #[.bool x.a.v6, .int .u64 x.a.hi, .int .u64 x.a.lo, .int .i64 x.n] 26)).alloc (.cells #[.bool y.a.v6, .int .u64 y.a.hi, .int .u64 y.a.lo, .int .i64 y.n] 26)).cell? ⟨w.heap.size + 1, 0, none⟩ = some (.bool y.a.v6) ∧ ((w.alloc (.cells #[.bool x.a.v6, .int .u64 x.a.hi, .int .u64 x.a.lo, .int .i64 x.n] 26)).alloc (.cells #[.bool y.a.v6, .int .u64 y.a.hi, .int .u64 y.a.lo, .int .i64 y.n] 26)).cell? ⟨w.heap.size + 1, 1, none⟩ = some (.int .u64 y.a.hi) ∧ ((w.alloc (.cells #[.bool x.a.v6, .int .u64 x.a.hi, .int .u64 x.a.lo, .int .i64 x.n] 26)).alloc (.cells #[.bool y.a.v6, .int .u64 y.a.hi, .int .u64 y.a.lo, .int .i64 y.n] 26)).cell? ⟨w.heap.size + 1, 2, none⟩ = some (.int .u64 y.a.lo) ∧ ((w.alloc (.cells #[.bool x.a.v6, .int .u64 x.a.hi, .int .u64 x.a.lo, .int .i64 x.n] 26)).alloc (.cells #[.bool y.a.v6, .int .u64 y.a.hi, .int .u64 y.a.lo, .int .i64 y.n] 26)).cell? ⟨w.heap.size + 1, 3, none⟩ = some (.int .i64 y.n) := by
  have n1 := cell_new4 w (.bool x.a.v6) (.int .u64 x.a.hi) (.int .u64 x.a.lo) (.int .i64 x.n) 26
  have n2 := cell_new4 (w.alloc (.cells #[.bool x.a.v6, .int .u64 x.a.hi, .int .u64 x.a.lo, .int .i64 x.n] 26)) (.bool y.a.v6) (.int .u64 y.a.hi) (.int .u64 y.a.lo) (.int .i64 y.n) 26
  rw [show (w.alloc (.cells #[.bool x.a.v6, .int .u64 x.a.hi, .int .u64 x.a.lo, .int .i64 x.n] 26)).heap.size = w.heap.size + 1 by simp] at n2
  have s2 : Stays (w.alloc (.cells #[.bool x.a.v6, .int .u64 x.a.hi, .int .u64 x.a.lo, .int .i64 x.n] 26)) ((w.alloc (.cells #[.bool x.a.v6, .int .u64 x.a.hi, .int .u64 x.a.lo, .int .i64 x.n] 26)).alloc (.cells #[.bool y.a.v6, .int .u64 y.a.hi, .int .u64 y.a.lo, .int .i64 y.n] 26)) := (Below.refl _ _).alloc (Nat.le_refl _) _
  exact ⟨Ci.cells_left s2 n1.1, Ci.cells_left s2 n1.2.1, Ci.cells_left s2 n1.2.2.1, Ci.cells_left s2 n1.2.2.2, n2.1, n2.2.1, n2.2.2.1, n2.2.2.2⟩
theorem SEE.of {x y : Endp} {w w' : World} (h : Stays ((w.alloc (.cells #[.bool x.a.v6, .int .u64 x.a.hi, .int .u64 x.a.lo, .int .i64 x.n] 26)).alloc (.cells #[.bool y.a.v6, .int .u64 y.a.hi, .int .u64 y.a.lo, .int .i64 y.n] 26)) w') : SEE x y w w' := by
  obtain ⟨n0, n1, n2, n3, m0, m1, m2, m3⟩ := two_ends w x y
  exact ⟨Ci.cells_left h n0, Ci.cells_left h n1, Ci.cells_left h n2, Ci.cells_left h n3, Ci.cells_left h m0, Ci.cells_left h m1, Ci.cells_left h m2, Ci.cells_left h m3, h⟩
theorem SEE.on {x y : Endp} {w w1 w2 : World} (h : SEE x y w w1) (k : Below w1.heap.size w1 w2) : SEE x y w w2 := SEE.of (low_trans h.2.2.2.2.2.2.2.2 k)
theorem SEE.low {x y : Endp} {w w1 : World} (h : SEE x y w w1) : Below w.heap.size w w1 := (two_low _ _ _).trans (h.2.2.2.2.2.2.2.2.mono (by simp; omega))
set_option maxHeartbeats 2000000 in
theorem rightE_any (x : Endp) (w : World) (hx : x.ok) :
    Calls Tryd.prog 9 #[.agg #[.bool x.a.v6, .int .u64 x.a.hi, .int .u64 x.a.lo, .int .i64 x.n]] w fun e w' => e = .returned (.bool (rightE x)) ∧ Below w.heap.size w w' := by
  have K1 : Hid (∀ W, SE x w W → Calls Tryd.prog 22 #[.agg #[.bool x.a.v6, .int .u64 x.a.hi, .int .u64 x.a.lo]] W fun e w' => e = .returned (.bool (rightA x.a)) ∧ SE x w w') := Lib.hid fun W h => by
    have hc : Calls Tryd.prog 22 #[.agg #[.bool x.a.v6, .int .u64 x.a.hi, .int .u64 x.a.lo]] W fun e w' => e = .returned (.bool (rightA x.a)) ∧ Below W.heap.size W w' := right_any x.a W hx.1
    exact hc.mono fun e w' ⟨he, hb⟩ => ⟨he, h.on hb⟩
  have hk0 : SE x w (w.alloc (.cells #[.bool x.a.v6, .int .u64 x.a.hi, .int .u64 x.a.lo, .int .i64 x.n] 26)) := SE.of (Below.refl _ _)
  obtain ⟨c0, c1, c2, c3, hs⟩ := id hk0
  have E : Hid (rightE x = (rightA x.a && (decide (1 ≤ x.n) && decide (x.n ≤ 65535)))) := Lib.hid rfl
  cases hr : rightA x.a
  · rw [hr] at K1 E
    clear hr
    go_enter Tryd.func9, Tryd.ntmps9
    go_wp2_with fail
    (with_reducible refine (K1.out _ hk0).mono ?_)
    rintro e w1 ⟨rfl, hk1⟩
    clear c0 c1 c2 c3 hs
    obtain ⟨c0, c1, c2, c3, hs⟩ := id hk1
    go_wp2_with fail
    go_ret
    exact ⟨ret_b (by rw [E.out]; rfl), SE.low hk1⟩
  · rw [hr] at K1 E
    clear hr
    by_cases h1 : 1 ≤ x.n
    · have p1 : 0 < x.n := by omega
      by_cases h2 : x.n ≤ 65535
      · have p2 : x.n < 65536 := by omega
        go_enter Tryd.func9, Tryd.ntmps9
        go_wp2_with fail
        (with_reducible refine (K1.out _ hk0).mono ?_)
        rintro e w1 ⟨rfl, hk1⟩
        clear c0 c1 c2 c3 hs
        obtain ⟨c0, c1, c2, c3, hs⟩ := id hk1
        go_wp2_with fail
        go_ret
        exact ⟨ret_b (by rw [E.out, Bool.eq_iff_iff]; first | (simp; done) | (simp; omega)), SE.low hk1⟩
      · have p2 : ¬ x.n < 65536 := by omega
        go_enter Tryd.func9, Tryd.ntmps9
        go_wp2_with fail
        (with_reducible refine (K1.out _ hk0).mono ?_)
        rintro e w1 ⟨rfl, hk1⟩
        clear c0 c1 c2 c3 hs
        obtain ⟨c0, c1, c2, c3, hs⟩ := id hk1
        go_wp2_with fail
        go_ret
        exact ⟨ret_b (by rw [E.out, Bool.eq_iff_iff]; first | (simp; done) | (simp; omega)), SE.low hk1⟩
    · have p1 : ¬ 0 < x.n := by omega
      go_enter Tryd.func9, Tryd.ntmps9
      go_wp2_with fail
      (with_reducible refine (K1.out _ hk0).mono ?_)
      rintro e w1 ⟨rfl, hk1⟩
      clear c0 c1 c2 c3 hs
      obtain ⟨c0, c1, c2, c3, hs⟩ := id hk1
      go_wp2_with fail
      go_ret
      exact ⟨ret_b (by rw [E.out, Bool.eq_iff_iff]; first | (simp; done) | (simp; omega)), SE.low hk1⟩
set_option maxHeartbeats 4000000 in
theorem textE_any (x : Endp) (w : World) (hx : x.ok) :
    Calls Tryd.prog 11 #[.agg #[.bool x.a.v6, .int .u64 x.a.hi, .int .u64 x.a.lo, .int .i64 x.n]] w fun e w' => e = .returned (.string ⟨(textE x).toArray⟩) ∧ Below w.heap.size w w' := by
  have K1 : Hid (∀ W, SE x w W → Calls Tryd.prog 9 #[.agg #[.bool x.a.v6, .int .u64 x.a.hi, .int .u64 x.a.lo, .int .i64 x.n]] W fun e w' => e = .returned (.bool (rightE x)) ∧ SE x w w') := Lib.hid fun W h => by
    have hc : Calls Tryd.prog 9 #[.agg #[.bool x.a.v6, .int .u64 x.a.hi, .int .u64 x.a.lo, .int .i64 x.n]] W fun e w' => e = .returned (.bool (rightE x)) ∧ Below W.heap.size W w' := rightE_any x W hx
    exact hc.mono fun e w' ⟨he, hb⟩ => ⟨he, h.on hb⟩
  have K2 : Hid (∀ W, SE x w W → Calls Tryd.prog 24 #[.agg #[.bool x.a.v6, .int .u64 x.a.hi, .int .u64 x.a.lo]] W fun e w' => e = .returned (.string ⟨(textA x.a).toArray⟩) ∧ SE x w w') := Lib.hid fun W h => by
    have hc : Calls Tryd.prog 24 #[.agg #[.bool x.a.v6, .int .u64 x.a.hi, .int .u64 x.a.lo]] W fun e w' => e = .returned (.string ⟨(textA x.a).toArray⟩) ∧ Below W.heap.size W w' := textA_any x.a W hx.1
    exact hc.mono fun e w' ⟨he, hb⟩ => ⟨he, h.on hb⟩
  have K3 : Hid (∀ W, SE x w W → Calls Tryd.prog 25 #[.int .i64 x.n] W fun e w' => e = .returned (.string ⟨(text x.n).toArray⟩) ∧ SE x w w') := Lib.hid fun W h => by
    have hc : Calls Tryd.prog 25 #[.int .i64 x.n] W fun e w' => e = .returned (.string ⟨(text x.n).toArray⟩) ∧ Below W.heap.size W w' := text_any x.n W hx.2.1 hx.2.2
    exact hc.mono fun e w' ⟨he, hb⟩ => ⟨he, h.on hb⟩
  have tl1 := textA_len x.a
  have tl2 := text_len x.n hx.2.1 hx.2.2
  have hk0 : SE x w (w.alloc (.cells #[.bool x.a.v6, .int .u64 x.a.hi, .int .u64 x.a.lo, .int .i64 x.n] 26)) := SE.of (Below.refl _ _)
  obtain ⟨c0, c1, c2, c3, hs⟩ := id hk0
  cases hr : rightE x
  · have E : Hid (textE x = [45]) := Lib.hid (textE_no hr)
    rw [hr] at K1
    clear hr
    go_enter Tryd.func11, Tryd.ntmps11
    go_wp2_with fail
    (with_reducible refine (K1.out _ hk0).mono ?_)
    rintro e w1 ⟨rfl, hk1⟩
    clear c0 c1 c2 c3 hs
    obtain ⟨c0, c1, c2, c3, hs⟩ := id hk1
    go_wp2_with fail
    go_ret
    exact ⟨ret_s (a := [45]) E.out.symm, SE.low hk1⟩
  · obtain ⟨v, hv⟩ : ∃ v, x.a.v6 = v := ⟨_, rfl⟩
    cases v
    · have E : Hid (textE x = textA x.a ++ 58 :: text x.n) := Lib.hid (by rw [textE_of hr]; unfold hostT; rw [hv]; simp)
      rw [hr] at K1
      have HV := Lib.hid hv
      clear hr hv
      generalize textA x.a = T at *
      generalize text x.n = D at *
      have g3 := fun W => add_is (a := T) (b := [58]) (c := T ++ [58]) (by simp) (by simp; omega) W
      have g4 := fun W => add_is (a := T ++ [58]) (b := D) (c := T ++ 58 :: D) (by simp) (by simp; omega) W
      clear tl1 tl2
      go_enter Tryd.func11, Tryd.ntmps11
      go_wp2_with fail
      (with_reducible refine (K1.out _ hk0).mono ?_)
      rintro e w1 ⟨rfl, hk1⟩
      clear c0 c1 c2 c3 hs
      obtain ⟨c0, c1, c2, c3, hs⟩ := id hk1
      go_wp2_with fail
      (with_reducible refine (K2.out _ hk1).mono ?_)
      rintro e w2 ⟨rfl, hk2⟩
      clear c0 c1 c2 c3 hs
      obtain ⟨c0, c1, c2, c3, hs⟩ := id hk2
      have hv := HV.out
      go_wp2_with fail
      (with_reducible refine (K3.out _ hk2).mono ?_)
      rintro e w3 ⟨rfl, hk3⟩
      clear c0 c1 c2 c3 hs
      obtain ⟨c0, c1, c2, c3, hs⟩ := id hk3
      go_wp2_with fail
      go_ret
      exact ⟨ret_s E.out.symm, SE.low hk3⟩
    · have E : Hid (textE x = 91 :: (textA x.a ++ 93 :: 58 :: text x.n)) := Lib.hid (by rw [textE_of hr]; unfold hostT; rw [hv]; simp)
      rw [hr] at K1
      have HV := Lib.hid hv
      clear hr hv
      generalize textA x.a = T at *
      generalize text x.n = D at *
      have g1 := fun W => add_is (a := [91]) (b := T) (c := 91 :: T) (by simp) (by simp; omega) W
      have g2 := fun W => add_is (a := 91 :: T) (b := [93]) (c := 91 :: (T ++ [93])) (by simp) (by simp; omega) W
      have g3 := fun W => add_is (a := 91 :: (T ++ [93])) (b := [58]) (c := 91 :: (T ++ [93, 58])) (by simp) (by simp; omega) W
      have g4 := fun W => add_is (a := 91 :: (T ++ [93, 58])) (b := D) (c := 91 :: (T ++ 93 :: 58 :: D)) (by simp) (by simp; omega) W
      clear tl1 tl2
      go_enter Tryd.func11, Tryd.ntmps11
      go_wp2_with fail
      (with_reducible refine (K1.out _ hk0).mono ?_)
      rintro e w1 ⟨rfl, hk1⟩
      clear c0 c1 c2 c3 hs
      obtain ⟨c0, c1, c2, c3, hs⟩ := id hk1
      go_wp2_with fail
      (with_reducible refine (K2.out _ hk1).mono ?_)
      rintro e w2 ⟨rfl, hk2⟩
      clear c0 c1 c2 c3 hs
      obtain ⟨c0, c1, c2, c3, hs⟩ := id hk2
      have hv := HV.out
      go_wp2_with fail
      (with_reducible refine (K3.out _ hk2).mono ?_)
      rintro e w3 ⟨rfl, hk3⟩
      clear c0 c1 c2 c3 hs
      obtain ⟨c0, c1, c2, c3, hs⟩ := id hk3
      go_wp2_with fail
      go_ret
      exact ⟨ret_s E.out.symm, SE.low hk3⟩
theorem or_any (m n r : Int) (hr : r = if m = 0 then n else m) (b : Nat) (W : World) (h0 : W.cell? ⟨b, 0, none⟩ = some (.int .i64 m)) (h1 : W.cell? ⟨b, 1, none⟩ = some (.int .i64 n)) :
    Calls Tryd.prog 28 #[.slice (some ⟨b, 0, none⟩) 2 2] W fun e w' => e = .returned (.int .i64 r) ∧ w' = W := by
  by_cases hm : m = 0
  · have e1 : (m != 0) = false := by rw [bne_eq_false_iff_eq]; exact hm
    rw [if_pos hm] at hr
    by_cases hn : n = 0
    · have e2 : (n != 0) = false := by rw [bne_eq_false_iff_eq]; exact hn
      have E : Hid (0 = r) := Lib.hid (by omega)
      clear hm hn hr
      go_enter Tryd.func28, Tryd.ntmps28
      go_wp2
      go_rounds 3
      go_wp2
      go_ret
      exact ⟨ret_i E.out, rfl⟩
    · have e2 : (n != 0) = true := by rw [bne_iff_ne]; exact hn
      have E : Hid (n = r) := Lib.hid hr.symm
      clear hm hn hr
      go_enter Tryd.func28, Tryd.ntmps28
      go_wp2
      go_rounds 3
      go_returns
      exact ⟨ret_i E.out, rfl⟩
  · have e1 : (m != 0) = true := by rw [bne_iff_ne]; exact hm
    have E : Hid (m = r) := Lib.hid (by rw [hr, if_neg hm])
    clear hm hr
    go_enter Tryd.func28, Tryd.ntmps28
    go_wp2
    go_rounds 3
    go_returns
    exact ⟨ret_i E.out, rfl⟩
theorem compareInt_is (m n : Int) : Lib.compareInt m n = cmpI m n := by unfold Lib.compareInt cmpI; repeat (first | split | omega | rfl)
set_option maxHeartbeats 4000000 in
theorem compareE_any (x y : Endp) (w : World) (hx : x.ok) (hy : y.ok) :
    Calls Tryd.prog 13 #[.agg #[.bool x.a.v6, .int .u64 x.a.hi, .int .u64 x.a.lo, .int .i64 x.n], .agg #[.bool y.a.v6, .int .u64 y.a.hi, .int .u64 y.a.lo, .int .i64 y.n]] w fun e w' => e = .returned (.int .i64 (cmpE x y)) ∧ Below w.heap.size w w' := by
  have K1 : Hid (∀ W, SEE x y w W → Calls Tryd.prog 29 #[.agg #[.bool x.a.v6, .int .u64 x.a.hi, .int .u64 x.a.lo], .agg #[.bool y.a.v6, .int .u64 y.a.hi, .int .u64 y.a.lo]] W fun e w' => e = .returned (.int .i64 (cmpA x.a y.a)) ∧ SEE x y w w') := Lib.hid fun W h => by
    have hc : Calls Tryd.prog 29 #[.agg #[.bool x.a.v6, .int .u64 x.a.hi, .int .u64 x.a.lo], .agg #[.bool y.a.v6, .int .u64 y.a.hi, .int .u64 y.a.lo]] W fun e w' => e = .returned (.int .i64 (cmpA x.a y.a)) ∧ Below W.heap.size W w' := compare_any x.a y.a W hx.1 hy.1
    exact hc.mono fun e w' ⟨he, hb⟩ => ⟨he, h.on hb⟩
  have K2 : Hid (∀ W, SEE x y w W → Calls Tryd.prog 30 #[.int .i64 x.n, .int .i64 y.n] W fun e w' => e = .returned (.int .i64 (cmpI x.n y.n)) ∧ SEE x y w w') := Lib.hid fun W h => by
    have hc : Calls Tryd.prog 30 #[.int .i64 x.n, .int .i64 y.n] W fun e w' => e = .returned (.int .i64 (cmpI x.n y.n)) ∧ Below W.heap.size W w' := by
      have h := Tryd.cmp_Compare_int x.n y.n W
      rw [compareInt_is] at h
      exact h.mono fun e w' ⟨he, hw⟩ => ⟨he, by rw [hw]; exact Below.refl _ _⟩
    exact hc.mono fun e w' ⟨he, hb⟩ => ⟨he, h.on hb⟩
  have K3 : Hid (∀ W : World, SEE x y w W → Calls Tryd.prog 28 #[.slice (some ⟨W.heap.size, 0, none⟩) 2 2] (W.alloc (.cells #[.int .i64 (cmpA x.a y.a), .int .i64 (cmpI x.n y.n)] 3)) fun e w' => e = .returned (.int .i64 (cmpE x y)) ∧ SEE x y w w') := Lib.hid fun W h => by
    have hc := or_any (cmpA x.a y.a) (cmpI x.n y.n) (cmpE x y) rfl W.heap.size (W.alloc (.cells #[.int .i64 (cmpA x.a y.a), .int .i64 (cmpI x.n y.n)] 3)) (by rw [cell_of_row _ _ _ _ _ _ (heap_alloc_new W _)]; rfl) (by rw [cell_of_row _ _ _ _ _ _ (heap_alloc_new W _)]; rfl)
    exact hc.mono fun e w' ⟨he, hw⟩ => ⟨he, by rw [hw]; exact SEE.of (Below.alloc h.2.2.2.2.2.2.2.2 (Below.size h.2.2.2.2.2.2.2.2) _)⟩
  have JD : Hid (∀ W, SEE x y w W → SEE x y w W.drew) := Lib.hid fun W h => SEE.of (low_drewN h.2.2.2.2.2.2.2.2 1)
  have JA : Hid (∀ W o, SEE x y w W → SEE x y w (W.alloc o)) := Lib.hid fun W o h => SEE.of (Below.alloc h.2.2.2.2.2.2.2.2 (Below.size h.2.2.2.2.2.2.2.2) o)
  have hk0 : SEE x y w ((w.alloc (.cells #[.bool x.a.v6, .int .u64 x.a.hi, .int .u64 x.a.lo, .int .i64 x.n] 26)).alloc (.cells #[.bool y.a.v6, .int .u64 y.a.hi, .int .u64 y.a.lo, .int .i64 y.n] 26)) := SEE.of (Below.refl _ _)
  obtain ⟨c0, c1, c2, c3, c4, c5, c6, c7, hs⟩ := id hk0
  go_enter Tryd.func13, Tryd.ntmps13
  go_wp2_with fail
  go_region_held3 (fun w' => w'.cell? ⟨w.heap.size, 0, none⟩ = some (.bool x.a.v6) ∧ w'.cell? ⟨w.heap.size, 1, none⟩ = some (.int .u64 x.a.hi) ∧ w'.cell? ⟨w.heap.size, 2, none⟩ = some (.int .u64 x.a.lo) ∧ w'.cell? ⟨w.heap.size, 3, none⟩ = some (.int .i64 x.n) ∧ w'.cell? ⟨w.heap.size + 1, 0, none⟩ = some (.bool y.a.v6) ∧ w'.cell? ⟨w.heap.size + 1, 1, none⟩ = some (.int .u64 y.a.hi) ∧ w'.cell? ⟨w.heap.size + 1, 2, none⟩ = some (.int .u64 y.a.lo) ∧ w'.cell? ⟨w.heap.size + 1, 3, none⟩ = some (.int .i64 y.n) ∧ Stays ((w.alloc (.cells #[.bool x.a.v6, .int .u64 x.a.hi, .int .u64 x.a.lo, .int .i64 x.n] 26)).alloc (.cells #[.bool y.a.v6, .int .u64 y.a.hi, .int .u64 y.a.lo, .int .i64 y.n] 26)) w')
    (first | assumption | exact JD.out _ ‹_› | exact JA.out _ _ ‹_›)
    (first
      | (go_at_call 29; (with_reducible refine (K1.out _ ‹_›).mono ?_); rintro e w9 ⟨rfl, hkw⟩)
      | (go_at_call 30; (with_reducible refine (K2.out _ ‹_›).mono ?_); rintro e w9 ⟨rfl, hkw⟩)
      | (go_at_call 28; refine (K3.out _ ‹_›).mono ?_; rintro e w9 ⟨rfl, hkw⟩))
  all_goals (go_wp2; go_ret; exact ⟨rfl, SEE.low (‹SEE x y w _›)⟩)
end Go.Proofs.YtboojhpconongaaDoor.En
