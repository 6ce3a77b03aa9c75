/- heap.compare and what it calls: what it tells, and that the count of draws never falls. -/
import Derived.Test.YtakldkolkdpcoaaHeapMem
import Derived.Sort.Grow
namespace Go.Proofs.Ytakldkolkdpcoaa.Hp
set_option maxRecDepth 100000
open Go.ChangeShapes Go.WideShapes Go.ChangeAt Go.RowKit
open Dec Words V4 V6 Ad Ci En Go.Deep
set_option linter.unusedVariables false
/-- A world behind another one: nothing of that one is changed, and the draws are behind its draws. -/
def Gr (w w' : World) : Prop := Below w.heap.size w w' ∧ w.drawn ≤ w'.drawn
theorem Gr.refl (w : World) : Gr w w := ⟨Below.refl _ _, Nat.le_refl _⟩
theorem Gr.trans {a b c : World} (h : Gr a b) (k : Gr b c) : Gr a c := ⟨low_trans h.1 k.1, Nat.le_trans h.2 k.2⟩
theorem Gr.drew {a b : World} (h : Gr a b) : Gr a b.drew := ⟨low_drewN h.1 1, Nat.le_trans h.2 (Nat.le_succ _)⟩
theorem Gr.alloc {a b : World} (h : Gr a b) (o : Obj) : Gr a (b.alloc o) := ⟨Below.alloc h.1 h.1.size o, h.2⟩
theorem Gr.two (w : World) (o p : Obj) : Gr w ((w.alloc o).alloc p) := ((Gr.refl w).alloc o).alloc p
/-- Such a world is that one after some draws, with some blocks behind it. -/
theorem Gr.grown {w w' : World} (h : Gr w w') : ∃ q os, w' = Sort.grow (w.drewN q) os := by
  obtain ⟨⟨h1, h2, h3, h4, h5⟩, h6⟩ := h
  refine ⟨w'.drawn - w.drawn, w'.heap.extract w.heap.size w'.heap.size, ?_⟩
  obtain ⟨hp, tp, dr, o, out⟩ := w
  obtain ⟨hp', tp', dr', o', out'⟩ := w'
  simp only at h1 h2 h3 h4 h5 h6
  subst h1 h2 h3
  have e1 : hp ++ hp'.extract hp.size hp'.size = hp' := by
    refine Array.ext (by simp; omega) fun i i1 i2 => ?_
    by_cases hi : i < hp.size
    · rw [Array.getElem_append_left hi]
      have := h5 i hi
      rw [Array.getElem?_eq_getElem i2, Array.getElem?_eq_getElem hi] at this
      exact (Option.some.inj this).symm
    · rw [Array.getElem_append_right (by omega), Array.getElem_extract]
      congr 1
      omega
  have e2 : dr + (dr' - dr) = dr' := by omega
  simp only [Sort.grow, World.drewN, e1, e2]
theorem beforeG_any (a b : Adr) (w : World) (ha : a.ok) (hb : b.ok) :
    Calls Try.prog 47 #[.agg #[.bool a.v6, .int .u64 a.hi, .int .u64 a.lo], .agg #[.bool b.v6, .int .u64 b.hi, .int .u64 b.lo]] w fun e w' => e = .returned (.bool (lessA a b)) ∧ Gr w w' := by
  by_cases hv : a.v6 = b.v6
  · obtain ⟨v1, v2, v3⟩ := bby hv
    by_cases hh : a.hi = b.hi
    · have E : Hid (lessA a b = decide (a.lo < b.lo)) := Lib.hid (by unfold lessA; rw [if_pos hv, if_pos hh])
      obtain ⟨i1, i2⟩ := iiy hh
      clear hv hh
      go_enter Try.func47, Try.ntmps47
      go_wp2
      go_ret
      exact ⟨ret_b E.out.symm, Gr.two _ _ _⟩
    · have E : Hid (lessA a b = decide (a.hi < b.hi)) := Lib.hid (by unfold lessA; rw [if_pos hv, if_neg hh])
      obtain ⟨i1, i2⟩ := iin hh
      clear hv hh
      go_enter Try.func47, Try.ntmps47
      go_wp2
      go_ret
      exact ⟨ret_b E.out.symm, Gr.two _ _ _⟩
  · obtain ⟨v1, v2, v3⟩ := bbn hv
    have E : Hid (lessA a b = b.v6) := Lib.hid (by unfold lessA; rw [if_neg hv])
    clear hv
    go_enter Try.func47, Try.ntmps47
    go_wp2
    go_ret
    exact ⟨ret_b E.out.symm, Gr.two _ _ _⟩
theorem compareA_any (a b : Adr) (w : World) (ha : a.ok) (hb : b.ok) :
    Calls Try.prog 36 #[.agg #[.bool a.v6, .int .u64 a.hi, .int .u64 a.lo], .agg #[.bool b.v6, .int .u64 b.hi, .int .u64 b.lo]] w fun e w' => e = .returned (.int .i64 (cmpA a b)) ∧ Gr w w' := by
  have EQ := fun W => eqAdr a b W
  cases hs : sameA a b
  · rw [hs] at EQ
    have BE := Lib.hid (beforeG_any a b)
    cases hl : lessA a b
    · have E : Hid (cmpA a b = 1) := Lib.hid (by unfold cmpA; rw [hs, hl]; rfl)
      rw [hl] at BE
      clear hs hl
      go_enter Try.func36, Try.ntmps36
      go_wp2_with fail
      refine (BE.out _ ha hb).mono ?_
      rintro e w1 ⟨rfl, hb1⟩
      go_wp2_with fail
      go_ret
      exact ⟨ret_i E.out.symm, (Gr.two _ _ _).trans hb1⟩
    · have E : Hid (cmpA a b = -1) := Lib.hid (by unfold cmpA; rw [hs, hl]; rfl)
      rw [hl] at BE
      clear hs hl
      go_enter Try.func36, Try.ntmps36
      go_wp2_with fail
      refine (BE.out _ ha hb).mono ?_
      rintro e w1 ⟨rfl, hb1⟩
      go_wp2_with fail
      go_ret
      exact ⟨ret_i E.out.symm, (Gr.two _ _ _).trans hb1⟩
  · rw [hs] at EQ
    have E : Hid (cmpA a b = 0) := Lib.hid (by unfold cmpA; rw [hs]; rfl)
    clear hs
    go_enter Try.func36, Try.ntmps36
    go_wp2_with fail
    go_ret
    exact ⟨ret_i E.out.symm, Gr.two _ _ _⟩
abbrev SEG (x y : Endp) (w w' : World) : Prop := w'.cell? ⟨w.heap.size, 0, none⟩ = some (.bool x.a.v6) ∧ w'.cell? ⟨w.heap.size, 1, none⟩ = some (.int .u64 x.a.hi) ∧ w'.cell? ⟨w.heap.size, 2, none⟩ = some (.int .u64 x.a.lo) ∧ w'.cell? ⟨w.heap.size, 3, none⟩ = some (.int .i64 x.n) ∧ w'.cell? ⟨w.heap.size + 1, 0, none⟩ = some (.bool y.a.v6) ∧ w'.cell? ⟨w.heap.size + 1, 1, none⟩ = some (.int .u64 y.a.hi) ∧ w'.cell? ⟨w.heap.size + 1, 2, none⟩ = some (.int .u64 y.a.lo) ∧ w'.cell? ⟨w.heap.size + 1, 3, none⟩ = some (.int .i64 y.n) ∧ Gr (((w.alloc (.cells #[.bool x.a.v6, .int .u64 x.a.hi, .int .u64 x.a.lo, .int .i64 x.n] 27)).alloc (.cells #[.bool y.a.v6, .int .u64 y.a.hi, .int .u64 y.a.lo, .int .i64 y.n] 27))) w'
theorem SEG.of {x y : Endp} {w w' : World} (h : Gr ((w.alloc (.cells #[.bool x.a.v6, .int .u64 x.a.hi, .int .u64 x.a.lo, .int .i64 x.n] 27)).alloc (.cells #[.bool y.a.v6, .int .u64 y.a.hi, .int .u64 y.a.lo, .int .i64 y.n] 27)) w') : SEG x y w w' := by
  have h0 : Blk w' w.heap.size 27 [.bool x.a.v6, .int .u64 x.a.hi, .int .u64 x.a.lo, .int .i64 x.n] := ((Blk.new w #[.bool x.a.v6, .int .u64 x.a.hi, .int .u64 x.a.lo, .int .i64 x.n] 27).alloc (.cells #[.bool y.a.v6, .int .u64 y.a.hi, .int .u64 y.a.lo, .int .i64 y.n] 27)).on h.1
  have h1 : Blk w' (w.heap.size + 1) 27 [.bool y.a.v6, .int .u64 y.a.hi, .int .u64 y.a.lo, .int .i64 y.n] := (Blk.two w (.cells #[.bool x.a.v6, .int .u64 x.a.hi, .int .u64 x.a.lo, .int .i64 x.n] 27) #[.bool y.a.v6, .int .u64 y.a.hi, .int .u64 y.a.lo, .int .i64 y.n] 27).on h.1
  exact ⟨h0.cell (j := 0) rfl, h0.cell (j := 1) rfl, h0.cell (j := 2) rfl, h0.cell (j := 3) rfl, h1.cell (j := 0) rfl, h1.cell (j := 1) rfl, h1.cell (j := 2) rfl, h1.cell (j := 3) rfl, h⟩
theorem SEG.on {x y : Endp} {w w1 w2 : World} (h : SEG x y w w1) (k : Gr w1 w2) : SEG x y w w2 := SEG.of (h.2.2.2.2.2.2.2.2.trans k)
theorem SEG.low {x y : Endp} {w w1 : World} (h : SEG x y w w1) : Gr w w1 := (Gr.two _ _ _).trans h.2.2.2.2.2.2.2.2
set_option maxHeartbeats 4000000 in
theorem compareG_any (x y : Endp) (w : World) (hx : x.ok) (hy : y.ok) :
    Calls Try.prog 29 #[.agg #[.bool x.a.v6, .int .u64 x.a.hi, .int .u64 x.a.lo, .int .i64 x.n], .agg #[.bool y.a.v6, .int .u64 y.a.hi, .int .u64 y.a.lo, .int .i64 y.n]] w fun e w' => e = .returned (.int .i64 (cmpE x y)) ∧ Gr w w' := by
  have K1 : Hid (∀ W, SEG x y w W → Calls Try.prog 36 #[.agg #[.bool x.a.v6, .int .u64 x.a.hi, .int .u64 x.a.lo], .agg #[.bool y.a.v6, .int .u64 y.a.hi, .int .u64 y.a.lo]] W fun e w' => e = .returned (.int .i64 (cmpA x.a y.a)) ∧ SEG x y w w') := Lib.hid fun W h => by
    have hc : Calls Try.prog 36 #[.agg #[.bool x.a.v6, .int .u64 x.a.hi, .int .u64 x.a.lo], .agg #[.bool y.a.v6, .int .u64 y.a.hi, .int .u64 y.a.lo]] W fun e w' => e = .returned (.int .i64 (cmpA x.a y.a)) ∧ Gr W w' := compareA_any x.a y.a W hx.1 hy.1
    exact hc.mono fun e w' ⟨he, hb⟩ => ⟨he, h.on hb⟩
  have K2 : Hid (∀ W, SEG x y w W → Calls Try.prog 28 #[.int .i64 x.n, .int .i64 y.n] W fun e w' => e = .returned (.int .i64 (cmpI x.n y.n)) ∧ SEG x y w w') := Lib.hid fun W h => by
    have hc : Calls Try.prog 28 #[.int .i64 x.n, .int .i64 y.n] W fun e w' => e = .returned (.int .i64 (cmpI x.n y.n)) ∧ Gr W w' := by
      have h := Try.cmp_Compare_int x.n y.n W
      rw [compareInt_is] at h
      exact h.mono fun e w' ⟨he, hw⟩ => ⟨he, by rw [hw]; exact Gr.refl _⟩
    exact hc.mono fun e w' ⟨he, hb⟩ => ⟨he, h.on hb⟩
  have K3 : Hid (∀ W : World, SEG x y w W → Calls Try.prog 27 #[.slice (some ⟨W.heap.size, 0, none⟩) 2 2] (W.alloc (.cells #[.int .i64 (cmpA x.a y.a), .int .i64 (cmpI x.n y.n)] 3)) fun e w' => e = .returned (.int .i64 (cmpE x y)) ∧ SEG x y w w') := Lib.hid fun W h => by
    have hc := or_any (cmpA x.a y.a) (cmpI x.n y.n) (cmpE x y) rfl W.heap.size (W.alloc (.cells #[.int .i64 (cmpA x.a y.a), .int .i64 (cmpI x.n y.n)] 3)) (by rw [cell_of_row _ _ _ _ _ _ (heap_alloc_new W _)]; rfl) (by rw [cell_of_row _ _ _ _ _ _ (heap_alloc_new W _)]; rfl)
    exact hc.mono fun e w' ⟨he, hw⟩ => ⟨he, by rw [hw]; exact SEG.of (h.2.2.2.2.2.2.2.2.alloc _)⟩
  have JD : Hid (∀ W, SEG x y w W → SEG x y w W.drew) := Lib.hid fun W h => SEG.of (h.2.2.2.2.2.2.2.2.drew)
  have JA : Hid (∀ W o, SEG x y w W → SEG x y w (W.alloc o)) := Lib.hid fun W o h => SEG.of (h.2.2.2.2.2.2.2.2.alloc o)
  have hk0 : SEG x y w ((w.alloc (.cells #[.bool x.a.v6, .int .u64 x.a.hi, .int .u64 x.a.lo, .int .i64 x.n] 27)).alloc (.cells #[.bool y.a.v6, .int .u64 y.a.hi, .int .u64 y.a.lo, .int .i64 y.n] 27)) := SEG.of (Gr.refl _)
  obtain ⟨c0, c1, c2, c3, c4, c5, c6, c7, hs⟩ := id hk0
  go_enter Try.func29, Try.ntmps29
  go_wp2_with fail
  go_region_held3 (fun w' => w'.cell? ⟨w.heap.size, 0, none⟩ = some (.bool x.a.v6) ∧ w'.cell? ⟨w.heap.size, 1, none⟩ = some (.int .u64 x.a.hi) ∧ w'.cell? ⟨w.heap.size, 2, none⟩ = some (.int .u64 x.a.lo) ∧ w'.cell? ⟨w.heap.size, 3, none⟩ = some (.int .i64 x.n) ∧ w'.cell? ⟨w.heap.size + 1, 0, none⟩ = some (.bool y.a.v6) ∧ w'.cell? ⟨w.heap.size + 1, 1, none⟩ = some (.int .u64 y.a.hi) ∧ w'.cell? ⟨w.heap.size + 1, 2, none⟩ = some (.int .u64 y.a.lo) ∧ w'.cell? ⟨w.heap.size + 1, 3, none⟩ = some (.int .i64 y.n) ∧ Gr (((w.alloc (.cells #[.bool x.a.v6, .int .u64 x.a.hi, .int .u64 x.a.lo, .int .i64 x.n] 27)).alloc (.cells #[.bool y.a.v6, .int .u64 y.a.hi, .int .u64 y.a.lo, .int .i64 y.n] 27))) w')
    (first | assumption | exact JD.out _ ‹_› | exact JA.out _ _ ‹_›)
    (first
      | (go_at_call 36; (with_reducible refine (K1.out _ ‹_›).mono ?_); rintro e w9 ⟨rfl, hkw⟩)
      | (go_at_call 28; (with_reducible refine (K2.out _ ‹_›).mono ?_); rintro e w9 ⟨rfl, hkw⟩)
      | (go_at_call 27; refine (K3.out _ ‹_›).mono ?_; rintro e w9 ⟨rfl, hkw⟩))
  all_goals (go_wp2; go_ret; exact ⟨rfl, SEG.low (‹SEG x y w _›)⟩)
abbrev SIG (x y : It) (w w' : World) : Prop := w'.cell? ⟨w.heap.size, 0, none⟩ = some (.int .i64 x.k) ∧ w'.cell? ⟨w.heap.size, 1, none⟩ = some (.bool x.e.a.v6) ∧ w'.cell? ⟨w.heap.size, 2, none⟩ = some (.int .u64 x.e.a.hi) ∧ w'.cell? ⟨w.heap.size, 3, none⟩ = some (.int .u64 x.e.a.lo) ∧ w'.cell? ⟨w.heap.size, 4, none⟩ = some (.int .i64 x.e.n) ∧ w'.cell? ⟨w.heap.size + 1, 0, none⟩ = some (.int .i64 y.k) ∧ w'.cell? ⟨w.heap.size + 1, 1, none⟩ = some (.bool y.e.a.v6) ∧ w'.cell? ⟨w.heap.size + 1, 2, none⟩ = some (.int .u64 y.e.a.hi) ∧ w'.cell? ⟨w.heap.size + 1, 3, none⟩ = some (.int .u64 y.e.a.lo) ∧ w'.cell? ⟨w.heap.size + 1, 4, none⟩ = some (.int .i64 y.e.n) ∧ Gr (((w.alloc (.cells #[.int .i64 x.k, .bool x.e.a.v6, .int .u64 x.e.a.hi, .int .u64 x.e.a.lo, .int .i64 x.e.n] 32)).alloc (.cells #[.int .i64 y.k, .bool y.e.a.v6, .int .u64 y.e.a.hi, .int .u64 y.e.a.lo, .int .i64 y.e.n] 32))) w'
theorem SIG.of {x y : It} {w w' : World} (h : Gr ((w.alloc (.cells #[.int .i64 x.k, .bool x.e.a.v6, .int .u64 x.e.a.hi, .int .u64 x.e.a.lo, .int .i64 x.e.n] 32)).alloc (.cells #[.int .i64 y.k, .bool y.e.a.v6, .int .u64 y.e.a.hi, .int .u64 y.e.a.lo, .int .i64 y.e.n] 32)) w') : SIG x y w w' := by
  have h0 : Blk w' w.heap.size 32 [.int .i64 x.k, .bool x.e.a.v6, .int .u64 x.e.a.hi, .int .u64 x.e.a.lo, .int .i64 x.e.n] := ((Blk.new w #[.int .i64 x.k, .bool x.e.a.v6, .int .u64 x.e.a.hi, .int .u64 x.e.a.lo, .int .i64 x.e.n] 32).alloc (.cells #[.int .i64 y.k, .bool y.e.a.v6, .int .u64 y.e.a.hi, .int .u64 y.e.a.lo, .int .i64 y.e.n] 32)).on h.1
  have h1 : Blk w' (w.heap.size + 1) 32 [.int .i64 y.k, .bool y.e.a.v6, .int .u64 y.e.a.hi, .int .u64 y.e.a.lo, .int .i64 y.e.n] := (Blk.two w (.cells #[.int .i64 x.k, .bool x.e.a.v6, .int .u64 x.e.a.hi, .int .u64 x.e.a.lo, .int .i64 x.e.n] 32) #[.int .i64 y.k, .bool y.e.a.v6, .int .u64 y.e.a.hi, .int .u64 y.e.a.lo, .int .i64 y.e.n] 32).on h.1
  exact ⟨h0.cell (j := 0) rfl, h0.cell (j := 1) rfl, h0.cell (j := 2) rfl, h0.cell (j := 3) rfl, h0.cell (j := 4) rfl, h1.cell (j := 0) rfl, h1.cell (j := 1) rfl, h1.cell (j := 2) rfl, h1.cell (j := 3) rfl, h1.cell (j := 4) rfl, h⟩
theorem SIG.on {x y : It} {w w1 w2 : World} (h : SIG x y w w1) (k : Gr w1 w2) : SIG x y w w2 := SIG.of (h.2.2.2.2.2.2.2.2.2.2.trans k)
theorem SIG.low {x y : It} {w w1 : World} (h : SIG x y w w1) : Gr w w1 := (Gr.two _ _ _).trans h.2.2.2.2.2.2.2.2.2.2
set_option maxHeartbeats 4000000 in
theorem compareH_any (x y : It) (w : World) (hx : x.ok) (hy : y.ok) :
    Calls Try.prog 20 #[.agg #[.int .i64 x.k, .bool x.e.a.v6, .int .u64 x.e.a.hi, .int .u64 x.e.a.lo, .int .i64 x.e.n], .agg #[.int .i64 y.k, .bool y.e.a.v6, .int .u64 y.e.a.hi, .int .u64 y.e.a.lo, .int .i64 y.e.n]] w fun e w' => e = .returned (.int .i64 (cmpH x y)) ∧ Gr w w' := by
  have K1 : Hid (∀ W, SIG x y w W → Calls Try.prog 28 #[.int .i64 x.k, .int .i64 y.k] W fun e w' => e = .returned (.int .i64 (cmpI x.k y.k)) ∧ SIG x y w w') := Lib.hid fun W h => by
    have hc : Calls Try.prog 28 #[.int .i64 x.k, .int .i64 y.k] W fun e w' => e = .returned (.int .i64 (cmpI x.k y.k)) ∧ Gr W w' := by
      have h := Try.cmp_Compare_int x.k y.k W
      rw [compareInt_is] at h
      exact h.mono fun e w' ⟨he, hw⟩ => ⟨he, by rw [hw]; exact Gr.refl _⟩
    exact hc.mono fun e w' ⟨he, hb⟩ => ⟨he, h.on hb⟩
  have K2 : Hid (∀ W, SIG x y w W → Calls Try.prog 29 #[.agg #[.bool x.e.a.v6, .int .u64 x.e.a.hi, .int .u64 x.e.a.lo, .int .i64 x.e.n], .agg #[.bool y.e.a.v6, .int .u64 y.e.a.hi, .int .u64 y.e.a.lo, .int .i64 y.e.n]] W fun e w' => e = .returned (.int .i64 (cmpE x.e y.e)) ∧ SIG x y w w') := Lib.hid fun W h => by
    have hc : Calls Try.prog 29 #[.agg #[.bool x.e.a.v6, .int .u64 x.e.a.hi, .int .u64 x.e.a.lo, .int .i64 x.e.n], .agg #[.bool y.e.a.v6, .int .u64 y.e.a.hi, .int .u64 y.e.a.lo, .int .i64 y.e.n]] W fun e w' => e = .returned (.int .i64 (cmpE x.e y.e)) ∧ Gr W w' := compareG_any x.e y.e W hx.2 hy.2
    exact hc.mono fun e w' ⟨he, hb⟩ => ⟨he, h.on hb⟩
  have K3 : Hid (∀ W : World, SIG x y w W → Calls Try.prog 27 #[.slice (some ⟨W.heap.size, 0, none⟩) 2 2] (W.alloc (.cells #[.int .i64 (cmpI x.k y.k), .int .i64 (cmpE x.e y.e)] 3)) fun e w' => e = .returned (.int .i64 (cmpH x y)) ∧ SIG x y w w') := Lib.hid fun W h => by
    have hc := or_any (cmpI x.k y.k) (cmpE x.e y.e) (cmpH x y) rfl W.heap.size (W.alloc (.cells #[.int .i64 (cmpI x.k y.k), .int .i64 (cmpE x.e y.e)] 3)) (by rw [cell_of_row _ _ _ _ _ _ (heap_alloc_new W _)]; rfl) (by rw [cell_of_row _ _ _ _ _ _ (heap_alloc_new W _)]; rfl)
    exact hc.mono fun e w' ⟨he, hw⟩ => ⟨he, by rw [hw]; exact SIG.of (h.2.2.2.2.2.2.2.2.2.2.alloc _)⟩
  have JD : Hid (∀ W, SIG x y w W → SIG x y w W.drew) := Lib.hid fun W h => SIG.of (h.2.2.2.2.2.2.2.2.2.2.drew)
  have JA : Hid (∀ W o, SIG x y w W → SIG x y w (W.alloc o)) := Lib.hid fun W o h => SIG.of (h.2.2.2.2.2.2.2.2.2.2.alloc o)
  have hk0 : SIG x y w ((w.alloc (.cells #[.int .i64 x.k, .bool x.e.a.v6, .int .u64 x.e.a.hi, .int .u64 x.e.a.lo, .int .i64 x.e.n] 32)).alloc (.cells #[.int .i64 y.k, .bool y.e.a.v6, .int .u64 y.e.a.hi, .int .u64 y.e.a.lo, .int .i64 y.e.n] 32)) := SIG.of (Gr.refl _)
  obtain ⟨c0, c1, c2, c3, c4, c5, c6, c7, c8, c9, hs⟩ := id hk0
  go_enter Try.func20, Try.ntmps20
  go_wp2_with fail
  go_region_held3 (fun w' => w'.cell? ⟨w.heap.size, 0, none⟩ = some (.int .i64 x.k) ∧ w'.cell? ⟨w.heap.size, 1, none⟩ = some (.bool x.e.a.v6) ∧ w'.cell? ⟨w.heap.size, 2, none⟩ = some (.int .u64 x.e.a.hi) ∧ w'.cell? ⟨w.heap.size, 3, none⟩ = some (.int .u64 x.e.a.lo) ∧ w'.cell? ⟨w.heap.size, 4, none⟩ = some (.int .i64 x.e.n) ∧ w'.cell? ⟨w.heap.size + 1, 0, none⟩ = some (.int .i64 y.k) ∧ w'.cell? ⟨w.heap.size + 1, 1, none⟩ = some (.bool y.e.a.v6) ∧ w'.cell? ⟨w.heap.size + 1, 2, none⟩ = some (.int .u64 y.e.a.hi) ∧ w'.cell? ⟨w.heap.size + 1, 3, none⟩ = some (.int .u64 y.e.a.lo) ∧ w'.cell? ⟨w.heap.size + 1, 4, none⟩ = some (.int .i64 y.e.n) ∧ Gr (((w.alloc (.cells #[.int .i64 x.k, .bool x.e.a.v6, .int .u64 x.e.a.hi, .int .u64 x.e.a.lo, .int .i64 x.e.n] 32)).alloc (.cells #[.int .i64 y.k, .bool y.e.a.v6, .int .u64 y.e.a.hi, .int .u64 y.e.a.lo, .int .i64 y.e.n] 32))) w')
    (first | assumption | exact JD.out _ ‹_› | exact JA.out _ _ ‹_›)
    (first
      | (go_at_call 28; (with_reducible refine (K1.out _ ‹_›).mono ?_); rintro e w9 ⟨rfl, hkw⟩)
      | (go_at_call 29; (with_reducible refine (K2.out _ ‹_›).mono ?_); rintro e w9 ⟨rfl, hkw⟩)
      | (go_at_call 27; refine (K3.out _ ‹_›).mono ?_; rintro e w9 ⟨rfl, hkw⟩))
  all_goals (go_wp2; go_ret; exact ⟨rfl, SIG.low (‹SIG x y w _›)⟩)
set_option maxHeartbeats 1000000 in
theorem ahead_any (x y : It) (w : World) (hx : x.ok) (hy : y.ok) :
    Calls Try.prog 10 #[.agg #[.int .i64 x.k, .bool x.e.a.v6, .int .u64 x.e.a.hi, .int .u64 x.e.a.lo, .int .i64 x.e.n], .agg #[.int .i64 y.k, .bool y.e.a.v6, .int .u64 y.e.a.hi, .int .u64 y.e.a.lo, .int .i64 y.e.n]] w fun e w' => e = .returned (.bool (ltH x y)) ∧ Below w.heap.size w w' := by
  have K := Lib.hid fun W => compareH_any x y W hx hy
  have E : Hid (ltH x y = decide (cmpH x y < 0)) := Lib.hid rfl
  go_enter Try.func10, Try.ntmps10
  go_wp2_with fail
  refine (K.out _).mono ?_; rintro e w1 ⟨rfl, hk⟩
  go_wp2_with fail
  go_ret
  exact ⟨ret_b E.out.symm, ((Gr.two _ _ _).trans hk).1⟩
end Go.Proofs.Ytakldkolkdpcoaa.Hp
