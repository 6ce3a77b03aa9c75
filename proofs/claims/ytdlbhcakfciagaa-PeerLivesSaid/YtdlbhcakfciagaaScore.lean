/- Contracts of package score and of its document's answers. -/
import Derived.Test.YtdlbhcakfciagaaHalf
import Derived.Test.YtdlbhcakfciagaaScoreMath
import Derived.Test.YtdlbhcakfciagaaBlk
namespace Go.Proofs.Ytdlbhcakfciagaa.Ha
set_option maxRecDepth 100000
open Go.ChangeShapes Go.WideShapes Go.ChangeAt Go.RowKit
open Sat
set_option linter.unusedVariables false
/-- Two boxes made, a call, two cells written. -/
theorem sdecay_any (s : Sc) (h now : Int) (w : World) :
    Calls Try.prog 35 #[.agg #[.int .i64 s.p, .int .i64 s.a], .int .i64 h, .int .i64 now] w fun e w' => e = .returned (.agg #[.int .i64 (decayS s h now).p, .int .i64 (decayS s h now).a]) ∧ Below w.heap.size w w' := by
  have D := Lib.hid (fun W => decay_any s h now W)
  generalize decayS s h now = d at *
  have O2 : Hid (Blk ((w.alloc (.cells #[.int .i64 s.p, .int .i64 s.a] 28)).alloc (.cells #[.int .i64 0, .int .i64 0] 28)) (w.heap.size + 1) 28 [.int .i64 0, .int .i64 0]) := Lib.hid (by have k := Blk.new (w.alloc (.cells #[.int .i64 s.p, .int .i64 s.a] 28)) #[.int .i64 0, .int .i64 0] 28; rwa [show (w.alloc (.cells #[.int .i64 s.p, .int .i64 s.a] 28)).heap.size = w.heap.size + 1 from by simp] at k)
  go_enter Try.func35, Try.ntmps35
  go_wp2_with fail
  refine (D.out _).mono ?_
  rintro e w1 ⟨rfl, hb1⟩
  have L1 := Lib.hid ((((Below.refl _ w).alloc (Nat.le_refl _) (.cells #[.int .i64 s.p, .int .i64 s.a] 28)).alloc (by simp) (.cells #[.int .i64 0, .int .i64 0] 28)).trans (hb1.mono (by simp; omega)))
  have own := O2.out.on hb1
  have s0 := own.cell (j := 0) rfl
  have s1 := own.cell (j := 1) rfl
  have f0 := own.free 0
  have f1 := own.free 1
  clear hb1 D O2 own
  go_wp2_with fail
  exact bodyPost_ret (v := .agg #[.int .i64 d.p, .int .i64 d.a]) (by simp [results, Try.results35, go_sem, s0, s1]) rfl ⟨rfl, (L1.out.setCell (Nat.le_succ _) _).setCell (Nat.le_succ _) _⟩
set_option maxHeartbeats 4000000 in
theorem addS_any (s : Sc) (n h now : Int) (w : World) :
    Calls Try.prog 24 #[.agg #[.int .i64 s.p, .int .i64 s.a], .int .i64 n, .int .i64 h, .int .i64 now] w fun e w' => e = .returned (.agg #[.int .i64 (addS s n h now).p, .int .i64 (addS s n h now).a]) ∧ Below w.heap.size w w' := by
  have D := Lib.hid (fun W => sdecay_any s h now W)
  have F := Lib.hid (fun W => fit_any n W)
  have hp := decay_p s h now
  have hf := fit_bd n
  obtain ⟨q, Q⟩ : ∃ q : Int, min ((decayS s h now).p + fit n * 65536) 1099511627776 = q := ⟨_, rfl⟩
  have E : Hid (addS s n h now = ⟨q, (decayS s h now).a⟩) := Lib.hid (by rw [← Q]; unfold addS; congr 1; unfold fit at *; repeat (first | split | omega))
  generalize fit n = f at *
  generalize decayS s h now = d at *
  have q1 : IntKind.i64.wrap (f * 65536) = f * 65536 := by rw [IntKind.wrap_i64]; omega
  have q2 : IntKind.i64.wrap (d.p + f * 65536) = d.p + f * 65536 := by rw [IntKind.wrap_i64]; omega
  have O1 : Hid (Blk ((w.alloc (.cells #[.int .i64 s.p, .int .i64 s.a] 28)).alloc (.cells #[.int .i64 0, .int .i64 0] 28)) w.heap.size 28 [.int .i64 s.p, .int .i64 s.a]) := Lib.hid ((Blk.new w #[.int .i64 s.p, .int .i64 s.a] 28).alloc _)
  have O2 : Hid (Blk ((w.alloc (.cells #[.int .i64 s.p, .int .i64 s.a] 28)).alloc (.cells #[.int .i64 0, .int .i64 0] 28)) (w.heap.size + 1) 28 [.int .i64 0, .int .i64 0]) := Lib.hid (by have k := Blk.new (w.alloc (.cells #[.int .i64 s.p, .int .i64 s.a] 28)) #[.int .i64 0, .int .i64 0] 28; rwa [show (w.alloc (.cells #[.int .i64 s.p, .int .i64 s.a] 28)).heap.size = w.heap.size + 1 from by simp] at k)
  go_enter Try.func24, Try.ntmps24
  go_wp2_with fail
  refine (D.out _).mono ?_
  rintro e w1 ⟨rfl, hb1⟩
  have L1 := Lib.hid ((((Below.refl _ w).alloc (Nat.le_refl _) (.cells #[.int .i64 s.p, .int .i64 s.a] 28)).alloc (by simp) (.cells #[.int .i64 0, .int .i64 0] 28)).trans (hb1.mono (by simp; omega)))
  have own1 := O1.out.on hb1
  have own2 := O2.out.on hb1
  have s0 := own1.cell (j := 0) rfl
  have s1 := own1.cell (j := 1) rfl
  have f0 := own1.free 0
  have f1 := own1.free 1
  have t0 := own2.cell (j := 0) rfl
  have t1 := own2.cell (j := 1) rfl
  have g0 := own2.free 0
  have g1 := own2.free 1
  clear hb1 D O2 O1 own1 own2
  go_wp2_with fail
  first
    | (go_region_with (go_at_call 22; refine (F.out _).mono ?_; rintro e w9 ⟨rfl, rfl⟩))
    | fail
  all_goals
    go_wp2_with fail
    exact bodyPost_ret (v := .agg #[.int .i64 q, .int .i64 d.a]) (by simp [results, Try.results24, go_sem, t0, t1]) rfl ⟨by rw [E.out], by repeat (first | (with_reducible exact L1.out) | (with_reducible refine Below.setCell ?_ (by first | exact Nat.le_refl _ | exact Nat.le_succ _) _) | (refine low_drewN ?_ 1))⟩
set_option maxHeartbeats 4000000 in
theorem raddS_any (s : Sc) (n h now : Int) (w : World) :
    Calls Try.prog 25 #[.agg #[.int .i64 s.p, .int .i64 s.a], .int .i64 n, .int .i64 h, .int .i64 now] w fun e w' => e = .returned (.agg #[.int .i64 (addS s n h now).p, .int .i64 (addS s n h now).a]) ∧ Below w.heap.size w w' := by
  have D := Lib.hid (fun W => rdecay_any s h now W)
  have F := Lib.hid (fun W => rfit_any n W)
  have hp := decay_p s h now
  have hf := fit_bd n
  obtain ⟨d, hd⟩ : ∃ d, decayS s h now = d := ⟨_, rfl⟩
  rw [hd] at hp D
  obtain ⟨f, hfn⟩ : ∃ f, fit n = f := ⟨_, rfl⟩
  rw [hfn] at hf F
  obtain ⟨g, hg⟩ : ∃ g, g = (if f > 16777216 then 16777216 else f) := ⟨_, rfl⟩
  have E : Hid (addS s n h now = ⟨fit (d.p + g * 65536), d.a⟩) := Lib.hid (by
    unfold addS; rw [hd, hfn]; congr 1; rw [hg]; split
    · exact (more_is _ _ hp.1 (by omega)).symm
    · rfl)
  have hgb : 0 ≤ g ∧ g ≤ 16777216 := by rw [hg]; split <;> omega
  have F2 := Lib.hid (fun W => rfit_any (d.p + g * 65536) W)
  have O1 : Hid (Blk ((w.alloc (.cells #[.int .i64 s.p, .int .i64 s.a] 28)).alloc (.cells #[.int .i64 0, .int .i64 0] 28)) w.heap.size 28 [.int .i64 s.p, .int .i64 s.a]) := Lib.hid ((Blk.new w #[.int .i64 s.p, .int .i64 s.a] 28).alloc _)
  have O2 : Hid (Blk ((w.alloc (.cells #[.int .i64 s.p, .int .i64 s.a] 28)).alloc (.cells #[.int .i64 0, .int .i64 0] 28)) (w.heap.size + 1) 28 [.int .i64 0, .int .i64 0]) := Lib.hid (by have k := Blk.new (w.alloc (.cells #[.int .i64 s.p, .int .i64 s.a] 28)) #[.int .i64 0, .int .i64 0] 28; rwa [show (w.alloc (.cells #[.int .i64 s.p, .int .i64 s.a] 28)).heap.size = w.heap.size + 1 from by simp] at k)
  clear hd hfn
  by_cases hc : f > 16777216
  · have e16 : g = 16777216 := by rw [hg, if_pos hc]
    subst e16
    clear hg
    go_enter Try.func25, Try.ntmps25
    go_wp2_with fail
    refine (D.out _).mono ?_
    rintro e w1 ⟨rfl, hb1⟩
    have L1 := Lib.hid ((((Below.refl _ w).alloc (Nat.le_refl _) (.cells #[.int .i64 s.p, .int .i64 s.a] 28)).alloc (by simp) (.cells #[.int .i64 0, .int .i64 0] 28)).trans (hb1.mono (by simp; omega)))
    have own1 := O1.out.on hb1
    have own2 := O2.out.on hb1
    have s0 := own1.cell (j := 0) rfl
    have s1 := own1.cell (j := 1) rfl
    have f0 := own1.free 0
    have f1 := own1.free 1
    have t0 := own2.cell (j := 0) rfl
    have t1 := own2.cell (j := 1) rfl
    have g0 := own2.free 0
    have g1 := own2.free 1
    clear hb1 D O2 O1 own1 own2
    go_wp2_with fail
    refine (F.out _).mono ?_; rintro e w9 ⟨rfl, rfl⟩
    go_wp2_with fail
    refine (F2.out _).mono ?_; rintro e w9 ⟨rfl, rfl⟩
    go_wp2_with fail
    exact bodyPost_ret (v := .agg #[.int .i64 (fit (d.p + 16777216 * 65536)), .int .i64 d.a]) (by simp [results, Try.results25, go_sem, t0, t1]) rfl ⟨by rw [E.out], by repeat (first | (with_reducible exact L1.out) | (with_reducible refine Below.setCell ?_ (by first | exact Nat.le_refl _ | exact Nat.le_succ _) _))⟩
  · have e16 : g = f := by rw [hg, if_neg hc]
    subst e16
    clear hg
    go_enter Try.func25, Try.ntmps25
    go_wp2_with fail
    refine (D.out _).mono ?_
    rintro e w1 ⟨rfl, hb1⟩
    have L1 := Lib.hid ((((Below.refl _ w).alloc (Nat.le_refl _) (.cells #[.int .i64 s.p, .int .i64 s.a] 28)).alloc (by simp) (.cells #[.int .i64 0, .int .i64 0] 28)).trans (hb1.mono (by simp; omega)))
    have own1 := O1.out.on hb1
    have own2 := O2.out.on hb1
    have s0 := own1.cell (j := 0) rfl
    have s1 := own1.cell (j := 1) rfl
    have f0 := own1.free 0
    have f1 := own1.free 1
    have t0 := own2.cell (j := 0) rfl
    have t1 := own2.cell (j := 1) rfl
    have g0 := own2.free 0
    have g1 := own2.free 1
    clear hb1 D O2 O1 own1 own2
    go_wp2_with fail
    refine (F.out _).mono ?_; rintro e w9 ⟨rfl, rfl⟩
    go_wp2_with fail
    refine (F2.out _).mono ?_; rintro e w9 ⟨rfl, rfl⟩
    go_wp2_with fail
    exact bodyPost_ret (v := .agg #[.int .i64 (fit (d.p + g * 65536)), .int .i64 d.a]) (by simp [results, Try.results25, go_sem, t0, t1]) rfl ⟨by rw [E.out], by repeat (first | (with_reducible exact L1.out) | (with_reducible refine Below.setCell ?_ (by first | exact Nat.le_refl _ | exact Nat.le_succ _) _))⟩
theorem whole_any (s : Sc) (hs : s.ok) (w : World) : Calls Try.prog 27 #[.agg #[.int .i64 s.p, .int .i64 s.a]] w fun e w' => e = .returned (.int .i64 (wholeS s)) ∧ Below w.heap.size w w' := by
  obtain ⟨m, M⟩ : ∃ m : Int, max s.p 0 = m := ⟨_, rfl⟩
  have hm : 0 ≤ m ∧ m ≤ 9223372036854775807 := by have := hs.1; omega
  have E : Hid (m / 65536 = wholeS s) := Lib.hid (by unfold wholeS; split <;> omega)
  go_enter Try.func27, Try.ntmps27
  go_wp2_with fail
  go_ret
  exact ⟨ret_int E.out, (Below.refl _ _).alloc (Nat.le_refl _) _⟩
theorem rwhole_any (s : Sc) (hs : s.ok) (w : World) : Calls Try.prog 32 #[.agg #[.int .i64 s.p, .int .i64 s.a]] w fun e w' => e = .returned (.int .i64 (wholeS s)) ∧ Below w.heap.size w w' := by
  by_cases h : s.p < 0
  · have E : wholeS s = 0 := by unfold wholeS; rw [if_pos h]
    rw [E]
    go_enter Try.func32, Try.ntmps32
    go_wp2_with fail
    go_ret
    exact ⟨rfl, (Below.refl _ _).alloc (Nat.le_refl _) _⟩
  · have E : Hid (s.p / 65536 = wholeS s) := Lib.hid (by unfold wholeS; rw [if_neg h])
    have h0 : 0 ≤ s.p ∧ s.p ≤ 9223372036854775807 := by have := hs.1; omega
    go_enter Try.func32, Try.ntmps32
    go_wp2_with fail
    go_ret
    exact ⟨ret_int E.out, (Below.refl _ _).alloc (Nat.le_refl _) _⟩
theorem ret_bool {a b : Bool} (h : a = b) : Ending.returned (.bool a) = .returned (.bool b) := by rw [h]
end Go.Proofs.Ytdlbhcakfciagaa.Ha
