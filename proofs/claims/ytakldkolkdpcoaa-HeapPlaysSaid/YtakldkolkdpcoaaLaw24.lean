/- Keys and bools that came in; items as they are given; two lists compared. -/
import Derived.Test.YtakldkolkdpcoaaRef24Sort
namespace Go.Proofs.Ytakldkolkdpcoaa.Hp
set_option maxRecDepth 100000
open Go.ChangeShapes Go.WideShapes Go.ChangeAt Go.RowKit
open Dec Words V4 V6 Ad Ci En Go.Deep
set_option linter.unusedVariables false
section
variable {H : Type} {enc : TypeId × Value → H}
theorem key_cells {W : World} {fuel : Nat} {cs : List Value} {y : DataW H × List MemPlace}
    (hf : DataW.trod enc Try.prog W 0 (fun _ => true) true fuel 29 cs = some y) (hl : cs.length = 5) : ∃ x : It, cs = encI x ∧ x.ok := by
  match cs, hl with
  | [c0, c1, c2, c3, c4], _ =>
  obtain ⟨y0, y1, m, _, _, h0, h1⟩ := trod_struct2 Try.underlying29 hf
  have k1 : Try.prog.cellsOf 3 = 1 := by kernel_rfl
  have k4 : Try.prog.cellsOf 27 = 4 := by kernel_rfl
  have h0' : DataW.trod enc Try.prog W 0 (fun _ => true) true m 3 (([c0, c1, c2, c3, c4].drop 0).take (Try.prog.cellsOf 3)) = some y0 := h0
  have h1' : DataW.trod enc Try.prog W 0 (fun _ => true) true m 27 (([c0, c1, c2, c3, c4].drop 1).take (Try.prog.cellsOf 27)) = some y1 := h1
  rw [k1] at h0'
  rw [k4] at h1'
  have g0 : DataW.trod enc Try.prog W 0 (fun _ => true) true m 3 [c0] = some y0 := h0'
  have g1 : DataW.trod enc Try.prog W 0 (fun _ => true) true m 27 [c1, c2, c3, c4] = some y1 := h1'
  obtain ⟨x0, j0, _, w0⟩ := DataW.trod_int Try.underlying3 g0
  obtain ⟨N, hN, jN⟩ := net_cells (ta := 25) (tb := 4) (tu := 23) (ti := 3) Try.underlying27 rfl rfl Try.underlying25 (by kernel_rfl) rfl rfl (by kernel_rfl) (by kernel_rfl) (by kernel_rfl) rfl rfl rfl Try.underlying4 Try.underlying23 Try.underlying3 g1
  simp only [List.cons.injEq, and_true] at jN j0
  obtain ⟨rfl, rfl, rfl, rfl⟩ := jN
  subst j0
  exact ⟨⟨x0, ⟨N.a, N.n⟩⟩, rfl, wf64 w0, hN⟩
/-- A key that came in. -/
theorem open_key {W : World} {v : Value} {d : DataW H} {ps : List MemPlace} {r : Reach} {b0 : Nat}
    (hval : Value.okWide Try.prog W r b0 29 v) (h : DataW.Trod enc Try.prog W 0 (fun _ => true) true 29 v d ps) :
    ∃ x : It, x.ok ∧ v = .agg #[.int .i64 x.k, .bool x.e.a.v6, .int .u64 x.e.a.hi, .int .u64 x.e.a.lo, .int .i64 x.e.n] := by
  obtain ⟨cs, rfl, hsz⟩ := okWide_struct Try.underlying29 hval
  have hC : Try.prog.cellsOf 29 = 5 := by kernel_rfl
  obtain ⟨fuel, hf⟩ := h
  obtain ⟨b, hb, hk⟩ := key_cells hf (by show cs.toList.length = 5; rw [Array.length_toList, hsz, hC])
  refine ⟨b, hk, ?_⟩
  have e : cs = (encI b).toArray := by
    have : cs.toList = encI b := hb
    rw [← this]
  rw [e]; rfl
/-- Keys that came in. -/
theorem open_keys {W : World} {v : Value} {d : DataW H} {ps : List MemPlace} {r : Reach} {b0 : Nat}
    (hval : Value.okWide Try.prog W r b0 22 v) (h : DataW.Trod enc Try.prog W 0 (fun _ => true) true 22 v d ps) : ∃ xs : List It, Items W v xs ∧ xs.length ≤ 9223372036854775807 ∧ ∀ x ∈ xs, x.ok :=
  open_recs (encR := encI) (good := It.ok) Try.underlying22 (by kernel_rfl) (by decide) (fun _ _ _ hf hl => key_cells hf hl) hval h
def encB (b : Bool) : List Value := [.bool b]
abbrev Bools (w : World) (v : Value) (l : List Bool) : Prop := Recs 1 encB w v l
theorem bool_cells {W : World} {fuel : Nat} {cs : List Value} {y : DataW H × List MemPlace}
    (hf : DataW.trod enc Try.prog W 0 (fun _ => true) true fuel 4 cs = some y) (hl : cs.length = 1) : ∃ x : Bool, cs = encB x ∧ True := by
  match cs, hl with
  | [c0], _ =>
  obtain ⟨x0, j0, _⟩ := DataW.trod_bool Try.underlying4 hf
  exact ⟨x0, j0, trivial⟩
theorem open_bools {W : World} {v : Value} {d : DataW H} {ps : List MemPlace} {r : Reach} {b0 : Nat}
    (hval : Value.okWide Try.prog W r b0 46 v) (h : DataW.Trod enc Try.prog W 0 (fun _ => true) true 46 v d ps) : ∃ xs : List Bool, Bools W v xs ∧ xs.length ≤ 9223372036854775807 ∧ ∀ x ∈ xs, True :=
  open_recs (encR := encB) (good := fun _ => True) Try.underlying46 (by kernel_rfl) (by decide) (fun _ _ _ hf hl => bool_cells hf hl) hval h
end
theorem fn_ok {l : List It} (h : ∀ x ∈ l, x.ok) : ∀ i, i < l.length → (fn l i).ok := fun i hi => by
  rw [show fn l i = l[i] from getElem!_pos l i hi]
  exact h _ (List.getElem_mem hi)
theorem ok_fn {l : List It} (h : ∀ i, i < l.length → (fn l i).ok) : ∀ x ∈ l, x.ok := fun x hx => by
  obtain ⟨i, hi, rfl⟩ := List.getElem_of_mem hx
  rw [← show fn l i = l[i] from getElem!_pos l i hi]
  exact h i hi
theorem perm_ok {l m : List It} (h : m.Perm l) (hl : ∀ x ∈ l, x.ok) : ∀ x ∈ m, x.ok := fun x hx => hl x (h.mem_iff.1 hx)
set_option maxHeartbeats 4000000 in
theorem to_any (v : Value) (l : List It) (w : World) (h : Items w v l) (hl : l.length ≤ 800000) :
    Calls Try.prog 7 #[v] w fun e w' => ∃ u, e = .returned u ∧ Items w' u l ∧ Below w.heap.size w w' := by
  obtain ⟨A, c, rfl, hc, _, hcell⟩ := h
  have HC := Lib.hid hcell
  clear hcell hc
  go_enter Try.func7, Try.ntmps7
  go_wp2_with fail
  go_loopw [3, 4] (fun vo vi wr => ∃ (i : Nat) (uo : Value), uo = vo ∧ vi = .int .i64 i ∧ i ≤ l.length ∧ Hid (OwnI w.heap.size wr uo (l.take i)) ∧ Hid (Below w.heap.size w wr)) (fun _ vi _ => l.length - (intOf vi).toNat)
  case atStart => exact ⟨0, _, rfl, rfl, Nat.zero_le _, Lib.hid (ownI_nil _ _), Lib.hid (Below.refl _ _)⟩
  case round =>
    obtain ⟨i, uo, rfl, rfl, hi, HO, HL⟩ := hrel
    by_cases hli : i < l.length
    · have hliz : (i : Int) < (l.length : Int) := by omega
      obtain ⟨bb, o, rfl, hb, hcc⟩ := HC.out (by omega)
      have hni := hli
      have HCW : Hid (∀ W, Below w.heap.size w W → W.cell? ⟨bb, o + i * 5 + 0, none⟩ = some (.int .i64 (fn l i).k) ∧ W.cell? ⟨bb, o + i * 5 + 1, none⟩ = some (.bool (fn l i).e.a.v6) ∧ W.cell? ⟨bb, o + i * 5 + 2, none⟩ = some (.int .u64 (fn l i).e.a.hi) ∧ W.cell? ⟨bb, o + i * 5 + 3, none⟩ = some (.int .u64 (fn l i).e.a.lo) ∧ W.cell? ⟨bb, o + i * 5 + 4, none⟩ = some (.int .i64 (fn l i).e.n)) := Lib.hid fun W hW => ⟨item_at hW hb hcc hni (j := 0) rfl, item_at hW hb hcc hni (j := 1) rfl, item_at hW hb hcc hni (j := 2) rfl, item_at hW hb hcc hni (j := 3) rfl, item_at hW hb hcc hni (j := 4) rfl⟩
      obtain ⟨x, hx⟩ : ∃ x, x = fn l i := ⟨_, rfl⟩
      rw [← hx] at HCW
      have HA : Hid (∀ W g, OwnI w.heap.size W uo (l.take i) → Blk W g 32 [.int .i64 x.k, .bool x.e.a.v6, .int .u64 x.e.a.hi, .int .u64 x.e.a.lo, .int .i64 x.e.n] → Below w.heap.size w W → ∃ v1 w1, (Builtin.append_ #[35, 35] 35 #[uo, .slice (some ⟨g, 0, none⟩) 1 1]).run Try.prog W = .ok v1 w1 ∧ (OwnI w.heap.size w1 v1 (l.take (i + 1)) ∧ Below w.heap.size w w1)) := Lib.hid fun W g ho hb hW => by
        have hP : Items W (.slice (some ⟨g, 0, none⟩) 1 1) [x] := Blk.reads (m := 1) encI_len hb (by rfl) rfl (Nat.le_refl _)
        obtain ⟨v1, w1, h1, h2, h3, _⟩ := append_Is ho hP (by simp; omega) hW.size
        refine ⟨v1, w1, h1, ?_, hW.trans h3⟩
        rw [List.take_succ_eq_append_getElem hli, ← show fn l i = l[i] from getElem!_pos l i hli, ← hx]
        exact h2
      clear hx hcc
      have hw := HL.out
      obtain ⟨c0, c1, c2, c3, c4⟩ := HCW.out _ hw
      rw [Nat.add_zero] at c0
      have hgb : bb < wr.heap.size := Nat.lt_of_lt_of_le hb hw.size
      have hgd : ¬ bb = wr.heap.size := by omega
      have HW : Hid (∀ W, Lows wr W → Below w.heap.size w W ∧ OwnI w.heap.size W uo (l.take i)) := Lib.hid fun W hW => ⟨hw.trans (hW.mono hw.size), by
        refine World.ownsRow.kept (row := none) HO.out ⟨hW.os, hW.tape, hW.output, hW.size, fun j hj _ => hW.block j hj⟩ ?_
        cases hv : uo.ownBlock <;> simp⟩
      clear hw hb HCW HC HO
      go_wp2_with fail
      go_region_law (first
        | (refine step_append_ex rfl (.tmp 11) (.tmp 23) _ _ rfl rfl _ _ (by first | rfl | simp [Act.eval]) (by first | rfl | simp [Act.eval]) (HA.out _ _ (HW.out _ (by repeat (first | (with_reducible exact Lows.self _) | (with_reducible assumption) | (with_reducible refine Lows.drew ?_) | (with_reducible refine Lows.alloc ?_ _)))).2 (by repeat (first | (with_reducible exact blk_new_at _ _ (by first | rfl | (simp; done)) rfl) | (with_reducible refine Blk.drew ?_) | (with_reducible refine Blk.alloc ?_ _))) (HW.out _ (by repeat (first | (with_reducible exact Lows.self _) | (with_reducible assumption) | (with_reducible refine Lows.drew ?_) | (with_reducible refine Lows.alloc ?_ _)))).1) ?_; rintro v1 w1 ⟨ho1, hl1⟩))
      all_goals
        have HO1 := Lib.hid ho1
        have HL1 := Lib.hid hl1
        clear ho1 hl1 HA HW c0 c1 c2 c3 c4 hgb hgd HL
        go_wp2_with fail
        go_roundw
        case rel => exact ⟨i + 1, v1, rfl, by go_num, by omega, HO1, HL1⟩
        case measure => simp [intOf]; omega
    · have hliz : ¬ (i : Int) < (l.length : Int) := by omega
      have HE : Hid (l.take i = l) := Lib.hid (List.take_of_length_le (by omega))
      go_wp2_with fail
      go_ret
      exact ⟨_, rfl, by rw [HE.out] at HO; exact ownI_items HO.out, HL.out⟩
set_option maxHeartbeats 4000000 in
theorem of_any (v : Value) (l : List It) (w : World) (h : Items w v l) (hl : l.length ≤ 800000) :
    Calls Try.prog 9 #[v] w fun e w' => ∃ u, e = .returned u ∧ Items w' u l ∧ Below w.heap.size w w' := by
  obtain ⟨A, c, rfl, hc, _, hcell⟩ := h
  have HC := Lib.hid hcell
  clear hcell hc
  go_enter Try.func9, Try.ntmps9
  go_wp2_with fail
  go_loopw [3, 4] (fun vo vi wr => ∃ (i : Nat) (uo : Value), uo = vo ∧ vi = .int .i64 i ∧ i ≤ l.length ∧ Hid (OwnR w.heap.size wr uo (l.take i)) ∧ Hid (Below w.heap.size w wr)) (fun _ vi _ => l.length - (intOf vi).toNat)
  case atStart => exact ⟨0, _, rfl, rfl, Nat.zero_le _, Lib.hid (ownR_nil _ _), Lib.hid (Below.refl _ _)⟩
  case round =>
    obtain ⟨i, uo, rfl, rfl, hi, HO, HL⟩ := hrel
    by_cases hli : i < l.length
    · have hliz : (i : Int) < (l.length : Int) := by omega
      obtain ⟨bb, o, rfl, hb, hcc⟩ := HC.out (by omega)
      have hni := hli
      have HCW : Hid (∀ W, Below w.heap.size w W → W.cell? ⟨bb, o + i * 5 + 0, none⟩ = some (.int .i64 (fn l i).k) ∧ W.cell? ⟨bb, o + i * 5 + 1, none⟩ = some (.bool (fn l i).e.a.v6) ∧ W.cell? ⟨bb, o + i * 5 + 2, none⟩ = some (.int .u64 (fn l i).e.a.hi) ∧ W.cell? ⟨bb, o + i * 5 + 3, none⟩ = some (.int .u64 (fn l i).e.a.lo) ∧ W.cell? ⟨bb, o + i * 5 + 4, none⟩ = some (.int .i64 (fn l i).e.n)) := Lib.hid fun W hW => ⟨item_at hW hb hcc hni (j := 0) rfl, item_at hW hb hcc hni (j := 1) rfl, item_at hW hb hcc hni (j := 2) rfl, item_at hW hb hcc hni (j := 3) rfl, item_at hW hb hcc hni (j := 4) rfl⟩
      obtain ⟨x, hx⟩ : ∃ x, x = fn l i := ⟨_, rfl⟩
      rw [← hx] at HCW
      have HA : Hid (∀ W g, OwnR w.heap.size W uo (l.take i) → Blk W g 33 [.int .i64 x.k, .bool x.e.a.v6, .int .u64 x.e.a.hi, .int .u64 x.e.a.lo, .int .i64 x.e.n] → Below w.heap.size w W → ∃ v1 w1, (Builtin.append_ #[38, 38] 38 #[uo, .slice (some ⟨g, 0, none⟩) 1 1]).run Try.prog W = .ok v1 w1 ∧ (OwnR w.heap.size w1 v1 (l.take (i + 1)) ∧ Below w.heap.size w w1)) := Lib.hid fun W g ho hb hW => by
        have hP : Items W (.slice (some ⟨g, 0, none⟩) 1 1) [x] := Blk.reads (m := 1) encI_len hb (by rfl) rfl (Nat.le_refl _)
        obtain ⟨v1, w1, h1, h2, h3, _⟩ := append_Rs ho hP (by simp; omega) hW.size
        refine ⟨v1, w1, h1, ?_, hW.trans h3⟩
        rw [List.take_succ_eq_append_getElem hli, ← show fn l i = l[i] from getElem!_pos l i hli, ← hx]
        exact h2
      clear hx hcc
      have hw := HL.out
      obtain ⟨c0, c1, c2, c3, c4⟩ := HCW.out _ hw
      rw [Nat.add_zero] at c0
      have hgb : bb < wr.heap.size := Nat.lt_of_lt_of_le hb hw.size
      have hgd : ¬ bb = wr.heap.size := by omega
      have HW : Hid (∀ W, Lows wr W → Below w.heap.size w W ∧ OwnR w.heap.size W uo (l.take i)) := Lib.hid fun W hW => ⟨hw.trans (hW.mono hw.size), by
        refine World.ownsRow.kept (row := none) HO.out ⟨hW.os, hW.tape, hW.output, hW.size, fun j hj _ => hW.block j hj⟩ ?_
        cases hv : uo.ownBlock <;> simp⟩
      clear hw hb HCW HC HO
      go_wp2_with fail
      go_region_law (first
        | (refine step_append_ex rfl (.tmp 11) (.tmp 23) _ _ rfl rfl _ _ (by first | rfl | simp [Act.eval]) (by first | rfl | simp [Act.eval]) (HA.out _ _ (HW.out _ (by repeat (first | (with_reducible exact Lows.self _) | (with_reducible assumption) | (with_reducible refine Lows.drew ?_) | (with_reducible refine Lows.alloc ?_ _)))).2 (by repeat (first | (with_reducible exact blk_new_at _ _ (by first | rfl | (simp; done)) rfl) | (with_reducible refine Blk.drew ?_) | (with_reducible refine Blk.alloc ?_ _))) (HW.out _ (by repeat (first | (with_reducible exact Lows.self _) | (with_reducible assumption) | (with_reducible refine Lows.drew ?_) | (with_reducible refine Lows.alloc ?_ _)))).1) ?_; rintro v1 w1 ⟨ho1, hl1⟩))
      all_goals
        have HO1 := Lib.hid ho1
        have HL1 := Lib.hid hl1
        clear ho1 hl1 HA HW c0 c1 c2 c3 c4 hgb hgd HL
        go_wp2_with fail
        go_roundw
        case rel => exact ⟨i + 1, v1, rfl, by go_num, by omega, HO1, HL1⟩
        case measure => simp [intOf]; omega
    · have hliz : ¬ (i : Int) < (l.length : Int) := by omega
      have HE : Hid (l.take i = l) := Lib.hid (List.take_of_length_le (by omega))
      go_wp2_with fail
      go_ret
      exact ⟨_, rfl, by rw [HE.out] at HO; exact ownR_items HO.out, HL.out⟩
set_option maxHeartbeats 4000000 in
theorem same_any (v1 v2 : Value) (l : List It) (w : World) (h1 : Items w v1 l) (h2 : Items w v2 l) (hl : l.length ≤ 800000) :
    Calls Try.prog 12 #[v1, v2] w fun e w' => e = .returned (.bool true) ∧ Below w.heap.size w w' := by
  obtain ⟨A1, c1, rfl, _, _, hcell1⟩ := h1
  obtain ⟨A2, c2, rfl, _, _, hcell2⟩ := h2
  have HC1 := Lib.hid hcell1
  have HC2 := Lib.hid hcell2
  have z0 : ((l.length : Int) != (l.length : Int)) = false := by simp
  clear hcell1 hcell2
  go_enter Try.func12, Try.ntmps12
  go_wp2_with fail
  go_loopw [5] (fun vi wr => ∃ i : Nat, vi = .int .i64 i ∧ i ≤ l.length ∧ Hid (Lows w wr)) (fun vi _ => l.length - (intOf vi).toNat)
  case atStart => exact ⟨0, rfl, Nat.zero_le _, Lib.hid (Lows.self _)⟩
  case round =>
    obtain ⟨i, rfl, hi, HL⟩ := hrel
    by_cases hli : i < l.length
    · have hliz : (i : Int) < (l.length : Int) := by omega
      obtain ⟨b1, o1, rfl, hb1, hcc1⟩ := HC1.out (by omega)
      obtain ⟨b2, o2, rfl, hb2, hcc2⟩ := HC2.out (by omega)
      obtain ⟨x, hx⟩ : ∃ x, x = fn l i := ⟨_, rfl⟩
      have NQ : ∀ W : World, (binOp .neq 27 (.agg #[.bool x.e.a.v6, .int .u64 x.e.a.hi, .int .u64 x.e.a.lo, .int .i64 x.e.n]) (.agg #[.bool x.e.a.v6, .int .u64 x.e.a.hi, .int .u64 x.e.a.lo, .int .i64 x.e.n])).run Try.prog W = .ok (.bool false) W := fun W => by
        have h := neqEnd x.e x.e W
        rw [same_selfE] at h
        exact h
      have NK : (x.k != x.k) = false := by simp
      have hne : Nonempty (Cls (Lows wr)) := ⟨⟨_, Lows.self _⟩⟩
      have f0 : ∀ nq : Cls (Lows wr), nq.w.cell? ⟨b1, o1 + i * 5, none⟩ = some (.int .i64 x.k) := fun nq => by rw [hx]; exact item_at (low_trans3 HL.out nq.h) hb1 hcc1 hli (j := 0) rfl
      have f1 : ∀ nq : Cls (Lows wr), nq.w.cell? ⟨b1, o1 + i * 5 + 1, none⟩ = some (.bool x.e.a.v6) := fun nq => by rw [hx]; exact item_at (low_trans3 HL.out nq.h) hb1 hcc1 hli (j := 1) rfl
      have f2 : ∀ nq : Cls (Lows wr), nq.w.cell? ⟨b1, o1 + i * 5 + 2, none⟩ = some (.int .u64 x.e.a.hi) := fun nq => by rw [hx]; exact item_at (low_trans3 HL.out nq.h) hb1 hcc1 hli (j := 2) rfl
      have f3 : ∀ nq : Cls (Lows wr), nq.w.cell? ⟨b1, o1 + i * 5 + 3, none⟩ = some (.int .u64 x.e.a.lo) := fun nq => by rw [hx]; exact item_at (low_trans3 HL.out nq.h) hb1 hcc1 hli (j := 3) rfl
      have f4 : ∀ nq : Cls (Lows wr), nq.w.cell? ⟨b1, o1 + i * 5 + 4, none⟩ = some (.int .i64 x.e.n) := fun nq => by rw [hx]; exact item_at (low_trans3 HL.out nq.h) hb1 hcc1 hli (j := 4) rfl
      have g0 : ∀ nq : Cls (Lows wr), nq.w.cell? ⟨b2, o2 + i * 5, none⟩ = some (.int .i64 x.k) := fun nq => by rw [hx]; exact item_at (low_trans3 HL.out nq.h) hb2 hcc2 hli (j := 0) rfl
      have g1 : ∀ nq : Cls (Lows wr), nq.w.cell? ⟨b2, o2 + i * 5 + 1, none⟩ = some (.bool x.e.a.v6) := fun nq => by rw [hx]; exact item_at (low_trans3 HL.out nq.h) hb2 hcc2 hli (j := 1) rfl
      have g2 : ∀ nq : Cls (Lows wr), nq.w.cell? ⟨b2, o2 + i * 5 + 2, none⟩ = some (.int .u64 x.e.a.hi) := fun nq => by rw [hx]; exact item_at (low_trans3 HL.out nq.h) hb2 hcc2 hli (j := 2) rfl
      have g3 : ∀ nq : Cls (Lows wr), nq.w.cell? ⟨b2, o2 + i * 5 + 3, none⟩ = some (.int .u64 x.e.a.lo) := fun nq => by rw [hx]; exact item_at (low_trans3 HL.out nq.h) hb2 hcc2 hli (j := 3) rfl
      have g4 : ∀ nq : Cls (Lows wr), nq.w.cell? ⟨b2, o2 + i * 5 + 4, none⟩ = some (.int .i64 x.e.n) := fun nq => by rw [hx]; exact item_at (low_trans3 HL.out nq.h) hb2 hcc2 hli (j := 4) rfl
      have HX := Lib.hid hx
      clear hx hcc1 hcc2 hb1 hb2
      go_wp2_with fail
      refine Cls.region (Lows wr) (by kernel_rfl) (by kernel_rfl) (low_drewN (Below.refl _ _) 1) ?_
      (try dsimp only [List.append])
      repeat (go_big_quiet_step (first | fail))
      refine wpQuiet_nil ?_
      intro n9
      have hk9 := n9.h
      generalize n9.w = w9 at hk9 ⊢
      clear hne n9 f0 f1 f2 f3 f4 g0 g1 g2 g3 g4 NQ NK
      go_wp2_with fail
      go_roundw
      case rel => exact ⟨i + 1, by go_num, by omega, Lib.hid (low_trans HL.out hk9)⟩
      case measure => simp [intOf]; omega
    · have hliz : ¬ (i : Int) < (l.length : Int) := by omega
      go_wp2_with fail
      go_ret
      exact ⟨rfl, HL.out⟩
end Go.Proofs.Ytakldkolkdpcoaa.Hp
