/- Package heap: Push, Pop. -/
import Derived.Test.YtakldkolkdpcoaaHeapOps
namespace Go.Proofs.Ytakldkolkdpcoaa.Hp
set_option maxRecDepth 100000
open Go.ChangeShapes Go.WideShapes Go.ChangeAt Go.RowKit
open Dec Words V4 V6 Ad Ci En Go.Deep
set_option linter.unusedVariables false
theorem flat2 (l m : List It) : [l, m].flatten = l ++ m := by simp
set_option maxHeartbeats 4000000 in
theorem push_any (v : Value) (l : List It) (x : It) (w : World) (h : Items w v l) (hx : x.ok) (hok : ∀ i, i < l.length → (fn l i).ok) (hl : l.length ≤ 800000) :
    Calls Try.prog 16 #[v, .agg #[.int .i64 x.k, .bool x.e.a.v6, .int .u64 x.e.a.hi, .int .u64 x.e.a.lo, .int .i64 x.e.n]] w fun e w' => ∃ u, e = .returned u ∧ Items w' u (pushH l x) ∧ Below w.heap.size w w' := by
  have PW := Lib.hid h
  obtain ⟨A, c, rfl, hc, _, hcell⟩ := h
  clear hcell hc
  have L2 : Hid (Below w.heap.size w ((w.alloc (.cells #[.int .i64 x.k, .bool x.e.a.v6, .int .u64 x.e.a.hi, .int .u64 x.e.a.lo, .int .i64 x.e.n] 32)).alloc (.cells #[.int .i64 x.k, .bool x.e.a.v6, .int .u64 x.e.a.hi, .int .u64 x.e.a.lo, .int .i64 x.e.n] 32))) := Lib.hid (two_low _ _ _)
  have L3 : Hid (Below w.heap.size w (((w.alloc (.cells #[.int .i64 x.k, .bool x.e.a.v6, .int .u64 x.e.a.hi, .int .u64 x.e.a.lo, .int .i64 x.e.n] 32)).alloc (.cells #[.int .i64 x.k, .bool x.e.a.v6, .int .u64 x.e.a.hi, .int .u64 x.e.a.lo, .int .i64 x.e.n] 32)).alloc (.cells #[.slice A l.length c, .slice (some ⟨w.heap.size + 1, 0, none⟩) 1 1] 35))) := Lib.hid (Below.alloc L2.out (by simp; omega) _)
  have KC := Lib.hid (concat_any (w.heap.size + 2) [.slice A l.length c, .slice (some ⟨w.heap.size + 1, 0, none⟩) 1 1] [l, [x]] (((w.alloc (.cells #[.int .i64 x.k, .bool x.e.a.v6, .int .u64 x.e.a.hi, .int .u64 x.e.a.lo, .int .i64 x.e.n] 32)).alloc (.cells #[.int .i64 x.k, .bool x.e.a.v6, .int .u64 x.e.a.hi, .int .u64 x.e.a.lo, .int .i64 x.e.n] 32)).alloc (.cells #[.slice A l.length c, .slice (some ⟨w.heap.size + 1, 0, none⟩) 1 1] 35)) (Blk.three w _ _ _ _) rfl (fun k hk => by
      match k, hk with
      | 0, _ => exact PW.out.below L3.out
      | 1, _ =>
        have hb := (Blk.two w (.cells #[.int .i64 x.k, .bool x.e.a.v6, .int .u64 x.e.a.hi, .int .u64 x.e.a.lo, .int .i64 x.e.n] 32) #[.int .i64 x.k, .bool x.e.a.v6, .int .u64 x.e.a.hi, .int .u64 x.e.a.lo, .int .i64 x.e.n] 32).alloc (.cells #[.slice A l.length c, .slice (some ⟨w.heap.size + 1, 0, none⟩) 1 1] 35)
        exact Blk.reads (m := 1) encI_len hb (by rfl) rfl (Nat.le_refl _)) (by simp) (by rw [flat2]; simp; omega))
  rw [flat2] at KC
  clear PW
  go_enter Try.func16, Try.ntmps16
  go_wp2_with fail
  refine KC.out.mono ?_; rintro e w1 ⟨u, rfl, hO, hb⟩
  obtain ⟨m, hm⟩ : ∃ m, m = l.length + 1 := ⟨_, rfl⟩
  obtain ⟨g, cap, Z, rfl, hB, hcap, hrw⟩ := own_rw2 (m := m) (f := fn (l ++ [x])) hO (by omega) (by rw [hm]; have := ls_of (l ++ [x]); rw [List.length_append] at this; exact this.symm) (fun i hi => by
    by_cases h : i < l.length
    · rw [fn_left h]; exact hok i h
    · obtain rfl : i = l.length := by omega
      rw [show fn (l ++ [x]) l.length = x from by unfold fn; rw [getElem!_pos _ _ (by simp)]; simp]
      exact hx)
  have e2 : (l ++ [x]).length = m := by rw [hm]; simp
  have HR := Lib.hid (rise_any (c := cap) hrw (by omega) (show l.length < m by omega))
  have HM : Hid (pushH l x = ls m (riseF l.length (fn (l ++ [x])) l.length)) := Lib.hid (by rw [hm]; rfl)
  have HB := Lib.hid (show Below w.heap.size w w1 ∧ w.heap.size ≤ g ∧ m ≤ cap from ⟨L3.out.trans (hb.mono (by simp; omega)), by simp at hB; omega, hcap⟩)
  clear KC hO hb hB hcap hrw L2 L3 e2 hm
  go_wp2_with fail
  refine HR.out.mono ?_; rintro e9 w2 ⟨rfl, hr, ht⟩
  have H2 := Lib.hid hr
  have T2 := Lib.hid ht
  clear hr ht HR
  go_wp2_with fail
  go_ret
  exact ⟨_, rfl, by rw [HM.out]; exact H2.out.items HB.out.2.2, T2.out.below HB.out.1 HB.out.2.1 HB.out.1.size⟩
section
variable {g n : Nat} {tail : List Value} {f : Nat → It} {w : World}
theorem Rw.put0 (h : Rw g n tail f w) (hi : 0 < n) {x : It} (hx : x.ok) : Rw g n tail (fun p => if p = 0 then x else f p) (((((w.setCell ⟨g, 0, none⟩ (.int .i64 x.k)).setCell ⟨g, 1, none⟩ (.bool x.e.a.v6)).setCell ⟨g, 2, none⟩ (.int .u64 x.e.a.hi)).setCell ⟨g, 3, none⟩ (.int .u64 x.e.a.lo)).setCell ⟨g, 4, none⟩ (.int .i64 x.e.n)) ∧ Bt g w (((((w.setCell ⟨g, 0, none⟩ (.int .i64 x.k)).setCell ⟨g, 1, none⟩ (.bool x.e.a.v6)).setCell ⟨g, 2, none⟩ (.int .u64 x.e.a.hi)).setCell ⟨g, 3, none⟩ (.int .u64 x.e.a.lo)).setCell ⟨g, 4, none⟩ (.int .i64 x.e.n)) := by
  have k := Rw.put h hi hx
  simpa only [Nat.zero_mul, Nat.zero_add] using k
end
theorem box_put {w : World} {g : Nat} {y : It} (x : It) (h : Blk w g 32 (encI y)) : Blk (((((w.setCell ⟨g, 0, none⟩ (.int .i64 x.k)).setCell ⟨g, 1, none⟩ (.bool x.e.a.v6)).setCell ⟨g, 2, none⟩ (.int .u64 x.e.a.hi)).setCell ⟨g, 3, none⟩ (.int .u64 x.e.a.lo)).setCell ⟨g, 4, none⟩ (.int .i64 x.e.n)) g 32 (encI x) ∧ Bt g w (((((w.setCell ⟨g, 0, none⟩ (.int .i64 x.k)).setCell ⟨g, 1, none⟩ (.bool x.e.a.v6)).setCell ⟨g, 2, none⟩ (.int .u64 x.e.a.hi)).setCell ⟨g, 3, none⟩ (.int .u64 x.e.a.lo)).setCell ⟨g, 4, none⟩ (.int .i64 x.e.n)) := by
  have k := setCells_blk g 32 (encI x) 0 w _ h (by rw [encI_len, encI_len]; omega)
  rw [show splice (encI y) 0 (encI x) = encI x from by unfold splice; simp [encI]] at k
  exact k
theorem fn_take {l : List It} {i m : Nat} (h : i < m) (hm : m ≤ l.length) : fn (l.take m) i = fn l i := by
  unfold fn
  rw [getElem!_pos (l.take m) i (by rw [List.length_take]; omega), getElem!_pos l i (by omega), List.getElem_take]
theorem ls_take {l : List It} {m : Nat} (hm : m ≤ l.length) : l.take m = ls m (fn l) := by
  have e := ls_of (l.take m)
  rw [List.length_take, Nat.min_eq_left hm] at e
  rw [← e]
  exact ls_eq fun i hi => fn_take hi hm
set_option maxHeartbeats 4000000 in
theorem pop_none (v : Value) (w : World) (h : Items w v []) :
    Calls Try.prog 18 #[v] w fun e w' => e = .returned (.tuple #[.agg #[.int .i64 0, .bool false, .int .u64 0, .int .u64 0, .int .i64 0], .slice none 0 0, .bool false]) ∧ Below w.heap.size w w' := by
  obtain ⟨A, c, rfl, hc, _, _⟩ := h
  have L1 : Hid (Below w.heap.size w (w.alloc (.cells #[.int .i64 0, .bool false, .int .u64 0, .int .u64 0, .int .i64 0] 32))) := Lib.hid (Below.alloc (Below.refl _ _) (Nat.le_refl _) _)
  have B1 := Lib.hid (Blk.new w #[.int .i64 0, .bool false, .int .u64 0, .int .u64 0, .int .i64 0] 32)
  clear hc
  go_enter Try.func18, Try.ntmps18
  go_wp2_with fail
  refine bodyPost_ret (v := .tuple #[.agg #[.int .i64 0, .bool false, .int .u64 0, .int .u64 0, .int .i64 0], .slice none 0 0, .bool false]) (by simp [results, Try.results18, go_sem]) rfl ?_
  exact ⟨rfl, L1.out⟩
theorem items_below {w w' : World} {g : Nat} {t : TypeId} {vs : List Value} {v : Value} {l : List It} (h : Items w v l) (k : Bt g w w') (hg : Blk w g t vs) (hv : v.ownBlock ≠ some g) : Items w' v l := by
  obtain ⟨A, c, rfl, h1, h2, h3⟩ := h
  refine ⟨A, c, rfl, h1, h2, fun h0 => ?_⟩
  obtain ⟨b, o, rfl, hb, hc⟩ := h3 h0
  have hne : b ≠ g := fun e => hv (by rw [e]; rfl)
  refine ⟨b, o, rfl, Nat.lt_of_lt_of_le hb k.size, fun i hi j u hu => ?_⟩
  have := hc i hi j u hu
  rw [← this]
  unfold World.cell?
  rw [k.block b hne hb]
theorem own_other {B : Nat} {w w' : World} {g : Nat} {v : Value} {l : List It} (h : OwnI B w v l) (k : Bt g w w') (hg : g < B) : OwnI B w' v l := by
  obtain ⟨h1, h2⟩ := h
  refine ⟨h1, ?_⟩
  rcases h2 with h2 | ⟨b, cap, cur, e, hB, hb, h3⟩
  · exact .inl h2
  · exact .inr ⟨b, cap, cur, e, hB, (k.block b (by omega) (lt_of_block hb)).trans hb, h3⟩
theorem rw_other {g b n : Nat} {Z : List Value} {f : Nat → It} {w w' : World} (h : Rw g n Z f w) (k : Bt b w w') (hg : g ≠ b) : Rw g n Z f w' := ⟨h.dat.but k hg, h.good⟩
set_option maxHeartbeats 4000000 in
theorem pop_some (v : Value) (l : List It) (w : World) (h : Items w v l) (h0 : 0 < l.length) (hok : ∀ i, i < l.length → (fn l i).ok) (hl : l.length ≤ 900000) :
    Calls Try.prog 18 #[v] w fun e w' => ∃ u, e = .returned (.tuple #[.agg #[.int .i64 (fn l 0).k, .bool (fn l 0).e.a.v6, .int .u64 (fn l 0).e.a.hi, .int .u64 (fn l 0).e.a.lo, .int .i64 (fn l 0).e.n], u, .bool true]) ∧ Items w' u (popH l) ∧ Below w.heap.size w w' := by
  have PW := Lib.hid h
  obtain ⟨A, c, rfl, hc, _, hcell⟩ := h
  obtain ⟨bb, o, rfl, hb, hcc⟩ := hcell h0
  obtain ⟨m, hm⟩ : ∃ m, m = l.length - 1 := ⟨_, rfl⟩
  obtain ⟨z, hz⟩ : ∃ z, z = l.length := ⟨_, rfl⟩
  have HMZ : Hid (m + 1 = z) := Lib.hid (by omega)
  have HZ := Lib.hid hz
  have hw1 : IntKind.i64.wrap ((z : Int) - 1) = (m : Int) := by rw [IntKind.wrap_i64]; omega
  have hz0 : ¬ ((z : Int) = 0) := by omega
  have hzb : ((z : Int) == 0) = false := by rw [beq_eq_false_iff_ne]; omega
  have hmc : (m : Int) ≤ (c : Int) := by omega
  have hmc2 : m ≤ c := by omega
  have L1 : Hid (Below w.heap.size w (w.alloc (.cells #[.int .i64 0, .bool false, .int .u64 0, .int .u64 0, .int .i64 0] 32))) := Lib.hid (Below.alloc (Below.refl _ _) (Nat.le_refl _) _)
  have B1 := Lib.hid (Blk.new w #[.int .i64 0, .bool false, .int .u64 0, .int .u64 0, .int .i64 0] 32)
  have PT : Items (w.alloc (.cells #[.int .i64 0, .bool false, .int .u64 0, .int .u64 0, .int .i64 0] 32)) (.slice (some ⟨bb, o, none⟩) m c) (l.take m) := (PW.out.part (i := m) (by omega)).below L1.out
  have KC := Lib.hid (clone_any _ (l.take m) (w.alloc (.cells #[.int .i64 0, .bool false, .int .u64 0, .int .u64 0, .int .i64 0] 32)) PT (by rw [List.length_take]; omega))
  have HCC := Lib.hid (show bb < w.heap.size ∧ ∀ i (h : i < l.length) j u, (encI l[i])[j]? = some u → w.cell? ⟨bb, o + i * 5 + j, none⟩ = some u from ⟨hb, hcc⟩)
  have HM := Lib.hid hm
  have HOK := Lib.hid hok
  have HL9 := Lib.hid hl
  have hi9 : (0 : Int) ≤ (m : Int) := by omega
  rw [← hz]
  clear PT hcell hb hcc hm hok h0 hl hc PW hz
  go_enter Try.func18, Try.ntmps18
  go_wp2_with fail
  refine KC.out.mono ?_; rintro e w1 ⟨u, rfl, hO, hb1⟩
  clear KC
  have L2 : Hid (Below w.heap.size w w1) := Lib.hid (L1.out.trans (hb1.mono (by simp)))
  have B2 := Lib.hid (B1.out.on hb1)
  have HO := Lib.hid hO
  clear hO hb1
  by_cases m0 : m = 0
  · subst m0
    have HP : Hid (popH l = l.take 0) := Lib.hid (by unfold popH; rw [if_pos (by have := HZ.out; have := HMZ.out; omega)]; simp)
    rw [show ((0 : Nat) : Int) = 0 from rfl] at *
    obtain ⟨hb, hcc⟩ := HCC.out
    have hn0 : 0 < l.length := by have := HZ.out; omega
    have hz9 : (0 : Int) < (z : Int) := by omega
    obtain ⟨x0, hx0⟩ : ∃ x, x = fn l 0 := ⟨_, rfl⟩
    have c0 := item_at L2.out hb hcc hn0 (j := 0) (u := .int .i64 x0.k) (by rw [← hx0]; rfl)
    have c1 := item_at L2.out hb hcc hn0 (j := 1) (u := .bool x0.e.a.v6) (by rw [← hx0]; rfl)
    have c2 := item_at L2.out hb hcc hn0 (j := 2) (u := .int .u64 x0.e.a.hi) (by rw [← hx0]; rfl)
    have c3 := item_at L2.out hb hcc hn0 (j := 3) (u := .int .u64 x0.e.a.lo) (by rw [← hx0]; rfl)
    have c4 := item_at L2.out hb hcc hn0 (j := 4) (u := .int .i64 x0.e.n) (by rw [← hx0]; rfl)
    have HX0 := Lib.hid hx0
    rw [Nat.zero_mul, Nat.add_zero] at c0 c1 c2 c3 c4
    clear hb hcc hx0 hw1 hmc hmc2 hz0 hzb
    have b0 := B2.out.cell (j := 0) rfl
    have bf0 := B2.out.free 0
    have b1 := B2.out.cell (j := 1) rfl
    have bf1 := B2.out.free 1
    have b2 := B2.out.cell (j := 2) rfl
    have bf2 := B2.out.free 2
    have b3 := B2.out.cell (j := 3) rfl
    have bf3 := B2.out.free 3
    have b4 := B2.out.cell (j := 4) rfl
    have bf4 := B2.out.free 4
    obtain ⟨_, ⟨rfl, _⟩ | ⟨g, cap, cur, rfl, _⟩⟩ := id HO.out
    · go_wp2_with fail
      have HS : Hid (Bt w.heap.size w1 (((((w1.setCell ⟨w.heap.size, 0, none⟩ (.int .i64 x0.k)).setCell ⟨w.heap.size, 1, none⟩ (.bool x0.e.a.v6)).setCell ⟨w.heap.size, 2, none⟩ (.int .u64 x0.e.a.hi)).setCell ⟨w.heap.size, 3, none⟩ (.int .u64 x0.e.a.lo)).setCell ⟨w.heap.size, 4, none⟩ (.int .i64 x0.e.n))) := Lib.hid (box_put (y := zeroI) x0 B2.out).2
      have s0 := (box_put (y := zeroI) x0 B2.out).1.cell (j := 0) rfl
      have s1 := (box_put (y := zeroI) x0 B2.out).1.cell (j := 1) rfl
      have s2 := (box_put (y := zeroI) x0 B2.out).1.cell (j := 2) rfl
      have s3 := (box_put (y := zeroI) x0 B2.out).1.cell (j := 3) rfl
      have s4 := (box_put (y := zeroI) x0 B2.out).1.cell (j := 4) rfl
      refine bodyPost_ret (v := .tuple #[.agg #[.int .i64 x0.k, .bool x0.e.a.v6, .int .u64 x0.e.a.hi, .int .u64 x0.e.a.lo, .int .i64 x0.e.n], .slice none 0 0, .bool true]) (by simp [results, Try.results18, go_sem, s0, s1, s2, s3, s4]) rfl ?_
      exact ⟨_, by rw [HX0.out], by rw [HP.out]; exact ownI_items (own_other HO.out HS.out (by simp)), Bt.below L2.out HS.out (Nat.le_refl _) L2.out.size⟩
    · go_wp2_with fail
      have HS : Hid (Bt w.heap.size w1 (((((w1.setCell ⟨w.heap.size, 0, none⟩ (.int .i64 x0.k)).setCell ⟨w.heap.size, 1, none⟩ (.bool x0.e.a.v6)).setCell ⟨w.heap.size, 2, none⟩ (.int .u64 x0.e.a.hi)).setCell ⟨w.heap.size, 3, none⟩ (.int .u64 x0.e.a.lo)).setCell ⟨w.heap.size, 4, none⟩ (.int .i64 x0.e.n))) := Lib.hid (box_put (y := zeroI) x0 B2.out).2
      have s0 := (box_put (y := zeroI) x0 B2.out).1.cell (j := 0) rfl
      have s1 := (box_put (y := zeroI) x0 B2.out).1.cell (j := 1) rfl
      have s2 := (box_put (y := zeroI) x0 B2.out).1.cell (j := 2) rfl
      have s3 := (box_put (y := zeroI) x0 B2.out).1.cell (j := 3) rfl
      have s4 := (box_put (y := zeroI) x0 B2.out).1.cell (j := 4) rfl
      refine bodyPost_ret (v := .tuple #[.agg #[.int .i64 x0.k, .bool x0.e.a.v6, .int .u64 x0.e.a.hi, .int .u64 x0.e.a.lo, .int .i64 x0.e.n], .slice (some ⟨g, 0, none⟩) 0 cap, .bool true]) (by simp [results, Try.results18, go_sem, s0, s1, s2, s3, s4]) rfl ?_
      exact ⟨_, by rw [HX0.out], by rw [HP.out]; exact ownI_items (own_other HO.out HS.out (by simp)), Bt.below L2.out HS.out (Nat.le_refl _) L2.out.size⟩
  · have m1 : 0 < m := by omega
    have hmz : (0 : Int) < (m : Int) := by omega
    have hnm : m < l.length := by have := HZ.out; have := HMZ.out; omega
    have hnmz : (m : Int) < (z : Int) := by have := HMZ.out; omega
    have hn0 : 0 < l.length := by omega
    have hz9 : (0 : Int) < (z : Int) := by omega
    obtain ⟨g2, cap2, Z, rfl, hB, hcap, hrw⟩ := own_rw2 (m := m) (f := fn l) HO.out m1 (ls_take (by omega)) (fun i hi => HOK.out i (by omega))
    have hg : w.heap.size < g2 := by simp at hB; omega
    have hm6 : m ≤ 1000000 := by have := HL9.out; have := HZ.out; omega
    have e0 := hrw.at (i := 0) m1 (j := 0) rfl
    have e1 := hrw.at (i := 0) m1 (j := 1) rfl
    have e2 := hrw.at (i := 0) m1 (j := 2) rfl
    have e3 := hrw.at (i := 0) m1 (j := 3) rfl
    have e4 := hrw.at (i := 0) m1 (j := 4) rfl
    simp only [Nat.zero_mul, Nat.zero_add, Nat.add_zero] at e0 e1 e2 e3 e4
    have ef0 := hrw.free 0
    have ef1 := hrw.free 1
    have ef2 := hrw.free 2
    have ef3 := hrw.free 3
    have ef4 := hrw.free 4
    obtain ⟨hb, hcc⟩ := HCC.out
    obtain ⟨xm, hxm⟩ : ∃ x, x = fn l m := ⟨_, rfl⟩
    have d0 := item_at L2.out hb hcc hnm (j := 0) (u := .int .i64 xm.k) (by rw [← hxm]; rfl)
    have d1 := item_at L2.out hb hcc hnm (j := 1) (u := .bool xm.e.a.v6) (by rw [← hxm]; rfl)
    have d2 := item_at L2.out hb hcc hnm (j := 2) (u := .int .u64 xm.e.a.hi) (by rw [← hxm]; rfl)
    have d3 := item_at L2.out hb hcc hnm (j := 3) (u := .int .u64 xm.e.a.lo) (by rw [← hxm]; rfl)
    have d4 := item_at L2.out hb hcc hnm (j := 4) (u := .int .i64 xm.e.n) (by rw [← hxm]; rfl)
    rw [Nat.add_zero] at d0
    have HP : Hid (popH l = ls m (sinkF m m (fun i => if i = 0 then xm else fn l i) 0)) := Lib.hid (by
      have := HM.out
      unfold popH
      rw [if_neg (by omega), ← this, ← hxm])
    have hxo : xm.ok := by rw [hxm]; exact HOK.out m hnm
    have HRW := Lib.hid (Rw.put0 hrw m1 hxo)
    have KS := Lib.hid (sink_any (c := cap2) HRW.out.1 hm6 m1)
    rw [show ((0 : Nat) : Int) = 0 from rfl] at KS
    have HG := Lib.hid (show w.heap.size < g2 ∧ m ≤ cap2 ∧ 0 < l.length from ⟨hg, hcap, hn0⟩)
    clear hb hcc hxm hxo hrw hB hcap hg hm6 HO hw1 hmc hmc2 hzb hz0 m1 m0 hnm hn0
    go_wp2_with fail
    refine KS.out.mono ?_; rintro e w3 ⟨rfl, hr3, ht3⟩
    have H3 := Lib.hid hr3
    have T3 := Lib.hid (HRW.out.2.trans ht3)
    have L3 : Hid (Below w.heap.size w w3) := Lib.hid (T3.out.below L2.out (by have := HG.out.1; omega) L2.out.size)
    have B3 := Lib.hid (B2.out.but T3.out (by have := HG.out.1; omega))
    clear hr3 ht3 KS HRW e0 e1 e2 e3 e4 ef0 ef1 ef2 ef3 ef4 d0 d1 d2 d3 d4
    obtain ⟨hb, hcc⟩ := HCC.out
    have hn0 : 0 < l.length := HG.out.2.2
    obtain ⟨x0, hx0⟩ : ∃ x, x = fn l 0 := ⟨_, rfl⟩
    have c0 := item_at L3.out hb hcc hn0 (j := 0) (u := .int .i64 x0.k) (by rw [← hx0]; rfl)
    have c1 := item_at L3.out hb hcc hn0 (j := 1) (u := .bool x0.e.a.v6) (by rw [← hx0]; rfl)
    have c2 := item_at L3.out hb hcc hn0 (j := 2) (u := .int .u64 x0.e.a.hi) (by rw [← hx0]; rfl)
    have c3 := item_at L3.out hb hcc hn0 (j := 3) (u := .int .u64 x0.e.a.lo) (by rw [← hx0]; rfl)
    have c4 := item_at L3.out hb hcc hn0 (j := 4) (u := .int .i64 x0.e.n) (by rw [← hx0]; rfl)
    have HX0 := Lib.hid hx0
    rw [Nat.zero_mul, Nat.add_zero] at c0 c1 c2 c3 c4
    clear hb hcc hx0 hn0
    have b0 := B3.out.cell (j := 0) rfl
    have bf0 := B3.out.free 0
    have b1 := B3.out.cell (j := 1) rfl
    have bf1 := B3.out.free 1
    have b2 := B3.out.cell (j := 2) rfl
    have bf2 := B3.out.free 2
    have b3 := B3.out.cell (j := 3) rfl
    have bf3 := B3.out.free 3
    have b4 := B3.out.cell (j := 4) rfl
    have bf4 := B3.out.free 4
    go_wp2_with fail
    have HS : Hid (Bt w.heap.size w3 (((((w3.setCell ⟨w.heap.size, 0, none⟩ (.int .i64 x0.k)).setCell ⟨w.heap.size, 1, none⟩ (.bool x0.e.a.v6)).setCell ⟨w.heap.size, 2, none⟩ (.int .u64 x0.e.a.hi)).setCell ⟨w.heap.size, 3, none⟩ (.int .u64 x0.e.a.lo)).setCell ⟨w.heap.size, 4, none⟩ (.int .i64 x0.e.n))) := Lib.hid (box_put (y := zeroI) x0 B3.out).2
    have s0 := (box_put (y := zeroI) x0 B3.out).1.cell (j := 0) rfl
    have s1 := (box_put (y := zeroI) x0 B3.out).1.cell (j := 1) rfl
    have s2 := (box_put (y := zeroI) x0 B3.out).1.cell (j := 2) rfl
    have s3 := (box_put (y := zeroI) x0 B3.out).1.cell (j := 3) rfl
    have s4 := (box_put (y := zeroI) x0 B3.out).1.cell (j := 4) rfl
    refine bodyPost_ret (v := .tuple #[.agg #[.int .i64 x0.k, .bool x0.e.a.v6, .int .u64 x0.e.a.hi, .int .u64 x0.e.a.lo, .int .i64 x0.e.n], .slice (some ⟨g2, 0, none⟩) m cap2, .bool true]) (by simp [results, Try.results18, go_sem, s0, s1, s2, s3, s4]) rfl ?_
    exact ⟨_, by rw [HX0.out], by rw [HP.out]; exact (rw_other H3.out HS.out (by have := HG.out.1; omega)).items HG.out.2.1, Bt.below L3.out HS.out (Nat.le_refl _) L3.out.size⟩
end Go.Proofs.Ytakldkolkdpcoaa.Hp
