/- The document's answers of layer 24: Ahead, Put. -/
import Derived.Test.YtakldkolkdpcoaaHeapPP
import Derived.Deep.RegionHeld3
import Derived.Deep.RegionLaw
namespace Go.Proofs.Ytakldkolkdpcoaa.Hp
set_option maxRecDepth 100000
open Go.ChangeShapes Go.WideShapes Go.ChangeAt Go.RowKit
open Dec Words V4 V6 Ad Ci En Go.Deep
set_option linter.unusedVariables false
theorem lt_keys {x y : It} (h : x.k ≠ y.k) : ltH x y = decide (x.k < y.k) := by
  have h0 : ¬ cmpI x.k y.k = 0 := fun e => h ((cmpI_zero _ _).1 e)
  have h1 : cmpH x y = cmpI x.k y.k := by unfold cmpH; rw [if_neg h0]
  unfold ltH
  rw [h1]
  unfold cmpI
  by_cases h2 : x.k < y.k
  · rw [if_pos h2]; simp [h2]
  · rw [if_neg h2]
    by_cases h3 : y.k < x.k
    · rw [if_pos h3]; simp [h2]
    · rw [if_neg h3]; simp [h2]
theorem lt_ends {x y : It} (h : x.k = y.k) : ltH x y = decide (cmpE x.e y.e < 0) := by
  have h0 : cmpI x.k y.k = 0 := (cmpI_zero _ _).2 h
  unfold ltH cmpH
  rw [if_pos h0]
set_option maxHeartbeats 1000000 in
theorem rahead_any (x y : It) (w : World) (hx : x.ok) (hy : y.ok) :
    Calls Try.prog 11 #[.agg #[.int .i64 x.k, .bool x.e.a.v6, .int .u64 x.e.a.hi, .int .u64 x.e.a.lo, .int .i64 x.e.n], .agg #[.int .i64 y.k, .bool y.e.a.v6, .int .u64 y.e.a.hi, .int .u64 y.e.a.lo, .int .i64 y.e.n]] w fun e w' => e = .returned (.bool (ltH x y)) ∧ Below w.heap.size w w' := by
  by_cases hk : x.k = y.k
  · have E : Hid (ltH x y = decide (cmpE x.e y.e < 0)) := Lib.hid (lt_ends hk)
    have K := Lib.hid fun W => rcompareE_any x.e y.e W hx.2 hy.2
    have hkb : (x.k != y.k) = false := by rw [hk]; simp
    clear hk
    go_enter Try.func11, Try.ntmps11
    go_wp2_with fail
    refine (K.out _).mono ?_; rintro e w1 ⟨rfl, hb⟩
    go_wp2_with fail
    go_ret
    exact ⟨ret_b E.out.symm, (two_low _ _ _).trans (hb.mono (by simp; omega))⟩
  · have E : Hid (ltH x y = decide (x.k < y.k)) := Lib.hid (lt_keys hk)
    have hkb : (x.k != y.k) = true := by rw [bne_iff_ne]; exact hk
    clear hk
    go_enter Try.func11, Try.ntmps11
    go_wp2_with fail
    go_ret
    exact ⟨ret_b E.out.symm, two_low _ _ _⟩
theorem place_cons_no {y x : It} {r : List It} (h : ltH x y = false) : placeX (y :: r) x = placeX r x + 1 := by
  unfold placeX
  rw [List.takeWhile_cons, if_pos (by rw [h]; rfl), List.length_cons]
theorem place_cons_yes {y x : It} {r : List It} (h : ltH x y = true) : placeX (y :: r) x = 0 := by
  unfold placeX
  rw [List.takeWhile_cons, if_neg (by rw [h]; simp)]
  rfl
theorem fn_succ (y : It) (r : List It) (i : Nat) : fn (y :: r) (i + 1) = fn r i := by
  unfold fn
  rfl
theorem place_le (l : List It) (x : It) : placeX l x ≤ l.length := (List.takeWhile_sublist _).length_le
theorem place_step : ∀ {l : List It} {x : It} {i : Nat}, i ≤ placeX l x → i < l.length → (ltH x (fn l i) = true → placeX l x = i) ∧ (ltH x (fn l i) = false → i + 1 ≤ placeX l x)
  | [], x, i, _, h => by simp at h
  | y :: r, x, 0, _, _ => by
    constructor
    · intro h
      exact place_cons_yes h
    · intro h
      have h2 : ltH x y = false := h
      rw [place_cons_no h2]; omega
  | y :: r, x, i + 1, h1, h2 => by
    rw [fn_succ]
    cases hy : ltH x y with
    | true => rw [place_cons_yes hy] at h1; omega
    | false =>
      rw [place_cons_no hy] at h1 ⊢
      have := place_step (l := r) (x := x) (i := i) (by omega) (by simp at h2; omega)
      exact ⟨fun h => by rw [this.1 h], fun h => by have := this.2 h; omega⟩
theorem putX_ok {l : List It} {x : It} (hl : ∀ i, i < l.length → (fn l i).ok) (hx : x.ok) : ∀ i, i < (putX l x).length → (fn (putX l x) i).ok := by
  intro i hi
  rw [show fn (putX l x) i = (putX l x)[i] from getElem!_pos _ i hi]
  have hm := (putX_perm l x).mem_iff.1 (List.getElem_mem hi)
  rcases List.mem_cons.1 hm with e | e
  · rw [e]; exact hx
  · obtain ⟨j, hj, e⟩ := List.getElem_of_mem e
    rw [← e, ← show fn l j = l[j] from getElem!_pos l j hj]
    exact hl j hj
theorem own_nil_at {B : Nat} (W : World) (g : Nat) (hg : g = W.heap.size) (hB : B ≤ W.heap.size) : OwnR B (W.alloc (.cells #[] 33)) (.slice (some ⟨g, 0, none⟩) 0 0) [] := by rw [hg]; exact ownR_lit W hB
theorem own_drew {B : Nat} {W : World} {v : Value} {l : List It} (h : OwnR B W v l) : OwnR B W.drew v l := World.ownsRow.drew h
theorem own_alloc {B : Nat} {W : World} {v : Value} {l : List It} (h : OwnR B W v l) (o : Obj) : OwnR B (W.alloc o) v l := World.ownsRow.alloc h o
theorem blk_new_at (W : World) (g : Nat) {cs : Array Value} {t : TypeId} {L : List Value} (hg : g = W.heap.size) (hL : cs.toList = L) : Blk (W.alloc (.cells cs t)) g t L := by rw [hg, ← hL]; exact Blk.new W cs t
theorem blk_of {w w' : World} {g : Nat} {t : TypeId} {vs : List Value} (h : Blk w g t vs) (k : w'.heap[g]? = w.heap[g]?) : Blk w' g t vs := k.trans h
set_option maxHeartbeats 8000000 in
theorem rput_any (v : Value) (l : List It) (x : It) (w : World) (h : Items w v l) (hx : x.ok) (hok : ∀ i, i < l.length → (fn l i).ok) (hl : l.length ≤ 800000) :
    Calls Try.prog 17 #[v, .agg #[.int .i64 x.k, .bool x.e.a.v6, .int .u64 x.e.a.hi, .int .u64 x.e.a.lo, .int .i64 x.e.n]] w fun e w' => ∃ u, e = .returned u ∧ Items w' u (putX l x) ∧ Below w.heap.size w w' := by
  have PW := Lib.hid h
  obtain ⟨A, c, rfl, hc, hnil, hcell⟩ := h
  have HC := Lib.hid hcell
  have HOK := Lib.hid hok
  have L1 : Hid (Below w.heap.size w (w.alloc (.cells #[.int .i64 x.k, .bool x.e.a.v6, .int .u64 x.e.a.hi, .int .u64 x.e.a.lo, .int .i64 x.e.n] 33))) := Lib.hid (Below.alloc (Below.refl _ _) (Nat.le_refl _) _)
  have B1 := Lib.hid (Blk.new w #[.int .i64 x.k, .bool x.e.a.v6, .int .u64 x.e.a.hi, .int .u64 x.e.a.lo, .int .i64 x.e.n] 33)
  clear hcell hok
  go_enter Try.func17, Try.ntmps17
  go_wp2_with fail
  go_loopw [5] (fun va wr => ∃ (i : Nat), va = .int .i64 i ∧ i ≤ l.length ∧ Hid (i ≤ placeX l x) ∧ Hid (Below (w.alloc (.cells #[.int .i64 x.k, .bool x.e.a.v6, .int .u64 x.e.a.hi, .int .u64 x.e.a.lo, .int .i64 x.e.n] 33)).heap.size (w.alloc (.cells #[.int .i64 x.k, .bool x.e.a.v6, .int .u64 x.e.a.hi, .int .u64 x.e.a.lo, .int .i64 x.e.n] 33)) wr)) (fun va _ => l.length - (intOf va).toNat)
  case atStart => exact ⟨0, rfl, Nat.zero_le _, Lib.hid (Nat.zero_le _), Lib.hid (Below.refl _ _)⟩
  case round =>
    obtain ⟨i, rfl, hi, HP, HL⟩ := hrel
    have HLW : Hid (Below w.heap.size w wr) := Lib.hid (L1.out.trans (HL.out.mono (by simp)))
    have HB := Lib.hid (B1.out.on HL.out)
    by_cases hli : i < l.length
    · have hliz : (i : Int) < (l.length : Int) := by omega
      obtain ⟨bb, o, rfl, hb, hcc⟩ := HC.out (by omega)
      obtain ⟨y, hy⟩ : ∃ y, y = fn l i := ⟨_, rfl⟩
      have C := lows_call (W0 := wr) (Lib.hid (fun X => rahead_any x y X hx (by rw [hy]; exact HOK.out _ hli)))
      have hne : Nonempty (Cls (Lows wr)) := ⟨⟨_, Lows.self _⟩⟩
      have x0 : ∀ nq : Cls (Lows wr), nq.w.cell? ⟨w.heap.size, 0, none⟩ = some (.int .i64 x.k) := fun nq => (HB.out.on nq.h).cell (j := 0) rfl
      have x1 : ∀ nq : Cls (Lows wr), nq.w.cell? ⟨w.heap.size, 1, none⟩ = some (.bool x.e.a.v6) := fun nq => (HB.out.on nq.h).cell (j := 1) rfl
      have x2 : ∀ nq : Cls (Lows wr), nq.w.cell? ⟨w.heap.size, 2, none⟩ = some (.int .u64 x.e.a.hi) := fun nq => (HB.out.on nq.h).cell (j := 2) rfl
      have x3 : ∀ nq : Cls (Lows wr), nq.w.cell? ⟨w.heap.size, 3, none⟩ = some (.int .u64 x.e.a.lo) := fun nq => (HB.out.on nq.h).cell (j := 3) rfl
      have x4 : ∀ nq : Cls (Lows wr), nq.w.cell? ⟨w.heap.size, 4, none⟩ = some (.int .i64 x.e.n) := fun nq => (HB.out.on nq.h).cell (j := 4) rfl
      have y0 : ∀ nq : Cls (Lows wr), nq.w.cell? ⟨bb, o + i * 5, none⟩ = some (.int .i64 y.k) := fun nq => by rw [hy]; exact item_at (low_trans3 HLW.out nq.h) hb hcc hli (j := 0) rfl
      have y1 : ∀ nq : Cls (Lows wr), nq.w.cell? ⟨bb, o + i * 5 + 1, none⟩ = some (.bool y.e.a.v6) := fun nq => by rw [hy]; exact item_at (low_trans3 HLW.out nq.h) hb hcc hli (j := 1) rfl
      have y2 : ∀ nq : Cls (Lows wr), nq.w.cell? ⟨bb, o + i * 5 + 2, none⟩ = some (.int .u64 y.e.a.hi) := fun nq => by rw [hy]; exact item_at (low_trans3 HLW.out nq.h) hb hcc hli (j := 2) rfl
      have y3 : ∀ nq : Cls (Lows wr), nq.w.cell? ⟨bb, o + i * 5 + 3, none⟩ = some (.int .u64 y.e.a.lo) := fun nq => by rw [hy]; exact item_at (low_trans3 HLW.out nq.h) hb hcc hli (j := 3) rfl
      have y4 : ∀ nq : Cls (Lows wr), nq.w.cell? ⟨bb, o + i * 5 + 4, none⟩ = some (.int .i64 y.e.n) := fun nq => by rw [hy]; exact item_at (low_trans3 HLW.out nq.h) hb hcc hli (j := 4) rfl
      cases hlo : ltH x (fn l i) with
      | true =>
        have HPE := Lib.hid ((place_step HP.out hli).1 hlo)
        rw [← hy] at hlo
        rw [hlo] at C
        clear hlo hy hcc hb
        go_wp2_with fail
        refine Cls.region (Lows wr) (by kernel_rfl) (by kernel_rfl) (low_drewN (Below.refl _ _) 1) ?_
        (try dsimp only [List.append])
        repeat (go_big_quiet_step (first | fail | (with_reducible exact Cls.call (C.out _ (Cls.h _)))))
        refine wpQuiet_nil ?_
        intro n9
        have hk9 := n9.h
        generalize n9.w = w9 at hk9 ⊢
        clear hne n9 C x0 x1 x2 x3 x4 y0 y1 y2 y3 y4 
        go_wp2_with fail
        have HL9 := Lib.hid (low_trans3 HLW.out hk9)
        have HB9 := Lib.hid (HB.out.on hk9)
        clear hk9 HL HLW HB HP
        have hnc : ¬ c = i := by omega
        have hin : (i : Int) ≤ (l.length : Int) := by omega
        have hi9 : (0 : Int) ≤ (i : Int) := by omega
        have hic : (i : Int) ≤ (c : Int) := by omega
        have HA1 : Hid (∀ W g, OwnR w9.heap.size W (.slice (some ⟨g, 0, none⟩) 0 0) [] → Lows w9 W → ∃ v1 w1, (Builtin.append_ #[38, 38] 38 #[.slice (some ⟨g, 0, none⟩) 0 0, .slice (some ⟨bb, o, none⟩) i c]).run Try.prog W = .ok v1 w1 ∧ (OwnR w9.heap.size w1 v1 (l.take i) ∧ Lows w9 w1 ∧ ∀ k vs, k ≠ g → Blk W k 33 vs → Blk w1 k 33 vs)) := Lib.hid fun W g ho hW => by
          have hI := PW.out.below (low_trans3 HL9.out hW)
          have hY : Items W (.slice (some ⟨bb, o, none⟩) i c) (l.take i) := hI.part (i := i) (by omega)
          obtain ⟨v1, w1, h1, h2, h3, h4⟩ := append_Rs ho hY (by first | (simp; done) | (simp; omega)) hW.size
          refine ⟨v1, w1, h1, by simpa using h2, hW.trans h3, fun k vs hk hb => blk_of hb (h4 k hb.lt (by simp [Value.ownBlock]; exact hk))⟩
        have HA2 : Hid (∀ W u g, OwnR w9.heap.size W u (l.take i) → Blk W g 33 [.int .i64 x.k, .bool x.e.a.v6, .int .u64 x.e.a.hi, .int .u64 x.e.a.lo, .int .i64 x.e.n] → Lows w9 W → ∃ v1 w1, (Builtin.append_ #[38, 38] 38 #[u, .slice (some ⟨g, 0, none⟩) 1 1]).run Try.prog W = .ok v1 w1 ∧ (OwnR w9.heap.size w1 v1 (l.take i ++ [x]) ∧ Lows w9 w1)) := Lib.hid fun W u g ho hb hW => by
          have hP : Items W (.slice (some ⟨g, 0, none⟩) 1 1) [x] := Blk.reads (m := 1) encI_len hb (by rfl) rfl (Nat.le_refl _)
          obtain ⟨v1, w1, h1, h2, h3, _⟩ := append_Rs ho hP (by first | (simp; done) | (simp; omega)) hW.size
          exact ⟨v1, w1, h1, h2, hW.trans h3⟩
        have HA3 : Hid (∀ W u, OwnR w9.heap.size W u (l.take i ++ [x]) → Lows w9 W → ∃ v1 w1, (Builtin.append_ #[38, 38] 38 #[u, .slice (some ⟨bb, o + i * 5, none⟩) (l.length - i) (c - i)]).run Try.prog W = .ok v1 w1 ∧ Items w1 v1 (putX l x) ∧ Below w.heap.size w w1) := Lib.hid fun W u ho hW => by
          have hI := PW.out.below (low_trans3 HL9.out hW)
          have hY : Items W (.slice (some ⟨bb, o + i * 5, none⟩) (l.length - i) (c - i)) (l.drop i) := hI.rest (by omega)
          obtain ⟨v1, w1, h1, h2, h3, _⟩ := append_Rs ho hY (by first | (simp; done) | (simp; omega)) hW.size
          refine ⟨v1, w1, h1, ?_, low_trans3 HL9.out (hW.trans h3)⟩
          have := ownR_items h2
          unfold putX
          rw [HPE.out]
          simpa using this
        have b0 := HB9.out.cell (j := 0) rfl
        have b1 := HB9.out.cell (j := 1) rfl
        have b2 := HB9.out.cell (j := 2) rfl
        have b3 := HB9.out.cell (j := 3) rfl
        have b4 := HB9.out.cell (j := 4) rfl
        have hgB : w.heap.size < w9.heap.size := HB9.out.lt
        have hgD : ¬ w.heap.size = w9.heap.size := by omega
        have hgE : ¬ w.heap.size = w9.heap.size + 1 := by omega
        go_upto_region 5 with fail
        go_region_law (first
          | (refine step_append_ex rfl (.tmp 22) (.tmp 25) _ _ rfl rfl _ _ (by first | rfl | simp [Act.eval]) (by first | rfl | simp [Act.eval]) (HA1.out _ _ (by repeat (first | (with_reducible exact own_nil_at _ _ (by first | rfl | (simp; done)) (by first | exact Nat.le_refl _ | (simp; done) | (simp; omega))) | (with_reducible refine own_drew ?_) | (with_reducible refine own_alloc ?_ _))) (by repeat (first | (with_reducible exact Lows.self _) | (with_reducible assumption) | (with_reducible refine Lows.drew ?_) | (with_reducible refine Lows.alloc ?_ _)))) ?_; rintro v1 w2 ⟨ho1, hl1, hk1⟩
             have OBa := HB9.out.on hl1
             have b0 := OBa.cell (j := 0) rfl
             have b1 := OBa.cell (j := 1) rfl
             have b2 := OBa.cell (j := 2) rfl
             have b3 := OBa.cell (j := 3) rfl
             have b4 := OBa.cell (j := 4) rfl
             clear OBa)
          | (refine step_append_ex rfl (.tmp 26) (.tmp 28) _ _ rfl rfl _ _ (by first | rfl | simp [Act.eval]) (by first | rfl | simp [Act.eval]) (HA2.out _ v1 _ (by repeat (first | (with_reducible exact ho1) | (with_reducible refine own_drew ?_) | (with_reducible refine own_alloc ?_ _))) (by repeat (first | (with_reducible exact blk_new_at _ _ (by first | rfl | (simp; done)) rfl) | (with_reducible refine hk1 _ _ (by first | (simp; done) | (simp; omega)) ?_) | (with_reducible refine Blk.drew ?_) | (with_reducible refine Blk.alloc ?_ _))) (by repeat (first | (with_reducible exact Lows.self _) | (with_reducible assumption) | (with_reducible refine Lows.drew ?_) | (with_reducible refine Lows.alloc ?_ _)))) ?_; rintro v2 w3 ⟨ho2, hl2⟩))
        all_goals
          obtain ⟨v3, w4, hr3, hi3, hb3⟩ := HA3.out _ _ ho2 hl2
          have R3 := Lib.hid hr3
          have H3 := Lib.hid (And.intro hi3 hb3)
          clear HA1 HA2 HA3 ho2 hl2 ho1 hl1 hk1 hr3 hi3 hb3 b0 b1 b2 b3 b4
          go_wp2_with (first
            | (at_builtin; refine wpList_append_run rfl (.tmp 30) (.tmp 33) _ _ rfl rfl _ _ _ _ rfl rfl R3.out ?_)
            | fail)
          go_ret
          exact ⟨_, rfl, H3.out.1, H3.out.2⟩
      | false =>
        have HPE := Lib.hid ((place_step HP.out hli).2 hlo)
        rw [← hy] at hlo
        rw [hlo] at C
        clear hlo hy hcc hb
        go_wp2_with fail
        refine Cls.region (Lows wr) (by kernel_rfl) (by kernel_rfl) (low_drewN (Below.refl _ _) 1) ?_
        (try dsimp only [List.append])
        repeat (go_big_quiet_step (first | fail | (with_reducible exact Cls.call (C.out _ (Cls.h _)))))
        refine wpQuiet_nil ?_
        intro n9
        have hk9 := n9.h
        generalize n9.w = w9 at hk9 ⊢
        clear hne n9 C x0 x1 x2 x3 x4 y0 y1 y2 y3 y4 
        go_wp2_with fail
        go_roundw
        case rel => exact ⟨i + 1, by go_num, by omega, HPE, Lib.hid (HL.out.trans (hk9.mono HL.out.size))⟩
        case measure => simp [intOf]; omega
    · have hliz : ¬ (i : Int) < (l.length : Int) := by omega
      have hne : Nonempty (Cls (Lows wr)) := ⟨⟨_, Lows.self _⟩⟩
      go_wp2_with fail
      refine Cls.region (Lows wr) (by kernel_rfl) (by kernel_rfl) (low_drewN (Below.refl _ _) 1) ?_
      (try dsimp only [List.append])
      repeat (go_big_quiet_step (first | fail))
      refine wpQuiet_nil ?_
      intro n9
      have hk9 := n9.h
      generalize n9.w = w9 at hk9 ⊢
      clear hne n9
      go_wp2_with fail
      have HL9 := Lib.hid (low_trans3 HLW.out hk9)
      have HB9 := Lib.hid (HB.out.on hk9)
      have HPE : Hid (placeX l x = i) := Lib.hid (by have := HP.out; have := place_le l x; omega)
      clear hk9 HL HLW HB HP
      obtain rfl : i = l.length := by omega
      clear hliz hli hi
      by_cases hl0 : l.length = 0
      · have hle := Lib.hid (List.eq_nil_of_length_eq_zero hl0)
        have HP0 : Hid (placeX l x = 0) := Lib.hid (by rw [HPE.out, hl0])
        rw [hl0] at PW ⊢
        rw [show ((0 : Nat) : Int) = 0 from rfl]
        clear hc hl0 HPE HC
        rcases A with _ | a
        · obtain rfl := hnil rfl
          clear hnil
          have HA1 : Hid (∀ W g, OwnR w9.heap.size W (.slice (some ⟨g, 0, none⟩) 0 0) [] → Lows w9 W → ∃ v1 w1, (Builtin.append_ #[38, 38] 38 #[.slice (some ⟨g, 0, none⟩) 0 0, .slice none 0 0]).run Try.prog W = .ok v1 w1 ∧ (OwnR w9.heap.size w1 v1 (l.take 0) ∧ Lows w9 w1 ∧ ∀ k vs, k ≠ g → Blk W k 33 vs → Blk w1 k 33 vs)) := Lib.hid fun W g ho hW => by
            have hI := PW.out.below (low_trans3 HL9.out hW)
            have hY : Items W (.slice none 0 0) (l.take 0) := by rw [List.take_zero]; exact Recs.nil _ _ _
            obtain ⟨v1, w1, h1, h2, h3, h4⟩ := append_Rs ho hY (by first | (simp; done) | (simp; omega)) hW.size
            refine ⟨v1, w1, h1, by simpa using h2, hW.trans h3, fun k vs hk hb => blk_of hb (h4 k hb.lt (by simp [Value.ownBlock]; exact hk))⟩
          have HA2 : Hid (∀ W u g, OwnR w9.heap.size W u (l.take 0) → Blk W g 33 [.int .i64 x.k, .bool x.e.a.v6, .int .u64 x.e.a.hi, .int .u64 x.e.a.lo, .int .i64 x.e.n] → Lows w9 W → ∃ v1 w1, (Builtin.append_ #[38, 38] 38 #[u, .slice (some ⟨g, 0, none⟩) 1 1]).run Try.prog W = .ok v1 w1 ∧ (OwnR w9.heap.size w1 v1 (l.take 0 ++ [x]) ∧ Lows w9 w1)) := Lib.hid fun W u g ho hb hW => by
            have hP : Items W (.slice (some ⟨g, 0, none⟩) 1 1) [x] := Blk.reads (m := 1) encI_len hb (by rfl) rfl (Nat.le_refl _)
            obtain ⟨v1, w1, h1, h2, h3, _⟩ := append_Rs ho hP (by first | (simp; done) | (simp; omega)) hW.size
            exact ⟨v1, w1, h1, h2, hW.trans h3⟩
          have HA3 : Hid (∀ W u, OwnR w9.heap.size W u (l.take 0 ++ [x]) → Lows w9 W → ∃ v1 w1, (Builtin.append_ #[38, 38] 38 #[u, .slice none 0 0]).run Try.prog W = .ok v1 w1 ∧ Items w1 v1 (putX l x) ∧ Below w.heap.size w w1) := Lib.hid fun W u ho hW => by
            have hI := PW.out.below (low_trans3 HL9.out hW)
            have hY : Items W (.slice none 0 0) (l.drop 0) := by rw [hle.out]; exact Recs.nil _ _ _
            obtain ⟨v1, w1, h1, h2, h3, _⟩ := append_Rs ho hY (by first | (simp; done) | (simp; omega)) hW.size
            refine ⟨v1, w1, h1, ?_, low_trans3 HL9.out (hW.trans h3)⟩
            have := ownR_items h2
            unfold putX
            rw [HP0.out]
            simpa using this
          have b0 := HB9.out.cell (j := 0) rfl
          have b1 := HB9.out.cell (j := 1) rfl
          have b2 := HB9.out.cell (j := 2) rfl
          have b3 := HB9.out.cell (j := 3) rfl
          have b4 := HB9.out.cell (j := 4) rfl
          have hgB : w.heap.size < w9.heap.size := HB9.out.lt
          have hgD : ¬ w.heap.size = w9.heap.size := by omega
          have hgE : ¬ w.heap.size = w9.heap.size + 1 := by omega
          go_upto_region 5 with fail
          go_region_law (first
            | (refine step_append_ex rfl (.tmp 22) (.tmp 25) _ _ rfl rfl _ _ (by first | rfl | simp [Act.eval]) (by first | rfl | simp [Act.eval]) (HA1.out _ _ (by repeat (first | (with_reducible exact own_nil_at _ _ (by first | rfl | (simp; done)) (by first | exact Nat.le_refl _ | (simp; done) | (simp; omega))) | (with_reducible refine own_drew ?_) | (with_reducible refine own_alloc ?_ _))) (by repeat (first | (with_reducible exact Lows.self _) | (with_reducible assumption) | (with_reducible refine Lows.drew ?_) | (with_reducible refine Lows.alloc ?_ _)))) ?_; rintro v1 w2 ⟨ho1, hl1, hk1⟩
               have OBa := HB9.out.on hl1
               have b0 := OBa.cell (j := 0) rfl
               have b1 := OBa.cell (j := 1) rfl
               have b2 := OBa.cell (j := 2) rfl
               have b3 := OBa.cell (j := 3) rfl
               have b4 := OBa.cell (j := 4) rfl
               clear OBa)
            | (refine step_append_ex rfl (.tmp 26) (.tmp 28) _ _ rfl rfl _ _ (by first | rfl | simp [Act.eval]) (by first | rfl | simp [Act.eval]) (HA2.out _ v1 _ (by repeat (first | (with_reducible exact ho1) | (with_reducible refine own_drew ?_) | (with_reducible refine own_alloc ?_ _))) (by repeat (first | (with_reducible exact blk_new_at _ _ (by first | rfl | (simp; done)) rfl) | (with_reducible refine hk1 _ _ (by first | (simp; done) | (simp; omega)) ?_) | (with_reducible refine Blk.drew ?_) | (with_reducible refine Blk.alloc ?_ _))) (by repeat (first | (with_reducible exact Lows.self _) | (with_reducible assumption) | (with_reducible refine Lows.drew ?_) | (with_reducible refine Lows.alloc ?_ _)))) ?_; rintro v2 w3 ⟨ho2, hl2⟩))
          all_goals
            obtain ⟨v3, w4, hr3, hi3, hb3⟩ := HA3.out _ _ ho2 hl2
            have R3 := Lib.hid hr3
            have H3 := Lib.hid (And.intro hi3 hb3)
            clear HA1 HA2 HA3 ho2 hl2 ho1 hl1 hk1 hr3 hi3 hb3 b0 b1 b2 b3 b4
            go_wp2_with (first
              | (at_builtin; refine wpList_append_run rfl (.tmp 30) (.tmp 33) _ _ rfl rfl _ _ _ _ rfl rfl R3.out ?_)
              | fail)
            go_ret
            exact ⟨_, rfl, H3.out.1, H3.out.2⟩
        · clear hnil
          by_cases hc0 : c = 0
          · subst hc0
            have HA1 : Hid (∀ W g, OwnR w9.heap.size W (.slice (some ⟨g, 0, none⟩) 0 0) [] → Lows w9 W → ∃ v1 w1, (Builtin.append_ #[38, 38] 38 #[.slice (some ⟨g, 0, none⟩) 0 0, .slice (some a) 0 0]).run Try.prog W = .ok v1 w1 ∧ (OwnR w9.heap.size w1 v1 (l.take 0) ∧ Lows w9 w1 ∧ ∀ k vs, k ≠ g → Blk W k 33 vs → Blk w1 k 33 vs)) := Lib.hid fun W g ho hW => by
              have hI := PW.out.below (low_trans3 HL9.out hW)
              have hY : Items W (.slice (some a) 0 0) (l.take 0) := by rw [List.take_zero]; exact Recs.void _ _ _ _ (fun h => by cases h)
              obtain ⟨v1, w1, h1, h2, h3, h4⟩ := append_Rs ho hY (by first | (simp; done) | (simp; omega)) hW.size
              refine ⟨v1, w1, h1, by simpa using h2, hW.trans h3, fun k vs hk hb => blk_of hb (h4 k hb.lt (by simp [Value.ownBlock]; exact hk))⟩
            have HA2 : Hid (∀ W u g, OwnR w9.heap.size W u (l.take 0) → Blk W g 33 [.int .i64 x.k, .bool x.e.a.v6, .int .u64 x.e.a.hi, .int .u64 x.e.a.lo, .int .i64 x.e.n] → Lows w9 W → ∃ v1 w1, (Builtin.append_ #[38, 38] 38 #[u, .slice (some ⟨g, 0, none⟩) 1 1]).run Try.prog W = .ok v1 w1 ∧ (OwnR w9.heap.size w1 v1 (l.take 0 ++ [x]) ∧ Lows w9 w1)) := Lib.hid fun W u g ho hb hW => by
              have hP : Items W (.slice (some ⟨g, 0, none⟩) 1 1) [x] := Blk.reads (m := 1) encI_len hb (by rfl) rfl (Nat.le_refl _)
              obtain ⟨v1, w1, h1, h2, h3, _⟩ := append_Rs ho hP (by first | (simp; done) | (simp; omega)) hW.size
              exact ⟨v1, w1, h1, h2, hW.trans h3⟩
            have HA3 : Hid (∀ W u, OwnR w9.heap.size W u (l.take 0 ++ [x]) → Lows w9 W → ∃ v1 w1, (Builtin.append_ #[38, 38] 38 #[u, .slice (some a) 0 0]).run Try.prog W = .ok v1 w1 ∧ Items w1 v1 (putX l x) ∧ Below w.heap.size w w1) := Lib.hid fun W u ho hW => by
              have hI := PW.out.below (low_trans3 HL9.out hW)
              have hY : Items W (.slice (some a) 0 0) (l.drop 0) := by rw [hle.out]; exact Recs.void _ _ _ _ (fun h => by cases h)
              obtain ⟨v1, w1, h1, h2, h3, _⟩ := append_Rs ho hY (by first | (simp; done) | (simp; omega)) hW.size
              refine ⟨v1, w1, h1, ?_, low_trans3 HL9.out (hW.trans h3)⟩
              have := ownR_items h2
              unfold putX
              rw [HP0.out]
              simpa using this
            have b0 := HB9.out.cell (j := 0) rfl
            have b1 := HB9.out.cell (j := 1) rfl
            have b2 := HB9.out.cell (j := 2) rfl
            have b3 := HB9.out.cell (j := 3) rfl
            have b4 := HB9.out.cell (j := 4) rfl
            have hgB : w.heap.size < w9.heap.size := HB9.out.lt
            have hgD : ¬ w.heap.size = w9.heap.size := by omega
            have hgE : ¬ w.heap.size = w9.heap.size + 1 := by omega
            go_upto_region 5 with fail
            go_region_law (first
              | (refine step_append_ex rfl (.tmp 22) (.tmp 25) _ _ rfl rfl _ _ (by first | rfl | simp [Act.eval]) (by first | rfl | simp [Act.eval]) (HA1.out _ _ (by repeat (first | (with_reducible exact own_nil_at _ _ (by first | rfl | (simp; done)) (by first | exact Nat.le_refl _ | (simp; done) | (simp; omega))) | (with_reducible refine own_drew ?_) | (with_reducible refine own_alloc ?_ _))) (by repeat (first | (with_reducible exact Lows.self _) | (with_reducible assumption) | (with_reducible refine Lows.drew ?_) | (with_reducible refine Lows.alloc ?_ _)))) ?_; rintro v1 w2 ⟨ho1, hl1, hk1⟩
                 have OBa := HB9.out.on hl1
                 have b0 := OBa.cell (j := 0) rfl
                 have b1 := OBa.cell (j := 1) rfl
                 have b2 := OBa.cell (j := 2) rfl
                 have b3 := OBa.cell (j := 3) rfl
                 have b4 := OBa.cell (j := 4) rfl
                 clear OBa)
              | (refine step_append_ex rfl (.tmp 26) (.tmp 28) _ _ rfl rfl _ _ (by first | rfl | simp [Act.eval]) (by first | rfl | simp [Act.eval]) (HA2.out _ v1 _ (by repeat (first | (with_reducible exact ho1) | (with_reducible refine own_drew ?_) | (with_reducible refine own_alloc ?_ _))) (by repeat (first | (with_reducible exact blk_new_at _ _ (by first | rfl | (simp; done)) rfl) | (with_reducible refine hk1 _ _ (by first | (simp; done) | (simp; omega)) ?_) | (with_reducible refine Blk.drew ?_) | (with_reducible refine Blk.alloc ?_ _))) (by repeat (first | (with_reducible exact Lows.self _) | (with_reducible assumption) | (with_reducible refine Lows.drew ?_) | (with_reducible refine Lows.alloc ?_ _)))) ?_; rintro v2 w3 ⟨ho2, hl2⟩))
            all_goals
              obtain ⟨v3, w4, hr3, hi3, hb3⟩ := HA3.out _ _ ho2 hl2
              have R3 := Lib.hid hr3
              have H3 := Lib.hid (And.intro hi3 hb3)
              clear HA1 HA2 HA3 ho2 hl2 ho1 hl1 hk1 hr3 hi3 hb3 b0 b1 b2 b3 b4
              go_wp2_with (first
                | (at_builtin; refine wpList_append_run rfl (.tmp 30) (.tmp 33) _ _ rfl rfl _ _ _ _ rfl rfl R3.out ?_)
                | fail)
              go_ret
              exact ⟨_, rfl, H3.out.1, H3.out.2⟩
          · have hcz : (0 : Int) ≤ (c : Int) := by omega
            have HA1 : Hid (∀ W g, OwnR w9.heap.size W (.slice (some ⟨g, 0, none⟩) 0 0) [] → Lows w9 W → ∃ v1 w1, (Builtin.append_ #[38, 38] 38 #[.slice (some ⟨g, 0, none⟩) 0 0, .slice (some a) 0 c]).run Try.prog W = .ok v1 w1 ∧ (OwnR w9.heap.size w1 v1 (l.take 0) ∧ Lows w9 w1 ∧ ∀ k vs, k ≠ g → Blk W k 33 vs → Blk w1 k 33 vs)) := Lib.hid fun W g ho hW => by
              have hI := PW.out.below (low_trans3 HL9.out hW)
              have hY : Items W (.slice (some a) 0 c) (l.take 0) := by rw [List.take_zero]; exact Recs.void _ _ _ _ (fun h => by cases h)
              obtain ⟨v1, w1, h1, h2, h3, h4⟩ := append_Rs ho hY (by first | (simp; done) | (simp; omega)) hW.size
              refine ⟨v1, w1, h1, by simpa using h2, hW.trans h3, fun k vs hk hb => blk_of hb (h4 k hb.lt (by simp [Value.ownBlock]; exact hk))⟩
            have HA2 : Hid (∀ W u g, OwnR w9.heap.size W u (l.take 0) → Blk W g 33 [.int .i64 x.k, .bool x.e.a.v6, .int .u64 x.e.a.hi, .int .u64 x.e.a.lo, .int .i64 x.e.n] → Lows w9 W → ∃ v1 w1, (Builtin.append_ #[38, 38] 38 #[u, .slice (some ⟨g, 0, none⟩) 1 1]).run Try.prog W = .ok v1 w1 ∧ (OwnR w9.heap.size w1 v1 (l.take 0 ++ [x]) ∧ Lows w9 w1)) := Lib.hid fun W u g ho hb hW => by
              have hP : Items W (.slice (some ⟨g, 0, none⟩) 1 1) [x] := Blk.reads (m := 1) encI_len hb (by rfl) rfl (Nat.le_refl _)
              obtain ⟨v1, w1, h1, h2, h3, _⟩ := append_Rs ho hP (by first | (simp; done) | (simp; omega)) hW.size
              exact ⟨v1, w1, h1, h2, hW.trans h3⟩
            have HA3 : Hid (∀ W u, OwnR w9.heap.size W u (l.take 0 ++ [x]) → Lows w9 W → ∃ v1 w1, (Builtin.append_ #[38, 38] 38 #[u, .slice (some a) 0 c]).run Try.prog W = .ok v1 w1 ∧ Items w1 v1 (putX l x) ∧ Below w.heap.size w w1) := Lib.hid fun W u ho hW => by
              have hI := PW.out.below (low_trans3 HL9.out hW)
              have hY : Items W (.slice (some a) 0 c) (l.drop 0) := by rw [hle.out]; exact Recs.void _ _ _ _ (fun h => by cases h)
              obtain ⟨v1, w1, h1, h2, h3, _⟩ := append_Rs ho hY (by first | (simp; done) | (simp; omega)) hW.size
              refine ⟨v1, w1, h1, ?_, low_trans3 HL9.out (hW.trans h3)⟩
              have := ownR_items h2
              unfold putX
              rw [HP0.out]
              simpa using this
            have b0 := HB9.out.cell (j := 0) rfl
            have b1 := HB9.out.cell (j := 1) rfl
            have b2 := HB9.out.cell (j := 2) rfl
            have b3 := HB9.out.cell (j := 3) rfl
            have b4 := HB9.out.cell (j := 4) rfl
            have hgB : w.heap.size < w9.heap.size := HB9.out.lt
            have hgD : ¬ w.heap.size = w9.heap.size := by omega
            have hgE : ¬ w.heap.size = w9.heap.size + 1 := by omega
            go_upto_region 5 with fail
            go_region_law (first
              | (refine step_append_ex rfl (.tmp 22) (.tmp 25) _ _ rfl rfl _ _ (by first | rfl | simp [Act.eval]) (by first | rfl | simp [Act.eval]) (HA1.out _ _ (by repeat (first | (with_reducible exact own_nil_at _ _ (by first | rfl | (simp; done)) (by first | exact Nat.le_refl _ | (simp; done) | (simp; omega))) | (with_reducible refine own_drew ?_) | (with_reducible refine own_alloc ?_ _))) (by repeat (first | (with_reducible exact Lows.self _) | (with_reducible assumption) | (with_reducible refine Lows.drew ?_) | (with_reducible refine Lows.alloc ?_ _)))) ?_; rintro v1 w2 ⟨ho1, hl1, hk1⟩
                 have OBa := HB9.out.on hl1
                 have b0 := OBa.cell (j := 0) rfl
                 have b1 := OBa.cell (j := 1) rfl
                 have b2 := OBa.cell (j := 2) rfl
                 have b3 := OBa.cell (j := 3) rfl
                 have b4 := OBa.cell (j := 4) rfl
                 clear OBa)
              | (refine step_append_ex rfl (.tmp 26) (.tmp 28) _ _ rfl rfl _ _ (by first | rfl | simp [Act.eval]) (by first | rfl | simp [Act.eval]) (HA2.out _ v1 _ (by repeat (first | (with_reducible exact ho1) | (with_reducible refine own_drew ?_) | (with_reducible refine own_alloc ?_ _))) (by repeat (first | (with_reducible exact blk_new_at _ _ (by first | rfl | (simp; done)) rfl) | (with_reducible refine hk1 _ _ (by first | (simp; done) | (simp; omega)) ?_) | (with_reducible refine Blk.drew ?_) | (with_reducible refine Blk.alloc ?_ _))) (by repeat (first | (with_reducible exact Lows.self _) | (with_reducible assumption) | (with_reducible refine Lows.drew ?_) | (with_reducible refine Lows.alloc ?_ _)))) ?_; rintro v2 w3 ⟨ho2, hl2⟩))
            all_goals
              obtain ⟨v3, w4, hr3, hi3, hb3⟩ := HA3.out _ _ ho2 hl2
              have R3 := Lib.hid hr3
              have H3 := Lib.hid (And.intro hi3 hb3)
              clear HA1 HA2 HA3 ho2 hl2 ho1 hl1 hk1 hr3 hi3 hb3 b0 b1 b2 b3 b4
              go_wp2_with (first
                | (at_builtin; refine wpList_append_run rfl (.tmp 30) (.tmp 33) _ _ rfl rfl _ _ _ _ rfl rfl R3.out ?_)
                | fail)
              go_ret
              exact ⟨_, rfl, H3.out.1, H3.out.2⟩
      · obtain ⟨bb, o, rfl, _, _⟩ := HC.out (by omega)
        have hi9 : (0 : Int) ≤ (l.length : Int) := by omega
        clear hnil HC
        by_cases hci : c = l.length
        · subst hci
          clear hc
          have HA1 : Hid (∀ W g, OwnR w9.heap.size W (.slice (some ⟨g, 0, none⟩) 0 0) [] → Lows w9 W → ∃ v1 w1, (Builtin.append_ #[38, 38] 38 #[.slice (some ⟨g, 0, none⟩) 0 0, .slice (some ⟨bb, o, none⟩) l.length l.length]).run Try.prog W = .ok v1 w1 ∧ (OwnR w9.heap.size w1 v1 (l.take l.length) ∧ Lows w9 w1 ∧ ∀ k vs, k ≠ g → Blk W k 33 vs → Blk w1 k 33 vs)) := Lib.hid fun W g ho hW => by
            have hI := PW.out.below (low_trans3 HL9.out hW)
            have hY : Items W (.slice (some ⟨bb, o, none⟩) l.length l.length) (l.take l.length) := hI.part (i := l.length) (by omega)
            obtain ⟨v1, w1, h1, h2, h3, h4⟩ := append_Rs ho hY (by first | (simp; done) | (simp; omega)) hW.size
            refine ⟨v1, w1, h1, by simpa using h2, hW.trans h3, fun k vs hk hb => blk_of hb (h4 k hb.lt (by simp [Value.ownBlock]; exact hk))⟩
          have HA2 : Hid (∀ W u g, OwnR w9.heap.size W u (l.take l.length) → Blk W g 33 [.int .i64 x.k, .bool x.e.a.v6, .int .u64 x.e.a.hi, .int .u64 x.e.a.lo, .int .i64 x.e.n] → Lows w9 W → ∃ v1 w1, (Builtin.append_ #[38, 38] 38 #[u, .slice (some ⟨g, 0, none⟩) 1 1]).run Try.prog W = .ok v1 w1 ∧ (OwnR w9.heap.size w1 v1 (l.take l.length ++ [x]) ∧ Lows w9 w1)) := Lib.hid fun W u g ho hb hW => by
            have hP : Items W (.slice (some ⟨g, 0, none⟩) 1 1) [x] := Blk.reads (m := 1) encI_len hb (by rfl) rfl (Nat.le_refl _)
            obtain ⟨v1, w1, h1, h2, h3, _⟩ := append_Rs ho hP (by first | (simp; done) | (simp; omega)) hW.size
            exact ⟨v1, w1, h1, h2, hW.trans h3⟩
          have HA3 : Hid (∀ W u, OwnR w9.heap.size W u (l.take l.length ++ [x]) → Lows w9 W → ∃ v1 w1, (Builtin.append_ #[38, 38] 38 #[u, .slice (some ⟨bb, o, none⟩) 0 0]).run Try.prog W = .ok v1 w1 ∧ Items w1 v1 (putX l x) ∧ Below w.heap.size w w1) := Lib.hid fun W u ho hW => by
            have hI := PW.out.below (low_trans3 HL9.out hW)
            have hY : Items W (.slice (some ⟨bb, o, none⟩) 0 0) (l.drop l.length) := by rw [List.drop_length]; exact Recs.void _ _ _ _ (fun h => by cases h)
            obtain ⟨v1, w1, h1, h2, h3, _⟩ := append_Rs ho hY (by first | (simp; done) | (simp; omega)) hW.size
            refine ⟨v1, w1, h1, ?_, low_trans3 HL9.out (hW.trans h3)⟩
            have := ownR_items h2
            unfold putX
            rw [HPE.out]
            simpa using this
          have b0 := HB9.out.cell (j := 0) rfl
          have b1 := HB9.out.cell (j := 1) rfl
          have b2 := HB9.out.cell (j := 2) rfl
          have b3 := HB9.out.cell (j := 3) rfl
          have b4 := HB9.out.cell (j := 4) rfl
          have hgB : w.heap.size < w9.heap.size := HB9.out.lt
          have hgD : ¬ w.heap.size = w9.heap.size := by omega
          have hgE : ¬ w.heap.size = w9.heap.size + 1 := by omega
          go_upto_region 5 with fail
          go_region_law (first
            | (refine step_append_ex rfl (.tmp 22) (.tmp 25) _ _ rfl rfl _ _ (by first | rfl | simp [Act.eval]) (by first | rfl | simp [Act.eval]) (HA1.out _ _ (by repeat (first | (with_reducible exact own_nil_at _ _ (by first | rfl | (simp; done)) (by first | exact Nat.le_refl _ | (simp; done) | (simp; omega))) | (with_reducible refine own_drew ?_) | (with_reducible refine own_alloc ?_ _))) (by repeat (first | (with_reducible exact Lows.self _) | (with_reducible assumption) | (with_reducible refine Lows.drew ?_) | (with_reducible refine Lows.alloc ?_ _)))) ?_; rintro v1 w2 ⟨ho1, hl1, hk1⟩
               have OBa := HB9.out.on hl1
               have b0 := OBa.cell (j := 0) rfl
               have b1 := OBa.cell (j := 1) rfl
               have b2 := OBa.cell (j := 2) rfl
               have b3 := OBa.cell (j := 3) rfl
               have b4 := OBa.cell (j := 4) rfl
               clear OBa)
            | (refine step_append_ex rfl (.tmp 26) (.tmp 28) _ _ rfl rfl _ _ (by first | rfl | simp [Act.eval]) (by first | rfl | simp [Act.eval]) (HA2.out _ v1 _ (by repeat (first | (with_reducible exact ho1) | (with_reducible refine own_drew ?_) | (with_reducible refine own_alloc ?_ _))) (by repeat (first | (with_reducible exact blk_new_at _ _ (by first | rfl | (simp; done)) rfl) | (with_reducible refine hk1 _ _ (by first | (simp; done) | (simp; omega)) ?_) | (with_reducible refine Blk.drew ?_) | (with_reducible refine Blk.alloc ?_ _))) (by repeat (first | (with_reducible exact Lows.self _) | (with_reducible assumption) | (with_reducible refine Lows.drew ?_) | (with_reducible refine Lows.alloc ?_ _)))) ?_; rintro v2 w3 ⟨ho2, hl2⟩))
          all_goals
            obtain ⟨v3, w4, hr3, hi3, hb3⟩ := HA3.out _ _ ho2 hl2
            have R3 := Lib.hid hr3
            have H3 := Lib.hid (And.intro hi3 hb3)
            clear HA1 HA2 HA3 ho2 hl2 ho1 hl1 hk1 hr3 hi3 hb3 b0 b1 b2 b3 b4
            go_wp2_with (first
              | (at_builtin; refine wpList_append_run rfl (.tmp 30) (.tmp 33) _ _ rfl rfl _ _ _ _ rfl rfl R3.out ?_)
              | fail)
            go_ret
            exact ⟨_, rfl, H3.out.1, H3.out.2⟩
        · have hcn : ¬ (c : Int) = (l.length : Int) := by omega
          have hic : (l.length : Int) ≤ (c : Int) := by omega
          have HA1 : Hid (∀ W g, OwnR w9.heap.size W (.slice (some ⟨g, 0, none⟩) 0 0) [] → Lows w9 W → ∃ v1 w1, (Builtin.append_ #[38, 38] 38 #[.slice (some ⟨g, 0, none⟩) 0 0, .slice (some ⟨bb, o, none⟩) l.length c]).run Try.prog W = .ok v1 w1 ∧ (OwnR w9.heap.size w1 v1 (l.take l.length) ∧ Lows w9 w1 ∧ ∀ k vs, k ≠ g → Blk W k 33 vs → Blk w1 k 33 vs)) := Lib.hid fun W g ho hW => by
            have hI := PW.out.below (low_trans3 HL9.out hW)
            have hY : Items W (.slice (some ⟨bb, o, none⟩) l.length c) (l.take l.length) := hI.part (i := l.length) (by omega)
            obtain ⟨v1, w1, h1, h2, h3, h4⟩ := append_Rs ho hY (by first | (simp; done) | (simp; omega)) hW.size
            refine ⟨v1, w1, h1, by simpa using h2, hW.trans h3, fun k vs hk hb => blk_of hb (h4 k hb.lt (by simp [Value.ownBlock]; exact hk))⟩
          have HA2 : Hid (∀ W u g, OwnR w9.heap.size W u (l.take l.length) → Blk W g 33 [.int .i64 x.k, .bool x.e.a.v6, .int .u64 x.e.a.hi, .int .u64 x.e.a.lo, .int .i64 x.e.n] → Lows w9 W → ∃ v1 w1, (Builtin.append_ #[38, 38] 38 #[u, .slice (some ⟨g, 0, none⟩) 1 1]).run Try.prog W = .ok v1 w1 ∧ (OwnR w9.heap.size w1 v1 (l.take l.length ++ [x]) ∧ Lows w9 w1)) := Lib.hid fun W u g ho hb hW => by
            have hP : Items W (.slice (some ⟨g, 0, none⟩) 1 1) [x] := Blk.reads (m := 1) encI_len hb (by rfl) rfl (Nat.le_refl _)
            obtain ⟨v1, w1, h1, h2, h3, _⟩ := append_Rs ho hP (by first | (simp; done) | (simp; omega)) hW.size
            exact ⟨v1, w1, h1, h2, hW.trans h3⟩
          have HA3 : Hid (∀ W u, OwnR w9.heap.size W u (l.take l.length ++ [x]) → Lows w9 W → ∃ v1 w1, (Builtin.append_ #[38, 38] 38 #[u, .slice (some ⟨bb, o + l.length * 5, none⟩) 0 (c - l.length)]).run Try.prog W = .ok v1 w1 ∧ Items w1 v1 (putX l x) ∧ Below w.heap.size w w1) := Lib.hid fun W u ho hW => by
            have hI := PW.out.below (low_trans3 HL9.out hW)
            have hY : Items W (.slice (some ⟨bb, o + l.length * 5, none⟩) 0 (c - l.length)) (l.drop l.length) := by rw [List.drop_length]; exact Recs.void _ _ _ _ (fun h => by cases h)
            obtain ⟨v1, w1, h1, h2, h3, _⟩ := append_Rs ho hY (by first | (simp; done) | (simp; omega)) hW.size
            refine ⟨v1, w1, h1, ?_, low_trans3 HL9.out (hW.trans h3)⟩
            have := ownR_items h2
            unfold putX
            rw [HPE.out]
            simpa using this
          have b0 := HB9.out.cell (j := 0) rfl
          have b1 := HB9.out.cell (j := 1) rfl
          have b2 := HB9.out.cell (j := 2) rfl
          have b3 := HB9.out.cell (j := 3) rfl
          have b4 := HB9.out.cell (j := 4) rfl
          have hgB : w.heap.size < w9.heap.size := HB9.out.lt
          have hgD : ¬ w.heap.size = w9.heap.size := by omega
          have hgE : ¬ w.heap.size = w9.heap.size + 1 := by omega
          go_upto_region 5 with fail
          go_region_law (first
            | (refine step_append_ex rfl (.tmp 22) (.tmp 25) _ _ rfl rfl _ _ (by first | rfl | simp [Act.eval]) (by first | rfl | simp [Act.eval]) (HA1.out _ _ (by repeat (first | (with_reducible exact own_nil_at _ _ (by first | rfl | (simp; done)) (by first | exact Nat.le_refl _ | (simp; done) | (simp; omega))) | (with_reducible refine own_drew ?_) | (with_reducible refine own_alloc ?_ _))) (by repeat (first | (with_reducible exact Lows.self _) | (with_reducible assumption) | (with_reducible refine Lows.drew ?_) | (with_reducible refine Lows.alloc ?_ _)))) ?_; rintro v1 w2 ⟨ho1, hl1, hk1⟩
               have OBa := HB9.out.on hl1
               have b0 := OBa.cell (j := 0) rfl
               have b1 := OBa.cell (j := 1) rfl
               have b2 := OBa.cell (j := 2) rfl
               have b3 := OBa.cell (j := 3) rfl
               have b4 := OBa.cell (j := 4) rfl
               clear OBa)
            | (refine step_append_ex rfl (.tmp 26) (.tmp 28) _ _ rfl rfl _ _ (by first | rfl | simp [Act.eval]) (by first | rfl | simp [Act.eval]) (HA2.out _ v1 _ (by repeat (first | (with_reducible exact ho1) | (with_reducible refine own_drew ?_) | (with_reducible refine own_alloc ?_ _))) (by repeat (first | (with_reducible exact blk_new_at _ _ (by first | rfl | (simp; done)) rfl) | (with_reducible refine hk1 _ _ (by first | (simp; done) | (simp; omega)) ?_) | (with_reducible refine Blk.drew ?_) | (with_reducible refine Blk.alloc ?_ _))) (by repeat (first | (with_reducible exact Lows.self _) | (with_reducible assumption) | (with_reducible refine Lows.drew ?_) | (with_reducible refine Lows.alloc ?_ _)))) ?_; rintro v2 w3 ⟨ho2, hl2⟩))
          all_goals
            obtain ⟨v3, w4, hr3, hi3, hb3⟩ := HA3.out _ _ ho2 hl2
            have R3 := Lib.hid hr3
            have H3 := Lib.hid (And.intro hi3 hb3)
            clear HA1 HA2 HA3 ho2 hl2 ho1 hl1 hk1 hr3 hi3 hb3 b0 b1 b2 b3 b4
            go_wp2_with (first
              | (at_builtin; refine wpList_append_run rfl (.tmp 30) (.tmp 33) _ _ rfl rfl _ _ _ _ rfl rfl R3.out ?_)
              | fail)
            go_ret
            exact ⟨_, rfl, H3.out.1, H3.out.2⟩
end Go.Proofs.Ytakldkolkdpcoaa.Hp
