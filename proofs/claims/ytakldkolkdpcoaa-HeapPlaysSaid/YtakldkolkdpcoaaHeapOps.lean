/- Package heap: rise, Right, Make. -/
import Derived.Test.YtakldkolkdpcoaaHeapLow
namespace Go.Proofs.Ytakldkolkdpcoaa.Hp
set_option maxRecDepth 100000
open Go.ChangeShapes Go.WideShapes Go.ChangeAt Go.RowKit
open Dec Words V4 V6 Ad Ci En Go.Deep
set_option linter.unusedVariables false
section
variable {g n : Nat} {tail : List Value} {f : Nat → It} {w : World}
set_option maxHeartbeats 8000000 in
theorem rise_any (h : Rw g n tail f w) {i c : Nat} (hn : n ≤ 1000000) (hi : i < n) :
    Calls Try.prog 26 #[.slice (some ⟨g, 0, none⟩) n c, .int .i64 i] w fun e w' => e = .returned (.tuple #[]) ∧ Rw g n tail (riseF i f i) w' ∧ Bt g w w' := by
  obtain ⟨T, hT⟩ : ∃ T, T = riseF i f i := ⟨_, rfl⟩
  rw [← hT]
  have HR := Lib.hid h
  have HI := Lib.hid hi
  have HT := Lib.hid hT
  clear h hi hT
  go_enter Try.func26, Try.ntmps26
  go_wp2_with fail
  go_loopw [1] (fun vi wr => ∃ (k : Nat) (F : Nat → It), vi = .int .i64 k ∧ k < n ∧ Hid (∃ q, k ≤ q ∧ T = riseF q F k) ∧ Hid (Rw g n tail F wr) ∧ Hid (Bt g w wr)) (fun vi _ => (intOf vi).toNat)
  case atStart => exact ⟨i, f, rfl, HI.out, Lib.hid ⟨i, by omega, HT.out⟩, HR, Lib.hid (Bt.refl _ _)⟩
  case round =>
    obtain ⟨k, F, rfl, hk, HS, HK, HB⟩ := hrel
    clear HR
    by_cases k0 : 0 < k
    · have k0z : (0 : Int) < (k : Int) := by omega
      obtain ⟨p, hp⟩ : ∃ p, p = (k - 1) / 2 := ⟨_, rfl⟩
      have CA := lows_same (W0 := wr) (Lib.hid (fun X => above_any k p X k0 (by omega) hp))
      have KA := Lib.hid (fun X => above_any k p X k0 (by omega) hp)
      have hpk : p < k := by omega
      have HPP := Lib.hid hp
      clear hp
      have hnk : k < n := by omega
      have hzk : (k : Int) < (n : Int) := by omega
      have hbk : (k : Int) ≤ 9223372036854775807 := by omega
      have hnp : p < n := by omega
      have hzp : (p : Int) < (n : Int) := by omega
      have hbp : (p : Int) ≤ 9223372036854775807 := by omega
      cases hlo : ltH (F k) (F p) with
      | true =>
        have HS2 : Hid (∃ q, p ≤ q ∧ T = riseF q (sw k p F) p) := Lib.hid (by
          obtain ⟨q, hq, h⟩ := HS.out
          obtain ⟨q, rfl⟩ : ∃ q', q = q' + 1 := ⟨q - 1, by omega⟩
          refine ⟨q, by omega, ?_⟩
          rw [h, riseF, ← HPP.out, if_pos ⟨k0, hlo⟩])
        clear HS
        obtain ⟨x, hx⟩ : ∃ x, x = F k := ⟨_, rfl⟩
        obtain ⟨y, hy⟩ : ∃ x, x = F p := ⟨_, rfl⟩
        have C := lows_call (W0 := wr) (Lib.hid (fun X => ahead_any x y X (by rw [hx]; exact HK.out.good _ hnk) (by rw [hy]; exact HK.out.good _ hnp)))
        have hne : Nonempty (Cls (Lows wr)) := ⟨⟨_, Lows.self _⟩⟩
        have x0 : ∀ nq : Cls (Lows wr), nq.w.cell? ⟨g, k * 5, none⟩ = some (.int .i64 x.k) := fun nq => by rw [hx]; exact (HK.out.on nq.h).at hnk (j := 0) rfl
        have x1 : ∀ nq : Cls (Lows wr), nq.w.cell? ⟨g, k * 5 + 1, none⟩ = some (.bool x.e.a.v6) := fun nq => by rw [hx]; exact (HK.out.on nq.h).at hnk (j := 1) rfl
        have x2 : ∀ nq : Cls (Lows wr), nq.w.cell? ⟨g, k * 5 + 2, none⟩ = some (.int .u64 x.e.a.hi) := fun nq => by rw [hx]; exact (HK.out.on nq.h).at hnk (j := 2) rfl
        have x3 : ∀ nq : Cls (Lows wr), nq.w.cell? ⟨g, k * 5 + 3, none⟩ = some (.int .u64 x.e.a.lo) := fun nq => by rw [hx]; exact (HK.out.on nq.h).at hnk (j := 3) rfl
        have x4 : ∀ nq : Cls (Lows wr), nq.w.cell? ⟨g, k * 5 + 4, none⟩ = some (.int .i64 x.e.n) := fun nq => by rw [hx]; exact (HK.out.on nq.h).at hnk (j := 4) rfl
        have y0 : ∀ nq : Cls (Lows wr), nq.w.cell? ⟨g, p * 5, none⟩ = some (.int .i64 y.k) := fun nq => by rw [hy]; exact (HK.out.on nq.h).at hnp (j := 0) rfl
        have y1 : ∀ nq : Cls (Lows wr), nq.w.cell? ⟨g, p * 5 + 1, none⟩ = some (.bool y.e.a.v6) := fun nq => by rw [hy]; exact (HK.out.on nq.h).at hnp (j := 1) rfl
        have y2 : ∀ nq : Cls (Lows wr), nq.w.cell? ⟨g, p * 5 + 2, none⟩ = some (.int .u64 y.e.a.hi) := fun nq => by rw [hy]; exact (HK.out.on nq.h).at hnp (j := 2) rfl
        have y3 : ∀ nq : Cls (Lows wr), nq.w.cell? ⟨g, p * 5 + 3, none⟩ = some (.int .u64 y.e.a.lo) := fun nq => by rw [hy]; exact (HK.out.on nq.h).at hnp (j := 3) rfl
        have y4 : ∀ nq : Cls (Lows wr), nq.w.cell? ⟨g, p * 5 + 4, none⟩ = some (.int .i64 y.e.n) := fun nq => by rw [hy]; exact (HK.out.on nq.h).at hnp (j := 4) rfl
        have Hx := Lib.hid hx
        have Hy := Lib.hid hy
        rw [← hx, ← hy] at hlo
        rw [hlo] at C
        clear hlo hx hy
        go_wp2_with fail
        refine Cls.region (Lows wr) (by kernel_rfl) (by kernel_rfl) (low_drewN (Below.refl _ _) 1) ?_
        (try dsimp only [List.append])
        repeat (go_big_quiet_step (first | fail | (with_reducible exact Cls.call (C.out _ (Cls.h _))) | (with_reducible exact Cls.call (CA.out _ (Cls.h _)))))
        refine wpQuiet_nil ?_
        intro n9
        have hk9 := n9.h
        generalize n9.w = w9 at hk9 ⊢
        clear hne n9 C CA x0 x1 x2 x3 x4 y0 y1 y2 y3 y4 
        have HK2 := Lib.hid (HK.out.on hk9)
        have HB2 := Lib.hid (HB.out.trans (Bt.of hk9))
        clear HK HB hk9
        obtain rfl := Hx.out
        obtain rfl := Hy.out
        clear Hx Hy
        obtain ⟨x, hx⟩ : ∃ x, x = F k := ⟨_, rfl⟩
        have x0 := HK2.out.at (i := k) hnk (j := 0) rfl
        have x1 := HK2.out.at (i := k) hnk (j := 1) rfl
        have x2 := HK2.out.at (i := k) hnk (j := 2) rfl
        have x3 := HK2.out.at (i := k) hnk (j := 3) rfl
        have x4 := HK2.out.at (i := k) hnk (j := 4) rfl
        rw [Nat.add_zero] at x0
        have xf0 := HK2.out.free (k * 5)
        have xf1 := HK2.out.free (k * 5 + 1)
        have xf2 := HK2.out.free (k * 5 + 2)
        have xf3 := HK2.out.free (k * 5 + 3)
        have xf4 := HK2.out.free (k * 5 + 4)
        rw [← hx] at x0 x1 x2 x3 x4
        have Hx := Lib.hid hx
        clear hx
        obtain ⟨y, hy⟩ : ∃ x, x = F p := ⟨_, rfl⟩
        have y0 := HK2.out.at (i := p) hnp (j := 0) rfl
        have y1 := HK2.out.at (i := p) hnp (j := 1) rfl
        have y2 := HK2.out.at (i := p) hnp (j := 2) rfl
        have y3 := HK2.out.at (i := p) hnp (j := 3) rfl
        have y4 := HK2.out.at (i := p) hnp (j := 4) rfl
        rw [Nat.add_zero] at y0
        have yf0 := HK2.out.free (p * 5)
        have yf1 := HK2.out.free (p * 5 + 1)
        have yf2 := HK2.out.free (p * 5 + 2)
        have yf3 := HK2.out.free (p * 5 + 3)
        have yf4 := HK2.out.free (p * 5 + 4)
        rw [← hy] at y0 y1 y2 y3 y4
        have Hy := Lib.hid hy
        clear hy
        go_wp2_with fail
        first
          | (go_region_with (first
              | (go_at_call 19; (with_reducible refine (KA.out _).mono ?_); rintro e w8 ⟨rfl, rfl⟩)))
          | fail
        all_goals
          clear x0 x1 x2 x3 x4 xf0 xf1 xf2 xf3 xf4 y0 y1 y2 y3 y4 yf0 yf1 yf2 yf3 yf4
          go_wp2_with fail
          (with_reducible refine (KA.out _).mono ?_); rintro e w8 ⟨rfl, rfl⟩
          go_wp2_with fail
          obtain rfl := Hx.out
          obtain rfl := Hy.out
          go_roundw
          case rel => exact ⟨p, sw k p F, rfl, hnp, HS2, Lib.hid (HK2.out.swap hnk hnp).1.drew, Lib.hid ((HB2.out.trans (HK2.out.swap hnk hnp).2).drewN 1)⟩
          case measure => simp [intOf]; omega
      | false =>
        have E : Hid (T = F) := Lib.hid (by
          obtain ⟨q, hq, h⟩ := HS.out
          obtain ⟨q, rfl⟩ : ∃ q', q = q' + 1 := ⟨q - 1, by omega⟩
          rw [h, riseF, ← HPP.out, if_neg (fun h => by rw [hlo] at h; exact absurd h.2 (by simp))])
        clear HS
        obtain ⟨x, hx⟩ : ∃ x, x = F k := ⟨_, rfl⟩
        obtain ⟨y, hy⟩ : ∃ x, x = F p := ⟨_, rfl⟩
        have C := lows_call (W0 := wr) (Lib.hid (fun X => ahead_any x y X (by rw [hx]; exact HK.out.good _ hnk) (by rw [hy]; exact HK.out.good _ hnp)))
        have hne : Nonempty (Cls (Lows wr)) := ⟨⟨_, Lows.self _⟩⟩
        have x0 : ∀ nq : Cls (Lows wr), nq.w.cell? ⟨g, k * 5, none⟩ = some (.int .i64 x.k) := fun nq => by rw [hx]; exact (HK.out.on nq.h).at hnk (j := 0) rfl
        have x1 : ∀ nq : Cls (Lows wr), nq.w.cell? ⟨g, k * 5 + 1, none⟩ = some (.bool x.e.a.v6) := fun nq => by rw [hx]; exact (HK.out.on nq.h).at hnk (j := 1) rfl
        have x2 : ∀ nq : Cls (Lows wr), nq.w.cell? ⟨g, k * 5 + 2, none⟩ = some (.int .u64 x.e.a.hi) := fun nq => by rw [hx]; exact (HK.out.on nq.h).at hnk (j := 2) rfl
        have x3 : ∀ nq : Cls (Lows wr), nq.w.cell? ⟨g, k * 5 + 3, none⟩ = some (.int .u64 x.e.a.lo) := fun nq => by rw [hx]; exact (HK.out.on nq.h).at hnk (j := 3) rfl
        have x4 : ∀ nq : Cls (Lows wr), nq.w.cell? ⟨g, k * 5 + 4, none⟩ = some (.int .i64 x.e.n) := fun nq => by rw [hx]; exact (HK.out.on nq.h).at hnk (j := 4) rfl
        have y0 : ∀ nq : Cls (Lows wr), nq.w.cell? ⟨g, p * 5, none⟩ = some (.int .i64 y.k) := fun nq => by rw [hy]; exact (HK.out.on nq.h).at hnp (j := 0) rfl
        have y1 : ∀ nq : Cls (Lows wr), nq.w.cell? ⟨g, p * 5 + 1, none⟩ = some (.bool y.e.a.v6) := fun nq => by rw [hy]; exact (HK.out.on nq.h).at hnp (j := 1) rfl
        have y2 : ∀ nq : Cls (Lows wr), nq.w.cell? ⟨g, p * 5 + 2, none⟩ = some (.int .u64 y.e.a.hi) := fun nq => by rw [hy]; exact (HK.out.on nq.h).at hnp (j := 2) rfl
        have y3 : ∀ nq : Cls (Lows wr), nq.w.cell? ⟨g, p * 5 + 3, none⟩ = some (.int .u64 y.e.a.lo) := fun nq => by rw [hy]; exact (HK.out.on nq.h).at hnp (j := 3) rfl
        have y4 : ∀ nq : Cls (Lows wr), nq.w.cell? ⟨g, p * 5 + 4, none⟩ = some (.int .i64 y.e.n) := fun nq => by rw [hy]; exact (HK.out.on nq.h).at hnp (j := 4) rfl
        have Hx := Lib.hid hx
        have Hy := Lib.hid hy
        rw [← hx, ← hy] at hlo
        rw [hlo] at C
        clear hlo hx hy
        go_wp2_with fail
        refine Cls.region (Lows wr) (by kernel_rfl) (by kernel_rfl) (low_drewN (Below.refl _ _) 1) ?_
        (try dsimp only [List.append])
        repeat (go_big_quiet_step (first | fail | (with_reducible exact Cls.call (C.out _ (Cls.h _))) | (with_reducible exact Cls.call (CA.out _ (Cls.h _)))))
        refine wpQuiet_nil ?_
        intro n9
        have hk9 := n9.h
        generalize n9.w = w9 at hk9 ⊢
        clear hne n9 C CA x0 x1 x2 x3 x4 y0 y1 y2 y3 y4 
        go_wp2_with fail
        go_end0
        exact ⟨rfl, by rw [E.out]; exact HK.out.on hk9, HB.out.trans (Bt.of hk9)⟩
    · have k0z : ¬ (0 : Int) < (k : Int) := by omega
      have E : Hid (T = F) := Lib.hid (by
        obtain ⟨q, hq, h⟩ := HS.out
        rw [h]
        cases q with
        | zero => rfl
        | succ q => rw [riseF, if_neg (fun h => k0 h.1)])
      obtain rfl : k = 0 := by omega
      clear HS k0 k0z
      rw [show ((0 : Nat) : Int) = 0 from rfl]
      go_wp2_with fail
      have hne : Nonempty (Cls (Lows wr)) := ⟨⟨_, Lows.self _⟩⟩
      refine Cls.region (Lows wr) (by kernel_rfl) (by kernel_rfl) (low_drewN (Below.refl _ _) 1) ?_
      (try dsimp only [List.append])
      repeat (go_big_quiet_step (first | fail))
      refine wpQuiet_nil ?_
      intro n9
      have hk9 := n9.h
      generalize n9.w = w9 at hk9 ⊢
      clear hne n9
      go_wp2_with fail
      go_end0
      exact ⟨rfl, by rw [E.out]; exact HK.out.on hk9, HB.out.trans (Bt.of hk9)⟩
end
set_option maxHeartbeats 8000000 in
theorem right_any (v : Value) (l : List It) (w : World) (h : Items w v l) (hok : ∀ i, i < l.length → (fn l i).ok) (hl : l.length ≤ 1000000) :
    Calls Try.prog 6 #[v] w fun e w' => e = .returned (.bool (rightB l)) ∧ Below w.heap.size w w' := by
  obtain ⟨A, c, rfl, hc, _, hcell⟩ := h
  have HC := Lib.hid hcell
  have HOK := Lib.hid hok
  clear hcell hc hok
  go_enter Try.func6, Try.ntmps6
  go_wp2_with fail
  go_loopw [3] (fun vi wr => ∃ (i : Nat), vi = .int .i64 i ∧ 1 ≤ i ∧ i ≤ l.length + 1 ∧ Hid (∀ k, 0 < k → k < i → ltH (fn l k) (fn l ((k - 1) / 2)) = false) ∧ Hid (Below w.heap.size w wr)) (fun vi _ => l.length + 1 - (intOf vi).toNat)
  case atStart => exact ⟨1, rfl, by omega, by omega, Lib.hid (fun k h1 h2 => by omega), Lib.hid (Below.refl _ _)⟩
  case round =>
    obtain ⟨i, rfl, i1, hi, HS, HL⟩ := hrel
    by_cases hli : i < l.length
    · have hliz : (i : Int) < (l.length : Int) := by omega
      obtain ⟨bb, o, rfl, hb, hcc⟩ := HC.out (by omega)
      obtain ⟨p, hp⟩ : ∃ p, p = (i - 1) / 2 := ⟨_, rfl⟩
      have CA := lows_same (W0 := wr) (Lib.hid (fun X => above_any i p X i1 (by omega) hp))
      have hpi : p < i := by omega
      have HPP := Lib.hid hp
      clear hp
      have hni : i < l.length := by omega
      have hzi : (i : Int) < (l.length : Int) := by omega
      have hbi : (i : Int) ≤ 9223372036854775807 := by omega
      have hnp : p < l.length := by omega
      have hzp : (p : Int) < (l.length : Int) := by omega
      have hbp : (p : Int) ≤ 9223372036854775807 := by omega
      cases hlo : ltH (fn l i) (fn l p) with
      | true =>
        have E : Hid (rightB l = false) := Lib.hid (by
          cases h : rightB l with
          | false => rfl
          | true =>
            have := (right_iff l).1 h i i1 hli (Nat.zero_le _)
            rw [← HPP.out, hlo] at this
            exact absurd this (by simp))
        clear HS
        obtain ⟨x, hx⟩ : ∃ x, x = fn l i := ⟨_, rfl⟩
        obtain ⟨y, hy⟩ : ∃ x, x = fn l p := ⟨_, rfl⟩
        have C := lows_call (W0 := wr) (Lib.hid (fun X => ahead_any x y X (by rw [hx]; exact HOK.out _ hni) (by rw [hy]; exact HOK.out _ hnp)))
        have hne : Nonempty (Cls (Lows wr)) := ⟨⟨_, Lows.self _⟩⟩
        have x0 : ∀ nq : Cls (Lows wr), nq.w.cell? ⟨bb, o + i * 5, none⟩ = some (.int .i64 x.k) := fun nq => by rw [hx]; exact item_at (low_trans3 HL.out nq.h) hb hcc hni (j := 0) rfl
        have x1 : ∀ nq : Cls (Lows wr), nq.w.cell? ⟨bb, o + i * 5 + 1, none⟩ = some (.bool x.e.a.v6) := fun nq => by rw [hx]; exact item_at (low_trans3 HL.out nq.h) hb hcc hni (j := 1) rfl
        have x2 : ∀ nq : Cls (Lows wr), nq.w.cell? ⟨bb, o + i * 5 + 2, none⟩ = some (.int .u64 x.e.a.hi) := fun nq => by rw [hx]; exact item_at (low_trans3 HL.out nq.h) hb hcc hni (j := 2) rfl
        have x3 : ∀ nq : Cls (Lows wr), nq.w.cell? ⟨bb, o + i * 5 + 3, none⟩ = some (.int .u64 x.e.a.lo) := fun nq => by rw [hx]; exact item_at (low_trans3 HL.out nq.h) hb hcc hni (j := 3) rfl
        have x4 : ∀ nq : Cls (Lows wr), nq.w.cell? ⟨bb, o + i * 5 + 4, none⟩ = some (.int .i64 x.e.n) := fun nq => by rw [hx]; exact item_at (low_trans3 HL.out nq.h) hb hcc hni (j := 4) rfl
        have y0 : ∀ nq : Cls (Lows wr), nq.w.cell? ⟨bb, o + p * 5, none⟩ = some (.int .i64 y.k) := fun nq => by rw [hy]; exact item_at (low_trans3 HL.out nq.h) hb hcc hnp (j := 0) rfl
        have y1 : ∀ nq : Cls (Lows wr), nq.w.cell? ⟨bb, o + p * 5 + 1, none⟩ = some (.bool y.e.a.v6) := fun nq => by rw [hy]; exact item_at (low_trans3 HL.out nq.h) hb hcc hnp (j := 1) rfl
        have y2 : ∀ nq : Cls (Lows wr), nq.w.cell? ⟨bb, o + p * 5 + 2, none⟩ = some (.int .u64 y.e.a.hi) := fun nq => by rw [hy]; exact item_at (low_trans3 HL.out nq.h) hb hcc hnp (j := 2) rfl
        have y3 : ∀ nq : Cls (Lows wr), nq.w.cell? ⟨bb, o + p * 5 + 3, none⟩ = some (.int .u64 y.e.a.lo) := fun nq => by rw [hy]; exact item_at (low_trans3 HL.out nq.h) hb hcc hnp (j := 3) rfl
        have y4 : ∀ nq : Cls (Lows wr), nq.w.cell? ⟨bb, o + p * 5 + 4, none⟩ = some (.int .i64 y.e.n) := fun nq => by rw [hy]; exact item_at (low_trans3 HL.out nq.h) hb hcc hnp (j := 4) rfl
        have Hx := Lib.hid hx
        have Hy := Lib.hid hy
        rw [← hx, ← hy] at hlo
        rw [hlo] at C
        clear hlo hx hy hcc hb
        go_wp2_with fail
        refine Cls.region (Lows wr) (by kernel_rfl) (by kernel_rfl) (low_drewN (Below.refl _ _) 1) ?_
        (try dsimp only [List.append])
        repeat (go_big_quiet_step (first | fail | (with_reducible exact Cls.call (C.out _ (Cls.h _))) | (with_reducible exact Cls.call (CA.out _ (Cls.h _)))))
        refine wpQuiet_nil ?_
        intro n9
        have hk9 := n9.h
        generalize n9.w = w9 at hk9 ⊢
        clear hne n9 C CA x0 x1 x2 x3 x4 y0 y1 y2 y3 y4 
        go_wp2_with fail
        go_ret
        exact ⟨by rw [E.out]; rfl, low_trans3 HL.out hk9⟩
      | false =>
        have HS2 : Hid (∀ k, 0 < k → k < i + 1 → ltH (fn l k) (fn l ((k - 1) / 2)) = false) := Lib.hid (fun k h1 h2 => by
          by_cases h : k < i
          · exact HS.out k h1 h
          · obtain rfl : k = i := by omega
            rw [← HPP.out]; exact hlo)
        clear HS
        obtain ⟨x, hx⟩ : ∃ x, x = fn l i := ⟨_, rfl⟩
        obtain ⟨y, hy⟩ : ∃ x, x = fn l p := ⟨_, rfl⟩
        have C := lows_call (W0 := wr) (Lib.hid (fun X => ahead_any x y X (by rw [hx]; exact HOK.out _ hni) (by rw [hy]; exact HOK.out _ hnp)))
        have hne : Nonempty (Cls (Lows wr)) := ⟨⟨_, Lows.self _⟩⟩
        have x0 : ∀ nq : Cls (Lows wr), nq.w.cell? ⟨bb, o + i * 5, none⟩ = some (.int .i64 x.k) := fun nq => by rw [hx]; exact item_at (low_trans3 HL.out nq.h) hb hcc hni (j := 0) rfl
        have x1 : ∀ nq : Cls (Lows wr), nq.w.cell? ⟨bb, o + i * 5 + 1, none⟩ = some (.bool x.e.a.v6) := fun nq => by rw [hx]; exact item_at (low_trans3 HL.out nq.h) hb hcc hni (j := 1) rfl
        have x2 : ∀ nq : Cls (Lows wr), nq.w.cell? ⟨bb, o + i * 5 + 2, none⟩ = some (.int .u64 x.e.a.hi) := fun nq => by rw [hx]; exact item_at (low_trans3 HL.out nq.h) hb hcc hni (j := 2) rfl
        have x3 : ∀ nq : Cls (Lows wr), nq.w.cell? ⟨bb, o + i * 5 + 3, none⟩ = some (.int .u64 x.e.a.lo) := fun nq => by rw [hx]; exact item_at (low_trans3 HL.out nq.h) hb hcc hni (j := 3) rfl
        have x4 : ∀ nq : Cls (Lows wr), nq.w.cell? ⟨bb, o + i * 5 + 4, none⟩ = some (.int .i64 x.e.n) := fun nq => by rw [hx]; exact item_at (low_trans3 HL.out nq.h) hb hcc hni (j := 4) rfl
        have y0 : ∀ nq : Cls (Lows wr), nq.w.cell? ⟨bb, o + p * 5, none⟩ = some (.int .i64 y.k) := fun nq => by rw [hy]; exact item_at (low_trans3 HL.out nq.h) hb hcc hnp (j := 0) rfl
        have y1 : ∀ nq : Cls (Lows wr), nq.w.cell? ⟨bb, o + p * 5 + 1, none⟩ = some (.bool y.e.a.v6) := fun nq => by rw [hy]; exact item_at (low_trans3 HL.out nq.h) hb hcc hnp (j := 1) rfl
        have y2 : ∀ nq : Cls (Lows wr), nq.w.cell? ⟨bb, o + p * 5 + 2, none⟩ = some (.int .u64 y.e.a.hi) := fun nq => by rw [hy]; exact item_at (low_trans3 HL.out nq.h) hb hcc hnp (j := 2) rfl
        have y3 : ∀ nq : Cls (Lows wr), nq.w.cell? ⟨bb, o + p * 5 + 3, none⟩ = some (.int .u64 y.e.a.lo) := fun nq => by rw [hy]; exact item_at (low_trans3 HL.out nq.h) hb hcc hnp (j := 3) rfl
        have y4 : ∀ nq : Cls (Lows wr), nq.w.cell? ⟨bb, o + p * 5 + 4, none⟩ = some (.int .i64 y.e.n) := fun nq => by rw [hy]; exact item_at (low_trans3 HL.out nq.h) hb hcc hnp (j := 4) rfl
        have Hx := Lib.hid hx
        have Hy := Lib.hid hy
        rw [← hx, ← hy] at hlo
        rw [hlo] at C
        clear hlo hx hy hcc hb
        go_wp2_with fail
        refine Cls.region (Lows wr) (by kernel_rfl) (by kernel_rfl) (low_drewN (Below.refl _ _) 1) ?_
        (try dsimp only [List.append])
        repeat (go_big_quiet_step (first | fail | (with_reducible exact Cls.call (C.out _ (Cls.h _))) | (with_reducible exact Cls.call (CA.out _ (Cls.h _)))))
        refine wpQuiet_nil ?_
        intro n9
        have hk9 := n9.h
        generalize n9.w = w9 at hk9 ⊢
        clear hne n9 C CA x0 x1 x2 x3 x4 y0 y1 y2 y3 y4 
        go_wp2_with fail
        go_roundw
        case rel => exact ⟨i + 1, by go_num, by omega, by omega, HS2, Lib.hid (low_trans3 HL.out hk9)⟩
        case measure => simp [intOf]; omega
    · have hliz : ¬ (i : Int) < (l.length : Int) := by omega
      have E : Hid (rightB l = true) := Lib.hid ((right_iff l).2 (fun k h1 h2 _ => HS.out k h1 (by omega)))
      go_wp2_with fail
      go_ret
      exact ⟨by rw [E.out]; rfl, HL.out⟩
theorem own_rw2 {B m : Nat} {w : World} {v : Value} {l : List It} {f : Nat → It} (h : OwnI B w v l) (h0 : 0 < m) (hl : l = ls m f) (hok : ∀ i, i < m → (f i).ok) : ∃ g cap Z, v = .slice (some ⟨g, 0, none⟩) m cap ∧ B ≤ g ∧ m ≤ cap ∧ Rw g m Z f w := by
  have hm : l.length = m := by rw [hl, ls_length]
  obtain ⟨g, cap, Z, h1, h2, h3, h4⟩ := own_blk h (by omega)
  rw [hm] at h1 h3
  exact ⟨g, cap, Z, h1, h2, h3, by rw [← hl]; exact h4, hok⟩
set_option maxHeartbeats 8000000 in
theorem make_any (v : Value) (l : List It) (w : World) (h : Items w v l) (hok : ∀ i, i < l.length → (fn l i).ok) (hl : l.length ≤ 900000) :
    Calls Try.prog 15 #[v] w fun e w' => ∃ u, e = .returned u ∧ Items w' u (makeH l) ∧ Below w.heap.size w w' := by
  have KC := Lib.hid (clone_any v l w h hl)
  clear h
  go_enter Try.func15, Try.ntmps15
  go_wp2_with fail
  refine KC.out.mono ?_; rintro e w1 ⟨u, rfl, hO, hb⟩
  clear KC
  rcases Nat.eq_zero_or_pos l.length with h0 | h0
  · obtain rfl := List.eq_nil_of_length_eq_zero h0
    have hI : Items w1 u (makeH []) := ownI_items hO
    obtain ⟨_, ⟨rfl, _⟩ | ⟨g, cap, cur, rfl, _⟩⟩ := id hO
    all_goals
      have HO := Lib.hid hI
      have HL := Lib.hid hb
      clear hO hb hI
      go_wp2_with fail
      go_loopw [4] (fun vi wr => vi = .int .i64 (-1) ∧ Hid (wr = w1)) (fun vi _ => 0)
      case atStart => exact ⟨by go_num, Lib.hid rfl⟩
      case round =>
        obtain ⟨rfl, HW⟩ := hrel
        go_wp2_with fail
        go_ret
        exact ⟨_, rfl, by rw [HW.out]; exact HO.out, by rw [HW.out]; exact HL.out⟩
  · obtain ⟨g, cap, Z, rfl, hB, hcap, hrw⟩ := own_rw2 hO h0 (ls_of l).symm hok
    have HB := Lib.hid (show Below w.heap.size w w1 ∧ w.heap.size ≤ g from ⟨hb, hB⟩)
    obtain ⟨n, hn⟩ : ∃ n, n = l.length := ⟨_, rfl⟩
    obtain ⟨d, hd⟩ : ∃ d, d = n / 2 := ⟨_, rfl⟩
    have HM : Hid (makeH l = ls n (makeF d n (fn l))) := Lib.hid (by rw [hd, hn]; rfl)
    have HI : Hid (n ≤ cap) := Lib.hid (by rw [hn]; exact hcap)
    change Rw g l.length Z (fn l) w1 at hrw
    rw [← hn] at hrw h0 hl ⊢
    have HR := Lib.hid hrw
    have hd1 : ((n : Int)).tdiv 2 = (d : Int) := by rw [Int.tdiv_eq_ediv_of_nonneg (by omega)]; omega
    have hdn : d ≤ n := by omega
    have hw1 : IntKind.i64.wrap (d : Int) = (d : Int) := by rw [IntKind.wrap_i64]; omega
    obtain ⟨e0, he0⟩ : ∃ e : Int, e = (d : Int) - 1 := ⟨_, rfl⟩
    have hw2 : IntKind.i64.wrap ((d : Int) - 1) = e0 := by rw [IntKind.wrap_i64]; omega
    have HE := Lib.hid he0
    have HDN := Lib.hid hdn
    have KS := Lib.hid fun (F : Nat → It) W (k : Nat) (h : Rw g n Z F W) (hk : k < n) => sink_any (c := cap) h (by omega) hk
    clear hO hb hB hcap hrw hd he0 hn hok hdn
    go_wp2_with fail
    go_loopw [4] (fun vi wr => ∃ (j : Nat) (e : Int) (F : Nat → It), vi = .int .i64 e ∧ Hid (e = (j : Int) - 1) ∧ Hid (j ≤ n ∧ makeF j n F = makeF d n (fn l)) ∧ Hid (Rw g n Z F wr) ∧ Hid (Bt g w1 wr)) (fun vi _ => (intOf vi + 1).toNat)
    case atStart => exact ⟨d, e0, fn l, rfl, HE, Lib.hid ⟨HDN.out, rfl⟩, HR, Lib.hid (Bt.refl _ _)⟩
    case round =>
      obtain ⟨j, e, F, rfl, HJ, HS, HK, HT⟩ := hrel
      clear HR HE
      cases j with
      | zero =>
        have he := HJ.out
        have hneg : ¬ (0 : Int) ≤ e := by omega
        have E : Hid (F = makeF d n (fn l)) := Lib.hid HS.out.2
        clear he HS
        go_wp2_with fail
        go_ret
        exact ⟨_, rfl, by rw [HM.out, ← E.out]; exact HK.out.items HI.out, HT.out.below HB.out.1 HB.out.2 HB.out.1.size⟩
      | succ k =>
        have he := HJ.out
        obtain rfl : e = (k : Int) := by omega
        have hpos : (0 : Int) ≤ (k : Int) := by omega
        have hkn : k < n := HS.out.1
        have K1 := Lib.hid (KS.out F wr k HK.out hkn)
        obtain ⟨e2, he2⟩ : ∃ e : Int, e = (k : Int) - 1 := ⟨_, rfl⟩
        have hw3 : IntKind.i64.wrap ((k : Int) - 1) = e2 := by rw [IntKind.wrap_i64]; omega
        have HE2 := Lib.hid he2
        have HS2 : Hid (k ≤ n ∧ makeF k n (sinkF n n F k) = makeF d n (fn l)) := Lib.hid ⟨by omega, HS.out.2⟩
        clear he HJ HS he2
        go_wp2_with fail
        refine K1.out.mono ?_; rintro e9 w2 ⟨rfl, hr2, ht2⟩
        have HR2 := Lib.hid hr2
        have HT2 := Lib.hid (HT.out.trans ht2)
        clear hr2 ht2 K1
        go_wp2_with fail
        go_roundw
        case rel => exact ⟨k, e2, sinkF n n F k, rfl, HE2, HS2, HR2, HT2⟩
        case measure => have := HE2.out; simp [intOf]; omega
end Go.Proofs.Ytakldkolkdpcoaa.Hp
