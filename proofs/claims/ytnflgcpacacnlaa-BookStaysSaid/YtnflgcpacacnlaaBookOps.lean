/- Package book: Set, Add. -/
import Derived.Test.YtnflgcpacacnlaaBookMap
import Derived.Deep.RegionHeld3
namespace Go.Proofs.Ytnflgcpacacnlaa.Bo
set_option maxRecDepth 100000
open Go.ChangeShapes Go.WideShapes Go.ChangeAt Go.RowKit
open Ad Ci En Sat Bk Et Go.Deep
set_option linter.unusedVariables false
theorem ownY_on {B : Nat} {w w' : World} {v : Value} {l : List Ey} (h : OwnY B w v l) (hb : Below w.heap.size w w') : OwnY B w' v l := by
  obtain ⟨hlen, h0 | ⟨g, cap, cur, e1, hbg, hgw, hr⟩⟩ := h
  · exact ⟨hlen, Or.inl h0⟩
  · exact ⟨hlen, Or.inr ⟨g, cap, cur, e1, hbg, (hb.block g (lt_of_block hgw)).trans hgw, hr⟩⟩
set_option maxHeartbeats 8000000 in
theorem setL_any (v : Value) (l : List Ey) (y : Ey) (w : World) (h : Books w v l) (hok : ∀ x ∈ l, x.ok) (hl : l.length ≤ 900000) :
    Calls Try.prog 14 #[v, .agg #[.bool y.e.a.v6, .int .u64 y.e.a.hi, .int .u64 y.e.a.lo, .int .i64 y.e.n, .int .i64 y.st, .int .i64 y.f, .int .i64 y.nx]] w fun e w' => ∃ u, e = .returned u ∧ Books w' u (setR l y) ∧ Below w.heap.size w w' := by
  have LL : Hid (Below w.heap.size w (w.alloc (.cells #[.bool y.e.a.v6, .int .u64 y.e.a.hi, .int .u64 y.e.a.lo, .int .i64 y.e.n, .int .i64 y.st, .int .i64 y.f, .int .i64 y.nx] 29))) := Lib.hid ((Below.refl _ _).alloc (Nat.le_refl _) _)
  have OB := Lib.hid (Blk.new w #[.bool y.e.a.v6, .int .u64 y.e.a.hi, .int .u64 y.e.a.lo, .int .i64 y.e.n, .int .i64 y.st, .int .i64 y.f, .int .i64 y.nx] 29)
  have KC := Lib.hid (cloneY_any v l (w.alloc (.cells #[.bool y.e.a.v6, .int .u64 y.e.a.hi, .int .u64 y.e.a.lo, .int .i64 y.e.n, .int .i64 y.st, .int .i64 y.f, .int .i64 y.nx] 29)) (h.below LL.out) hl)
  have HOK := Lib.hid hok
  clear h hok
  rcases posY_is (isE y.e) l with ⟨hlt, e⟩ | ⟨hlt, e⟩
  · obtain ⟨k, hk⟩ : ∃ k, l.findIdx (isE y.e) = k := ⟨_, rfl⟩
    rw [hk] at hlt e
    have HI := Lib.hid hk
    have HE := Lib.hid e
    clear e hk
    have hm1 : ((k : Int) != -1) = true := by rw [bne_iff_ne]; omega
    go_enter Try.func14, Try.ntmps14
    go_wp2_with fail
    refine KC.out.mono ?_; rintro e9 w2 ⟨u, rfl, hO, hb2⟩
    have OB2 := Lib.hid (OB.out.on hb2)
    have L2 := Lib.hid (low_trans LL.out hb2)
    have KF := Lib.hid (find_any u l y.e w2 (ownY_books hO) HOK.out (by omega))
    unfold findR at KF
    rw [HE.out] at KF
    have HO := Lib.hid hO
    have b0 := OB2.out.cell (j := 0) rfl
    have b1 := OB2.out.cell (j := 1) rfl
    have b2 := OB2.out.cell (j := 2) rfl
    have b3 := OB2.out.cell (j := 3) rfl
    clear hb2 hO KC
    go_wp2_with fail
    refine KF.out.mono ?_; rintro e9 w3 ⟨rfl, hb3⟩
    have OB3 := Lib.hid (OB2.out.on hb3)
    have L3 := Lib.hid (low_trans L2.out hb3)
    have HO3 := Lib.hid (ownY_on HO.out hb3)
    clear hb3 KF OB2 L2 HO b0 b1 b2 b3
    obtain ⟨g, cap, Z, rfl, hg, hcap, hB⟩ := ownY_blk HO3.out (by omega)
    have hklz : (k : Int) < (l.length : Int) := by omega
    have HKL := Lib.hid hlt
    have HB := Lib.hid hB
    have HC := Lib.hid hcap
    have HG : Hid (w.heap.size < g) := Lib.hid (by have : (w.alloc (.cells #[.bool y.e.a.v6, .int .u64 y.e.a.hi, .int .u64 y.e.a.lo, .int .i64 y.e.n, .int .i64 y.st, .int .i64 y.f, .int .i64 y.nx] 29)).heap.size = w.heap.size + 1 := by simp
                                                   omega)
    have ho : ∀ jj, jj < 7 → ∃ u, w3.cell? ⟨g, k * 7 + jj, none⟩ = some u := fun jj hjj => ⟨_, HB.out.cell (List.getElem?_eq_getElem (by rw [List.length_append, flat_len encY_len7]; have := HKL.out; omega))⟩
    obtain ⟨u0, g0⟩ := ho 0 (by decide)
    have k0 : w3.frozen? ⟨g, k * 7, none⟩ = false := HB.out.free _
    obtain ⟨u1, g1⟩ := ho 1 (by decide)
    have k1 : w3.frozen? ⟨g, k * 7 + 1, none⟩ = false := HB.out.free _
    obtain ⟨u2, g2⟩ := ho 2 (by decide)
    have k2 : w3.frozen? ⟨g, k * 7 + 2, none⟩ = false := HB.out.free _
    obtain ⟨u3, g3⟩ := ho 3 (by decide)
    have k3 : w3.frozen? ⟨g, k * 7 + 3, none⟩ = false := HB.out.free _
    obtain ⟨u4, g4⟩ := ho 4 (by decide)
    have k4 : w3.frozen? ⟨g, k * 7 + 4, none⟩ = false := HB.out.free _
    obtain ⟨u5, g5⟩ := ho 5 (by decide)
    have k5 : w3.frozen? ⟨g, k * 7 + 5, none⟩ = false := HB.out.free _
    obtain ⟨u6, g6⟩ := ho 6 (by decide)
    have k6 : w3.frozen? ⟨g, k * 7 + 6, none⟩ = false := HB.out.free _
    rw [Nat.add_zero] at g0
    have b0 := OB3.out.cell (j := 0) rfl
    have b1 := OB3.out.cell (j := 1) rfl
    have b2 := OB3.out.cell (j := 2) rfl
    have b3 := OB3.out.cell (j := 3) rfl
    have b4 := OB3.out.cell (j := 4) rfl
    have b5 := OB3.out.cell (j := 5) rfl
    have b6 := OB3.out.cell (j := 6) rfl
    have HQ := Lib.hid (put_entry HB.out HKL.out y)
    clear ho hB hg hcap hlt HO3
    go_wp2_with fail
    go_ret
    exact ⟨_, rfl, by
      rw [set_hit HI.out]
      have hh := readsY HQ.out.1 (cap := cap) (by rw [List.length_set]; exact HC.out)
      rwa [List.length_set] at hh, HQ.out.2.below L3.out (by have := HG.out; omega) L3.out.size⟩
  · have HI := Lib.hid hlt
    have HE := Lib.hid e
    clear e hlt
    go_enter Try.func14, Try.ntmps14
    go_wp2_with fail
    refine KC.out.mono ?_; rintro e9 w2 ⟨u, rfl, hO, hb2⟩
    have OB2 := Lib.hid (OB.out.on hb2)
    have L2 := Lib.hid (low_trans LL.out hb2)
    have KF := Lib.hid (find_any u l y.e w2 (ownY_books hO) HOK.out (by omega))
    unfold findR at KF
    rw [HE.out] at KF
    have HO := Lib.hid hO
    have b0 := OB2.out.cell (j := 0) rfl
    have b1 := OB2.out.cell (j := 1) rfl
    have b2 := OB2.out.cell (j := 2) rfl
    have b3 := OB2.out.cell (j := 3) rfl
    clear hb2 hO KC
    go_wp2_with fail
    refine KF.out.mono ?_; rintro e9 w3 ⟨rfl, hb3⟩
    have OB3 := Lib.hid (OB2.out.on hb3)
    have L3 := Lib.hid (low_trans L2.out hb3)
    have HO3 := Lib.hid (ownY_on HO.out hb3)
    clear hb3 KF OB2 L2 HO b0 b1 b2 b3
    go_wp2_with fail
    go_ret
    exact ⟨u, rfl, by rw [set_miss HI.out]; exact ownY_books HO3.out, L3.out⟩
abbrev SA26 (w w4 : World) (y : Ey) (w' : World) : Prop := w'.cell? ⟨w.heap.size, 0, none⟩ = some (.bool y.e.a.v6) ∧ w'.cell? ⟨w.heap.size, 1, none⟩ = some (.int .u64 y.e.a.hi) ∧ w'.cell? ⟨w.heap.size, 2, none⟩ = some (.int .u64 y.e.a.lo) ∧ w'.cell? ⟨w.heap.size, 3, none⟩ = some (.int .i64 y.e.n) ∧ w'.cell? ⟨w.heap.size, 4, none⟩ = some (.int .i64 y.st) ∧ w'.cell? ⟨w.heap.size, 5, none⟩ = some (.int .i64 y.f) ∧ w'.cell? ⟨w.heap.size, 6, none⟩ = some (.int .i64 y.nx) ∧ Lows w4 w'
set_option maxHeartbeats 16000000 in
theorem addL_any (v : Value) (l : List Ey) (y : Ey) (most : Int) (w : World) (h : Books w v l) (hok : ∀ x ∈ l, x.ok) (hy : y.ok) (hl : l.length ≤ 800000) :
    Calls Try.prog 7 #[v, .agg #[.bool y.e.a.v6, .int .u64 y.e.a.hi, .int .u64 y.e.a.lo, .int .i64 y.e.n, .int .i64 y.st, .int .i64 y.f, .int .i64 y.nx], .int .i64 most] w fun e w' => ∃ u, e = .returned (.tuple #[u, .int .i64 (codeR l y most)]) ∧ Books w' u (addR l y most) ∧ Below w.heap.size w w' := by
  have LL : Hid (Below w.heap.size w (w.alloc (.cells #[.bool y.e.a.v6, .int .u64 y.e.a.hi, .int .u64 y.e.a.lo, .int .i64 y.e.n, .int .i64 y.st, .int .i64 y.f, .int .i64 y.nx] 29))) := Lib.hid ((Below.refl _ _).alloc (Nat.le_refl _) _)
  have OB := Lib.hid (Blk.new w #[.bool y.e.a.v6, .int .u64 y.e.a.hi, .int .u64 y.e.a.lo, .int .i64 y.e.n, .int .i64 y.st, .int .i64 y.f, .int .i64 y.nx] 29)
  have K1 := Lib.hid (rightY_any y hy (w.alloc (.cells #[.bool y.e.a.v6, .int .u64 y.e.a.hi, .int .u64 y.e.a.lo, .int .i64 y.e.n, .int .i64 y.st, .int .i64 y.f, .int .i64 y.nx] 29)))
  have KF : Hid (∀ W, Below w.heap.size w W → Calls Try.prog 11 #[v, .agg #[.bool y.e.a.v6, .int .u64 y.e.a.hi, .int .u64 y.e.a.lo, .int .i64 y.e.n]] W fun e w' => e = .returned (.int .i64 (findR l y.e)) ∧ Below W.heap.size W w') := Lib.hid fun W hW => find_any v l y.e W (h.below hW) hok (by omega)
  have KP : Hid (∀ W, Below w.heap.size w W → Calls Try.prog 22 #[v, .agg #[.bool y.e.a.v6, .int .u64 y.e.a.hi, .int .u64 y.e.a.lo, .int .i64 y.e.n]] W fun e w' => e = .returned (.int .i64 (placeR l y.e)) ∧ Below W.heap.size W w') := Lib.hid fun W hW => placeY_any v l y.e W (h.below hW) hok hy.he (by omega)
  have PW : Hid (∀ W, Below w.heap.size w W → Books W v l) := Lib.hid fun W hW => h.below hW
  have HINS : Hid (insR l y = l.take (placeR l y.e) ++ y :: l.drop (placeR l y.e)) := Lib.hid rfl
  have hple := place_le l y.e
  obtain ⟨A, c, rfl, hc, hnil, hcell⟩ := h
  cases hr : rightY y with
  | false =>
    have E := Lib.hid (add_wrong (l := l) most hr)
    rw [hr] at K1
    clear hr hok hcell hnil HINS hple
    go_enter Try.func7, Try.ntmps7
    go_wp2_with fail
    refine K1.out.mono ?_; rintro e9 w1 ⟨rfl, hb1⟩
    have OB1 := Lib.hid (OB.out.on hb1)
    have L1 := Lib.hid (low_trans LL.out hb1)
    clear hb1
    go_wp2_with fail
    exact bodyPost_ret (v := .tuple #[.slice none 0 0, .int .i64 1]) (by simp [results, Try.results7, go_sem]) rfl ⟨_, by rw [E.out.1], by rw [E.out.2]; exact Recs.nil _ _ _, L1.out⟩
  | true =>
    rw [hr] at K1
    rcases posY_is (isE y.e) l with ⟨hlt, e⟩ | ⟨hlt, e⟩
    · have E := Lib.hid (add_twice (l := l) most hr (by unfold findR; rw [e]; omega))
      unfold findR at KF
      rw [e] at KF
      clear e hlt hr hok hcell hnil HINS hple
      generalize l.findIdx (isE y.e) = k at *
      have hm1 : ((k : Int) != -1) = true := by rw [bne_iff_ne]; omega
      go_enter Try.func7, Try.ntmps7
      go_wp2_with fail
      refine K1.out.mono ?_; rintro e9 w1 ⟨rfl, hb1⟩
      have OB1 := Lib.hid (OB.out.on hb1)
      have L1 := Lib.hid (low_trans LL.out hb1)
      clear hb1
      have b0 := OB1.out.cell (j := 0) rfl
      have b1 := OB1.out.cell (j := 1) rfl
      have b2 := OB1.out.cell (j := 2) rfl
      have b3 := OB1.out.cell (j := 3) rfl
      have KX := Lib.hid (KF.out w1 L1.out)
      go_wp2_with fail
      refine KX.out.mono ?_; rintro e9 w2 ⟨rfl, hb2⟩
      have OB2 := Lib.hid (OB1.out.on hb2)
      have L2 := Lib.hid (low_trans L1.out hb2)
      clear hb2 KX b0 b1 b2 b3
      go_wp2_with fail
      exact bodyPost_ret (v := .tuple #[.slice none 0 0, .int .i64 7]) (by simp [results, Try.results7, go_sem]) rfl ⟨_, by rw [E.out.1], by rw [E.out.2]; exact Recs.nil _ _ _, L2.out⟩
    · have hfn : ¬ 0 ≤ findR l y.e := by unfold findR; rw [e]; omega
      have hfe : findR l y.e = -1 := e
      rw [hfe] at KF
      by_cases h3 : most ≤ (l.length : Int)
      · have E := Lib.hid (add_full hr hfn h3)
        clear hfn hfe e hlt hr hok hcell hnil HINS hple
        go_enter Try.func7, Try.ntmps7
        go_wp2_with fail
        refine K1.out.mono ?_; rintro e9 w1 ⟨rfl, hb1⟩
        have OB1 := Lib.hid (OB.out.on hb1)
        have L1 := Lib.hid (low_trans LL.out hb1)
        clear hb1
        have b0 := OB1.out.cell (j := 0) rfl
        have b1 := OB1.out.cell (j := 1) rfl
        have b2 := OB1.out.cell (j := 2) rfl
        have b3 := OB1.out.cell (j := 3) rfl
        have KX := Lib.hid (KF.out w1 L1.out)
        go_wp2_with fail
        refine KX.out.mono ?_; rintro e9 w2 ⟨rfl, hb2⟩
        have OB2 := Lib.hid (OB1.out.on hb2)
        have L2 := Lib.hid (low_trans L1.out hb2)
        clear hb2 KX b0 b1 b2 b3
        go_wp2_with fail
        exact bodyPost_ret (v := .tuple #[.slice none 0 0, .int .i64 5]) (by simp [results, Try.results7, go_sem]) rfl ⟨_, by rw [E.out.1], by rw [E.out.2]; exact Recs.nil _ _ _, L2.out⟩
      · have E := Lib.hid (add_done hr hfn h3)
        have HC := Lib.hid hcell
        have HNIL := Lib.hid hnil
        clear hfn hfe e hlt hr hok hcell hnil
        generalize placeR l y.e = i at *
        go_enter Try.func7, Try.ntmps7
        go_wp2_with fail
        refine K1.out.mono ?_; rintro e9 w1 ⟨rfl, hb1⟩
        have OB1 := Lib.hid (OB.out.on hb1)
        have L1 := Lib.hid (low_trans LL.out hb1)
        clear hb1
        have b0 := OB1.out.cell (j := 0) rfl
        have b1 := OB1.out.cell (j := 1) rfl
        have b2 := OB1.out.cell (j := 2) rfl
        have b3 := OB1.out.cell (j := 3) rfl
        have KX := Lib.hid (KF.out w1 L1.out)
        go_wp2_with fail
        refine KX.out.mono ?_; rintro e9 w2 ⟨rfl, hb2⟩
        have OB2 := Lib.hid (OB1.out.on hb2)
        have L2 := Lib.hid (low_trans L1.out hb2)
        clear hb2 KX b0 b1 b2 b3
        have b0 := OB2.out.cell (j := 0) rfl
        have b1 := OB2.out.cell (j := 1) rfl
        have b2 := OB2.out.cell (j := 2) rfl
        have b3 := OB2.out.cell (j := 3) rfl
        have KX := Lib.hid (KP.out w2 L2.out)
        go_wp2_with fail
        refine KX.out.mono ?_; rintro e9 w4 ⟨rfl, hb4⟩
        have OB4 := Lib.hid (OB2.out.on hb4)
        have L4 := Lib.hid (low_trans L2.out hb4)
        clear hb4 KX b0 b1 b2 b3
        have hi1 : (i : Int) ≤ (l.length : Int) := by omega
        have hi2 : (i : Int) ≤ (c : Int) := by omega
        have hi9 : (0 : Int) ≤ (i : Int) := by omega
        have IN : Hid (∀ w', Lows w4 w' → SA26 w w4 y w') := Lib.hid fun w' h => ⟨(OB4.out.on h).cell (j := 0) rfl, (OB4.out.on h).cell (j := 1) rfl, (OB4.out.on h).cell (j := 2) rfl, (OB4.out.on h).cell (j := 3) rfl, (OB4.out.on h).cell (j := 4) rfl, (OB4.out.on h).cell (j := 5) rfl, (OB4.out.on h).cell (j := 6) rfl, h⟩
        have JD : Hid (∀ W, SA26 w w4 y W → SA26 w w4 y W.drew) := Lib.hid fun W h => IN.out _ (low_drewN h.2.2.2.2.2.2.2 1)
        have JA : Hid (∀ W o, SA26 w w4 y W → SA26 w w4 y (W.alloc o)) := Lib.hid fun W o h => IN.out _ (Lows.alloc h.2.2.2.2.2.2.2 o)
        have KC : Hid (∀ LV RV, (∀ W, Below w.heap.size w W → Books W LV (l.take i)) → (∀ W, Below w.heap.size w W → Books W RV (l.drop i)) → Calls Try.prog 23 #[.slice (some ⟨w4.heap.size + 1, 0, none⟩) 3 3] ((w4.alloc (.cells #[.bool y.e.a.v6, .int .u64 y.e.a.hi, .int .u64 y.e.a.lo, .int .i64 y.e.n, .int .i64 y.st, .int .i64 y.f, .int .i64 y.nx] 29)).alloc (.cells #[LV, .slice (some ⟨w4.heap.size, 0, none⟩) 1 1, RV] 22)).drew fun e w' => ∃ u, e = .returned u ∧ Books w' u (insR l y) ∧ SA26 w w4 y w') := Lib.hid fun LV RV hLV hRV => by
          have LR : Below w4.heap.size w4 ((w4.alloc (.cells #[.bool y.e.a.v6, .int .u64 y.e.a.hi, .int .u64 y.e.a.lo, .int .i64 y.e.n, .int .i64 y.st, .int .i64 y.f, .int .i64 y.nx] 29)).alloc (.cells #[LV, .slice (some ⟨w4.heap.size, 0, none⟩) 1 1, RV] 22)).drew := Lows.drew (Lows.alloc (Lows.alloc (Lows.self _) _) _)
          refine (concatY_any (w4.heap.size + 1) #[LV, .slice (some ⟨w4.heap.size, 0, none⟩) 1 1, RV].toList [l.take i, [y], l.drop i] _ (Blk.drew (Blk.two w4 (.cells #[.bool y.e.a.v6, .int .u64 y.e.a.hi, .int .u64 y.e.a.lo, .int .i64 y.e.n, .int .i64 y.st, .int .i64 y.f, .int .i64 y.nx] 29) #[LV, .slice (some ⟨w4.heap.size, 0, none⟩) 1 1, RV] 22)) rfl (fun k hk => ?_) (by simp) (by simp; omega)).mono ?_
          · obtain rfl | rfl | rfl : k = 0 ∨ k = 1 ∨ k = 2 := by simp at hk; omega
            · exact hLV _ (low_trans L4.out LR)
            · exact (Recs.lit encY_len7 w4 [y] #[.bool y.e.a.v6, .int .u64 y.e.a.hi, .int .u64 y.e.a.lo, .int .i64 y.e.n, .int .i64 y.st, .int .i64 y.f, .int .i64 y.nx] 29 (by rw [flat_one]; rfl)).below (Lows.drew (Lows.alloc (Lows.self _) _))
            · exact hRV _ (low_trans L4.out LR)
          · rintro e w' ⟨u, h1, h2, h3⟩
            refine ⟨u, h1, ?_, IN.out _ (LR.trans (h3.mono LR.size))⟩
            rw [show [l.take i, [y], l.drop i].flatten = insR l y by rw [HINS.out]; simp] at h2
            exact ownY_books h2
        have hk0 : SA26 w w4 y w4 := IN.out _ (Lows.self _)
        have hkd : SA26 w w4 y w4.drew := JD.out _ hk0
        obtain ⟨t0, t1, t2, t3, t4, t5, t6, t7⟩ := id hk0
        clear IN
        cases A with
        | none =>
          obtain rfl := HNIL.out rfl
          have h0 : l.length = 0 := by omega
          obtain rfl : l = [] := List.eq_nil_of_length_eq_zero h0
          obtain rfl : i = 0 := by omega
          have KD := Lib.hid (KC.out (.slice none 0 0) (.slice none 0 0) (fun W _ => Recs.nil _ _ _) (fun W _ => Recs.nil _ _ _))
          clear PW HC HNIL h0 KC
          simp only [List.length_nil, Int.natCast_zero] at *
          go_upto_region 8 with fail
          go_region_held3 (fun w' => w'.cell? ⟨w.heap.size, 0, none⟩ = some (.bool y.e.a.v6) ∧ w'.cell? ⟨w.heap.size, 1, none⟩ = some (.int .u64 y.e.a.hi) ∧ w'.cell? ⟨w.heap.size, 2, none⟩ = some (.int .u64 y.e.a.lo) ∧ w'.cell? ⟨w.heap.size, 3, none⟩ = some (.int .i64 y.e.n) ∧ w'.cell? ⟨w.heap.size, 4, none⟩ = some (.int .i64 y.st) ∧ w'.cell? ⟨w.heap.size, 5, none⟩ = some (.int .i64 y.f) ∧ w'.cell? ⟨w.heap.size, 6, none⟩ = some (.int .i64 y.nx) ∧ Lows w4 w')
            (first | (with_reducible assumption) | (repeat (first | (with_reducible assumption) | (with_reducible refine JD.out _ ?_) | (with_reducible refine JA.out _ _ ?_))))
            (first
              | (go_at_call 23; (refine KD.out.mono ?_); rintro e9 w9 ⟨u, rfl, hU, hkw⟩))
          all_goals
            have HU := Lib.hid hU
            have HL9 := Lib.hid (low_trans L4.out hkw.2.2.2.2.2.2.2)
            clear hU KD OB4 L4
            go_wp2_with fail
            exact bodyPost_ret (v := .tuple #[u, .int .i64 0]) (by simp [results, Try.results7, go_sem]) rfl ⟨u, by rw [E.out.1], by rw [E.out.2]; exact HU.out, HL9.out⟩
        | some a =>
          by_cases h0 : l.length = 0
          · obtain rfl : l = [] := List.eq_nil_of_length_eq_zero h0
            obtain rfl : i = 0 := by simpa using hple
            obtain ⟨bb, o, q⟩ := a
            clear PW HC HNIL h0
            by_cases hc0 : c = 0
            · subst hc0
              have KD := Lib.hid (KC.out (.slice (some ⟨bb, o, q⟩) 0 0) (.slice (some ⟨bb, o, q⟩) 0 0) (fun W _ => Recs.void _ _ _ _ (fun h => by cases h)) (fun W _ => Recs.void _ _ _ _ (fun h => by cases h)))
              clear KC
              go_upto_region 8 with fail
              go_region_held3 (fun w' => w'.cell? ⟨w.heap.size, 0, none⟩ = some (.bool y.e.a.v6) ∧ w'.cell? ⟨w.heap.size, 1, none⟩ = some (.int .u64 y.e.a.hi) ∧ w'.cell? ⟨w.heap.size, 2, none⟩ = some (.int .u64 y.e.a.lo) ∧ w'.cell? ⟨w.heap.size, 3, none⟩ = some (.int .i64 y.e.n) ∧ w'.cell? ⟨w.heap.size, 4, none⟩ = some (.int .i64 y.st) ∧ w'.cell? ⟨w.heap.size, 5, none⟩ = some (.int .i64 y.f) ∧ w'.cell? ⟨w.heap.size, 6, none⟩ = some (.int .i64 y.nx) ∧ Lows w4 w')
                (first | (with_reducible assumption) | (repeat (first | (with_reducible assumption) | (with_reducible refine JD.out _ ?_) | (with_reducible refine JA.out _ _ ?_))))
                (first
                  | (go_at_call 23; (refine KD.out.mono ?_); rintro e9 w9 ⟨u, rfl, hU, hkw⟩))
              all_goals
                have HU := Lib.hid hU
                have HL9 := Lib.hid (low_trans L4.out hkw.2.2.2.2.2.2.2)
                clear hU KD OB4 L4
                go_wp2_with fail
                exact bodyPost_ret (v := .tuple #[u, .int .i64 0]) (by simp [results, Try.results7, go_sem]) rfl ⟨u, by rw [E.out.1], by rw [E.out.2]; exact HU.out, HL9.out⟩
            · have KD := Lib.hid (KC.out (.slice (some ⟨bb, o, q⟩) 0 c) (.slice (some ⟨bb, o, q⟩) 0 c) (fun W _ => Recs.void _ _ _ _ (fun h => by cases h)) (fun W _ => Recs.void _ _ _ _ (fun h => by cases h)))
              clear KC
              go_upto_region 8 with fail
              go_region_held3 (fun w' => w'.cell? ⟨w.heap.size, 0, none⟩ = some (.bool y.e.a.v6) ∧ w'.cell? ⟨w.heap.size, 1, none⟩ = some (.int .u64 y.e.a.hi) ∧ w'.cell? ⟨w.heap.size, 2, none⟩ = some (.int .u64 y.e.a.lo) ∧ w'.cell? ⟨w.heap.size, 3, none⟩ = some (.int .i64 y.e.n) ∧ w'.cell? ⟨w.heap.size, 4, none⟩ = some (.int .i64 y.st) ∧ w'.cell? ⟨w.heap.size, 5, none⟩ = some (.int .i64 y.f) ∧ w'.cell? ⟨w.heap.size, 6, none⟩ = some (.int .i64 y.nx) ∧ Lows w4 w')
                (first | (with_reducible assumption) | (repeat (first | (with_reducible assumption) | (with_reducible refine JD.out _ ?_) | (with_reducible refine JA.out _ _ ?_))))
                (first
                  | (go_at_call 23; (refine KD.out.mono ?_); rintro e9 w9 ⟨u, rfl, hU, hkw⟩))
              all_goals
                have HU := Lib.hid hU
                have HL9 := Lib.hid (low_trans L4.out hkw.2.2.2.2.2.2.2)
                clear hU KD OB4 L4
                go_wp2_with fail
                exact bodyPost_ret (v := .tuple #[u, .int .i64 0]) (by simp [results, Try.results7, go_sem]) rfl ⟨u, by rw [E.out.1], by rw [E.out.2]; exact HU.out, HL9.out⟩
          · obtain ⟨bb, o, hae, _, _⟩ := HC.out (by omega)
            obtain rfl := Option.some.inj hae
            by_cases hce : c = i
            · have hil : l.length = i := by omega
              have KD := Lib.hid (KC.out (.slice (some ⟨bb, o, none⟩) i c) (.slice (some ⟨bb, o, none⟩) 0 0) (fun W hW => (PW.out W hW).part (i := i) (by omega)) (fun W hW => by rw [List.drop_of_length_le (by omega)]; exact Recs.void _ _ _ _ (fun h => by cases h)))
              clear PW HC HNIL h0 KC hae
              subst hce
              go_upto_region 8 with fail
              go_region_held3 (fun w' => w'.cell? ⟨w.heap.size, 0, none⟩ = some (.bool y.e.a.v6) ∧ w'.cell? ⟨w.heap.size, 1, none⟩ = some (.int .u64 y.e.a.hi) ∧ w'.cell? ⟨w.heap.size, 2, none⟩ = some (.int .u64 y.e.a.lo) ∧ w'.cell? ⟨w.heap.size, 3, none⟩ = some (.int .i64 y.e.n) ∧ w'.cell? ⟨w.heap.size, 4, none⟩ = some (.int .i64 y.st) ∧ w'.cell? ⟨w.heap.size, 5, none⟩ = some (.int .i64 y.f) ∧ w'.cell? ⟨w.heap.size, 6, none⟩ = some (.int .i64 y.nx) ∧ Lows w4 w')
                (first | (with_reducible assumption) | (repeat (first | (with_reducible assumption) | (with_reducible refine JD.out _ ?_) | (with_reducible refine JA.out _ _ ?_))))
                (first
                  | (go_at_call 23; (refine KD.out.mono ?_); rintro e9 w9 ⟨u, rfl, hU, hkw⟩))
              all_goals
                have HU := Lib.hid hU
                have HL9 := Lib.hid (low_trans L4.out hkw.2.2.2.2.2.2.2)
                clear hU KD OB4 L4
                go_wp2_with fail
                exact bodyPost_ret (v := .tuple #[u, .int .i64 0]) (by simp [results, Try.results7, go_sem]) rfl ⟨u, by rw [E.out.1], by rw [E.out.2]; exact HU.out, HL9.out⟩
            · have hi7 : ¬ c = i := hce
              have KD := Lib.hid (KC.out (.slice (some ⟨bb, o, none⟩) i c) (.slice (some ⟨bb, o + i * 7, none⟩) (l.length - i) (c - i)) (fun W hW => (PW.out W hW).part (i := i) (by omega)) (fun W hW => (PW.out W hW).rest (by omega)))
              clear PW HC HNIL h0 KC hae hce
              go_upto_region 8 with fail
              go_region_held3 (fun w' => w'.cell? ⟨w.heap.size, 0, none⟩ = some (.bool y.e.a.v6) ∧ w'.cell? ⟨w.heap.size, 1, none⟩ = some (.int .u64 y.e.a.hi) ∧ w'.cell? ⟨w.heap.size, 2, none⟩ = some (.int .u64 y.e.a.lo) ∧ w'.cell? ⟨w.heap.size, 3, none⟩ = some (.int .i64 y.e.n) ∧ w'.cell? ⟨w.heap.size, 4, none⟩ = some (.int .i64 y.st) ∧ w'.cell? ⟨w.heap.size, 5, none⟩ = some (.int .i64 y.f) ∧ w'.cell? ⟨w.heap.size, 6, none⟩ = some (.int .i64 y.nx) ∧ Lows w4 w')
                (first | (with_reducible assumption) | (repeat (first | (with_reducible assumption) | (with_reducible refine JD.out _ ?_) | (with_reducible refine JA.out _ _ ?_))))
                (first
                  | (go_at_call 23; (refine KD.out.mono ?_); rintro e9 w9 ⟨u, rfl, hU, hkw⟩))
              all_goals
                have HU := Lib.hid hU
                have HL9 := Lib.hid (low_trans L4.out hkw.2.2.2.2.2.2.2)
                clear hU KD OB4 L4
                go_wp2_with fail
                exact bodyPost_ret (v := .tuple #[u, .int .i64 0]) (by simp [results, Try.results7, go_sem]) rfl ⟨u, by rw [E.out.1], by rw [E.out.2]; exact HU.out, HL9.out⟩
end Go.Proofs.Ytnflgcpacacnlaa.Bo
