/- The first statement of layer 24, proved: whether any list is a heap, which of two items stands ahead, and any items in order, are as the document has them. -/
import Derived.Test.YtakldkolkdpcoaaLaw24Awake
import Derived.Deep.CutRange
import Derived.Deep.DeepCutAuto
namespace Go.Proofs.Ytakldkolkdpcoaa.Hp
set_option maxRecDepth 100000
open Go.ChangeShapes Go.WideShapes Go.ChangeAt Go.RowKit
open Dec Words V4 V6 Ad Ci En Go.Deep
set_option linter.unusedVariables false
abbrev T24 (a b : It) (g7 g8 g9 g10 : Nat) (W3 w' : World) : Prop := w'.cell? ⟨g7, 0, none⟩ = some (.int .i64 a.k) ∧ w'.cell? ⟨g7, 1, none⟩ = some (.bool a.e.a.v6) ∧ w'.cell? ⟨g7, 2, none⟩ = some (.int .u64 a.e.a.hi) ∧ w'.cell? ⟨g7, 3, none⟩ = some (.int .u64 a.e.a.lo) ∧ w'.cell? ⟨g7, 4, none⟩ = some (.int .i64 a.e.n) ∧ w'.cell? ⟨g8, 0, none⟩ = some (.int .i64 b.k) ∧ w'.cell? ⟨g8, 1, none⟩ = some (.bool b.e.a.v6) ∧ w'.cell? ⟨g8, 2, none⟩ = some (.int .u64 b.e.a.hi) ∧ w'.cell? ⟨g8, 3, none⟩ = some (.int .u64 b.e.a.lo) ∧ w'.cell? ⟨g8, 4, none⟩ = some (.int .i64 b.e.n) ∧ w'.cell? ⟨g9, 0, none⟩ = some (.int .i64 a.k) ∧ w'.cell? ⟨g9, 1, none⟩ = some (.bool a.e.a.v6) ∧ w'.cell? ⟨g9, 2, none⟩ = some (.int .u64 a.e.a.hi) ∧ w'.cell? ⟨g9, 3, none⟩ = some (.int .u64 a.e.a.lo) ∧ w'.cell? ⟨g9, 4, none⟩ = some (.int .i64 a.e.n) ∧ w'.cell? ⟨g10, 0, none⟩ = some (.int .i64 b.k) ∧ w'.cell? ⟨g10, 1, none⟩ = some (.bool b.e.a.v6) ∧ w'.cell? ⟨g10, 2, none⟩ = some (.int .u64 b.e.a.hi) ∧ w'.cell? ⟨g10, 3, none⟩ = some (.int .u64 b.e.a.lo) ∧ w'.cell? ⟨g10, 4, none⟩ = some (.int .i64 b.e.n) ∧ Below W3.heap.size W3 w'
set_option maxHeartbeats 24000000 in
theorem heapTells_walk (w : World) (v : Value) (l : List It) (h : Items w v l) (hok : ∀ x ∈ l, x.ok) (a : It) (ha : a.ok) (b : It) (hb : b.ok) :
    Calls Try.prog 3 #[v, .agg #[.int .i64 a.k, .bool a.e.a.v6, .int .u64 a.e.a.hi, .int .u64 a.e.a.lo, .int .i64 a.e.n], .agg #[.int .i64 b.k, .bool b.e.a.v6, .int .u64 b.e.a.hi, .int .u64 b.e.a.lo, .int .i64 b.e.n]] w fun e w' => e = .returned (.bool true) ∧ Below w.heap.size w w' := by
  have AW := Lib.hid (fun W => awake24_any W)
  have L0 : Hid (Below w.heap.size w ((w.alloc (.cells #[.int .i64 a.k, .bool a.e.a.v6, .int .u64 a.e.a.hi, .int .u64 a.e.a.lo, .int .i64 a.e.n] 29)).alloc (.cells #[.int .i64 b.k, .bool b.e.a.v6, .int .u64 b.e.a.hi, .int .u64 b.e.a.lo, .int .i64 b.e.n] 29))) := Lib.hid (two_low _ _ _)
  have BA : Hid (Blk ((w.alloc (.cells #[.int .i64 a.k, .bool a.e.a.v6, .int .u64 a.e.a.hi, .int .u64 a.e.a.lo, .int .i64 a.e.n] 29)).alloc (.cells #[.int .i64 b.k, .bool b.e.a.v6, .int .u64 b.e.a.hi, .int .u64 b.e.a.lo, .int .i64 b.e.n] 29)) w.heap.size 29 [.int .i64 a.k, .bool a.e.a.v6, .int .u64 a.e.a.hi, .int .u64 a.e.a.lo, .int .i64 a.e.n]) := Lib.hid ((Blk.new w _ _).alloc _)
  have BB : Hid (Blk ((w.alloc (.cells #[.int .i64 a.k, .bool a.e.a.v6, .int .u64 a.e.a.hi, .int .u64 a.e.a.lo, .int .i64 a.e.n] 29)).alloc (.cells #[.int .i64 b.k, .bool b.e.a.v6, .int .u64 b.e.a.hi, .int .u64 b.e.a.lo, .int .i64 b.e.n] 29)) (w.heap.size + 1) 29 [.int .i64 b.k, .bool b.e.a.v6, .int .u64 b.e.a.hi, .int .u64 b.e.a.lo, .int .i64 b.e.n]) := Lib.hid (Blk.two w _ _ _)
  have PW := Lib.hid h
  obtain ⟨A, c, rfl, hc, _, hcell⟩ := h
  clear hcell hc
  by_cases h40 : 40 < l.length
  · have h40z : (40 : Int) < (l.length : Int) := by omega
    go_enter Try.func3, Try.ntmps3
    go_wp2_with fail
    refine (AW.out _).mono ?_; rintro e w1 ⟨rfl, hb1⟩
    go_wp2_with fail
    go_ret
    exact ⟨rfl, low_trans3 L0.out hb1⟩
  · have h40z : ¬ (40 : Int) < (l.length : Int) := by omega
    have HK := Lib.hid (show l.length ≤ 40 ∧ (∀ x ∈ l, x.ok) ∧ a.ok ∧ b.ok from ⟨by omega, hok, ha, hb⟩)
    clear hok ha hb h40
    go_enter Try.func3, Try.ntmps3
    go_upto_region 3 with fail
    generalize ((w.alloc (.cells #[.int .i64 a.k, .bool a.e.a.v6, .int .u64 a.e.a.hi, .int .u64 a.e.a.lo, .int .i64 a.e.n] 29)).alloc (.cells #[.int .i64 b.k, .bool b.e.a.v6, .int .u64 b.e.a.hi, .int .u64 b.e.a.lo, .int .i64 b.e.n] 29)) = W1 at L0 BA BB ⊢
    have a0 := BA.out.cell (j := 0) rfl
    have a1 := BA.out.cell (j := 1) rfl
    have a2 := BA.out.cell (j := 2) rfl
    have a3 := BA.out.cell (j := 3) rfl
    have a4 := BA.out.cell (j := 4) rfl
    have b0 := BB.out.cell (j := 0) rfl
    have b1 := BB.out.cell (j := 1) rfl
    have b2 := BB.out.cell (j := 2) rfl
    have b3 := BB.out.cell (j := 3) rfl
    have b4 := BB.out.cell (j := 4) rfl
    have q4 : w.heap.size < W1.heap.size := BA.out.lt
    have q5 : w.heap.size + 1 < W1.heap.size := BB.out.lt
    have r4 : ¬ w.heap.size = W1.heap.size := by omega
    have r5 : ¬ w.heap.size + 1 = W1.heap.size := by omega
    have r6 : ¬ w.heap.size = W1.heap.size + 1 := by omega
    have r7 : ¬ w.heap.size = W1.heap.size := by omega
    go_cut [7, 8] from 15 to 24 (fun s1 s2 wx => ∃ (g1 g2 : Nat) (Wq : World), Wq = wx ∧ s1 = .pointer (some ⟨g1, 0, none⟩) ∧ s2 = .pointer (some ⟨g2, 0, none⟩) ∧ Hid (Blk wx g1 32 [.int .i64 a.k, .bool a.e.a.v6, .int .u64 a.e.a.hi, .int .u64 a.e.a.lo, .int .i64 a.e.n]) ∧ Hid (Blk wx g2 32 [.int .i64 b.k, .bool b.e.a.v6, .int .u64 b.e.a.hi, .int .u64 b.e.a.lo, .int .i64 b.e.n]) ∧ Hid (Below W1.heap.size W1 wx))
    case first =>
      go_big_region
      all_goals
        go_wp2_with fail
        go_meet
        first
          | exact ⟨W1.heap.size, W1.heap.size + 1, _, rfl, rfl, rfl, Lib.hid ((Blk.new W1 _ _).alloc _).drew, Lib.hid (Blk.two W1 _ _ _).drew, Lib.hid (low_drewN (two_low _ _ _) 1)⟩
          | exact ⟨W1.heap.size + 1, W1.heap.size, _, rfl, rfl, rfl, Lib.hid (Blk.two W1 _ _ _).drew, Lib.hid ((Blk.new W1 _ _).alloc _).drew, Lib.hid (low_drewN (two_low _ _ _) 1)⟩
    case rest =>
      obtain ⟨g7, g8, W2, rfl, rfl, rfl, B7, B8, HL2⟩ := hcut
      have L2 : Hid (Below w.heap.size w W2) := Lib.hid (low_trans3 L0.out HL2.out)
      have BA2 := Lib.hid (BA.out.on HL2.out)
      have BB2 := Lib.hid (BB.out.on HL2.out)
      clear a0 a1 a2 a3 a4 b0 b1 b2 b3 b4 q4 q5 r4 r5 r6 r7 L0 BA BB HL2
      have a0 := BA2.out.cell (j := 0) rfl
      have a1 := BA2.out.cell (j := 1) rfl
      have a2 := BA2.out.cell (j := 2) rfl
      have a3 := BA2.out.cell (j := 3) rfl
      have a4 := BA2.out.cell (j := 4) rfl
      have b0 := BB2.out.cell (j := 0) rfl
      have b1 := BB2.out.cell (j := 1) rfl
      have b2 := BB2.out.cell (j := 2) rfl
      have b3 := BB2.out.cell (j := 3) rfl
      have b4 := BB2.out.cell (j := 4) rfl
      have q4 : w.heap.size < W2.heap.size := BA2.out.lt
      have q5 : w.heap.size + 1 < W2.heap.size := BB2.out.lt
      have r4 : ¬ w.heap.size = W2.heap.size := by omega
      have r5 : ¬ w.heap.size + 1 = W2.heap.size := by omega
      have r6 : ¬ w.heap.size = W2.heap.size + 1 := by omega
      have r7 : ¬ w.heap.size = W2.heap.size := by omega
      go_upto_region 4 with fail
      go_cut [9, 10] from 25 to 34 (fun s1 s2 wx => ∃ (g1 g2 : Nat) (Wq : World), Wq = wx ∧ s1 = .pointer (some ⟨g1, 0, none⟩) ∧ s2 = .pointer (some ⟨g2, 0, none⟩) ∧ Hid (Blk wx g1 33 [.int .i64 a.k, .bool a.e.a.v6, .int .u64 a.e.a.hi, .int .u64 a.e.a.lo, .int .i64 a.e.n]) ∧ Hid (Blk wx g2 33 [.int .i64 b.k, .bool b.e.a.v6, .int .u64 b.e.a.hi, .int .u64 b.e.a.lo, .int .i64 b.e.n]) ∧ Hid (Below W2.heap.size W2 wx))
      case first =>
        go_big_region
        all_goals
          go_wp2_with fail
          go_meet
          first
            | exact ⟨W2.heap.size, W2.heap.size + 1, _, rfl, rfl, rfl, Lib.hid ((Blk.new W2 _ _).alloc _).drew, Lib.hid (Blk.two W2 _ _ _).drew, Lib.hid (low_drewN (two_low _ _ _) 1)⟩
            | exact ⟨W2.heap.size + 1, W2.heap.size, _, rfl, rfl, rfl, Lib.hid (Blk.two W2 _ _ _).drew, Lib.hid ((Blk.new W2 _ _).alloc _).drew, Lib.hid (low_drewN (two_low _ _ _) 1)⟩
      case rest =>
        obtain ⟨g9, g10, W3, rfl, rfl, rfl, B9, B10, HL3⟩ := hcut
        have HW3 : Hid (Below w.heap.size w W3) := Lib.hid (low_trans3 L2.out HL3.out)
        have B7b := Lib.hid (B7.out.on HL3.out)
        have B8b := Lib.hid (B8.out.on HL3.out)
        clear a0 a1 a2 a3 a4 b0 b1 b2 b3 b4 q4 q5 r4 r5 r6 r7 L2 BA2 BB2 HL3 B7 B8
        obtain ⟨hl40, hok2, ha, hb⟩ := HK.out
        have HOK := Lib.hid (fn_ok hok2)
        have hl8 : l.length ≤ 800000 := by omega
        obtain ⟨R, hR⟩ : ∃ R, R = rightB l := ⟨_, rfl⟩
        obtain ⟨G, hG⟩ : ∃ G, G = ltH a b := ⟨_, rfl⟩
        have HR := Lib.hid hR
        have HG := Lib.hid hG
        have IN : Hid (∀ w', Below W3.heap.size W3 w' → T24 a b g7 g8 g9 g10 W3 w') := Lib.hid fun w' h => ⟨(B7b.out.on h).cell (j := 0) rfl, (B7b.out.on h).cell (j := 1) rfl, (B7b.out.on h).cell (j := 2) rfl, (B7b.out.on h).cell (j := 3) rfl, (B7b.out.on h).cell (j := 4) rfl, (B8b.out.on h).cell (j := 0) rfl, (B8b.out.on h).cell (j := 1) rfl, (B8b.out.on h).cell (j := 2) rfl, (B8b.out.on h).cell (j := 3) rfl, (B8b.out.on h).cell (j := 4) rfl, (B9.out.on h).cell (j := 0) rfl, (B9.out.on h).cell (j := 1) rfl, (B9.out.on h).cell (j := 2) rfl, (B9.out.on h).cell (j := 3) rfl, (B9.out.on h).cell (j := 4) rfl, (B10.out.on h).cell (j := 0) rfl, (B10.out.on h).cell (j := 1) rfl, (B10.out.on h).cell (j := 2) rfl, (B10.out.on h).cell (j := 3) rfl, (B10.out.on h).cell (j := 4) rfl, h⟩
        have KT : Hid (∀ W, T24 a b g7 g8 g9 g10 W3 W → Calls Try.prog 7 #[.slice A l.length c] W fun e w' => ∃ u, e = .returned u ∧ Items w' u l ∧ Below W.heap.size W w' ∧ T24 a b g7 g8 g9 g10 W3 w') := Lib.hid fun W h => (to_any _ l W (PW.out.below (low_trans3 HW3.out h.2.2.2.2.2.2.2.2.2.2.2.2.2.2.2.2.2.2.2.2)) hl8).mono fun e w' ⟨u, he, hu, hb⟩ => ⟨u, he, hu, hb, IN.out _ (low_trans h.2.2.2.2.2.2.2.2.2.2.2.2.2.2.2.2.2.2.2.2 hb)⟩
        have KO : Hid (∀ W, T24 a b g7 g8 g9 g10 W3 W → Calls Try.prog 9 #[.slice A l.length c] W fun e w' => ∃ u, e = .returned u ∧ Items w' u l ∧ Below W.heap.size W w' ∧ T24 a b g7 g8 g9 g10 W3 w') := Lib.hid fun W h => (of_any _ l W (PW.out.below (low_trans3 HW3.out h.2.2.2.2.2.2.2.2.2.2.2.2.2.2.2.2.2.2.2.2)) hl8).mono fun e w' ⟨u, he, hu, hb⟩ => ⟨u, he, hu, hb, IN.out _ (low_trans h.2.2.2.2.2.2.2.2.2.2.2.2.2.2.2.2.2.2.2.2 hb)⟩
        have KR : Hid (∀ W, T24 a b g7 g8 g9 g10 W3 W → ∀ u, Items W u l → Calls Try.prog 6 #[u] W fun e w' => e = .returned (.bool R) ∧ Below W.heap.size W w' ∧ T24 a b g7 g8 g9 g10 W3 w') := Lib.hid fun W h u hu => by
          have k := right_any u l W hu HOK.out (by omega)
          rw [← HR.out] at k
          exact k.mono fun e w' ⟨he, hb⟩ => ⟨he, hb, IN.out _ (low_trans h.2.2.2.2.2.2.2.2.2.2.2.2.2.2.2.2.2.2.2.2 hb)⟩
        have KRR : Hid (∀ W, T24 a b g7 g8 g9 g10 W3 W → ∀ u, Items W u l → Calls Try.prog 8 #[u] W fun e w' => e = .returned (.bool R) ∧ Below W.heap.size W w' ∧ T24 a b g7 g8 g9 g10 W3 w') := Lib.hid fun W h u hu => by
          have k := rright_any u l W hu HOK.out (by omega)
          rw [← HR.out] at k
          exact k.mono fun e w' ⟨he, hb⟩ => ⟨he, hb, IN.out _ (low_trans h.2.2.2.2.2.2.2.2.2.2.2.2.2.2.2.2.2.2.2.2 hb)⟩
        have KA : Hid (∀ W, T24 a b g7 g8 g9 g10 W3 W → Calls Try.prog 10 #[.agg #[.int .i64 a.k, .bool a.e.a.v6, .int .u64 a.e.a.hi, .int .u64 a.e.a.lo, .int .i64 a.e.n], .agg #[.int .i64 b.k, .bool b.e.a.v6, .int .u64 b.e.a.hi, .int .u64 b.e.a.lo, .int .i64 b.e.n]] W fun e w' => e = .returned (.bool G) ∧ Below W.heap.size W w' ∧ T24 a b g7 g8 g9 g10 W3 w') := Lib.hid fun W h => by
          have k := ahead_any a b W ha hb
          rw [← HG.out] at k
          exact k.mono fun e w' ⟨he, hb⟩ => ⟨he, hb, IN.out _ (low_trans h.2.2.2.2.2.2.2.2.2.2.2.2.2.2.2.2.2.2.2.2 hb)⟩
        have KRA : Hid (∀ W, T24 a b g7 g8 g9 g10 W3 W → Calls Try.prog 11 #[.agg #[.int .i64 a.k, .bool a.e.a.v6, .int .u64 a.e.a.hi, .int .u64 a.e.a.lo, .int .i64 a.e.n], .agg #[.int .i64 b.k, .bool b.e.a.v6, .int .u64 b.e.a.hi, .int .u64 b.e.a.lo, .int .i64 b.e.n]] W fun e w' => e = .returned (.bool G) ∧ Below W.heap.size W w' ∧ T24 a b g7 g8 g9 g10 W3 w') := Lib.hid fun W h => by
          have k := rahead_any a b W ha hb
          rw [← HG.out] at k
          exact k.mono fun e w' ⟨he, hb⟩ => ⟨he, hb, IN.out _ (low_trans h.2.2.2.2.2.2.2.2.2.2.2.2.2.2.2.2.2.2.2.2 hb)⟩
        have KS : Hid (∀ W, T24 a b g7 g8 g9 g10 W3 W → ∀ u, Items W u l → Calls Try.prog 13 #[u] W fun e w' => ∃ u2, e = .returned u2 ∧ Items w' u2 (sortX l) ∧ Below W.heap.size W w' ∧ T24 a b g7 g8 g9 g10 W3 w') := Lib.hid fun W h u hu => (sorted_any u l W hu hok2 (by omega)).mono fun e w' ⟨u2, he, hu2, hb⟩ => ⟨u2, he, hu2, hb, IN.out _ (low_trans h.2.2.2.2.2.2.2.2.2.2.2.2.2.2.2.2.2.2.2.2 hb)⟩
        have KRS : Hid (∀ W, T24 a b g7 g8 g9 g10 W3 W → ∀ u, Items W u l → Calls Try.prog 14 #[u] W fun e w' => ∃ u2, e = .returned u2 ∧ Items w' u2 (sortX l) ∧ Below W.heap.size W w' ∧ T24 a b g7 g8 g9 g10 W3 w') := Lib.hid fun W h u hu => (rsorted_any u l W hu HOK.out (by omega)).mono fun e w' ⟨u2, he, hu2, hb⟩ => ⟨u2, he, hu2, hb, IN.out _ (low_trans h.2.2.2.2.2.2.2.2.2.2.2.2.2.2.2.2.2.2.2.2 hb)⟩
        have KN : Hid (∀ W, T24 a b g7 g8 g9 g10 W3 W → ∀ u1 u2, Items W u1 (sortX l) → Items W u2 (sortX l) → Calls Try.prog 12 #[u1, u2] W fun e w' => e = .returned (.bool true) ∧ Below W.heap.size W w' ∧ T24 a b g7 g8 g9 g10 W3 w') := Lib.hid fun W h u1 u2 h1 h2 => (same_any u1 u2 (sortX l) W h1 h2 (by rw [(sortX_perm l).length_eq]; omega)).mono fun e w' ⟨he, hb⟩ => ⟨he, hb, IN.out _ (low_trans h.2.2.2.2.2.2.2.2.2.2.2.2.2.2.2.2.2.2.2.2 hb)⟩
        have KW : Hid (∀ W, T24 a b g7 g8 g9 g10 W3 W → Calls Try.prog 5 #[] W fun e w' => e = .returned (.bool true) ∧ Below W.heap.size W w' ∧ T24 a b g7 g8 g9 g10 W3 w') := Lib.hid fun W h => (AW.out W).mono fun e w' ⟨he, hb⟩ => ⟨he, hb, IN.out _ (low_trans h.2.2.2.2.2.2.2.2.2.2.2.2.2.2.2.2.2.2.2.2 hb)⟩
        have hk0 : T24 a b g7 g8 g9 g10 W3 W3 := IN.out _ (Below.refl _ _)
        have JD : Hid (∀ W, T24 a b g7 g8 g9 g10 W3 W → T24 a b g7 g8 g9 g10 W3 W.drew) := Lib.hid fun W h => IN.out _ (low_drewN h.2.2.2.2.2.2.2.2.2.2.2.2.2.2.2.2.2.2.2.2 1)
        have zR : (R == R) = true := by simp
        have zG : (G == G) = true := by simp
        clear IN AW HK hok2 ha hb HOK hR hG HR HG hl8 hl40 PW B7b B8b B9 B10
        obtain ⟨m0, m1, m2, m3, m4, m5, m6, m7, m8, m9, m10, m11, m12, m13, m14, m15, m16, m17, m18, m19, hk9⟩ := id hk0
        go_wp2_with fail
        go_region_held3 (fun w' => w'.cell? ⟨g7, 0, none⟩ = some (.int .i64 a.k) ∧ w'.cell? ⟨g7, 1, none⟩ = some (.bool a.e.a.v6) ∧ w'.cell? ⟨g7, 2, none⟩ = some (.int .u64 a.e.a.hi) ∧ w'.cell? ⟨g7, 3, none⟩ = some (.int .u64 a.e.a.lo) ∧ w'.cell? ⟨g7, 4, none⟩ = some (.int .i64 a.e.n) ∧ w'.cell? ⟨g8, 0, none⟩ = some (.int .i64 b.k) ∧ w'.cell? ⟨g8, 1, none⟩ = some (.bool b.e.a.v6) ∧ w'.cell? ⟨g8, 2, none⟩ = some (.int .u64 b.e.a.hi) ∧ w'.cell? ⟨g8, 3, none⟩ = some (.int .u64 b.e.a.lo) ∧ w'.cell? ⟨g8, 4, none⟩ = some (.int .i64 b.e.n) ∧ w'.cell? ⟨g9, 0, none⟩ = some (.int .i64 a.k) ∧ w'.cell? ⟨g9, 1, none⟩ = some (.bool a.e.a.v6) ∧ w'.cell? ⟨g9, 2, none⟩ = some (.int .u64 a.e.a.hi) ∧ w'.cell? ⟨g9, 3, none⟩ = some (.int .u64 a.e.a.lo) ∧ w'.cell? ⟨g9, 4, none⟩ = some (.int .i64 a.e.n) ∧ w'.cell? ⟨g10, 0, none⟩ = some (.int .i64 b.k) ∧ w'.cell? ⟨g10, 1, none⟩ = some (.bool b.e.a.v6) ∧ w'.cell? ⟨g10, 2, none⟩ = some (.int .u64 b.e.a.hi) ∧ w'.cell? ⟨g10, 3, none⟩ = some (.int .u64 b.e.a.lo) ∧ w'.cell? ⟨g10, 4, none⟩ = some (.int .i64 b.e.n) ∧ Below W3.heap.size W3 w')
          (first | (with_reducible assumption) | (with_reducible exact JD.out _ (by with_reducible assumption)))
          (first
            | (go_at_call 7; (with_reducible refine (KT.out _ (by with_reducible assumption)).mono ?_); rintro e w9 ⟨ut, rfl, hT, hbT, hkw⟩)
            | (go_at_call 9; (with_reducible refine (KO.out _ (by with_reducible assumption)).mono ?_); rintro e w9 ⟨uo, rfl, hO, hbO, hkw⟩; (try have hS2 := hS.below hbO))
            | (go_at_call 6; (with_reducible refine (KR.out _ (by with_reducible assumption) _ hT).mono ?_); rintro e w9 ⟨rfl, hbR, hkw⟩)
            | (go_at_call 8; (with_reducible refine (KRR.out _ (by with_reducible assumption) _ hO).mono ?_); rintro e w9 ⟨rfl, hbR, hkw⟩)
            | (go_at_call 10; (with_reducible refine (KA.out _ (by with_reducible assumption)).mono ?_); rintro e w9 ⟨rfl, hbR, hkw⟩)
            | (go_at_call 11; (with_reducible refine (KRA.out _ (by with_reducible assumption)).mono ?_); rintro e w9 ⟨rfl, hbR, hkw⟩)
            | (go_at_call 13; (with_reducible refine (KS.out _ (by with_reducible assumption) _ hT).mono ?_); rintro e w9 ⟨us, rfl, hS, hbS, hkw⟩)
            | (go_at_call 14; (with_reducible refine (KRS.out _ (by with_reducible assumption) _ hO).mono ?_); rintro e w9 ⟨ur, rfl, hU, hbU, hkw⟩; have hS3 := hS2.below hbU)
            | (go_at_call 12; (with_reducible refine (KN.out _ (by with_reducible assumption) _ _ hS3 hU).mono ?_); rintro e w9 ⟨rfl, hbR, hkw⟩)
            | (go_at_call 5; (with_reducible refine (KW.out _ (by with_reducible assumption)).mono ?_); rintro e w9 ⟨rfl, hbR, hkw⟩))
        all_goals
          have hkf := ‹T24 a b g7 g8 g9 g10 W3 _›
          go_wp2_with fail
          go_ret
          exact ⟨rfl, low_trans3 HW3.out hkf.2.2.2.2.2.2.2.2.2.2.2.2.2.2.2.2.2.2.2.2⟩
end Go.Proofs.Ytakldkolkdpcoaa.Hp
namespace Go.Proofs.Ytakldkolkdpcoaa
set_option maxRecDepth 100000
open Go.ChangeShapes Go.WideShapes Go.ChangeAt Go.RowKit
open Dec Words V4 V6 Ad Ci En Hp Go.Deep
set_option linter.unusedVariables false
namespace heapTells
theorem contract (H : Type) (enc : TypeId × Value → H) (W : World) (base : Nat) (args : Array Value) (ds gs : List (DataW H)) (before : List MemPlace)
    (hval0 : ∀ (j : Nat) t v, Try.f3.params[j]? = some t → args[j]? = some v → Value.okWide Try.prog W .any base t v)
    (hW : DataW.Whole enc Try.prog Try.f3.params.toList Rows.heapTellsSpec.vars false W args.toList ds gs before) (hSh : W.ShapedOpen Try.prog) :
    Calls Try.prog 3 args W fun e W' => ∃ v, e = .returned v ∧ Rows.heapTellsSpec.post enc Try.prog Try.f3 false true false false W args v W' := by
  have hval : ∀ (j : Nat) t v, Try.f3.params[j]? = some t → args[j]? = some v → Value.okWide Try.prog W .any base t v := hval0
  have hW' := hW
  obtain ⟨p, q, hA0, hV, _, _, _⟩ := hW
  have hA : DataW.TrodAll enc Try.prog W 0 (fun _ => true) true Try.f3.params.toList args.toList ds p := hA0
  rw [Try.params3] at hA hval
  obtain ⟨v0, vs0, d0, ds0, p0, q0, hargs, rfl, rfl, h0, r0⟩ := trodAll_cons hA
  obtain ⟨v1, vs1, d1, ds1, p1, q1, rfl, rfl, rfl, h1, r1⟩ := trodAll_cons r0
  obtain ⟨v2, vs2, d2, ds2, p2, q2, rfl, rfl, rfl, h2, r2⟩ := trodAll_cons r1
  obtain ⟨rfl, rfl, rfl⟩ := trodAll_nil r2
  obtain rfl : args = #[v0, v1, v2] := by cases args; simp_all
  obtain ⟨rfl, rfl⟩ := trodVars_none hV
  obtain ⟨l0, t0, n0, s0⟩ := open_keys (hval 0 22 v0 rfl rfl) h0
  obtain ⟨a1, z1, rfl⟩ := open_key (hval 1 29 v1 rfl rfl) h1
  obtain ⟨a2, z2, rfl⟩ := open_key (hval 2 29 v2 rfl rfl) h2
  clear hA0 hval0
  refine (heapTells_walk W v0 l0 t0 s0 a1 z1 a2 z2).mono fun e W' ⟨he, hg⟩ => ?_
  subst he
  exact ⟨_, rfl, post_law laidOut (by kernel_rfl) (by kernel_rfl) Try.underlying4 rfl hW' rfl rfl rfl hg⟩
set_option maxRecDepth 100000 in
theorem lifted (os : Os) (started : os.Started) (H : Type) (enc : TypeId × Value → H) (F : Stop.Interp) :
    ReturnsInHanded {} Try.checked os 3 .any ((OpenSpec.ofChange Rows.heapTellsSpec).preRow enc Try.prog Try.f3 Rows.heapTellsRow.domain false Rows.heapTellsRow.laid) (((OpenSpec.ofChange Rows.heapTellsSpec).at F).post enc Try.prog Try.f3 false true false false) := by
  refine returnsInHanded_of_row (C := Try.checked) (s := OpenSpec.ofChange Rows.heapTellsSpec) own started (by kernel_rfl) Try.func3
    (witness_laid (enc := enc) (C := Try.checked) (s := OpenSpec.ofChange Rows.heapTellsSpec) (laid := Rows.heapTellsRow.laid) #[.slice none 0 0, .agg #[.int .i64 0, .bool false, .int .u64 0, .int .u64 0, .int .i64 0], .agg #[.int .i64 0, .bool false, .int .u64 0, .int .u64 0, .int .i64 0]] (World.shaped_of_ZipB (by kernel_rfl) (by kernel_rfl)) (by kernel_rfl)
      (OpenSpec.preRow_of_cond 8 (x := ([.nil, .agg [.lit (.int .i64 0), .agg [.agg [.lit (.bool false), .lit (.int .u64 0), .lit (.int .u64 0)], .lit (.int .i64 0)]], .agg [.lit (.int .i64 0), .agg [.agg [.lit (.bool false), .lit (.int .u64 0), .lit (.int .u64 0)], .lit (.int .i64 0)]]], [], [])) (by kernel_rfl) (by kernel_rfl) (fun k hk => by cases hk) (by kernel_rfl)
        (by rw [MakeChecks.laidMetH_plain _ _ _ (by kernel_rfl)]; exact laidMet_laidAll _ (by kernel_rfl) (by kernel_rfl)))) ?_
  intro W base args ds gs before hval hW _ hcond _ _ hsh _
  exact contract H enc W base args ds gs before hval hW hsh
theorem over : Rows.heapTellsRow.holds Try.pinned (OpenSpec.ofChange Rows.heapTellsSpec) :=
  OpenClaim.holds_of_cond 3 Try.f3 rfl rfl rfl rfl rfl rfl rfl ⟨rfl, rfl, rfl, rfl, rfl⟩ rfl rfl rfl rfl rfl (by kernel_rfl) Try.func3 (by kernel_rfl)
    (of_decide_eq_true (by kernel_rfl)) (by unfold Func.isWrapper; first | (rw [if_pos (by decide +kernel)]; kernel_rfl) | (rw [if_neg (by decide +kernel)]; exact ⟨rfl, rfl⟩))
    (fun os started H enc _ F => by rw [OpenClaim.pre_eq_preRow]; exact lifted os started H enc F)
/-- ████ THE STATEMENT ████ -/
theorem proved : Rows.HeapTellsSaid := over
end heapTells
end Go.Proofs.Ytakldkolkdpcoaa
