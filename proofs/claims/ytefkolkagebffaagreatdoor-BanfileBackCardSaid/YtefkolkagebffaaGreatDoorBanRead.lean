/- Contracts of package ban: what is read. -/
import Derived.Test.YtefkolkagebffaaGreatDoorBan
namespace Go.Proofs.YtefkolkagebffaaGreatDoor.Ba
set_option maxRecDepth 100000
open Go.ChangeShapes Go.WideShapes Go.ChangeAt Go.RowKit
open Dec Words V4 V6 Ad Ci
set_option linter.unusedVariables false
set_option linter.unusedSimpArgs false
attribute [local irreducible] World.setCell
theorem Txts.three {w : World} {v : Value} {x u y : List UInt8} (h : Txts w v [x, u, y]) : ∃ b o c, v = .slice (some ⟨b, o, none⟩) 3 c ∧ b < w.heap.size ∧ 3 ≤ c ∧ w.cell? ⟨b, o, none⟩ = some (.string ⟨x.toArray⟩) ∧ w.cell? ⟨b, o + 1, none⟩ = some (.string ⟨u.toArray⟩) ∧ w.cell? ⟨b, o + 2, none⟩ = some (.string ⟨y.toArray⟩) := by
  obtain ⟨A, c, rfl, hcap, h⟩ := h
  obtain ⟨b, o, rfl, hb, hc⟩ := h (by simp)
  exact ⟨b, o, c, rfl, hb, by simpa using hcap, (show w.cell? ⟨b, o + 0, none⟩ = some (.string ⟨x.toArray⟩) from hc 0 (by simp)), hc 1 (by simp), hc 2 (by simp)⟩
theorem len_three {α : Type} {l : List α} (h : l.length = 3) : ∃ x u y, l = [x, u, y] := by
  match l, h with
  | [x, u, y], _ => exact ⟨x, u, y, rfl⟩
theorem glue_mem (c : UInt8) : ∀ (ls : List (List UInt8)) (x : List UInt8), x ∈ ls → x.length ≤ (glue c ls).length
  | [], x, h => by cases h
  | [a], x, h => by
    obtain rfl : x = a := by simpa using h
    simp [glue]
  | a :: b :: r, x, h => by
    rcases List.mem_cons.1 h with rfl | h
    · simp [glue]
    · have := glue_mem c (b :: r) x h
      simp only [glue, List.length_append, List.length_cons]; omega
theorem parts_le {l x u y : List UInt8} (h : cut 32 l = [x, u, y]) : x.length ≤ l.length ∧ y.length ≤ l.length := by
  have e : glue 32 [x, u, y] = l := by rw [← h]; exact glue_cut 32 l
  rw [← e]
  exact ⟨glue_mem 32 _ _ (by simp), glue_mem 32 _ _ (by simp)⟩
set_option maxHeartbeats 16000000 in
theorem parseB_any (l : List UInt8) (w : World) (hl : l.length < 4294966000) (hL : Lens w) : Calls Tryz.prog 13 #[.string ⟨l.toArray⟩] w (ParseBan l w) := by
  have hL0 := hL.below ((Below.refl w.heap.size w).alloc (Nat.le_refl _) (.cells #[.bool false, .int .u64 0, .int .u64 0, .int .i64 0, .int .i64 0] 40))
  have SP : Hid (∀ W, Calls Tryz.prog 29 #[.string ⟨l.toArray⟩, .int .u8 32] W (RetTxts (cut 32 l) W)) := Lib.hid fun W => split_list l 32 W (by omega)
  by_cases h3 : (cut 32 l).length = 3
  · obtain ⟨x, u, y, hcut⟩ := len_three h3
    rw [hcut] at SP
    obtain ⟨hxl, hyl⟩ := parts_le hcut
    clear h3
    have PN := Lib.hid (parseN_any x)
    unfold ParseN at PN
    have hnk := parseN_ok x
    have PB : Hid (∀ W : World, Calls Tryz.prog 31 #[.string ⟨y.toArray⟩, .int .i64 1099511627776] W fun e w' => e = .returned (.tuple #[.int .i64 (parN y 1099511627776), .bool (parB y 1099511627776)]) ∧ Below W.heap.size W w') := Lib.hid fun W => (parse_list y 1099511627776 W (by omega) (by omega) (by omega)).mono fun e w' ⟨h, e2⟩ => ⟨h, by rw [← e2]; exact Below.refl _ _⟩
    have hpb := parN_bd y 1099511627776 (by omega) (by omega)
    cases hN : okN x
    · have E1 : Hid (okB l = false) := Lib.hid (okB_noN hcut hN)
      have E2 := Lib.hid (parseB_no E1.out)
      rw [hN] at PN
      clear hcut hN
      generalize parseN x = n at *
      generalize parN y 1099511627776 = p at *
      generalize parB y 1099511627776 = pb at *
      go_enter Tryz.func13, Tryz.ntmps13
      go_wp2_with fail
      (with_reducible refine (SP.out _).mono ?_)
      rintro e w1 ⟨v, rfl, hv, hb1⟩
      have hbel1 : Stays (w.alloc (.cells #[.bool false, .int .u64 0, .int .u64 0, .int .i64 0, .int .i64 0] 40)) w1 := hb1
      obtain ⟨b, o, c, rfl, hbl, hcap, hx1, hu1, hy1⟩ := Txts.three hv
      clear hv
      have z1 : w.heap.size < w1.heap.size := by have := hbel1.size; simp at this; omega
      have hL1 := hL0.below hb1
      go_wp2_with fail
      (with_reducible refine (PN.out _ (by omega) hL1).mono ?_)
      rintro e w2 ⟨rfl, hb2⟩
      have hbel2 : Stays (w.alloc (.cells #[.bool false, .int .u64 0, .int .u64 0, .int .i64 0, .int .i64 0] 40)) w2 := low_trans hbel1 hb2
      have z2 : w.heap.size < w2.heap.size := by have := hbel2.size; simp at this; omega
      have zb : b < w2.heap.size := Nat.lt_of_lt_of_le hbl hb2.size
      have hy2 : w2.cell? ⟨b, o + 2, none⟩ = some (.string ⟨y.toArray⟩) := (hb2.cell (p := ⟨b, o + 2, none⟩) hbl).trans hy1
      have hbel2b : Stays (w.alloc (.cells #[.bool false, .int .u64 0, .int .u64 0, .int .i64 0, .int .i64 0] 40)) (w2.alloc (.cells #[.bool n.a.v6, .int .u64 n.a.hi, .int .u64 n.a.lo, .int .i64 n.n] 38)) := hbel2.alloc hbel2.size _
      go_wp2_with fail
      (with_reducible refine (PB.out _).mono ?_)
      rintro e w3 ⟨rfl, hb3⟩
      have hbel3 : Stays (w.alloc (.cells #[.bool false, .int .u64 0, .int .u64 0, .int .i64 0, .int .i64 0] 40)) w3 := low_trans hbel2b hb3
      have q0 : w3.cell? ⟨w2.heap.size, 0, none⟩ = some (.bool n.a.v6) := Ci.cells_left hb3 (cell_at _ _ _ 0 _ rfl)
      have q1 : w3.cell? ⟨w2.heap.size, 1, none⟩ = some (.int .u64 n.a.hi) := Ci.cells_left hb3 (cell_at _ _ _ 1 _ rfl)
      have q2 : w3.cell? ⟨w2.heap.size, 2, none⟩ = some (.int .u64 n.a.lo) := Ci.cells_left hb3 (cell_at _ _ _ 2 _ rfl)
      have q3 : w3.cell? ⟨w2.heap.size, 3, none⟩ = some (.int .i64 n.n) := Ci.cells_left hb3 (cell_at _ _ _ 3 _ rfl)
      have z3 : w2.heap.size < w3.heap.size := by have := hb3.size; simp at this; omega
      have z4 : w.heap.size < w3.heap.size := by omega
      obtain ⟨hc, hf⟩ := old (W := w.alloc (.cells #[.bool false, .int .u64 0, .int .u64 0, .int .i64 0, .int .i64 0] 40)) hbel3
      go_wp2_with fail
      have hlow9 : Below w.heap.size w w3 := ((Below.refl _ _).alloc (Nat.le_refl _) _).trans (hbel3.mono (by simp))
      exact bodyPost_ret (v := .tuple #[.agg #[.bool false, .int .u64 0, .int .u64 0, .int .i64 0, .int .i64 0], .bool false]) (by simp [results, Tryz.results13, go_sem, hc, z2, z4]) rfl (parseB_mk E2.out E1.out rfl (by repeat (first | (with_reducible exact hlow9) | (with_reducible refine Below.setCell ?_ (by first | (simp; done) | (simp; omega) | omega) _) | (with_reducible refine Below.alloc ?_ (by first | (simp; done) | (simp; omega) | omega) _))))
    · cases hp : parB y 1099511627776
      · have E1 : Hid (okB l = false) := Lib.hid (okB_noT hcut hp)
        have E2 := Lib.hid (parseB_no E1.out)
        rw [hN] at PN
        rw [hp] at PB
        clear hcut hN hp
        generalize parseN x = n at *
        generalize parN y 1099511627776 = p at *
        go_enter Tryz.func13, Tryz.ntmps13
        go_wp2_with fail
        (with_reducible refine (SP.out _).mono ?_)
        rintro e w1 ⟨v, rfl, hv, hb1⟩
        have hbel1 : Stays (w.alloc (.cells #[.bool false, .int .u64 0, .int .u64 0, .int .i64 0, .int .i64 0] 40)) w1 := hb1
        obtain ⟨b, o, c, rfl, hbl, hcap, hx1, hu1, hy1⟩ := Txts.three hv
        clear hv
        have z1 : w.heap.size < w1.heap.size := by have := hbel1.size; simp at this; omega
        have hL1 := hL0.below hb1
        go_wp2_with fail
        (with_reducible refine (PN.out _ (by omega) hL1).mono ?_)
        rintro e w2 ⟨rfl, hb2⟩
        have hbel2 : Stays (w.alloc (.cells #[.bool false, .int .u64 0, .int .u64 0, .int .i64 0, .int .i64 0] 40)) w2 := low_trans hbel1 hb2
        have z2 : w.heap.size < w2.heap.size := by have := hbel2.size; simp at this; omega
        have zb : b < w2.heap.size := Nat.lt_of_lt_of_le hbl hb2.size
        have hy2 : w2.cell? ⟨b, o + 2, none⟩ = some (.string ⟨y.toArray⟩) := (hb2.cell (p := ⟨b, o + 2, none⟩) hbl).trans hy1
        have hbel2b : Stays (w.alloc (.cells #[.bool false, .int .u64 0, .int .u64 0, .int .i64 0, .int .i64 0] 40)) (w2.alloc (.cells #[.bool n.a.v6, .int .u64 n.a.hi, .int .u64 n.a.lo, .int .i64 n.n] 38)) := hbel2.alloc hbel2.size _
        go_wp2_with fail
        (with_reducible refine (PB.out _).mono ?_)
        rintro e w3 ⟨rfl, hb3⟩
        have hbel3 : Stays (w.alloc (.cells #[.bool false, .int .u64 0, .int .u64 0, .int .i64 0, .int .i64 0] 40)) w3 := low_trans hbel2b hb3
        have q0 : w3.cell? ⟨w2.heap.size, 0, none⟩ = some (.bool n.a.v6) := Ci.cells_left hb3 (cell_at _ _ _ 0 _ rfl)
        have q1 : w3.cell? ⟨w2.heap.size, 1, none⟩ = some (.int .u64 n.a.hi) := Ci.cells_left hb3 (cell_at _ _ _ 1 _ rfl)
        have q2 : w3.cell? ⟨w2.heap.size, 2, none⟩ = some (.int .u64 n.a.lo) := Ci.cells_left hb3 (cell_at _ _ _ 2 _ rfl)
        have q3 : w3.cell? ⟨w2.heap.size, 3, none⟩ = some (.int .i64 n.n) := Ci.cells_left hb3 (cell_at _ _ _ 3 _ rfl)
        have z3 : w2.heap.size < w3.heap.size := by have := hb3.size; simp at this; omega
        have z4 : w.heap.size < w3.heap.size := by omega
        obtain ⟨hc, hf⟩ := old (W := w.alloc (.cells #[.bool false, .int .u64 0, .int .u64 0, .int .i64 0, .int .i64 0] 40)) hbel3
        go_wp2_with fail
        have hlow9 : Below w.heap.size w w3 := ((Below.refl _ _).alloc (Nat.le_refl _) _).trans (hbel3.mono (by simp))
        exact bodyPost_ret (v := .tuple #[.agg #[.bool false, .int .u64 0, .int .u64 0, .int .i64 0, .int .i64 0], .bool false]) (by simp [results, Tryz.results13, go_sem, hc, z2, z4]) rfl (parseB_mk E2.out E1.out rfl (by repeat (first | (with_reducible exact hlow9) | (with_reducible refine Below.setCell ?_ (by first | (simp; done) | (simp; omega) | omega) _) | (with_reducible refine Below.alloc ?_ (by first | (simp; done) | (simp; omega) | omega) _))))
      · have TX := Lib.hid (fun W => textB_any ⟨parseN x, parN y 1099511627776⟩ W ⟨hnk, by simp only; omega, by simp only; omega⟩)
        cases hq : (textB ⟨parseN x, parN y 1099511627776⟩ == l)
        · have E1 : Hid (okB l = false) := Lib.hid (okB_other hcut (fun e => by rw [e] at hq; simp at hq))
          have E2 := Lib.hid (parseB_no E1.out)
          rw [hN] at PN
          rw [hp] at PB
          have Q2 : (textB ⟨parseN x, parN y 1099511627776⟩ != l) = true := by unfold bne; rw [hq]; rfl
          clear hcut hN hp
          generalize parseN x = n at *
          generalize parN y 1099511627776 = p at *
          generalize textB ⟨n, p⟩ = T at *
          go_enter Tryz.func13, Tryz.ntmps13
          go_wp2_with fail
          (with_reducible refine (SP.out _).mono ?_)
          rintro e w1 ⟨v, rfl, hv, hb1⟩
          have hbel1 : Stays (w.alloc (.cells #[.bool false, .int .u64 0, .int .u64 0, .int .i64 0, .int .i64 0] 40)) w1 := hb1
          obtain ⟨b, o, c, rfl, hbl, hcap, hx1, hu1, hy1⟩ := Txts.three hv
          clear hv
          have z1 : w.heap.size < w1.heap.size := by have := hbel1.size; simp at this; omega
          have hL1 := hL0.below hb1
          go_wp2_with fail
          (with_reducible refine (PN.out _ (by omega) hL1).mono ?_)
          rintro e w2 ⟨rfl, hb2⟩
          have hbel2 : Stays (w.alloc (.cells #[.bool false, .int .u64 0, .int .u64 0, .int .i64 0, .int .i64 0] 40)) w2 := low_trans hbel1 hb2
          have z2 : w.heap.size < w2.heap.size := by have := hbel2.size; simp at this; omega
          have zb : b < w2.heap.size := Nat.lt_of_lt_of_le hbl hb2.size
          have hy2 : w2.cell? ⟨b, o + 2, none⟩ = some (.string ⟨y.toArray⟩) := (hb2.cell (p := ⟨b, o + 2, none⟩) hbl).trans hy1
          have hbel2b : Stays (w.alloc (.cells #[.bool false, .int .u64 0, .int .u64 0, .int .i64 0, .int .i64 0] 40)) (w2.alloc (.cells #[.bool n.a.v6, .int .u64 n.a.hi, .int .u64 n.a.lo, .int .i64 n.n] 38)) := hbel2.alloc hbel2.size _
          go_wp2_with fail
          (with_reducible refine (PB.out _).mono ?_)
          rintro e w3 ⟨rfl, hb3⟩
          have hbel3 : Stays (w.alloc (.cells #[.bool false, .int .u64 0, .int .u64 0, .int .i64 0, .int .i64 0] 40)) w3 := low_trans hbel2b hb3
          have q0 : w3.cell? ⟨w2.heap.size, 0, none⟩ = some (.bool n.a.v6) := Ci.cells_left hb3 (cell_at _ _ _ 0 _ rfl)
          have q1 : w3.cell? ⟨w2.heap.size, 1, none⟩ = some (.int .u64 n.a.hi) := Ci.cells_left hb3 (cell_at _ _ _ 1 _ rfl)
          have q2 : w3.cell? ⟨w2.heap.size, 2, none⟩ = some (.int .u64 n.a.lo) := Ci.cells_left hb3 (cell_at _ _ _ 2 _ rfl)
          have q3 : w3.cell? ⟨w2.heap.size, 3, none⟩ = some (.int .i64 n.n) := Ci.cells_left hb3 (cell_at _ _ _ 3 _ rfl)
          have z3 : w2.heap.size < w3.heap.size := by have := hb3.size; simp at this; omega
          have z4 : w.heap.size < w3.heap.size := by omega
          have hbel3b : Stays (w.alloc (.cells #[.bool false, .int .u64 0, .int .u64 0, .int .i64 0, .int .i64 0] 40)) (w3.alloc (.cells #[.bool n.a.v6, .int .u64 n.a.hi, .int .u64 n.a.lo, .int .i64 n.n, .int .i64 p] 40)) := hbel3.alloc hbel3.size _
          go_wp2_with fail
          (with_reducible refine (TX.out _).mono ?_)
          rintro e w4 ⟨rfl, hb4⟩
          have hbel4 : Stays (w.alloc (.cells #[.bool false, .int .u64 0, .int .u64 0, .int .i64 0, .int .i64 0] 40)) w4 := low_trans hbel3b hb4
          clear q0 q1 q2 q3
          have r0 : w4.cell? ⟨w3.heap.size, 0, none⟩ = some (.bool n.a.v6) := Ci.cells_left hb4 (cell_at _ _ _ 0 _ rfl)
          have r1 : w4.cell? ⟨w3.heap.size, 1, none⟩ = some (.int .u64 n.a.hi) := Ci.cells_left hb4 (cell_at _ _ _ 1 _ rfl)
          have r2 : w4.cell? ⟨w3.heap.size, 2, none⟩ = some (.int .u64 n.a.lo) := Ci.cells_left hb4 (cell_at _ _ _ 2 _ rfl)
          have r3 : w4.cell? ⟨w3.heap.size, 3, none⟩ = some (.int .i64 n.n) := Ci.cells_left hb4 (cell_at _ _ _ 3 _ rfl)
          have r4 : w4.cell? ⟨w3.heap.size, 4, none⟩ = some (.int .i64 p) := Ci.cells_left hb4 (cell_at _ _ _ 4 _ rfl)
          obtain ⟨hc, hf⟩ := old (W := w.alloc (.cells #[.bool false, .int .u64 0, .int .u64 0, .int .i64 0, .int .i64 0] 40)) hbel4
          go_wp2_with fail
          have hlow9 : Below w.heap.size w w4 := ((Below.refl _ _).alloc (Nat.le_refl _) _).trans (hbel4.mono (by simp))
          exact bodyPost_ret (v := .tuple #[.agg #[.bool false, .int .u64 0, .int .u64 0, .int .i64 0, .int .i64 0], .bool false]) (by simp [results, Tryz.results13, go_sem, hc]) rfl (parseB_mk E2.out E1.out rfl (by repeat (first | (with_reducible exact hlow9) | (with_reducible refine Below.setCell ?_ (by first | (simp; done) | (simp; omega) | omega) _) | (with_reducible refine Below.alloc ?_ (by first | (simp; done) | (simp; omega) | omega) _))))
        · have E := okB_same hcut (by simpa using hq)
          have E1 := Lib.hid E.1
          have E2 := Lib.hid E.2
          clear E
          rw [hN] at PN
          rw [hp] at PB
          have Q2 : (textB ⟨parseN x, parN y 1099511627776⟩ != l) = false := by unfold bne; rw [hq]; rfl
          clear hcut hN hp
          generalize parseN x = n at *
          generalize parN y 1099511627776 = p at *
          generalize textB ⟨n, p⟩ = T at *
          go_enter Tryz.func13, Tryz.ntmps13
          go_wp2_with fail
          (with_reducible refine (SP.out _).mono ?_)
          rintro e w1 ⟨v, rfl, hv, hb1⟩
          have hbel1 : Stays (w.alloc (.cells #[.bool false, .int .u64 0, .int .u64 0, .int .i64 0, .int .i64 0] 40)) w1 := hb1
          obtain ⟨b, o, c, rfl, hbl, hcap, hx1, hu1, hy1⟩ := Txts.three hv
          clear hv
          have z1 : w.heap.size < w1.heap.size := by have := hbel1.size; simp at this; omega
          have hL1 := hL0.below hb1
          go_wp2_with fail
          (with_reducible refine (PN.out _ (by omega) hL1).mono ?_)
          rintro e w2 ⟨rfl, hb2⟩
          have hbel2 : Stays (w.alloc (.cells #[.bool false, .int .u64 0, .int .u64 0, .int .i64 0, .int .i64 0] 40)) w2 := low_trans hbel1 hb2
          have z2 : w.heap.size < w2.heap.size := by have := hbel2.size; simp at this; omega
          have zb : b < w2.heap.size := Nat.lt_of_lt_of_le hbl hb2.size
          have hy2 : w2.cell? ⟨b, o + 2, none⟩ = some (.string ⟨y.toArray⟩) := (hb2.cell (p := ⟨b, o + 2, none⟩) hbl).trans hy1
          have hbel2b : Stays (w.alloc (.cells #[.bool false, .int .u64 0, .int .u64 0, .int .i64 0, .int .i64 0] 40)) (w2.alloc (.cells #[.bool n.a.v6, .int .u64 n.a.hi, .int .u64 n.a.lo, .int .i64 n.n] 38)) := hbel2.alloc hbel2.size _
          go_wp2_with fail
          (with_reducible refine (PB.out _).mono ?_)
          rintro e w3 ⟨rfl, hb3⟩
          have hbel3 : Stays (w.alloc (.cells #[.bool false, .int .u64 0, .int .u64 0, .int .i64 0, .int .i64 0] 40)) w3 := low_trans hbel2b hb3
          have q0 : w3.cell? ⟨w2.heap.size, 0, none⟩ = some (.bool n.a.v6) := Ci.cells_left hb3 (cell_at _ _ _ 0 _ rfl)
          have q1 : w3.cell? ⟨w2.heap.size, 1, none⟩ = some (.int .u64 n.a.hi) := Ci.cells_left hb3 (cell_at _ _ _ 1 _ rfl)
          have q2 : w3.cell? ⟨w2.heap.size, 2, none⟩ = some (.int .u64 n.a.lo) := Ci.cells_left hb3 (cell_at _ _ _ 2 _ rfl)
          have q3 : w3.cell? ⟨w2.heap.size, 3, none⟩ = some (.int .i64 n.n) := Ci.cells_left hb3 (cell_at _ _ _ 3 _ rfl)
          have z3 : w2.heap.size < w3.heap.size := by have := hb3.size; simp at this; omega
          have z4 : w.heap.size < w3.heap.size := by omega
          have hbel3b : Stays (w.alloc (.cells #[.bool false, .int .u64 0, .int .u64 0, .int .i64 0, .int .i64 0] 40)) (w3.alloc (.cells #[.bool n.a.v6, .int .u64 n.a.hi, .int .u64 n.a.lo, .int .i64 n.n, .int .i64 p] 40)) := hbel3.alloc hbel3.size _
          go_wp2_with fail
          (with_reducible refine (TX.out _).mono ?_)
          rintro e w4 ⟨rfl, hb4⟩
          have hbel4 : Stays (w.alloc (.cells #[.bool false, .int .u64 0, .int .u64 0, .int .i64 0, .int .i64 0] 40)) w4 := low_trans hbel3b hb4
          clear q0 q1 q2 q3
          have r0 : w4.cell? ⟨w3.heap.size, 0, none⟩ = some (.bool n.a.v6) := Ci.cells_left hb4 (cell_at _ _ _ 0 _ rfl)
          have r1 : w4.cell? ⟨w3.heap.size, 1, none⟩ = some (.int .u64 n.a.hi) := Ci.cells_left hb4 (cell_at _ _ _ 1 _ rfl)
          have r2 : w4.cell? ⟨w3.heap.size, 2, none⟩ = some (.int .u64 n.a.lo) := Ci.cells_left hb4 (cell_at _ _ _ 2 _ rfl)
          have r3 : w4.cell? ⟨w3.heap.size, 3, none⟩ = some (.int .i64 n.n) := Ci.cells_left hb4 (cell_at _ _ _ 3 _ rfl)
          have r4 : w4.cell? ⟨w3.heap.size, 4, none⟩ = some (.int .i64 p) := Ci.cells_left hb4 (cell_at _ _ _ 4 _ rfl)
          obtain ⟨hc, hf⟩ := old (W := w.alloc (.cells #[.bool false, .int .u64 0, .int .u64 0, .int .i64 0, .int .i64 0] 40)) hbel4
          go_wp2_with fail
          have hlow9 : Below w.heap.size w w4 := ((Below.refl _ _).alloc (Nat.le_refl _) _).trans (hbel4.mono (by simp))
          exact bodyPost_ret (v := .tuple #[.agg #[.bool n.a.v6, .int .u64 n.a.hi, .int .u64 n.a.lo, .int .i64 n.n, .int .i64 p], .bool true]) (by simp [results, Tryz.results13, go_sem, hc]) rfl (parseB_mk E2.out E1.out rfl (by repeat (first | (with_reducible exact hlow9) | (with_reducible refine Below.setCell ?_ (by first | (simp; done) | (simp; omega) | omega) _) | (with_reducible refine Below.alloc ?_ (by first | (simp; done) | (simp; omega) | omega) _))))
  · have E1 := Lib.hid (okB_len h3)
    have E2 := Lib.hid (parseB_no E1.out)
    generalize cut 32 l = L at *
    generalize hm : L.length = m at *
    have hm1 : ((m : Int) != 3) = true := by simp; omega
    have hm2 : ((m : Int) == 3) = false := by simp; omega
    go_enter Tryz.func13, Tryz.ntmps13
    go_wp2_with fail
    (with_reducible refine (SP.out _).mono ?_)
    rintro e w1 ⟨v, rfl, hv, hb1⟩
    have hbel1 : Stays (w.alloc (.cells #[.bool false, .int .u64 0, .int .u64 0, .int .i64 0, .int .i64 0] 40)) w1 := hb1
    obtain ⟨A, c, rfl, hcap, _⟩ := hv
    rw [hm] at *
    have z1 : w.heap.size < w1.heap.size := by have := hbel1.size; simp at this; omega
    obtain ⟨hc, hf⟩ := old (W := w.alloc (.cells #[.bool false, .int .u64 0, .int .u64 0, .int .i64 0, .int .i64 0] 40)) hbel1
    go_wp2_with fail
    have hlow9 : Below w.heap.size w w1 := ((Below.refl _ _).alloc (Nat.le_refl _) _).trans (hbel1.mono (by simp))
    exact bodyPost_ret (v := .tuple #[.agg #[.bool false, .int .u64 0, .int .u64 0, .int .i64 0, .int .i64 0], .bool false]) (by simp [results, Tryz.results13, go_sem, hc, z1]) rfl (parseB_mk E2.out E1.out rfl (by repeat (first | (with_reducible exact hlow9) | (with_reducible refine Below.setCell ?_ (by first | (simp; done) | (simp; omega) | omega) _) | (with_reducible refine Below.alloc ?_ (by first | (simp; done) | (simp; omega) | omega) _))))
end Go.Proofs.YtefkolkagebffaaGreatDoor.Ba
