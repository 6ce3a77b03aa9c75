/- Contracts of the document's answers for layer 12 (one ban): what is read. -/
import Derived.Test.YtefkolkagebffaaGreatDoorRef12
import Derived.Test.YtefkolkagebffaaGreatDoorRef09All
namespace Go.Proofs.YtefkolkagebffaaGreatDoor.Ba
set_option maxRecDepth 100000
open Go.ChangeShapes Go.WideShapes Go.ChangeAt Go.RowKit
open Dec Words V4 V6 Ad Ci
set_option linter.unusedVariables false
set_option linter.unusedSimpArgs false
attribute [local irreducible] World.setCell
theorem preB_at {l : List UInt8} {k : Nat} (h : k < l.length) (e : l[k] = 32) (hn : ∀ j (h : j < l.length), j < k → l[j] ≠ 32) : preB l = l.take k ∧ (32 : UInt8) ∈ l := by
  have hu : (32 : UInt8) ∉ l.take k := fun hm => by
    obtain ⟨j, hj, e2⟩ := List.getElem_of_mem hm
    rw [List.length_take] at hj
    rw [List.getElem_take] at e2
    exact hn j (by omega) (by omega) e2
  have s : l.take k ++ 32 :: l.drop (k + 1) = l := by
    rw [← e, List.getElem_cons_drop, List.take_append_drop]
  refine ⟨?_, by rw [← e]; exact List.getElem_mem h⟩
  have := preB_mid hu (l.drop (k + 1))
  rwa [s] at this
theorem no_blank {l : List UInt8} (hn : ∀ j (h : j < l.length), l[j] ≠ 32) : (32 : UInt8) ∉ l := fun hm => by
  obtain ⟨j, hj, e⟩ := List.getElem_of_mem hm
  exact hn j hj e
set_option maxHeartbeats 16000000 in
theorem rparseB_any (l : List UInt8) (w : World) (hl : l.length < 4294966000) : Calls Tryz.prog 16 #[.string ⟨l.toArray⟩] w (ParseBan l w) := by
  have hsz := size_mk l
  go_enter Tryz.func16, Tryz.ntmps16
  go_wp2_with fail
  go_loopw [4] (fun i wr => ∃ k : Nat, k ≤ l.length ∧ i = .int .i64 k ∧ Hid (∀ j (h : j < l.length), j < k → l[j] ≠ 32) ∧ Stays (w.alloc (.cells #[.bool false, .int .u64 0, .int .u64 0, .int .i64 0, .int .i64 0] 40)) wr) (fun i _ => l.length - (intOf i).toNat)
  case atStart => exact ⟨0, Nat.zero_le _, rfl, Lib.hid (fun j _ h => absurd h (Nat.not_lt_zero _)), Below.refl _ _⟩
  case round =>
    obtain ⟨k, hk, rfl, HN, hbel⟩ := hrel
    have hlow : Below w.heap.size w wr := ((Below.refl _ _).alloc (Nat.le_refl _) _).trans (hbel.mono (by simp))
    by_cases hlt : k < l.length
    · have IX := En.index_at l k (k : Int) rfl hlt
      by_cases hb : l[k] = 32
      · have hb1 := En.byte_on (n := 32) rfl hb
        obtain ⟨hpre, hmem⟩ := preB_at hlt hb (fun j h hj => HN.out j h hj)
        have ST := fun W => En.slice_take l k hk W
        have htl : (l.take k).length ≤ l.length := List.length_take_le' _ _
        have PN := Lib.hid (fun W => rparseN_any (l.take k) W (by omega))
        unfold ParseN at PN
        have hnk := parseN_ok (l.take k)
        cases hN : okN (l.take k)
        · have E1 : Hid (okB l = false) := Lib.hid (parseB_noN (by rw [hpre]; exact hN))
          have E2 := Lib.hid (parseB_no E1.out)
          rw [hN] at PN
          clear hN hpre hmem hb
          generalize parseN (l.take k) = n at *
          go_wp2_with fail
          (with_reducible refine (PN.out _).mono ?_)
          rintro e w2 ⟨rfl, hb2⟩
          have hbel2 : Stays (w.alloc (.cells #[.bool false, .int .u64 0, .int .u64 0, .int .i64 0, .int .i64 0] 40)) w2 := low_trans hbel hb2
          obtain ⟨hc, hf⟩ := old (W := w.alloc (.cells #[.bool false, .int .u64 0, .int .u64 0, .int .i64 0, .int .i64 0] 40)) hbel2
          have z0 : w.heap.size < w2.heap.size := by have := hbel2.size; simp at this; omega
          go_wp2_with fail
          have hlow9 : Below w.heap.size w w2 := ((Below.refl _ _).alloc (Nat.le_refl _) _).trans (hbel2.mono (by simp))
          exact bodyPost_ret (v := .tuple #[.agg #[.bool false, .int .u64 0, .int .u64 0, .int .i64 0, .int .i64 0], .bool false]) (by simp [results, Tryz.results16, go_sem, hc, z0]) rfl (parseB_mk E2.out E1.out rfl (by repeat (first | (with_reducible exact hlow9) | (with_reducible refine Below.setCell ?_ (by first | (simp; done) | (simp; omega)) _) | (with_reducible refine Below.alloc ?_ (by first | (simp; done) | (simp; omega)) _))))
        · by_cases h7 : l.length < k + 7
          · have E1 : Hid (okB l = false) := Lib.hid (okB_short (by rw [hpre, List.length_take]; omega))
            have E2 := Lib.hid (parseB_no E1.out)
            rw [hN] at PN
            clear hN hpre hmem hb
            generalize parseN (l.take k) = n at *
            go_wp2_with fail
            (with_reducible refine (PN.out _).mono ?_)
            rintro e w2 ⟨rfl, hb2⟩
            have hbel2 : Stays (w.alloc (.cells #[.bool false, .int .u64 0, .int .u64 0, .int .i64 0, .int .i64 0] 40)) w2 := low_trans hbel hb2
            obtain ⟨hc, hf⟩ := old (W := w.alloc (.cells #[.bool false, .int .u64 0, .int .u64 0, .int .i64 0, .int .i64 0] 40)) hbel2
            have z0 : w.heap.size < w2.heap.size := by have := hbel2.size; simp at this; omega
            go_wp2_with fail
            have hlow9 : Below w.heap.size w w2 := ((Below.refl _ _).alloc (Nat.le_refl _) _).trans (hbel2.mono (by simp))
            exact bodyPost_ret (v := .tuple #[.agg #[.bool false, .int .u64 0, .int .u64 0, .int .i64 0, .int .i64 0], .bool false]) (by simp [results, Tryz.results16, go_sem, hc, z0]) rfl (parseB_mk E2.out E1.out rfl (by repeat (first | (with_reducible exact hlow9) | (with_reducible refine Below.setCell ?_ (by first | (simp; done) | (simp; omega)) _) | (with_reducible refine Below.alloc ?_ (by first | (simp; done) | (simp; omega)) _))))
          · have SD := fun W => En.slice_drop l (k + 7) (by omega) W
            rw [show ((k + 7 : Nat) : Int) = (k : Int) + 7 by omega] at SD
            have hdl : (l.drop (k + 7)).length ≤ l.length := by rw [List.length_drop]; omega
            have hrest : restB l = l.drop (k + 7) := by unfold restB; rw [hpre, List.length_take]; congr 1; omega
            have hban : banP l = ⟨parseN (l.take k), parN (l.drop (k + 7)) 1099511627776⟩ := by unfold banP; rw [hpre, hrest]
            have PB := Lib.hid (fun W => rparse_list (l.drop (k + 7)) 1099511627776 W (by omega) (by omega) (by omega))
            unfold ParseEnd at PB
            have hpb := parN_bd (l.drop (k + 7)) 1099511627776 (by omega) (by omega)
            cases hp : parB (l.drop (k + 7)) 1099511627776
            · have E1 : Hid (okB l = false) := Lib.hid (okB_noP (by rw [hrest]; exact hp))
              have E2 := Lib.hid (parseB_no E1.out)
              rw [hN] at PN
              rw [hp] at PB
              clear hN hpre hmem hb hrest hban hp
              generalize parseN (l.take k) = n at *
              generalize parN (l.drop (k + 7)) 1099511627776 = p at *
              go_wp2_with fail
              (with_reducible refine (PN.out _).mono ?_)
              rintro e w2 ⟨rfl, hb2⟩
              have hbel2 : Stays (w.alloc (.cells #[.bool false, .int .u64 0, .int .u64 0, .int .i64 0, .int .i64 0] 40)) w2 := low_trans hbel hb2
              have hbel2b : Stays (w.alloc (.cells #[.bool false, .int .u64 0, .int .u64 0, .int .i64 0, .int .i64 0] 40)) (w2.alloc (.cells #[.bool n.a.v6, .int .u64 n.a.hi, .int .u64 n.a.lo, .int .i64 n.n] 38)) := hbel2.alloc hbel2.size _
              go_wp2_with fail
              (with_reducible refine (PB.out _).mono ?_)
              rintro e w3 ⟨rfl, hb3⟩
              have hbel3 : Stays (w.alloc (.cells #[.bool false, .int .u64 0, .int .u64 0, .int .i64 0, .int .i64 0] 40)) w3 := low_trans hbel2b hb3
              have q0 : w3.cell? ⟨w2.heap.size, 0, none⟩ = some (.bool n.a.v6) := Ci.cells_left hb3 (cell_at _ _ _ 0 _ rfl)
              have q1 : w3.cell? ⟨w2.heap.size, 1, none⟩ = some (.int .u64 n.a.hi) := Ci.cells_left hb3 (cell_at _ _ _ 1 _ rfl)
              have q2 : w3.cell? ⟨w2.heap.size, 2, none⟩ = some (.int .u64 n.a.lo) := Ci.cells_left hb3 (cell_at _ _ _ 2 _ rfl)
              have q3 : w3.cell? ⟨w2.heap.size, 3, none⟩ = some (.int .i64 n.n) := Ci.cells_left hb3 (cell_at _ _ _ 3 _ rfl)
              have z3 : w2.heap.size < w3.heap.size := by have := hb3.size; simp at this; omega
              have z0 : w.heap.size < w2.heap.size := by have := hbel2.size; simp at this; omega
              obtain ⟨hc, hf⟩ := old (W := w.alloc (.cells #[.bool false, .int .u64 0, .int .u64 0, .int .i64 0, .int .i64 0] 40)) hbel3
              have z4 : w.heap.size < w3.heap.size := by omega
              go_wp2_with fail
              have hlow9 : Below w.heap.size w w3 := ((Below.refl _ _).alloc (Nat.le_refl _) _).trans (hbel3.mono (by simp))
              exact bodyPost_ret (v := .tuple #[.agg #[.bool false, .int .u64 0, .int .u64 0, .int .i64 0, .int .i64 0], .bool false]) (by simp [results, Tryz.results16, go_sem, hc, z0, z4]) rfl (parseB_mk E2.out E1.out rfl (by repeat (first | (with_reducible exact hlow9) | (with_reducible refine Below.setCell ?_ (by first | (simp; done) | (simp; omega)) _) | (with_reducible refine Below.alloc ?_ (by first | (simp; done) | (simp; omega)) _))))
            · have TX := Lib.hid (fun W => rtextB_any ⟨parseN (l.take k), parN (l.drop (k + 7)) 1099511627776⟩ W ⟨hnk, by simp only; omega, by simp only; omega⟩)
              cases hq : (textB ⟨parseN (l.take k), parN (l.drop (k + 7)) 1099511627776⟩ == l)
              · have E1 : Hid (okB l = false) := Lib.hid (okB_unlike (by rw [hban]; exact hq))
                have E2 := Lib.hid (parseB_no E1.out)
                rw [hN] at PN
                rw [hp] at PB
                have Q1 := hq
                have Q2 : (textB ⟨parseN (l.take k), parN (l.drop (k + 7)) 1099511627776⟩ != l) = true := by unfold bne; rw [hq]; rfl
                clear hN hpre hmem hb hrest hban hp hq
                generalize parseN (l.take k) = n at *
                generalize parN (l.drop (k + 7)) 1099511627776 = p at *
                generalize textB ⟨n, p⟩ = T at *
                go_wp2_with fail
                (with_reducible refine (PN.out _).mono ?_)
                rintro e w2 ⟨rfl, hb2⟩
                have hbel2 : Stays (w.alloc (.cells #[.bool false, .int .u64 0, .int .u64 0, .int .i64 0, .int .i64 0] 40)) w2 := low_trans hbel hb2
                have hbel2b : Stays (w.alloc (.cells #[.bool false, .int .u64 0, .int .u64 0, .int .i64 0, .int .i64 0] 40)) (w2.alloc (.cells #[.bool n.a.v6, .int .u64 n.a.hi, .int .u64 n.a.lo, .int .i64 n.n] 38)) := hbel2.alloc hbel2.size _
                go_wp2_with fail
                (with_reducible refine (PB.out _).mono ?_)
                rintro e w3 ⟨rfl, hb3⟩
                have hbel3 : Stays (w.alloc (.cells #[.bool false, .int .u64 0, .int .u64 0, .int .i64 0, .int .i64 0] 40)) w3 := low_trans hbel2b hb3
                have q0 : w3.cell? ⟨w2.heap.size, 0, none⟩ = some (.bool n.a.v6) := Ci.cells_left hb3 (cell_at _ _ _ 0 _ rfl)
                have q1 : w3.cell? ⟨w2.heap.size, 1, none⟩ = some (.int .u64 n.a.hi) := Ci.cells_left hb3 (cell_at _ _ _ 1 _ rfl)
                have q2 : w3.cell? ⟨w2.heap.size, 2, none⟩ = some (.int .u64 n.a.lo) := Ci.cells_left hb3 (cell_at _ _ _ 2 _ rfl)
                have q3 : w3.cell? ⟨w2.heap.size, 3, none⟩ = some (.int .i64 n.n) := Ci.cells_left hb3 (cell_at _ _ _ 3 _ rfl)
                have z3 : w2.heap.size < w3.heap.size := by have := hb3.size; simp at this; omega
                have z0 : w.heap.size < w2.heap.size := by have := hbel2.size; simp at this; omega
                have hbel3b : Stays (w.alloc (.cells #[.bool false, .int .u64 0, .int .u64 0, .int .i64 0, .int .i64 0] 40)) (w3.alloc (.cells #[.bool n.a.v6, .int .u64 n.a.hi, .int .u64 n.a.lo, .int .i64 n.n, .int .i64 p] 40)) := hbel3.alloc hbel3.size _
                go_wp2_with fail
                (with_reducible refine (TX.out _).mono ?_)
                rintro e w4 ⟨rfl, hb4⟩
                have hbel4 : Stays (w.alloc (.cells #[.bool false, .int .u64 0, .int .u64 0, .int .i64 0, .int .i64 0] 40)) w4 := low_trans hbel3b hb4
                clear q0 q1 q2 q3
                have r0 : w4.cell? ⟨w3.heap.size, 0, none⟩ = some (.bool n.a.v6) := Ci.cells_left hb4 (cell_at _ _ _ 0 _ rfl)
                have r1 : w4.cell? ⟨w3.heap.size, 1, none⟩ = some (.int .u64 n.a.hi) := Ci.cells_left hb4 (cell_at _ _ _ 1 _ rfl)
                have r2 : w4.cell? ⟨w3.heap.size, 2, none⟩ = some (.int .u64 n.a.lo) := Ci.cells_left hb4 (cell_at _ _ _ 2 _ rfl)
                have r3 : w4.cell? ⟨w3.heap.size, 3, none⟩ = some (.int .i64 n.n) := Ci.cells_left hb4 (cell_at _ _ _ 3 _ rfl)
                have r4 : w4.cell? ⟨w3.heap.size, 4, none⟩ = some (.int .i64 p) := Ci.cells_left hb4 (cell_at _ _ _ 4 _ rfl)
                obtain ⟨hc, hf⟩ := old (W := w.alloc (.cells #[.bool false, .int .u64 0, .int .u64 0, .int .i64 0, .int .i64 0] 40)) hbel4
                go_wp2_with fail
                have hlow9 : Below w.heap.size w w4 := ((Below.refl _ _).alloc (Nat.le_refl _) _).trans (hbel4.mono (by simp))
                exact bodyPost_ret (v := .tuple #[.agg #[.bool false, .int .u64 0, .int .u64 0, .int .i64 0, .int .i64 0], .bool false]) (by simp [results, Tryz.results16, go_sem, hc]) rfl (parseB_mk E2.out E1.out rfl (by repeat (first | (with_reducible exact hlow9) | (with_reducible refine Below.setCell ?_ (by first | (simp; done) | (simp; omega)) _) | (with_reducible refine Below.alloc ?_ (by first | (simp; done) | (simp; omega)) _))))
              · have E := okB_all hmem (by rw [hpre]; exact hN) (by rw [hpre, List.length_take]; omega) (by rw [hrest]; exact hp) (by rw [hban]; exact hq)
                rw [hban] at E
                have E1 := Lib.hid E.1
                have E2 := Lib.hid E.2
                clear E
                rw [hN] at PN
                rw [hp] at PB
                have Q1 := hq
                have Q2 : (textB ⟨parseN (l.take k), parN (l.drop (k + 7)) 1099511627776⟩ != l) = false := by unfold bne; rw [hq]; rfl
                clear hN hpre hmem hb hrest hban hp hq
                generalize parseN (l.take k) = n at *
                generalize parN (l.drop (k + 7)) 1099511627776 = p at *
                generalize textB ⟨n, p⟩ = T at *
                go_wp2_with fail
                (with_reducible refine (PN.out _).mono ?_)
                rintro e w2 ⟨rfl, hb2⟩
                have hbel2 : Stays (w.alloc (.cells #[.bool false, .int .u64 0, .int .u64 0, .int .i64 0, .int .i64 0] 40)) w2 := low_trans hbel hb2
                have hbel2b : Stays (w.alloc (.cells #[.bool false, .int .u64 0, .int .u64 0, .int .i64 0, .int .i64 0] 40)) (w2.alloc (.cells #[.bool n.a.v6, .int .u64 n.a.hi, .int .u64 n.a.lo, .int .i64 n.n] 38)) := hbel2.alloc hbel2.size _
                go_wp2_with fail
                (with_reducible refine (PB.out _).mono ?_)
                rintro e w3 ⟨rfl, hb3⟩
                have hbel3 : Stays (w.alloc (.cells #[.bool false, .int .u64 0, .int .u64 0, .int .i64 0, .int .i64 0] 40)) w3 := low_trans hbel2b hb3
                have q0 : w3.cell? ⟨w2.heap.size, 0, none⟩ = some (.bool n.a.v6) := Ci.cells_left hb3 (cell_at _ _ _ 0 _ rfl)
                have q1 : w3.cell? ⟨w2.heap.size, 1, none⟩ = some (.int .u64 n.a.hi) := Ci.cells_left hb3 (cell_at _ _ _ 1 _ rfl)
                have q2 : w3.cell? ⟨w2.heap.size, 2, none⟩ = some (.int .u64 n.a.lo) := Ci.cells_left hb3 (cell_at _ _ _ 2 _ rfl)
                have q3 : w3.cell? ⟨w2.heap.size, 3, none⟩ = some (.int .i64 n.n) := Ci.cells_left hb3 (cell_at _ _ _ 3 _ rfl)
                have z3 : w2.heap.size < w3.heap.size := by have := hb3.size; simp at this; omega
                have z0 : w.heap.size < w2.heap.size := by have := hbel2.size; simp at this; omega
                have hbel3b : Stays (w.alloc (.cells #[.bool false, .int .u64 0, .int .u64 0, .int .i64 0, .int .i64 0] 40)) (w3.alloc (.cells #[.bool n.a.v6, .int .u64 n.a.hi, .int .u64 n.a.lo, .int .i64 n.n, .int .i64 p] 40)) := hbel3.alloc hbel3.size _
                go_wp2_with fail
                (with_reducible refine (TX.out _).mono ?_)
                rintro e w4 ⟨rfl, hb4⟩
                have hbel4 : Stays (w.alloc (.cells #[.bool false, .int .u64 0, .int .u64 0, .int .i64 0, .int .i64 0] 40)) w4 := low_trans hbel3b hb4
                clear q0 q1 q2 q3
                have r0 : w4.cell? ⟨w3.heap.size, 0, none⟩ = some (.bool n.a.v6) := Ci.cells_left hb4 (cell_at _ _ _ 0 _ rfl)
                have r1 : w4.cell? ⟨w3.heap.size, 1, none⟩ = some (.int .u64 n.a.hi) := Ci.cells_left hb4 (cell_at _ _ _ 1 _ rfl)
                have r2 : w4.cell? ⟨w3.heap.size, 2, none⟩ = some (.int .u64 n.a.lo) := Ci.cells_left hb4 (cell_at _ _ _ 2 _ rfl)
                have r3 : w4.cell? ⟨w3.heap.size, 3, none⟩ = some (.int .i64 n.n) := Ci.cells_left hb4 (cell_at _ _ _ 3 _ rfl)
                have r4 : w4.cell? ⟨w3.heap.size, 4, none⟩ = some (.int .i64 p) := Ci.cells_left hb4 (cell_at _ _ _ 4 _ rfl)
                obtain ⟨hc, hf⟩ := old (W := w.alloc (.cells #[.bool false, .int .u64 0, .int .u64 0, .int .i64 0, .int .i64 0] 40)) hbel4
                go_wp2_with fail
                have hlow9 : Below w.heap.size w w4 := ((Below.refl _ _).alloc (Nat.le_refl _) _).trans (hbel4.mono (by simp))
                exact bodyPost_ret (v := .tuple #[.agg #[.bool n.a.v6, .int .u64 n.a.hi, .int .u64 n.a.lo, .int .i64 n.n, .int .i64 p], .bool true]) (by simp [results, Tryz.results16, go_sem, hc]) rfl (parseB_mk E2.out E1.out rfl (by repeat (first | (with_reducible exact hlow9) | (with_reducible refine Below.setCell ?_ (by first | (simp; done) | (simp; omega)) _) | (with_reducible refine Below.alloc ?_ (by first | (simp; done) | (simp; omega)) _))))
      · have HN2 : Hid (∀ j (h : j < l.length), j < k + 1 → l[j] ≠ 32) := Lib.hid fun j h hj => by
          rcases Nat.lt_succ_iff_lt_or_eq.1 hj with h2 | rfl
          · exact HN.out j h h2
          · exact hb
        have hb1 := En.byte_no (n := 32) rfl hb
        clear hb
        go_wp2_with fail
        go_roundw
        case rel => exact ⟨k + 1, by omega, by go_num, HN2, hbel⟩
        case measure => simp [intOf]; omega
    · have E1 : Hid (okB l = false) := Lib.hid (okB_noblank (no_blank fun j h => HN.out j h (by omega)))
      have E2 := Lib.hid (parseB_no E1.out)
      obtain ⟨hc, hf⟩ := old (W := w.alloc (.cells #[.bool false, .int .u64 0, .int .u64 0, .int .i64 0, .int .i64 0] 40)) hbel
      go_wp2_with fail
      exact bodyPost_ret (v := .tuple #[.agg #[.bool false, .int .u64 0, .int .u64 0, .int .i64 0, .int .i64 0], .bool false]) (by simp [results, Tryz.results16, go_sem, hc]) rfl (parseB_mk E2.out E1.out rfl (by repeat (first | (with_reducible exact hlow) | (with_reducible refine Below.setCell ?_ (by first | (simp; done) | (simp; omega)) _) | (with_reducible refine Below.alloc ?_ (by first | (simp; done) | (simp; omega)) _))))
end Go.Proofs.YtefkolkagebffaaGreatDoor.Ba
