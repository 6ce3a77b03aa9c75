/- Package sort's partialInsertionSort_func, at a list of which 'less' and 'swap' are known. -/
import Derived.Test.YtefkolkagebffaaGreatDoorSrtLow
namespace Go.Proofs.YtefkolkagebffaaGreatDoor.Srt
set_option maxRecDepth 100000
open Go.ChangeShapes Go.WideShapes Go.ChangeAt Go.RowKit
set_option linter.unusedVariables false
section
variable {α : Type} [Inhabited α] {lf sf : Nat} {lb sb : Array Value} {g b0 n : Nat} {lt : α → α → Bool} {A : Array α → World → Prop}
set_option maxHeartbeats 16000000 in
theorem partial_any (S : Srt Tryz.prog lf sf lb sb g b0 n lt A) {d : Array α} {w : World} {a b : Nat} (h : A d w) (hab : a < b) (hb : b ≤ n) :
    Calls Tryz.prog 109 #[.agg #[.func (.func lf) #[] lb, .func (.func sf) #[] sb], .int .i64 a, .int .i64 b] w fun e w' => e = .returned (.bool (Sort.partialInsertionSort lt d a b).2) ∧ A (Sort.partialInsertionSort lt d a b).1 w' ∧ Bt g w w' := by
  have S0 := Lib.hid (S.start (T := 103) h)
  have hn := S.small
  have eg := S.enter
  obtain ⟨R, hR⟩ : ∃ R, R = Sort.partialInsertionSort lt d a b := ⟨_, rfl⟩
  rw [← hR]
  have HR : Hid (Sort.partialIns lt a b (5 - 0) (a + 1) d = R) := Lib.hid (by rw [hR]; rfl)
  clear S h hR
  go_enter Tryz.func109, Tryz.ntmps109
  go_wp2_with fail
  go_loopw [7, 8] (fun vi vt wr => ∃ (t i : Nat) (dk : Array α), vi = .int .i64 i ∧ vt = .int .i64 t ∧ t ≤ 5 ∧ a < i ∧ i ≤ b ∧ Hid (St Tryz.prog lf sf lb sb g b0 n lt A w w.heap.size 103 dk wr) ∧ Hid (Sort.partialIns lt a b (5 - t) i dk = R)) (fun _ vt _ => 5 - (intOf vt).toNat)
  case atStart => exact ⟨0, a + 1, d, by go_num, rfl, by omega, by omega, by omega, S0, HR⟩
  case round =>
    obtain ⟨t, i, dk, rfl, rfl, ht, hai, hib, HS, HO⟩ := hrel
    clear S0 HR
    by_cases ht5 : t < 5
    · have htz : (t : Int) < 5 := by omega
      obtain ⟨q, hq⟩ : ∃ q : Nat, q = 4 - t := ⟨_, rfl⟩
      rw [show 5 - t = q + 1 by omega] at HO
      have HT : Hid (q = 4 - t) := Lib.hid hq
      clear hq
      go_wp2_with fail
      go_loopw [7] (fun vi wr => ∃ (i2 : Nat), vi = .int .i64 i2 ∧ a < i2 ∧ i2 ≤ b ∧ Hid (St Tryz.prog lf sf lb sb g b0 n lt A w w.heap.size 103 dk wr) ∧ Hid (Sort.scanSorted lt dk b i2 = Sort.scanSorted lt dk b i)) (fun vi _ => b - (intOf vi).toNat)
      case atStart => exact ⟨i, rfl, hai, hib, HS, Lib.hid rfl⟩
      case round =>
        clear HS
        obtain ⟨i2, rfl, hai2, hib2, HS, HI⟩ := hrel
        have c0 := HS.out.c0
        by_cases hlt : i2 < b
        · have hltz : (i2 : Int) < (b : Int) := by omega
          have hl := HS.out.less (i := i2) (j := i2 - 1) (by omega) (by omega)
          rw [show ((i2 - 1 : Nat) : Int) = (i2 : Int) - 1 by omega] at hl
          cases hlv : lt dk[i2]! dk[i2 - 1]! with
          | false =>
            have HI2 : Hid (Sort.scanSorted lt dk b (i2 + 1) = Sort.scanSorted lt dk b i) := Lib.hid (by rw [← HI.out]; exact (sorted_more hlt hlv).symm)
            rw [hlv] at hl
            have KL := Lib.hid hl
            clear hl hlv HI
            go_wp2_with fail
            refine KL.out.mono ?_
            rintro e w2 ⟨rfl, hS2, hb2⟩
            have HS2 := Lib.hid hS2
            clear hS2 KL HS hb2 c0
            go_wp2_with fail
            go_roundw
            case rel => exact ⟨i2 + 1, by go_num, by omega, by omega, HS2, HI2⟩
            case measure => first | (simp [intOf]; done) | (simp [intOf]; omega)
          | true =>
            have HI2 : Hid (i2 = Sort.scanSorted lt dk b i) := Lib.hid (by rw [← HI.out]; exact (sorted_done (Or.inr hlv)).symm)
            have hne : ¬ i2 = b := by omega
            have hnez : ((i2 : Int) == (b : Int)) = false := by simp; omega
            rw [hlv] at hl
            have KL := Lib.hid hl
            clear hl hlv HI
            have HI := HI2
            clear HI2
            by_cases h50 : b - a < 50
            · have h50z : (b : Int) - (a : Int) < 50 := by omega
              have E : Hid ((dk, false) = R) := Lib.hid (by rw [← HO.out]; exact (partial_short HI.out hne h50).symm)
              go_wp2_with fail
              refine KL.out.mono ?_
              rintro e w2 ⟨rfl, hS2, hb2⟩
              have HS2 := Lib.hid hS2
              clear hS2 KL HS hb2 c0 HO HI
              go_wp2_with fail
              go_ret
              exact ⟨by rw [← E.out]; rfl, by rw [← E.out]; exact HS2.out.a, HS2.out.bt⟩
            · have h50z : ¬ (b : Int) - (a : Int) < 50 := by omega
              go_wp2_with fail
              refine KL.out.mono ?_
              rintro e w2 ⟨rfl, hS2, hb2⟩
              have d1 := hS2.c1
              obtain ⟨W1, hs, hS3, hbt⟩ := hS2.swap (i := i2) (j := i2 - 1) (by omega) (by omega)
              rw [show ((i2 - 1 : Nat) : Int) = (i2 : Int) - 1 by omega] at hs
              clear HS
              have HS := Lib.hid hS3
              clear hS2 hS3 hbt KL hb2 c0
              by_cases ha2 : i2 - a ≥ 2
              · have ha2z : (2 : Int) ≤ (i2 : Int) - (a : Int) := by omega
                go_wp2_with fail
                go_loopw [9] (fun vj wr => ∃ (j : Nat) (dj : Array α), vj = .int .i64 j ∧ j < i2 ∧ Hid (St Tryz.prog lf sf lb sb g b0 n lt A w w.heap.size 103 dj wr) ∧ Hid (Sort.shiftDown lt j dj = Sort.shiftDown lt (i2 - 1) (Sort.swp dk i2 (i2 - 1)))) (fun vj _ => (intOf vj).toNat)
                case atStart => exact ⟨i2 - 1, _, by go_num, by omega, HS, Lib.hid rfl⟩
                case round =>
                  clear HS
                  obtain ⟨j, dj, rfl, hij, HS, HU⟩ := hrel
                  have c0 := HS.out.c0
                  by_cases hlt : 1 ≤ j
                  · have hltz : (1 : Int) ≤ (j : Int) := by omega
                    have hl := HS.out.less (i := j) (j := j - 1) (by omega) (by omega)
                    rw [show ((j - 1 : Nat) : Int) = (j : Int) - 1 by omega] at hl
                    cases hlv : lt dj[j]! dj[j - 1]! with
                    | true =>
                      have HU2 : Hid (Sort.shiftDown lt (j - 1) (Sort.swp dj j (j - 1)) = Sort.shiftDown lt (i2 - 1) (Sort.swp dk i2 (i2 - 1))) := Lib.hid (by rw [← HU.out]; exact (shiftD_more (by omega) hlv).symm)
                      rw [hlv] at hl
                      have KL := Lib.hid hl
                      clear hl hlv HU
                      go_wp2_with fail
                      refine KL.out.mono ?_
                      rintro e w2 ⟨rfl, hS2, hb2'⟩
                      have d1 := hS2.c1
                      obtain ⟨W1, hs, hS3, hbt⟩ := hS2.swap (i := j) (j := j - 1) (by omega) (by omega)
                      rw [show ((j - 1 : Nat) : Int) = (j : Int) - 1 by omega] at hs
                      have HS3 := Lib.hid hS3
                      clear hS2 hS3 hbt KL HS hb2' c0
                      go_wp2_with fail
                      go_roundw
                      case rel => exact ⟨j - 1, _, by go_num, by omega, HS3, HU2⟩
                      case measure => first | (simp [intOf]; done) | (simp [intOf]; omega)
                    | false =>
                      obtain ⟨d2, hd2⟩ : ∃ d2, d2 = dj := ⟨_, rfl⟩
                      have HD2 : Hid (d2 = if i2 - a ≥ 2 then Sort.shiftDown lt (i2 - 1) (Sort.swp dk i2 (i2 - 1)) else Sort.swp dk i2 (i2 - 1)) := Lib.hid (by rw [if_pos ha2, ← HU.out, hd2]; exact (shiftD_done (Or.inr hlv)).symm)
                      rw [hlv] at hl
                      have KL := Lib.hid hl
                      clear hl hlv HU
                      subst hd2
                      go_wp2_with fail
                      refine KL.out.mono ?_
                      rintro e w2 ⟨rfl, hS2, hb2'⟩
                      have HS2 := Lib.hid hS2
                      clear hS2 KL HS hb2' c0
                      have HS := HS2
                      clear HS2
                      by_cases hb2 : b - i2 ≥ 2
                      · have hb2z : (2 : Int) ≤ (b : Int) - (i2 : Int) := by omega
                        go_wp2_with fail
                        go_loopw [10] (fun vj wr => ∃ (j : Nat) (dj : Array α), vj = .int .i64 j ∧ i2 < j ∧ j ≤ b ∧ Hid (St Tryz.prog lf sf lb sb g b0 n lt A w w.heap.size 103 dj wr) ∧ Hid (Sort.shiftUp lt b j dj = Sort.shiftUp lt b (i2 + 1) d2)) (fun vj _ => b + 1 - (intOf vj).toNat)
                        case atStart => exact ⟨i2 + 1, d2, by go_num, by omega, by omega, HS, Lib.hid rfl⟩
                        case round =>
                          clear HS
                          obtain ⟨j, dj, rfl, hij, hjb, HS, HU⟩ := hrel
                          have c0 := HS.out.c0
                          by_cases hlt : j < b
                          · have hltz : (j : Int) < (b : Int) := by omega
                            have hl := HS.out.less (i := j) (j := j - 1) (by omega) (by omega)
                            rw [show ((j - 1 : Nat) : Int) = (j : Int) - 1 by omega] at hl
                            cases hlv : lt dj[j]! dj[j - 1]! with
                            | true =>
                              have HU2 : Hid (Sort.shiftUp lt b (j + 1) (Sort.swp dj j (j - 1)) = Sort.shiftUp lt b (i2 + 1) d2) := Lib.hid (by rw [← HU.out]; exact (shiftU_more hlt hlv).symm)
                              rw [hlv] at hl
                              have KL := Lib.hid hl
                              clear hl hlv HU
                              go_wp2_with fail
                              refine KL.out.mono ?_
                              rintro e w2 ⟨rfl, hS2, hb2'⟩
                              have d1 := hS2.c1
                              obtain ⟨W1, hs, hS3, hbt⟩ := hS2.swap (i := j) (j := j - 1) (by omega) (by omega)
                              rw [show ((j - 1 : Nat) : Int) = (j : Int) - 1 by omega] at hs
                              have HS3 := Lib.hid hS3
                              clear hS2 hS3 hbt KL HS hb2' c0
                              go_wp2_with fail
                              go_roundw
                              case rel => exact ⟨j + 1, _, by go_num, by omega, by omega, HS3, HU2⟩
                              case measure => first | (simp [intOf]; done) | (simp [intOf]; omega)
                            | false =>
                              obtain ⟨d3, hd3⟩ : ∃ d3, d3 = dj := ⟨_, rfl⟩
                              have E3 : Hid (d3 = if b - i2 ≥ 2 then Sort.shiftUp lt b (i2 + 1) d2 else d2) := Lib.hid (by rw [if_pos hb2, ← HU.out, hd3]; exact (shiftU_done (Or.inr hlv)).symm)
                              rw [hlv] at hl
                              have KL := Lib.hid hl
                              clear hl hlv HU
                              subst hd3
                              go_wp2_with fail
                              refine KL.out.mono ?_
                              rintro e w2 ⟨rfl, hS2, hb2'⟩
                              have HS2 := Lib.hid hS2
                              clear hS2 KL HS hb2' c0
                              have HS := HS2
                              clear HS2
                              have HO2 : Hid (Sort.partialIns lt a b q i2 d3 = R) := Lib.hid (by rw [← HO.out]; exact (partial_next HI.out hne h50 HD2.out E3.out).symm)
                              have HO3 : Hid (Sort.partialIns lt a b (5 - (t + 1)) i2 d3 = R) := Lib.hid (by rw [show 5 - (t + 1) = q by have := HT.out; omega]; exact HO2.out)
                              clear HO HO2 HI HD2 E3
                              go_wp2_with fail
                              go_roundw
                              case rel => exact ⟨t + 1, i2, d3, rfl, by go_num, by omega, by omega, by omega, HS, HO3⟩
                              case measure => first | (simp [intOf]; done) | (simp [intOf]; omega)
                          · have hltz : ¬ (j : Int) < (b : Int) := by omega
                            obtain ⟨d3, hd3⟩ : ∃ d3, d3 = dj := ⟨_, rfl⟩
                            have E3 : Hid (d3 = if b - i2 ≥ 2 then Sort.shiftUp lt b (i2 + 1) d2 else d2) := Lib.hid (by rw [if_pos hb2, ← HU.out, hd3]; exact (shiftU_done (Or.inl hlt)).symm)
                            clear HU c0
                            subst hd3
                            have HO2 : Hid (Sort.partialIns lt a b q i2 d3 = R) := Lib.hid (by rw [← HO.out]; exact (partial_next HI.out hne h50 HD2.out E3.out).symm)
                            have HO3 : Hid (Sort.partialIns lt a b (5 - (t + 1)) i2 d3 = R) := Lib.hid (by rw [show 5 - (t + 1) = q by have := HT.out; omega]; exact HO2.out)
                            clear HO HO2 HI HD2 E3
                            go_wp2_with fail
                            go_roundw
                            case rel => exact ⟨t + 1, i2, d3, rfl, by go_num, by omega, by omega, by omega, HS, HO3⟩
                            case measure => first | (simp [intOf]; done) | (simp [intOf]; omega)
                      · have hb2z : ¬ (2 : Int) ≤ (b : Int) - (i2 : Int) := by omega
                        obtain ⟨d3, hd3⟩ : ∃ d3, d3 = d2 := ⟨_, rfl⟩
                        have E3 : Hid (d3 = if b - i2 ≥ 2 then Sort.shiftUp lt b (i2 + 1) d2 else d2) := Lib.hid (by rw [if_neg hb2, hd3])
                        have HS2 : Hid (St Tryz.prog lf sf lb sb g b0 n lt A w w.heap.size 103 d3 _) := Lib.hid (by rw [hd3]; exact HS.out)
                        clear HS
                        have HS := HS2
                        clear HS2 hd3
                        have HO2 : Hid (Sort.partialIns lt a b q i2 d3 = R) := Lib.hid (by rw [← HO.out]; exact (partial_next HI.out hne h50 HD2.out E3.out).symm)
                        have HO3 : Hid (Sort.partialIns lt a b (5 - (t + 1)) i2 d3 = R) := Lib.hid (by rw [show 5 - (t + 1) = q by have := HT.out; omega]; exact HO2.out)
                        clear HO HO2 HI HD2 E3
                        go_wp2_with fail
                        go_roundw
                        case rel => exact ⟨t + 1, i2, d3, rfl, by go_num, by omega, by omega, by omega, HS, HO3⟩
                        case measure => first | (simp [intOf]; done) | (simp [intOf]; omega)
                  · have hltz : ¬ (1 : Int) ≤ (j : Int) := by omega
                    obtain ⟨d2, hd2⟩ : ∃ d2, d2 = dj := ⟨_, rfl⟩
                    have HD2 : Hid (d2 = if i2 - a ≥ 2 then Sort.shiftDown lt (i2 - 1) (Sort.swp dk i2 (i2 - 1)) else Sort.swp dk i2 (i2 - 1)) := Lib.hid (by rw [if_pos ha2, ← HU.out, hd2]; exact (shiftD_done (Or.inl (by omega))).symm)
                    clear HU c0
                    subst hd2
                    by_cases hb2 : b - i2 ≥ 2
                    · have hb2z : (2 : Int) ≤ (b : Int) - (i2 : Int) := by omega
                      go_wp2_with fail
                      go_loopw [10] (fun vj wr => ∃ (j : Nat) (dj : Array α), vj = .int .i64 j ∧ i2 < j ∧ j ≤ b ∧ Hid (St Tryz.prog lf sf lb sb g b0 n lt A w w.heap.size 103 dj wr) ∧ Hid (Sort.shiftUp lt b j dj = Sort.shiftUp lt b (i2 + 1) d2)) (fun vj _ => b + 1 - (intOf vj).toNat)
                      case atStart => exact ⟨i2 + 1, d2, by go_num, by omega, by omega, HS, Lib.hid rfl⟩
                      case round =>
                        clear HS
                        obtain ⟨j, dj, rfl, hij, hjb, HS, HU⟩ := hrel
                        have c0 := HS.out.c0
                        by_cases hlt : j < b
                        · have hltz : (j : Int) < (b : Int) := by omega
                          have hl := HS.out.less (i := j) (j := j - 1) (by omega) (by omega)
                          rw [show ((j - 1 : Nat) : Int) = (j : Int) - 1 by omega] at hl
                          cases hlv : lt dj[j]! dj[j - 1]! with
                          | true =>
                            have HU2 : Hid (Sort.shiftUp lt b (j + 1) (Sort.swp dj j (j - 1)) = Sort.shiftUp lt b (i2 + 1) d2) := Lib.hid (by rw [← HU.out]; exact (shiftU_more hlt hlv).symm)
                            rw [hlv] at hl
                            have KL := Lib.hid hl
                            clear hl hlv HU
                            go_wp2_with fail
                            refine KL.out.mono ?_
                            rintro e w2 ⟨rfl, hS2, hb2'⟩
                            have d1 := hS2.c1
                            obtain ⟨W1, hs, hS3, hbt⟩ := hS2.swap (i := j) (j := j - 1) (by omega) (by omega)
                            rw [show ((j - 1 : Nat) : Int) = (j : Int) - 1 by omega] at hs
                            have HS3 := Lib.hid hS3
                            clear hS2 hS3 hbt KL HS hb2' c0
                            go_wp2_with fail
                            go_roundw
                            case rel => exact ⟨j + 1, _, by go_num, by omega, by omega, HS3, HU2⟩
                            case measure => first | (simp [intOf]; done) | (simp [intOf]; omega)
                          | false =>
                            obtain ⟨d3, hd3⟩ : ∃ d3, d3 = dj := ⟨_, rfl⟩
                            have E3 : Hid (d3 = if b - i2 ≥ 2 then Sort.shiftUp lt b (i2 + 1) d2 else d2) := Lib.hid (by rw [if_pos hb2, ← HU.out, hd3]; exact (shiftU_done (Or.inr hlv)).symm)
                            rw [hlv] at hl
                            have KL := Lib.hid hl
                            clear hl hlv HU
                            subst hd3
                            go_wp2_with fail
                            refine KL.out.mono ?_
                            rintro e w2 ⟨rfl, hS2, hb2'⟩
                            have HS2 := Lib.hid hS2
                            clear hS2 KL HS hb2' c0
                            have HS := HS2
                            clear HS2
                            have HO2 : Hid (Sort.partialIns lt a b q i2 d3 = R) := Lib.hid (by rw [← HO.out]; exact (partial_next HI.out hne h50 HD2.out E3.out).symm)
                            have HO3 : Hid (Sort.partialIns lt a b (5 - (t + 1)) i2 d3 = R) := Lib.hid (by rw [show 5 - (t + 1) = q by have := HT.out; omega]; exact HO2.out)
                            clear HO HO2 HI HD2 E3
                            go_wp2_with fail
                            go_roundw
                            case rel => exact ⟨t + 1, i2, d3, rfl, by go_num, by omega, by omega, by omega, HS, HO3⟩
                            case measure => first | (simp [intOf]; done) | (simp [intOf]; omega)
                        · have hltz : ¬ (j : Int) < (b : Int) := by omega
                          obtain ⟨d3, hd3⟩ : ∃ d3, d3 = dj := ⟨_, rfl⟩
                          have E3 : Hid (d3 = if b - i2 ≥ 2 then Sort.shiftUp lt b (i2 + 1) d2 else d2) := Lib.hid (by rw [if_pos hb2, ← HU.out, hd3]; exact (shiftU_done (Or.inl hlt)).symm)
                          clear HU c0
                          subst hd3
                          have HO2 : Hid (Sort.partialIns lt a b q i2 d3 = R) := Lib.hid (by rw [← HO.out]; exact (partial_next HI.out hne h50 HD2.out E3.out).symm)
                          have HO3 : Hid (Sort.partialIns lt a b (5 - (t + 1)) i2 d3 = R) := Lib.hid (by rw [show 5 - (t + 1) = q by have := HT.out; omega]; exact HO2.out)
                          clear HO HO2 HI HD2 E3
                          go_wp2_with fail
                          go_roundw
                          case rel => exact ⟨t + 1, i2, d3, rfl, by go_num, by omega, by omega, by omega, HS, HO3⟩
                          case measure => first | (simp [intOf]; done) | (simp [intOf]; omega)
                    · have hb2z : ¬ (2 : Int) ≤ (b : Int) - (i2 : Int) := by omega
                      obtain ⟨d3, hd3⟩ : ∃ d3, d3 = d2 := ⟨_, rfl⟩
                      have E3 : Hid (d3 = if b - i2 ≥ 2 then Sort.shiftUp lt b (i2 + 1) d2 else d2) := Lib.hid (by rw [if_neg hb2, hd3])
                      have HS2 : Hid (St Tryz.prog lf sf lb sb g b0 n lt A w w.heap.size 103 d3 _) := Lib.hid (by rw [hd3]; exact HS.out)
                      clear HS
                      have HS := HS2
                      clear HS2 hd3
                      have HO2 : Hid (Sort.partialIns lt a b q i2 d3 = R) := Lib.hid (by rw [← HO.out]; exact (partial_next HI.out hne h50 HD2.out E3.out).symm)
                      have HO3 : Hid (Sort.partialIns lt a b (5 - (t + 1)) i2 d3 = R) := Lib.hid (by rw [show 5 - (t + 1) = q by have := HT.out; omega]; exact HO2.out)
                      clear HO HO2 HI HD2 E3
                      go_wp2_with fail
                      go_roundw
                      case rel => exact ⟨t + 1, i2, d3, rfl, by go_num, by omega, by omega, by omega, HS, HO3⟩
                      case measure => first | (simp [intOf]; done) | (simp [intOf]; omega)
              · have ha2z : ¬ (2 : Int) ≤ (i2 : Int) - (a : Int) := by omega
                obtain ⟨d2, hd2⟩ : ∃ d2, d2 = Sort.swp dk i2 (i2 - 1) := ⟨_, rfl⟩
                have HD2 : Hid (d2 = if i2 - a ≥ 2 then Sort.shiftDown lt (i2 - 1) (Sort.swp dk i2 (i2 - 1)) else Sort.swp dk i2 (i2 - 1)) := Lib.hid (by rw [if_neg ha2, hd2])
                rw [← hd2] at HS
                clear hd2
                by_cases hb2 : b - i2 ≥ 2
                · have hb2z : (2 : Int) ≤ (b : Int) - (i2 : Int) := by omega
                  go_wp2_with fail
                  go_loopw [10] (fun vj wr => ∃ (j : Nat) (dj : Array α), vj = .int .i64 j ∧ i2 < j ∧ j ≤ b ∧ Hid (St Tryz.prog lf sf lb sb g b0 n lt A w w.heap.size 103 dj wr) ∧ Hid (Sort.shiftUp lt b j dj = Sort.shiftUp lt b (i2 + 1) d2)) (fun vj _ => b + 1 - (intOf vj).toNat)
                  case atStart => exact ⟨i2 + 1, d2, by go_num, by omega, by omega, HS, Lib.hid rfl⟩
                  case round =>
                    clear HS
                    obtain ⟨j, dj, rfl, hij, hjb, HS, HU⟩ := hrel
                    have c0 := HS.out.c0
                    by_cases hlt : j < b
                    · have hltz : (j : Int) < (b : Int) := by omega
                      have hl := HS.out.less (i := j) (j := j - 1) (by omega) (by omega)
                      rw [show ((j - 1 : Nat) : Int) = (j : Int) - 1 by omega] at hl
                      cases hlv : lt dj[j]! dj[j - 1]! with
                      | true =>
                        have HU2 : Hid (Sort.shiftUp lt b (j + 1) (Sort.swp dj j (j - 1)) = Sort.shiftUp lt b (i2 + 1) d2) := Lib.hid (by rw [← HU.out]; exact (shiftU_more hlt hlv).symm)
                        rw [hlv] at hl
                        have KL := Lib.hid hl
                        clear hl hlv HU
                        go_wp2_with fail
                        refine KL.out.mono ?_
                        rintro e w2 ⟨rfl, hS2, hb2'⟩
                        have d1 := hS2.c1
                        obtain ⟨W1, hs, hS3, hbt⟩ := hS2.swap (i := j) (j := j - 1) (by omega) (by omega)
                        rw [show ((j - 1 : Nat) : Int) = (j : Int) - 1 by omega] at hs
                        have HS3 := Lib.hid hS3
                        clear hS2 hS3 hbt KL HS hb2' c0
                        go_wp2_with fail
                        go_roundw
                        case rel => exact ⟨j + 1, _, by go_num, by omega, by omega, HS3, HU2⟩
                        case measure => first | (simp [intOf]; done) | (simp [intOf]; omega)
                      | false =>
                        obtain ⟨d3, hd3⟩ : ∃ d3, d3 = dj := ⟨_, rfl⟩
                        have E3 : Hid (d3 = if b - i2 ≥ 2 then Sort.shiftUp lt b (i2 + 1) d2 else d2) := Lib.hid (by rw [if_pos hb2, ← HU.out, hd3]; exact (shiftU_done (Or.inr hlv)).symm)
                        rw [hlv] at hl
                        have KL := Lib.hid hl
                        clear hl hlv HU
                        subst hd3
                        go_wp2_with fail
                        refine KL.out.mono ?_
                        rintro e w2 ⟨rfl, hS2, hb2'⟩
                        have HS2 := Lib.hid hS2
                        clear hS2 KL HS hb2' c0
                        have HS := HS2
                        clear HS2
                        have HO2 : Hid (Sort.partialIns lt a b q i2 d3 = R) := Lib.hid (by rw [← HO.out]; exact (partial_next HI.out hne h50 HD2.out E3.out).symm)
                        have HO3 : Hid (Sort.partialIns lt a b (5 - (t + 1)) i2 d3 = R) := Lib.hid (by rw [show 5 - (t + 1) = q by have := HT.out; omega]; exact HO2.out)
                        clear HO HO2 HI HD2 E3
                        go_wp2_with fail
                        go_roundw
                        case rel => exact ⟨t + 1, i2, d3, rfl, by go_num, by omega, by omega, by omega, HS, HO3⟩
                        case measure => first | (simp [intOf]; done) | (simp [intOf]; omega)
                    · have hltz : ¬ (j : Int) < (b : Int) := by omega
                      obtain ⟨d3, hd3⟩ : ∃ d3, d3 = dj := ⟨_, rfl⟩
                      have E3 : Hid (d3 = if b - i2 ≥ 2 then Sort.shiftUp lt b (i2 + 1) d2 else d2) := Lib.hid (by rw [if_pos hb2, ← HU.out, hd3]; exact (shiftU_done (Or.inl hlt)).symm)
                      clear HU c0
                      subst hd3
                      have HO2 : Hid (Sort.partialIns lt a b q i2 d3 = R) := Lib.hid (by rw [← HO.out]; exact (partial_next HI.out hne h50 HD2.out E3.out).symm)
                      have HO3 : Hid (Sort.partialIns lt a b (5 - (t + 1)) i2 d3 = R) := Lib.hid (by rw [show 5 - (t + 1) = q by have := HT.out; omega]; exact HO2.out)
                      clear HO HO2 HI HD2 E3
                      go_wp2_with fail
                      go_roundw
                      case rel => exact ⟨t + 1, i2, d3, rfl, by go_num, by omega, by omega, by omega, HS, HO3⟩
                      case measure => first | (simp [intOf]; done) | (simp [intOf]; omega)
                · exfalso; omega
        · have hltz : ¬ (i2 : Int) < (b : Int) := by omega
          have hnez : (i2 : Int) = (b : Int) := by omega
          have HI2 : Hid (i2 = Sort.scanSorted lt dk b i) := Lib.hid (by rw [← HI.out]; exact (sorted_done (Or.inl hlt)).symm)
          have E : Hid ((dk, true) = R) := Lib.hid (by rw [← HO.out]; exact (partial_done HI2.out (by omega)).symm)
          clear HO HI HI2 c0
          obtain rfl : i2 = b := by omega
          clear hnez hltz
          go_wp2_with fail
          go_ret
          exact ⟨by rw [← E.out]; rfl, by rw [← E.out]; exact HS.out.a, HS.out.bt⟩
    · have htz : ¬ (t : Int) < 5 := by omega
      obtain rfl : t = 5 := by omega
      have E : Hid ((dk, false) = R) := HO
      clear HO
      go_wp2_with fail
      go_ret
      exact ⟨by rw [← E.out]; rfl, by rw [← E.out]; exact HS.out.a, HS.out.bt⟩
end
end Go.Proofs.YtefkolkagebffaaGreatDoor.Srt
