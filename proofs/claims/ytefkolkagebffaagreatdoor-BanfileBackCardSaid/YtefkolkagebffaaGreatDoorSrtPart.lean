/- Package sort's partition_func and partitionEqual_func, at a list of which 'less' and 'swap' are known. -/
import Derived.Test.YtefkolkagebffaaGreatDoorSrtLow
namespace Go.Proofs.YtefkolkagebffaaGreatDoor.Srt
set_option maxRecDepth 100000
open Go.ChangeShapes Go.WideShapes Go.ChangeAt Go.RowKit
set_option linter.unusedVariables false
section
variable {α : Type} [Inhabited α] {lf sf : Nat} {lb sb : Array Value} {g b0 n : Nat} {lt : α → α → Bool} {A : Array α → World → Prop}
set_option maxHeartbeats 16000000 in
theorem part_any (S : Srt Tryz.prog lf sf lb sb g b0 n lt A) {d : Array α} {w : World} {a b pivot : Nat} (h : A d w) (ha : a ≤ pivot) (hp : pivot < b) (hb : b ≤ n) :
    Calls Tryz.prog 111 #[.agg #[.func (.func lf) #[] lb, .func (.func sf) #[] sb], .int .i64 a, .int .i64 b, .int .i64 pivot] w fun e w' => e = .returned (.tuple #[.int .i64 (Sort.partition lt d a b pivot).1, .bool (Sort.partition lt d a b pivot).2.1]) ∧ A (Sort.partition lt d a b pivot).2.2 w' ∧ Bt g w w' := by
  have S0 := S.start (T := 103) h
  have hn := S.small
  have eg := S.enter
  have d1 := S0.c1
  obtain ⟨W1, hs, hS1, hbt⟩ := S0.swap (i := a) (j := pivot) (by omega) (by omega)
  have HS := Lib.hid hS1
  obtain ⟨dk, hdk⟩ : ∃ dk, dk = Sort.swp d a pivot := ⟨_, rfl⟩
  rw [← hdk] at HS
  have HD := Lib.hid hdk
  obtain ⟨i, hi⟩ : ∃ i, i = a + 1 := ⟨_, rfl⟩
  obtain ⟨j, hj⟩ : ∃ j, j = b - 1 := ⟨_, rfl⟩
  have hiz : (a : Int) + 1 = (i : Int) := by omega
  have hjz : (b : Int) - 1 = (j : Int) := by omega
  have hij : i ≤ j + 1 := by omega
  have hjb : j + 1 ≤ b := by omega
  have HF : Hid (a < n ∧ b ≤ n ∧ j < n ∧ 0 < i ∧ a < i ∧ j + 1 = b) := Lib.hid (by omega)
  have HB : Hid (i = a + 1 ∧ j = b - 1) := Lib.hid ⟨hi, hj⟩
  clear S h S0 hS1 hbt hdk hi hj
  go_enter Tryz.func111, Tryz.ntmps111
  go_wp2_with fail
  clear hiz hjz d1 hs ha hp
  go_loopw [10] (fun vi wr => ∃ (i2 : Nat), vi = .int .i64 i2 ∧ i ≤ i2 ∧ i2 ≤ j + 1 ∧ Hid (St Tryz.prog lf sf lb sb g b0 n lt A w w.heap.size 103 dk wr) ∧ Hid (Sort.scanUp (fun x => lt x dk[a]!) dk j i2 = Sort.scanUp (fun x => lt x dk[a]!) dk j i)) (fun vi _ => j + 1 - (intOf vi).toNat)
  case atStart => exact ⟨i, rfl, Nat.le_refl _, hij, HS, Lib.hid rfl⟩
  case round =>
    clear HS
    obtain ⟨i2, rfl, hii, hi2, HS, HI⟩ := hrel
    have c0 := HS.out.c0
    by_cases hle : i2 ≤ j
    · have hlez : (i2 : Int) ≤ (j : Int) := by omega
      have hl := HS.out.less (i := i2) (j := a) (by have := HF.out; omega) (by have := HF.out; omega)
      cases hlv : lt dk[i2]! dk[a]! with
      | true =>
        have HI2 : Hid (Sort.scanUp (fun x => lt x dk[a]!) dk j (i2 + 1) = Sort.scanUp (fun x => lt x dk[a]!) dk j i) := Lib.hid (by rw [← HI.out]; exact (up_more hle (by simp [hlv])).symm)
        rw [hlv] at hl
        have KL := Lib.hid hl
        clear hl hlv HI
        go_wp2_with fail
        refine KL.out.mono ?_
        rintro e w2 ⟨rfl, hS2, hb2⟩
        have HS2 := Lib.hid hS2
        clear hS2 KL HS hb2 c0
        go_wp2_with fail
        go_roundw
        case rel => exact ⟨i2 + 1, by go_num, by omega, by omega, HS2, HI2⟩
        case measure => simp [intOf]; omega
      | false =>
        have HI2 : Hid (i2 = Sort.scanUp (fun x => lt x dk[a]!) dk j i) := Lib.hid (by rw [← HI.out]; exact (up_done (Or.inr (by simp [hlv]))).symm)
        rw [hlv] at hl
        have KL := Lib.hid hl
        clear hl hlv HI
        go_wp2_with fail
        refine KL.out.mono ?_
        rintro e w2 ⟨rfl, hS2, hb2⟩
        have HS2 := Lib.hid hS2
        clear hS2 KL HS hb2 c0
        have HS := HS2
        have HI := HI2
        clear HS2 HI2
        go_wp2_with fail
        (try clear c0)
        go_loopw [11] (fun vj wr => ∃ (j2 : Nat), vj = .int .i64 j2 ∧ j2 ≤ j ∧ i2 ≤ j2 + 1 ∧ Hid (St Tryz.prog lf sf lb sb g b0 n lt A w w.heap.size 103 dk wr) ∧ Hid (Sort.scanDown (fun x => !lt x dk[a]!) dk i2 j2 = Sort.scanDown (fun x => !lt x dk[a]!) dk i2 j)) (fun vj _ => (intOf vj).toNat)
        case atStart => exact ⟨j, rfl, Nat.le_refl _, hi2, HS, Lib.hid rfl⟩
        case round =>
          clear HS
          obtain ⟨j2, rfl, hjj, hij2, HS, HJ⟩ := hrel
          have c0 := HS.out.c0
          by_cases hle2 : i2 ≤ j2
          · have hle2z : (i2 : Int) ≤ (j2 : Int) := by omega
            have hl := HS.out.less (i := j2) (j := a) (by have := HF.out; omega) (by have := HF.out; omega)
            cases hlv : lt dk[j2]! dk[a]! with
            | false =>
              have HJ2 : Hid (Sort.scanDown (fun x => !lt x dk[a]!) dk i2 (j2 - 1) = Sort.scanDown (fun x => !lt x dk[a]!) dk i2 j) := Lib.hid (by rw [← HJ.out]; exact (down_more hle2 (by have := HF.out; omega) (by simp [hlv])).symm)
              rw [hlv] at hl
              have KL := Lib.hid hl
              clear hl hlv HJ
              go_wp2_with fail
              refine KL.out.mono ?_
              rintro e w2 ⟨rfl, hS2, hb2⟩
              have HS2 := Lib.hid hS2
              clear hS2 KL HS hb2 c0
              go_wp2_with fail
              go_roundw
              case rel => exact ⟨j2 - 1, by have := HF.out; go_num, by omega, by omega, HS2, HJ2⟩
              case measure => have := HF.out; simp [intOf]; omega
            | true =>
              have HJ2 : Hid (j2 = Sort.scanDown (fun x => !lt x dk[a]!) dk i2 j) := Lib.hid (by rw [← HJ.out]; exact (down_done (Or.inr (by simp [hlv]))).symm)
              have hlt : i2 < j2 := scans_apart (fun x => by simp) (by have := HF.out; omega) HI.out HJ2.out hle2
              rw [hlv] at hl
              have KL := Lib.hid hl
              clear hl hlv HJ
              go_wp2_with fail
              refine KL.out.mono ?_
              rintro e w2 ⟨rfl, hS2, hb2⟩
              have HS2 := Lib.hid hS2
              clear hS2 KL HS hb2 c0
              have HS := HS2
              have HJ := HJ2
              clear HS2 HJ2
              obtain ⟨dk1, hdk1⟩ : ∃ dk1, dk1 = Sort.swp dk i2 j2 := ⟨_, rfl⟩
              have PF0 := part_first_next (lt := lt) (d := d) (a := a) (b := b) (pivot := pivot) HD.out (by rw [← HB.out.1, ← HB.out.2]; exact HI.out) (by rw [← HB.out.2]; exact HJ.out) hle2
              rw [← hdk1] at PF0
              have d1 := HS.out.c1
              obtain ⟨W1, hs, hS3, hbt⟩ := HS.out.swap (i := i2) (j := j2) (by have := HF.out; omega) (by have := HF.out; omega)
              have HS3 := Lib.hid hS3
              clear hS3 hbt HS
              rw [← hdk1] at HS3
              clear hdk1 HI HJ HD
              obtain ⟨i0, hi0⟩ : ∃ i0, i0 = i2 + 1 := ⟨_, rfl⟩
              obtain ⟨j0, hj0⟩ : ∃ j0, j0 = j2 - 1 := ⟨_, rfl⟩
              rw [← hi0, ← hj0] at PF0
              have PF := Lib.hid PF0
              have hiz : (i2 : Int) + 1 = (i0 : Int) := by omega
              have hjz : (j2 : Int) - 1 = (j0 : Int) := by omega
              have hf : Hid (a < i0 ∧ i0 ≤ j0 + 1 ∧ j0 + 1 ≤ b) := Lib.hid (by have := HF.out; omega)
              have HF2 : Hid (a < n ∧ b ≤ n ∧ j < n ∧ 0 < i ∧ a < i ∧ 0 < a + 1) := Lib.hid (by have := HF.out; omega)
              clear hi0 hj0 PF0
              go_wp2_with fail
              simp only [show decide (j2 < i2) = false from decide_eq_false (by omega)]
              clear hiz hjz HF
              obtain ⟨dk0, hdk0⟩ : ∃ dk0, dk0 = dk1 := ⟨_, rfl⟩
              have HS4 : Hid (St Tryz.prog lf sf lb sb g b0 n lt A w w.heap.size 103 dk0 W1) := Lib.hid (by rw [hdk0]; exact HS3.out)
              rw [← hdk0] at PF
              clear HS3 hdk0 hle hlez hle2 hle2z hii hi2 hjj hij2 hij hlt HB d1 hs hjb
              go_loopw [10, 11] (fun vi vj wr => ∃ (i j : Nat) (dk : Array α), vi = .int .i64 i ∧ vj = .int .i64 j ∧ a < i ∧ i ≤ j + 1 ∧ j + 1 ≤ b ∧ Hid (St Tryz.prog lf sf lb sb g b0 n lt A w w.heap.size 103 dk wr) ∧ Hid (Sort.partLoop lt a i j dk = Sort.partLoop lt a i0 j0 dk0)) (fun vi _ _ => b + 1 - (intOf vi).toNat)
              case atStart => exact ⟨i0, j0, dk0, rfl, rfl, hf.out.1, hf.out.2.1, hf.out.2.2, HS4, Lib.hid rfl⟩
              case round =>
                clear HS4
                obtain ⟨i, j, dk, rfl, rfl, hai, hij, hjb, HS, HO⟩ := hrel
                have HF : Hid (a < n ∧ b ≤ n ∧ j < n ∧ 0 < i ∧ a < i) := Lib.hid (by omega)
                go_wp2_with fail
                go_loopw [10] (fun vi wr => ∃ (i2 : Nat), vi = .int .i64 i2 ∧ i ≤ i2 ∧ i2 ≤ j + 1 ∧ Hid (St Tryz.prog lf sf lb sb g b0 n lt A w w.heap.size 103 dk wr) ∧ Hid (Sort.scanUp (fun x => lt x dk[a]!) dk j i2 = Sort.scanUp (fun x => lt x dk[a]!) dk j i)) (fun vi _ => j + 1 - (intOf vi).toNat)
                case atStart => exact ⟨i, rfl, Nat.le_refl _, hij, HS, Lib.hid rfl⟩
                case round =>
                  clear HS
                  obtain ⟨i2, rfl, hii, hi2, HS, HI⟩ := hrel
                  have c0 := HS.out.c0
                  by_cases hle : i2 ≤ j
                  · have hlez : (i2 : Int) ≤ (j : Int) := by omega
                    have hl := HS.out.less (i := i2) (j := a) (by have := HF.out; omega) (by have := HF.out; omega)
                    cases hlv : lt dk[i2]! dk[a]! with
                    | true =>
                      have HI2 : Hid (Sort.scanUp (fun x => lt x dk[a]!) dk j (i2 + 1) = Sort.scanUp (fun x => lt x dk[a]!) dk j i) := Lib.hid (by rw [← HI.out]; exact (up_more hle (by simp [hlv])).symm)
                      rw [hlv] at hl
                      have KL := Lib.hid hl
                      clear hl hlv HI
                      go_wp2_with fail
                      refine KL.out.mono ?_
                      rintro e w2 ⟨rfl, hS2, hb2⟩
                      have HS2 := Lib.hid hS2
                      clear hS2 KL HS hb2 c0
                      go_wp2_with fail
                      go_roundw
                      case rel => exact ⟨i2 + 1, by go_num, by omega, by omega, HS2, HI2⟩
                      case measure => simp [intOf]; omega
                    | false =>
                      have HI2 : Hid (i2 = Sort.scanUp (fun x => lt x dk[a]!) dk j i) := Lib.hid (by rw [← HI.out]; exact (up_done (Or.inr (by simp [hlv]))).symm)
                      rw [hlv] at hl
                      have KL := Lib.hid hl
                      clear hl hlv HI
                      go_wp2_with fail
                      refine KL.out.mono ?_
                      rintro e w2 ⟨rfl, hS2, hb2⟩
                      have HS2 := Lib.hid hS2
                      clear hS2 KL HS hb2 c0
                      have HS := HS2
                      have HI := HI2
                      clear HS2 HI2
                      go_wp2_with fail
                      (try clear c0)
                      go_loopw [11] (fun vj wr => ∃ (j2 : Nat), vj = .int .i64 j2 ∧ j2 ≤ j ∧ i2 ≤ j2 + 1 ∧ Hid (St Tryz.prog lf sf lb sb g b0 n lt A w w.heap.size 103 dk wr) ∧ Hid (Sort.scanDown (fun x => !lt x dk[a]!) dk i2 j2 = Sort.scanDown (fun x => !lt x dk[a]!) dk i2 j)) (fun vj _ => (intOf vj).toNat)
                      case atStart => exact ⟨j, rfl, Nat.le_refl _, hi2, HS, Lib.hid rfl⟩
                      case round =>
                        clear HS
                        obtain ⟨j2, rfl, hjj, hij2, HS, HJ⟩ := hrel
                        have c0 := HS.out.c0
                        by_cases hle2 : i2 ≤ j2
                        · have hle2z : (i2 : Int) ≤ (j2 : Int) := by omega
                          have hl := HS.out.less (i := j2) (j := a) (by have := HF.out; omega) (by have := HF.out; omega)
                          cases hlv : lt dk[j2]! dk[a]! with
                          | false =>
                            have HJ2 : Hid (Sort.scanDown (fun x => !lt x dk[a]!) dk i2 (j2 - 1) = Sort.scanDown (fun x => !lt x dk[a]!) dk i2 j) := Lib.hid (by rw [← HJ.out]; exact (down_more hle2 (by have := HF.out; omega) (by simp [hlv])).symm)
                            rw [hlv] at hl
                            have KL := Lib.hid hl
                            clear hl hlv HJ
                            go_wp2_with fail
                            refine KL.out.mono ?_
                            rintro e w2 ⟨rfl, hS2, hb2⟩
                            have HS2 := Lib.hid hS2
                            clear hS2 KL HS hb2 c0
                            go_wp2_with fail
                            go_roundw
                            case rel => exact ⟨j2 - 1, by have := HF.out; go_num, by omega, by omega, HS2, HJ2⟩
                            case measure => have := HF.out; simp [intOf]; omega
                          | true =>
                            have HJ2 : Hid (j2 = Sort.scanDown (fun x => !lt x dk[a]!) dk i2 j) := Lib.hid (by rw [← HJ.out]; exact (down_done (Or.inr (by simp [hlv]))).symm)
                            have hlt : i2 < j2 := scans_apart (fun x => by simp) (by have := HF.out; omega) HI.out HJ2.out hle2
                            rw [hlv] at hl
                            have KL := Lib.hid hl
                            clear hl hlv HJ
                            go_wp2_with fail
                            refine KL.out.mono ?_
                            rintro e w2 ⟨rfl, hS2, hb2⟩
                            have HS2 := Lib.hid hS2
                            clear hS2 KL HS hb2 c0
                            have HS := HS2
                            have HJ := HJ2
                            clear HS2 HJ2
                            have HO2 : Hid (Sort.partLoop lt a (i2 + 1) (j2 - 1) (Sort.swp dk i2 j2) = Sort.partLoop lt a i0 j0 dk0) := Lib.hid (by rw [← HO.out]; exact (part_next HI.out HJ.out hle2).symm)
                            have d1 := HS.out.c1
                            obtain ⟨W1, hs, hS3, hbt⟩ := HS.out.swap (i := i2) (j := j2) (by have := HF.out; omega) (by have := HF.out; omega)
                            have HS3 := Lib.hid hS3
                            clear hS3 hbt HS
                            clear HO HI HJ
                            go_wp2_with fail
                            go_roundw
                            case rel => exact ⟨i2 + 1, j2 - 1, _, by go_num, by have := HF.out; go_num, by omega, by omega, by omega, HS3, HO2⟩
                            case measure => simp [intOf]; omega
                        · have hle2z : ¬ (i2 : Int) ≤ (j2 : Int) := by omega
                          have HJ2 : Hid (j2 = Sort.scanDown (fun x => !lt x dk[a]!) dk i2 j) := Lib.hid (by rw [← HJ.out]; exact (down_done (Or.inl hle2)).symm)
                          clear HJ c0
                          have HJ := HJ2
                          clear HJ2
                          have E : Hid (Sort.partLoop lt a i0 j0 dk0 = (j2, dk)) := Lib.hid (by rw [← HO.out]; exact part_end HI.out HJ.out hle2)
                          have d1 := HS.out.c1
                          obtain ⟨W1, hs, hS3, hbt⟩ := HS.out.swap (i := j2) (j := a) (by have := HF.out; omega) (by have := HF.out; omega)
                          have HS3 := Lib.hid hS3
                          clear hS3 hbt HS
                          clear HO HI HJ
                          go_wp2_with fail
                          go_ret2
                          exact ⟨by rw [PF.out, E.out]; rfl, by rw [PF.out, E.out]; exact HS3.out.a, HS3.out.bt⟩
                  · have hlez : ¬ (i2 : Int) ≤ (j : Int) := by omega
                    have HI2 : Hid (i2 = Sort.scanUp (fun x => lt x dk[a]!) dk j i) := Lib.hid (by rw [← HI.out]; exact (up_done (Or.inl hle)).symm)
                    clear HI c0
                    have HI := HI2
                    clear HI2
                    have c0 := HS.out.c0
                    go_wp2_with fail
                    (try clear c0)
                    go_loopw [11] (fun vj wr => ∃ (j2 : Nat), vj = .int .i64 j2 ∧ j2 ≤ j ∧ i2 ≤ j2 + 1 ∧ Hid (St Tryz.prog lf sf lb sb g b0 n lt A w w.heap.size 103 dk wr) ∧ Hid (Sort.scanDown (fun x => !lt x dk[a]!) dk i2 j2 = Sort.scanDown (fun x => !lt x dk[a]!) dk i2 j)) (fun vj _ => (intOf vj).toNat)
                    case atStart => exact ⟨j, rfl, Nat.le_refl _, hi2, HS, Lib.hid rfl⟩
                    case round =>
                      clear HS
                      obtain ⟨j2, rfl, hjj, hij2, HS, HJ⟩ := hrel
                      have c0 := HS.out.c0
                      by_cases hle2 : i2 ≤ j2
                      · exfalso; omega
                      · have hle2z : ¬ (i2 : Int) ≤ (j2 : Int) := by omega
                        have HJ2 : Hid (j2 = Sort.scanDown (fun x => !lt x dk[a]!) dk i2 j) := Lib.hid (by rw [← HJ.out]; exact (down_done (Or.inl hle2)).symm)
                        clear HJ c0
                        have HJ := HJ2
                        clear HJ2
                        have E : Hid (Sort.partLoop lt a i0 j0 dk0 = (j2, dk)) := Lib.hid (by rw [← HO.out]; exact part_end HI.out HJ.out hle2)
                        have d1 := HS.out.c1
                        obtain ⟨W1, hs, hS3, hbt⟩ := HS.out.swap (i := j2) (j := a) (by have := HF.out; omega) (by have := HF.out; omega)
                        have HS3 := Lib.hid hS3
                        clear hS3 hbt HS
                        clear HO HI HJ
                        go_wp2_with fail
                        go_ret2
                        exact ⟨by rw [PF.out, E.out]; rfl, by rw [PF.out, E.out]; exact HS3.out.a, HS3.out.bt⟩
          · have hle2z : ¬ (i2 : Int) ≤ (j2 : Int) := by omega
            have HJ2 : Hid (j2 = Sort.scanDown (fun x => !lt x dk[a]!) dk i2 j) := Lib.hid (by rw [← HJ.out]; exact (down_done (Or.inl hle2)).symm)
            clear HJ c0
            have HJ := HJ2
            clear HJ2
            have PF0 := part_first_end (lt := lt) (d := d) (a := a) (b := b) (pivot := pivot) HD.out (by rw [← HB.out.1, ← HB.out.2]; exact HI.out) (by rw [← HB.out.2]; exact HJ.out) hle2
            have d1 := HS.out.c1
            obtain ⟨W1, hs, hS3, hbt⟩ := HS.out.swap (i := j2) (j := a) (by have := HF.out; omega) (by have := HF.out; omega)
            have HS3 := Lib.hid hS3
            clear hS3 hbt HS
            have PF := Lib.hid PF0
            clear PF0 HI HJ HD
            go_wp2_with fail
            go_ret2
            exact ⟨by rw [PF.out]; rfl, by rw [PF.out]; exact HS3.out.a, HS3.out.bt⟩
    · have hlez : ¬ (i2 : Int) ≤ (j : Int) := by omega
      have HI2 : Hid (i2 = Sort.scanUp (fun x => lt x dk[a]!) dk j i) := Lib.hid (by rw [← HI.out]; exact (up_done (Or.inl hle)).symm)
      clear HI c0
      have HI := HI2
      clear HI2
      have c0 := HS.out.c0
      go_wp2_with fail
      (try clear c0)
      go_loopw [11] (fun vj wr => ∃ (j2 : Nat), vj = .int .i64 j2 ∧ j2 ≤ j ∧ i2 ≤ j2 + 1 ∧ Hid (St Tryz.prog lf sf lb sb g b0 n lt A w w.heap.size 103 dk wr) ∧ Hid (Sort.scanDown (fun x => !lt x dk[a]!) dk i2 j2 = Sort.scanDown (fun x => !lt x dk[a]!) dk i2 j)) (fun vj _ => (intOf vj).toNat)
      case atStart => exact ⟨j, rfl, Nat.le_refl _, hi2, HS, Lib.hid rfl⟩
      case round =>
        clear HS
        obtain ⟨j2, rfl, hjj, hij2, HS, HJ⟩ := hrel
        have c0 := HS.out.c0
        by_cases hle2 : i2 ≤ j2
        · exfalso; omega
        · have hle2z : ¬ (i2 : Int) ≤ (j2 : Int) := by omega
          have HJ2 : Hid (j2 = Sort.scanDown (fun x => !lt x dk[a]!) dk i2 j) := Lib.hid (by rw [← HJ.out]; exact (down_done (Or.inl hle2)).symm)
          clear HJ c0
          have HJ := HJ2
          clear HJ2
          have PF0 := part_first_end (lt := lt) (d := d) (a := a) (b := b) (pivot := pivot) HD.out (by rw [← HB.out.1, ← HB.out.2]; exact HI.out) (by rw [← HB.out.2]; exact HJ.out) hle2
          have d1 := HS.out.c1
          obtain ⟨W1, hs, hS3, hbt⟩ := HS.out.swap (i := j2) (j := a) (by have := HF.out; omega) (by have := HF.out; omega)
          have HS3 := Lib.hid hS3
          clear hS3 hbt HS
          have PF := Lib.hid PF0
          clear PF0 HI HJ HD
          go_wp2_with fail
          go_ret2
          exact ⟨by rw [PF.out]; rfl, by rw [PF.out]; exact HS3.out.a, HS3.out.bt⟩
end
end Go.Proofs.YtefkolkagebffaaGreatDoor.Srt
