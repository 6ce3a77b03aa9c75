/- Package sort's siftDown_func and heapSort_func, at a list of which 'less' and 'swap' are known. -/
import Derived.Test.YtefkolkagebffaaGreatDoorSrtLow
namespace Go.Proofs.YtefkolkagebffaaGreatDoor.Srt
set_option maxRecDepth 100000
open Go.ChangeShapes Go.WideShapes Go.ChangeAt Go.RowKit
set_option linter.unusedVariables false
section
variable {α : Type} [Inhabited α] {lf sf : Nat} {lb sb : Array Value} {g b0 n : Nat} {lt : α → α → Bool} {A : Array α → World → Prop}
set_option maxHeartbeats 8000000 in
theorem sift_any (S : Srt Tryz.prog lf sf lb sb g b0 n lt A) {d : Array α} {w : World} {lo hi first : Nat} (h : A d w) (hlo : lo ≤ n) (hhi : first + hi ≤ n) :
    Calls Tryz.prog 131 #[.agg #[.func (.func lf) #[] lb, .func (.func sf) #[] sb], .int .i64 lo, .int .i64 hi, .int .i64 first] w fun e w' => e = .returned (.tuple #[]) ∧ A (Sort.siftDown lt hi first lo d) w' ∧ Bt g w w' := by
  have S0 := Lib.hid (S.start (T := 103) h)
  have hn := S.small
  have eg := S.enter
  obtain ⟨R, hR⟩ : ∃ R, R = Sort.siftDown lt hi first lo d := ⟨_, rfl⟩
  rw [← hR]
  have HR := Lib.hid hR
  clear S h hR
  go_enter Tryz.func131, Tryz.ntmps131
  go_wp2_with fail
  go_loopw [8, 9] (fun vi _ wr => ∃ (root : Nat) (dk : Array α), vi = .int .i64 root ∧ root ≤ n ∧ Hid (St Tryz.prog lf sf lb sb g b0 n lt A w w.heap.size 103 dk wr) ∧ Hid (Sort.siftDown lt hi first root dk = R)) (fun vi _ _ => n + 1 - (intOf vi).toNat)
  case atStart => exact ⟨lo, d, rfl, hlo, S0, Lib.hid HR.out.symm⟩
  case round =>
    obtain ⟨root, dk, rfl, hrn, HS, HO⟩ := hrel
    clear S0 HR
    have c0 := HS.out.c0
    obtain ⟨c, hc⟩ : ∃ c : Nat, c = 2 * root + 1 := ⟨_, rfl⟩
    have ec : 2 * (root : Int) + 1 = (c : Int) := by omega
    have hcn : (c : Int) ≤ 9223372036854775800 := by omega
    have HC := Lib.hid hc
    clear hc
    by_cases h1 : hi ≤ c
    · have h1z : (hi : Int) ≤ (c : Int) := by omega
      have E : Hid (dk = R) := Lib.hid (by rw [← HO.out]; exact (sift_none (by have := HC.out; omega)).symm)
      go_wp2_with fail
      go_end0
      exact ⟨rfl, E.out ▸ HS.out.a, HS.out.bt⟩
    · have h1z : ¬ (hi : Int) ≤ (c : Int) := by omega
      have HF : Hid (first + c < n ∧ first + root < n ∧ (c + 1 < hi → first + (c + 1) < n) ∧ c + 1 ≤ n ∧ root < c) := Lib.hid (by have := HC.out; omega)
      have hfc : (first : Int) + (c : Int) ≤ 4611686018427387904 := by have := HF.out; omega
      have hfr : (first : Int) + (root : Int) ≤ 4611686018427387904 := by have := HF.out; omega
      by_cases h2 : c + 1 < hi
      · have h2z : (c : Int) + 1 < (hi : Int) := by omega
        have hfc1 : (first : Int) + ((c : Int) + 1) ≤ 4611686018427387904 := by have := HF.out; omega
        have hl := HS.out.less (i := first + c) (j := first + c + 1) (by have := HF.out; omega) (by have := HF.out; omega)
        rw [show ((first + c + 1 : Nat) : Int) = (first : Int) + (c : Int) + 1 by omega, show ((first + c : Nat) : Int) = (first : Int) + (c : Int) by omega] at hl
        cases hlr : lt dk[first + c]! dk[first + c + 1]! with
        | true =>
          rw [hlr] at hl
          have KR := Lib.hid hl
          have HLR := Lib.hid hlr
          clear hl hlr
          go_wp2_with fail
          refine KR.out.mono ?_
          rintro e w1 ⟨rfl, hS1, hb1⟩
          have HS1 := Lib.hid hS1
          have q0 := hS1.c0
          clear hS1 KR HS hb1 c0
          have hc2 : Hid ((c + 1) = if (2 * root + 2 < hi ∧ lt dk[first + (2 * root + 1)]! dk[first + (2 * root + 1) + 1]! = true) then 2 * root + 2 else 2 * root + 1) := Lib.hid (by have h := HC.out; have h3 := HLR.out; rw [h] at h3; rw [if_pos ⟨by omega, h3⟩, h])
          have hl := HS1.out.less (i := first + root) (j := first + (c + 1)) (by have := HF.out; omega) (by have := HF.out; omega)
          rw [show ((first + root : Nat) : Int) = (first : Int) + (root : Int) by omega, show ((first + (c + 1) : Nat) : Int) = (first : Int) + ((c : Int) + 1) by omega] at hl
          cases hlv : lt dk[first + root]! dk[first + (c + 1)]! with
          | true =>
            have HO2 : Hid (Sort.siftDown lt hi first (c + 1) (Sort.swp dk (first + root) (first + (c + 1))) = R) := Lib.hid (by rw [← HO.out]; exact (sift_more (by have := HC.out; omega) hc2.out hlv).symm)
            rw [hlv] at hl
            have KL := Lib.hid hl
            clear hl HO hlv hc2
            go_wp2_with fail
            refine KL.out.mono ?_
            rintro e w2 ⟨rfl, hS2, hb2⟩
            have d1 := hS2.c1
            obtain ⟨W1, hs, hS3, hbt⟩ := hS2.swap (i := first + root) (j := first + (c + 1)) (by have := HF.out; omega) (by have := HF.out; omega)
            rw [show ((first + root : Nat) : Int) = (first : Int) + (root : Int) by omega, show ((first + (c + 1) : Nat) : Int) = (first : Int) + ((c : Int) + 1) by omega] at hs
            have HS3 := Lib.hid hS3
            clear hS2 hS3 hbt KL HS1 hb2 q0
            go_wp2_with fail
            go_roundw
            case rel => exact ⟨(c + 1), _, by go_num, by have := HF.out; omega, HS3, HO2⟩
            case measure => have := HC.out; simp [intOf]; omega
          | false =>
            have E : Hid (dk = R) := Lib.hid (by rw [← HO.out]; exact (sift_stop (by have := HC.out; omega) hc2.out hlv).symm)
            rw [hlv] at hl
            have KL := Lib.hid hl
            clear hl HO hlv hc2
            go_wp2_with fail
            refine KL.out.mono ?_
            rintro e w2 ⟨rfl, hS2, hb2⟩
            have HS2 := Lib.hid hS2
            clear hS2 KL HS1 hb2 q0
            go_wp2_with fail
            (try simp only [Exit.inBlock, Exit.then]); refine bodyPost_ret (results_none rfl _ _ _) rfl ?_
            exact ⟨rfl, E.out ▸ HS2.out.a, HS2.out.bt⟩
        | false =>
          rw [hlr] at hl
          have KR := Lib.hid hl
          have HLR := Lib.hid hlr
          clear hl hlr
          go_wp2_with fail
          refine KR.out.mono ?_
          rintro e w1 ⟨rfl, hS1, hb1⟩
          have HS1 := Lib.hid hS1
          have q0 := hS1.c0
          clear hS1 KR HS hb1 c0
          have hc2 : Hid (c = if (2 * root + 2 < hi ∧ lt dk[first + (2 * root + 1)]! dk[first + (2 * root + 1) + 1]! = true) then 2 * root + 2 else 2 * root + 1) := Lib.hid (by have h := HC.out; have h3 := HLR.out; rw [h] at h3; rw [if_neg (fun hx => by rw [hx.2] at h3; cases h3), h])
          have hl := HS1.out.less (i := first + root) (j := first + c) (by have := HF.out; omega) (by have := HF.out; omega)
          rw [show ((first + root : Nat) : Int) = (first : Int) + (root : Int) by omega, show ((first + c : Nat) : Int) = (first : Int) + (c : Int) by omega] at hl
          cases hlv : lt dk[first + root]! dk[first + c]! with
          | true =>
            have HO2 : Hid (Sort.siftDown lt hi first c (Sort.swp dk (first + root) (first + c)) = R) := Lib.hid (by rw [← HO.out]; exact (sift_more (by have := HC.out; omega) hc2.out hlv).symm)
            rw [hlv] at hl
            have KL := Lib.hid hl
            clear hl HO hlv hc2
            go_wp2_with fail
            refine KL.out.mono ?_
            rintro e w2 ⟨rfl, hS2, hb2⟩
            have d1 := hS2.c1
            obtain ⟨W1, hs, hS3, hbt⟩ := hS2.swap (i := first + root) (j := first + c) (by have := HF.out; omega) (by have := HF.out; omega)
            rw [show ((first + root : Nat) : Int) = (first : Int) + (root : Int) by omega, show ((first + c : Nat) : Int) = (first : Int) + (c : Int) by omega] at hs
            have HS3 := Lib.hid hS3
            clear hS2 hS3 hbt KL HS1 hb2 q0
            go_wp2_with fail
            go_roundw
            case rel => exact ⟨c, _, by go_num, by have := HF.out; omega, HS3, HO2⟩
            case measure => have := HC.out; simp [intOf]; omega
          | false =>
            have E : Hid (dk = R) := Lib.hid (by rw [← HO.out]; exact (sift_stop (by have := HC.out; omega) hc2.out hlv).symm)
            rw [hlv] at hl
            have KL := Lib.hid hl
            clear hl HO hlv hc2
            go_wp2_with fail
            refine KL.out.mono ?_
            rintro e w2 ⟨rfl, hS2, hb2⟩
            have HS2 := Lib.hid hS2
            clear hS2 KL HS1 hb2 q0
            go_wp2_with fail
            (try simp only [Exit.inBlock, Exit.then]); refine bodyPost_ret (results_none rfl _ _ _) rfl ?_
            exact ⟨rfl, E.out ▸ HS2.out.a, HS2.out.bt⟩
      · have h2z : ¬ (c : Int) + 1 < (hi : Int) := by omega
        have HS1 := HS
        have q0 := c0
        clear HS c0
        have hc2 : Hid (c = if (2 * root + 2 < hi ∧ lt dk[first + (2 * root + 1)]! dk[first + (2 * root + 1) + 1]! = true) then 2 * root + 2 else 2 * root + 1) := Lib.hid (by have h := HC.out; rw [if_neg (fun hx => h2 (by omega)), h])
        have hl := HS1.out.less (i := first + root) (j := first + c) (by have := HF.out; omega) (by have := HF.out; omega)
        rw [show ((first + root : Nat) : Int) = (first : Int) + (root : Int) by omega, show ((first + c : Nat) : Int) = (first : Int) + (c : Int) by omega] at hl
        cases hlv : lt dk[first + root]! dk[first + c]! with
        | true =>
          have HO2 : Hid (Sort.siftDown lt hi first c (Sort.swp dk (first + root) (first + c)) = R) := Lib.hid (by rw [← HO.out]; exact (sift_more (by have := HC.out; omega) hc2.out hlv).symm)
          rw [hlv] at hl
          have KL := Lib.hid hl
          clear hl HO hlv hc2
          go_wp2_with fail
          refine KL.out.mono ?_
          rintro e w2 ⟨rfl, hS2, hb2⟩
          have d1 := hS2.c1
          obtain ⟨W1, hs, hS3, hbt⟩ := hS2.swap (i := first + root) (j := first + c) (by have := HF.out; omega) (by have := HF.out; omega)
          rw [show ((first + root : Nat) : Int) = (first : Int) + (root : Int) by omega, show ((first + c : Nat) : Int) = (first : Int) + (c : Int) by omega] at hs
          have HS3 := Lib.hid hS3
          clear hS2 hS3 hbt KL HS1 hb2 q0
          go_wp2_with fail
          go_roundw
          case rel => exact ⟨c, _, by go_num, by have := HF.out; omega, HS3, HO2⟩
          case measure => have := HC.out; simp [intOf]; omega
        | false =>
          have E : Hid (dk = R) := Lib.hid (by rw [← HO.out]; exact (sift_stop (by have := HC.out; omega) hc2.out hlv).symm)
          rw [hlv] at hl
          have KL := Lib.hid hl
          clear hl HO hlv hc2
          go_wp2_with fail
          refine KL.out.mono ?_
          rintro e w2 ⟨rfl, hS2, hb2⟩
          have HS2 := Lib.hid hS2
          clear hS2 KL HS1 hb2 q0
          go_wp2_with fail
          (try simp only [Exit.inBlock, Exit.then]); refine bodyPost_ret (results_none rfl _ _ _) rfl ?_
          exact ⟨rfl, E.out ▸ HS2.out.a, HS2.out.bt⟩

set_option maxHeartbeats 8000000 in
theorem heap_any (S : Srt Tryz.prog lf sf lb sb g b0 n lt A) {d : Array α} {w : World} {a b : Nat} (h : A d w) (hab : a < b) (hb : b ≤ n) :
    Calls Tryz.prog 105 #[.agg #[.func (.func lf) #[] lb, .func (.func sf) #[] sb], .int .i64 a, .int .i64 b] w fun e w' => e = .returned (.tuple #[]) ∧ A (Sort.heapSort lt d a b) w' ∧ Bt g w w' := by
  have S0 := Lib.hid (S.start (T := 103) h)
  have hn := S.small
  have eg := S.enter
  obtain ⟨R, hR⟩ : ∃ R, R = Sort.heapSort lt d a b := ⟨_, rfl⟩
  rw [← hR]
  obtain ⟨hi, hhi⟩ : ∃ hi, hi = b - a := ⟨_, rfl⟩
  obtain ⟨m, hm⟩ : ∃ m, m = (hi - 1) / 2 := ⟨_, rfl⟩
  have e1 : (b : Int) - (a : Int) = (hi : Int) := by omega
  have h1 : (1 : Int) ≤ (hi : Int) := by omega
  have e2 : ((hi : Int) - 1) / 2 = (m : Int) := by omega
  have e2' : ((hi : Int) - 1).tdiv 2 = (m : Int) := by rw [Int.tdiv_eq_ediv_of_nonneg (by omega)]; omega
  have HR : Hid (Sort.heapPop lt a hi (Sort.heapBuild lt hi a (m + 1) d) = R) := Lib.hid (by rw [hR, hm, hhi]; rfl)
  have HF : Hid (a + hi ≤ n ∧ m < hi) := Lib.hid (by omega)
  have KS := Lib.hid (fun (d : Array α) (W : World) (lo hi : Nat) (hA : A d W) (h1 : lo ≤ n) (h2 : a + hi ≤ n) => sift_any S (first := a) hA h1 h2)
  clear S h hR hhi hm
  go_enter Tryz.func105, Tryz.ntmps105
  go_wp2_with fail
  go_loopw [9] (fun vi wr => ∃ (k : Nat) (dk : Array α), vi = .int .i64 ((k : Int) - 1) ∧ k ≤ m + 1 ∧ Hid (St Tryz.prog lf sf lb sb g b0 n lt A w w.heap.size 103 dk wr) ∧ Hid (Sort.heapPop lt a hi (Sort.heapBuild lt hi a k dk) = R)) (fun vi _ => (intOf vi + 1).toNat)
  case atStart => exact ⟨m + 1, d, by go_num, Nat.le_refl _, S0, HR⟩
  case round =>
    obtain ⟨k, dk, rfl, hk, HS, HO⟩ := hrel
    clear S0 HR
    have c0 := HS.out.c0
    have c1 := HS.out.c1
    cases k with
    | succ q =>
      have eq1 : ((q + 1 : Nat) : Int) - 1 = (q : Int) := by omega
      have HO2 : Hid (Sort.heapPop lt a hi (Sort.heapBuild lt hi a q (Sort.siftDown lt hi a q dk)) = R) := HO
      have K := Lib.hid (KS.out dk wr q hi HS.out.a (by have := HF.out; omega) (by have := HF.out; omega))
      rw [eq1]
      clear HO eq1
      go_wp2_with fail
      refine K.out.mono ?_
      rintro e w1 ⟨rfl, hA1, hbt1⟩
      have HS1 := Lib.hid (HS.out.step hA1 hbt1)
      clear hA1 hbt1 K HS c0 c1
      go_wp2_with fail
      go_roundw
      case rel => exact ⟨q, _, by go_num, by omega, HS1, HO2⟩
      case measure => first | (simp [intOf]; done) | (simp [intOf]; omega)
    | zero =>
      have HO2 : Hid (Sort.heapPop lt a hi dk = R) := HO
      have ez : ((0 : Nat) : Int) - 1 = -1 := by omega
      rw [ez]
      clear HO ez
      go_wp2_with fail
      go_loopw [10] (fun vi wr => ∃ (k : Nat) (dk : Array α), vi = .int .i64 ((k : Int) - 1) ∧ k ≤ hi ∧ Hid (St Tryz.prog lf sf lb sb g b0 n lt A w w.heap.size 103 dk wr) ∧ Hid (Sort.heapPop lt a k dk = R)) (fun vi _ => (intOf vi + 1).toNat)
      case atStart => exact ⟨hi, dk, by go_num, Nat.le_refl _, HS, HO2⟩
      case round =>
        clear HS HO2 c0 c1
        obtain ⟨k, dk, rfl, hk, HS, HO⟩ := hrel
        have c0 := HS.out.c0
        have c1 := HS.out.c1
        cases k with
        | succ q =>
          have eq1 : ((q + 1 : Nat) : Int) - 1 = (q : Int) := by omega
          have HO2 : Hid (Sort.heapPop lt a q (Sort.siftDown lt q a 0 (Sort.swp dk a (a + q))) = R) := HO
          obtain ⟨W1, hs, hS1, hbt⟩ := HS.out.swap (i := a) (j := a + q) (by have := HF.out; omega) (by have := HF.out; omega)
          rw [show ((a + q : Nat) : Int) = (a : Int) + (q : Int) by omega] at hs
          have K := KS.out _ W1 0 q hS1.a (by omega) (by have := HF.out; omega)
          rw [show ((0 : Nat) : Int) = 0 from rfl] at K
          have K1 := Lib.hid K
          have d0 := hS1.c0
          have d1 := hS1.c1
          have HS1 := Lib.hid hS1
          have haq : (a : Int) + (q : Int) ≤ 4611686018427387904 := by have := HF.out; omega
          rw [eq1]
          clear HO eq1 HS hS1 hbt K
          go_wp2_with fail
          refine K1.out.mono ?_
          rintro e w1 ⟨rfl, hA1, hbt1⟩
          have HS2 := Lib.hid (HS1.out.step hA1 hbt1)
          clear hA1 hbt1 K1 HS1 c0 c1 d0 d1 hs
          go_wp2_with fail
          go_roundw
          case rel => exact ⟨q, _, by go_num, by omega, HS2, HO2⟩
          case measure => first | (simp [intOf]; done) | (simp [intOf]; omega)
        | zero =>
          have E : Hid (dk = R) := HO
          have ez : ((0 : Nat) : Int) - 1 = -1 := by omega
          rw [ez]
          go_wp2_with fail
          go_end0
          exact ⟨rfl, E.out ▸ HS.out.a, HS.out.bt⟩
end
end Go.Proofs.YtefkolkagebffaaGreatDoor.Srt
/- Package sort's partition_func and partitionEqual_func, at a list of which 'less' and 'swap' are known. -/
namespace Go.Proofs.YtefkolkagebffaaGreatDoor.Srt
set_option maxRecDepth 100000
open Go.ChangeShapes Go.WideShapes Go.ChangeAt Go.RowKit
set_option linter.unusedVariables false
section
variable {α : Type} [Inhabited α] {lf sf : Nat} {lb sb : Array Value} {g b0 n : Nat} {lt : α → α → Bool} {A : Array α → World → Prop}
set_option maxHeartbeats 16000000 in
theorem equal_any (S : Srt Tryz.prog lf sf lb sb g b0 n lt A) {d : Array α} {w : World} {a b pivot : Nat} (h : A d w) (ha : a ≤ pivot) (hp : pivot < b) (hb : b ≤ n) :
    Calls Tryz.prog 110 #[.agg #[.func (.func lf) #[] lb, .func (.func sf) #[] sb], .int .i64 a, .int .i64 b, .int .i64 pivot] w fun e w' => e = .returned (.int .i64 (Sort.partitionEqual lt d a b pivot).1) ∧ A (Sort.partitionEqual lt d a b pivot).2 w' ∧ Bt g w w' := by
  have S0 := S.start (T := 103) h
  have hn := S.small
  have eg := S.enter
  have d1 := S0.c1
  obtain ⟨W1, hs, hS1, hbt⟩ := S0.swap (i := a) (j := pivot) (by omega) (by omega)
  have HS := Lib.hid hS1
  obtain ⟨dk0, hdk⟩ : ∃ dk, dk = Sort.swp d a pivot := ⟨_, rfl⟩
  rw [← hdk] at HS
  have HD := Lib.hid hdk
  obtain ⟨i0, hi⟩ : ∃ i, i = a + 1 := ⟨_, rfl⟩
  obtain ⟨j0, hj⟩ : ∃ j, j = b - 1 := ⟨_, rfl⟩
  have hiz : (a : Int) + 1 = (i0 : Int) := by omega
  have hjz : (b : Int) - 1 = (j0 : Int) := by omega
  have hij : i0 ≤ j0 + 1 := by omega
  have HF : Hid (a < n ∧ b ≤ n ∧ j0 < n ∧ 0 < i0 ∧ a < i0 ∧ j0 + 1 = b) := Lib.hid (by omega)
  have HB : Hid (i0 = a + 1 ∧ j0 = b - 1) := Lib.hid ⟨hi, hj⟩
  clear S h S0 hS1 hbt hdk hi hj
  have PF : Hid (Sort.partitionEqual lt d a b pivot = Sort.partEqLoop lt a i0 j0 dk0) := Lib.hid (by rw [HB.out.1, HB.out.2, HD.out]; rfl)
  have hf := HF
  clear HB HD HF
  go_enter Tryz.func110, Tryz.ntmps110
  go_wp2_with fail
  clear hiz hjz d1 hs ha hp
  have HS4 := HS
  clear HS
  go_loopw [9, 10] (fun vi vj wr => ∃ (i j : Nat) (dk : Array α), vi = .int .i64 i ∧ vj = .int .i64 j ∧ a < i ∧ i ≤ j + 1 ∧ j + 1 ≤ b ∧ Hid (St Tryz.prog lf sf lb sb g b0 n lt A w w.heap.size 103 dk wr) ∧ Hid (Sort.partEqLoop lt a i j dk = Sort.partEqLoop lt a i0 j0 dk0)) (fun vi _ _ => b + 1 - (intOf vi).toNat)
  case atStart => exact ⟨i0, j0, dk0, rfl, rfl, by have := hf.out; omega, hij, by have := hf.out; omega, HS4, Lib.hid rfl⟩
  case round =>
    clear HS4 hij
    obtain ⟨i, j, dk, rfl, rfl, hai, hij, hjb, HS, HO⟩ := hrel
    have HF : Hid (a < n ∧ b ≤ n ∧ j < n ∧ 0 < i ∧ a < i) := Lib.hid (by have := hf.out; omega)
    go_wp2_with fail
    go_loopw [9] (fun vi wr => ∃ (i2 : Nat), vi = .int .i64 i2 ∧ i ≤ i2 ∧ i2 ≤ j + 1 ∧ Hid (St Tryz.prog lf sf lb sb g b0 n lt A w w.heap.size 103 dk wr) ∧ Hid (Sort.scanUp (fun x => !lt dk[a]! x) dk j i2 = Sort.scanUp (fun x => !lt dk[a]! x) dk j i)) (fun vi _ => j + 1 - (intOf vi).toNat)
    case atStart => exact ⟨i, rfl, Nat.le_refl _, hij, HS, Lib.hid rfl⟩
    case round =>
      clear HS
      obtain ⟨i2, rfl, hii, hi2, HS, HI⟩ := hrel
      have c0 := HS.out.c0
      by_cases hle : i2 ≤ j
      · have hlez : (i2 : Int) ≤ (j : Int) := by omega
        have hl := HS.out.less (i := a) (j := i2) (by have := HF.out; omega) (by have := HF.out; omega)
        cases hlv : lt dk[a]! dk[i2]! with
        | false =>
          have HI2 : Hid (Sort.scanUp (fun x => !lt dk[a]! x) dk j (i2 + 1) = Sort.scanUp (fun x => !lt dk[a]! x) dk j i) := Lib.hid (by rw [← HI.out]; exact (up_more hle (by simp [hlv])).symm)
          rw [hlv] at hl
          have KL := Lib.hid hl
          clear hl hlv HI
          go_wp2_with fail
          refine KL.out.mono ?_
          rintro e w2 ⟨rfl, hS2, hb2⟩
          have HS2 := Lib.hid hS2
          clear hS2 KL HS hb2 c0
          go_wp2_with fail
          go_roundw
          case rel => exact ⟨i2 + 1, by go_num, by omega, by omega, HS2, HI2⟩
          case measure => simp [intOf]; omega
        | true =>
          have HI2 : Hid (i2 = Sort.scanUp (fun x => !lt dk[a]! x) dk j i) := Lib.hid (by rw [← HI.out]; exact (up_done (Or.inr (by simp [hlv]))).symm)
          rw [hlv] at hl
          have KL := Lib.hid hl
          clear hl hlv HI
          go_wp2_with fail
          refine KL.out.mono ?_
          rintro e w2 ⟨rfl, hS2, hb2⟩
          have HS2 := Lib.hid hS2
          clear hS2 KL HS hb2 c0
          have HS := HS2
          have HI := HI2
          clear HS2 HI2
          go_wp2_with fail
          (try clear c0)
          go_loopw [10] (fun vj wr => ∃ (j2 : Nat), vj = .int .i64 j2 ∧ j2 ≤ j ∧ i2 ≤ j2 + 1 ∧ Hid (St Tryz.prog lf sf lb sb g b0 n lt A w w.heap.size 103 dk wr) ∧ Hid (Sort.scanDown (fun x => lt dk[a]! x) dk i2 j2 = Sort.scanDown (fun x => lt dk[a]! x) dk i2 j)) (fun vj _ => (intOf vj).toNat)
          case atStart => exact ⟨j, rfl, Nat.le_refl _, hi2, HS, Lib.hid rfl⟩
          case round =>
            clear HS
            obtain ⟨j2, rfl, hjj, hij2, HS, HJ⟩ := hrel
            have c0 := HS.out.c0
            by_cases hle2 : i2 ≤ j2
            · have hle2z : (i2 : Int) ≤ (j2 : Int) := by omega
              have hl := HS.out.less (i := a) (j := j2) (by have := HF.out; omega) (by have := HF.out; omega)
              cases hlv : lt dk[a]! dk[j2]! with
              | true =>
                have HJ2 : Hid (Sort.scanDown (fun x => lt dk[a]! x) dk i2 (j2 - 1) = Sort.scanDown (fun x => lt dk[a]! x) dk i2 j) := Lib.hid (by rw [← HJ.out]; exact (down_more hle2 (by have := HF.out; omega) (by simp [hlv])).symm)
                rw [hlv] at hl
                have KL := Lib.hid hl
                clear hl hlv HJ
                go_wp2_with fail
                refine KL.out.mono ?_
                rintro e w2 ⟨rfl, hS2, hb2⟩
                have HS2 := Lib.hid hS2
                clear hS2 KL HS hb2 c0
                go_wp2_with fail
                go_roundw
                case rel => exact ⟨j2 - 1, by have := HF.out; go_num, by omega, by omega, HS2, HJ2⟩
                case measure => have := HF.out; simp [intOf]; omega
              | false =>
                have HJ2 : Hid (j2 = Sort.scanDown (fun x => lt dk[a]! x) dk i2 j) := Lib.hid (by rw [← HJ.out]; exact (down_done (Or.inr (by simp [hlv]))).symm)
                have hlt : i2 < j2 := scans_apart (fun x => by simp) (by have := HF.out; omega) HI.out HJ2.out hle2
                rw [hlv] at hl
                have KL := Lib.hid hl
                clear hl hlv HJ
                go_wp2_with fail
                refine KL.out.mono ?_
                rintro e w2 ⟨rfl, hS2, hb2⟩
                have HS2 := Lib.hid hS2
                clear hS2 KL HS hb2 c0
                have HS := HS2
                have HJ := HJ2
                clear HS2 HJ2
                have HO2 : Hid (Sort.partEqLoop lt a (i2 + 1) (j2 - 1) (Sort.swp dk i2 j2) = Sort.partEqLoop lt a i0 j0 dk0) := Lib.hid (by rw [← HO.out]; exact (eq_next HI.out HJ.out hle2).symm)
                have d1 := HS.out.c1
                obtain ⟨W1, hs, hS3, hbt⟩ := HS.out.swap (i := i2) (j := j2) (by have := HF.out; omega) (by have := HF.out; omega)
                have HS3 := Lib.hid hS3
                clear hS3 hbt HS
                clear HO HI HJ
                go_wp2_with fail
                go_roundw
                case rel => exact ⟨i2 + 1, j2 - 1, _, by go_num, by have := HF.out; go_num, by omega, by omega, by omega, HS3, HO2⟩
                case measure => simp [intOf]; omega
            · have hle2z : ¬ (i2 : Int) ≤ (j2 : Int) := by omega
              have HJ2 : Hid (j2 = Sort.scanDown (fun x => lt dk[a]! x) dk i2 j) := Lib.hid (by rw [← HJ.out]; exact (down_done (Or.inl hle2)).symm)
              clear HJ c0
              have HJ := HJ2
              clear HJ2
              have E : Hid (Sort.partEqLoop lt a i0 j0 dk0 = (i2, dk)) := Lib.hid (by rw [← HO.out]; exact eq_end HI.out HJ.out hle2)
              clear HO HI HJ
              go_wp2_with fail
              go_ret
              exact ⟨by rw [PF.out, E.out]; rfl, by rw [PF.out, E.out]; exact HS.out.a, HS.out.bt⟩
      · have hlez : ¬ (i2 : Int) ≤ (j : Int) := by omega
        have HI2 : Hid (i2 = Sort.scanUp (fun x => !lt dk[a]! x) dk j i) := Lib.hid (by rw [← HI.out]; exact (up_done (Or.inl hle)).symm)
        clear HI c0
        have HI := HI2
        clear HI2
        have c0 := HS.out.c0
        go_wp2_with fail
        (try clear c0)
        go_loopw [10] (fun vj wr => ∃ (j2 : Nat), vj = .int .i64 j2 ∧ j2 ≤ j ∧ i2 ≤ j2 + 1 ∧ Hid (St Tryz.prog lf sf lb sb g b0 n lt A w w.heap.size 103 dk wr) ∧ Hid (Sort.scanDown (fun x => lt dk[a]! x) dk i2 j2 = Sort.scanDown (fun x => lt dk[a]! x) dk i2 j)) (fun vj _ => (intOf vj).toNat)
        case atStart => exact ⟨j, rfl, Nat.le_refl _, hi2, HS, Lib.hid rfl⟩
        case round =>
          clear HS
          obtain ⟨j2, rfl, hjj, hij2, HS, HJ⟩ := hrel
          have c0 := HS.out.c0
          by_cases hle2 : i2 ≤ j2
          · exfalso; omega
          · have hle2z : ¬ (i2 : Int) ≤ (j2 : Int) := by omega
            have HJ2 : Hid (j2 = Sort.scanDown (fun x => lt dk[a]! x) dk i2 j) := Lib.hid (by rw [← HJ.out]; exact (down_done (Or.inl hle2)).symm)
            clear HJ c0
            have HJ := HJ2
            clear HJ2
            have E : Hid (Sort.partEqLoop lt a i0 j0 dk0 = (i2, dk)) := Lib.hid (by rw [← HO.out]; exact eq_end HI.out HJ.out hle2)
            clear HO HI HJ
            go_wp2_with fail
            go_ret
            exact ⟨by rw [PF.out, E.out]; rfl, by rw [PF.out, E.out]; exact HS.out.a, HS.out.bt⟩
end
end Go.Proofs.YtefkolkagebffaaGreatDoor.Srt
