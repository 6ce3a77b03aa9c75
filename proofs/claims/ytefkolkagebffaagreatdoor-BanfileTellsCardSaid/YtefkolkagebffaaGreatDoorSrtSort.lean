/- Package sort's pdqsort_func, at a list of which 'less' and 'swap' are known: it is sorted behind it. -/
import Derived.Test.YtefkolkagebffaaGreatDoorSrtLow
import Derived.Test.YtefkolkagebffaaGreatDoorSrtHeap
import Derived.Test.YtefkolkagebffaaGreatDoorSrtPart
import Derived.Test.YtefkolkagebffaaGreatDoorSrtPins
import Derived.Deep.Cut
import Derived.Lib.ReflectliteSwap
import Derived.Laws.Externs
namespace Go.Proofs.YtefkolkagebffaaGreatDoor.Srt
set_option maxRecDepth 100000
open Go.ChangeShapes Go.WideShapes Go.ChangeAt Go.RowKit
set_option linter.unusedVariables false
section
variable {α : Type} [Inhabited α] {lf sf : Nat} {lb sb : Array Value} {g b0 n : Nat} {lt : α → α → Bool} {A : Array α → World → Prop}
set_option maxHeartbeats 16000000 in
theorem pdq_step (S : Srt Tryz.prog lf sf lb sb g b0 n lt A) (hO : Sort.SWO lt) (N : Nat)
    (ih : Hid (∀ (a b limit : Nat) (d : Array α) (w : World), b - a < N → A d w → a ≤ b → b ≤ n → limit ≤ 100 → Sort.Below lt a b d →
      Calls Tryz.prog 60 #[.agg #[.func (.func lf) #[] lb, .func (.func sf) #[] sb], .int .i64 a, .int .i64 b, .int .i64 limit] w fun e w' => e = .returned (.tuple #[]) ∧ ∃ d', A d' w' ∧ Bt g w w' ∧ Sort.PermIn a b d d' ∧ Sort.SortedIn lt a b d')) {a b limit : Nat} {d : Array α} {w : World}
    (hN : b - a < N + 1) (h : A d w) (hab : a ≤ b) (hb : b ≤ n) (hlim : limit ≤ 100) (hBel : Sort.Below lt a b d) :
    Calls Tryz.prog 60 #[.agg #[.func (.func lf) #[] lb, .func (.func sf) #[] sb], .int .i64 a, .int .i64 b, .int .i64 limit] w fun e w' => e = .returned (.tuple #[]) ∧ ∃ d', A d' w' ∧ Bt g w w' ∧ Sort.PermIn a b d d' ∧ Sort.SortedIn lt a b d' := by
  have S0 := Lib.hid (S.start (T := 103) h)
  have hn := S.small
  have eg := S.enter
  have HSS := Lib.hid S
  have HO := Lib.hid hO
  have HB0 := Lib.hid hBel
  have HN := Lib.hid hN
  clear S h hO hBel hN
  go_enter Tryz.func60, Tryz.ntmps60
  go_wp2_with fail
  go_loopw [1, 2, 3, 8, 9] (fun s1 s2 s3 s8 s9 wr => ∃ (a1 b1 lim : Nat) (wb wp : Bool) (dk : Array α), s1 = .int .i64 a1 ∧ s2 = .int .i64 b1 ∧ s3 = .int .i64 lim ∧ s8 = .bool wb ∧ s9 = .bool wp ∧
    a1 ≤ b1 ∧ b1 ≤ n ∧ Hid (b1 - a1 ≤ b - a) ∧ lim ≤ 100 ∧ Hid (Sort.Below lt a1 b1 dk) ∧ Hid (St Tryz.prog lf sf lb sb g b0 n lt A w w.heap.size 103 dk wr) ∧ Hid (∀ R, Sort.PermIn a1 b1 dk R → Sort.SortedIn lt a1 b1 R → Sort.PermIn a b d R ∧ Sort.SortedIn lt a b R)) (fun s1 s2 _ _ _ _ => (intOf s2 - intOf s1).toNat)
  case atStart => exact ⟨a, b, limit, true, true, d, rfl, rfl, rfl, rfl, rfl, hab, hb, Lib.hid (Nat.le_refl _), hlim, HB0, S0, Lib.hid (fun R h1 h2 => ⟨h1, h2⟩)⟩
  case round =>
    obtain ⟨a1, b1, lim, wb, wp, dk, rfl, rfl, rfl, rfl, rfl, hab1, hb1, hsub, hl100, HB, HS, HF⟩ := hrel
    clear S0 HB0
    have c0 := HS.out.c0
    have c1 := HS.out.c1
    have hsz : Hid (dk.size = n) := Lib.hid HS.out.size
    by_cases h12 : b1 - a1 ≤ 12
    · have h12z : (b1 : Int) - (a1 : Int) ≤ 12 := by omega
      have K := Lib.hid (insertion_any HSS.out HS.out.a hab1 hb1)
      go_wp2_with fail
      refine K.out.mono ?_
      rintro e w1 ⟨rfl, hA1, hbt1⟩
      have hh := Sort.insertionSort_holds HO.out dk a1 b1 hab1 (by rw [hsz.out]; exact hb1)
      have hf := HF.out _ hh.1 hh.2
      have E : Hid (∃ d', A d' w1 ∧ Bt g w w1 ∧ Sort.PermIn a b d d' ∧ Sort.SortedIn lt a b d') := Lib.hid ⟨_, hA1, HS.out.bt.trans hbt1, hf.1, hf.2⟩
      clear hA1 hbt1 hh hf K HS HF HB
      go_wp2_with fail
      (try simp only [Exit.inBlock, Exit.then]); refine bodyPost_ret (results_none rfl _ _ _) rfl ?_
      exact ⟨rfl, E.out⟩
    · have h12z : ¬ ((b1 : Int) - (a1 : Int) ≤ 12) := by omega
      by_cases hl0 : lim = 0
      · subst hl0
        have K := Lib.hid (heap_any HSS.out HS.out.a (by omega : a1 < b1) hb1)
        go_wp2_with fail
        refine K.out.mono ?_
        rintro e w1 ⟨rfl, hA1, hbt1⟩
        have hh := Sort.heapSort_holds HO.out dk a1 b1 hab1 (by rw [hsz.out]; exact hb1)
        have hf := HF.out _ hh.1 hh.2
        have E : Hid (∃ d', A d' w1 ∧ Bt g w w1 ∧ Sort.PermIn a b d d' ∧ Sort.SortedIn lt a b d') := Lib.hid ⟨_, hA1, HS.out.bt.trans hbt1, hf.1, hf.2⟩
        clear hA1 hbt1 hh hf K HS HF HB
        go_wp2_with fail
        (try simp only [Exit.inBlock, Exit.then]); refine bodyPost_ret (results_none rfl _ _ _) rfl ?_
        exact ⟨rfl, E.out⟩
      · have hl0z : ¬ ((lim : Int) = 0) := by omega
        have hltz : (a1 : Int) + 12 < (b1 : Int) := by omega
        go_upto_if 35 with fail
        go_cut [3] from 19 (fun s3 wc => ∃ (l1 : Nat) (d1 : Array α), s3 = .int .i64 l1 ∧ l1 ≤ 100 ∧ Hid (St Tryz.prog lf sf lb sb g b0 n lt A w w.heap.size 103 d1 wc) ∧ Hid (Sort.PermIn a1 b1 dk d1))
        case first =>
          cases wb
          · have K := Lib.hid (break_any HSS.out HS.out.a hab1 hb1)
            go_wp2_with fail
            refine K.out.mono ?_
            rintro e w1 ⟨rfl, d1, hA1, hbt1, hp1⟩
            have HS1 := Lib.hid (HS.out.step hA1 hbt1)
            have HP1 := Lib.hid hp1
            clear hA1 hbt1 hp1 K HS c0 c1
            go_wp2_with fail
            go_meet
            case rel => exact ⟨lim - 1, d1, by go_num, by omega, HS1, HP1⟩
          · go_wp2_with fail
            go_meet
            case rel => exact ⟨lim, dk, rfl, hl100, HS, Lib.hid (Sort.permIn_refl _ _ _)⟩
        case rest =>
          obtain ⟨l1, d1, rfl, hl1, HS1, HP1⟩ := hcut
          clear HS c0 c1
          have c0 := HS1.out.c0
          have c1 := HS1.out.c1
          have K := Lib.hid (choose_any HSS.out HS1.out.a (by omega : a1 < b1) hb1)
          go_upto_if 50 with fail
          refine K.out.mono ?_
          rintro e w2 ⟨p, o, rfl, hp, ho, hb2⟩
          have HS2 := Lib.hid (HS1.out.on hb2)
          have HPV := Lib.hid hp
          have HOO := Lib.hid ho
          clear hp ho hb2 K HS1 c0 c1
          have c0 := HS2.out.c0
          have c1 := HS2.out.c1
          go_upto_if 50 with fail
          go_cut [11, 12] from 19 (fun s11 s12 wc => ∃ (p2 : Nat) (o2 : Int) (d2 : Array α), s11 = .int .i64 p2 ∧ s12 = .int .i64 o2 ∧ Hid (a1 ≤ p2 ∧ p2 < b1) ∧ Hid (St Tryz.prog lf sf lb sb g b0 n lt A w w.heap.size 103 d2 wc) ∧ Hid (Sort.PermIn a1 b1 dk d2))
          case first =>
            by_cases ho2 : o = 2
            · subst ho2
              have K := Lib.hid (reverse_any HSS.out HS2.out.a hab1 hb1)
              go_wp2_with fail
              refine K.out.mono ?_
              rintro e w3 ⟨rfl, d3, hA3, hbt3, hp3⟩
              have HS3 := Lib.hid (HS2.out.step hA3 hbt3)
              have HP3 := Lib.hid (Sort.permIn_trans _ _ _ a1 b1 HP1.out hp3)
              have q1 := HPV.out.1
              have q2 := HPV.out.2
              clear hA3 hbt3 hp3 K HS2 c0 c1
              go_wp2_with fail
              go_meet
              case rel => exact ⟨(b1 - 1) - (p - a1), 1, d3, by go_num, rfl, Lib.hid (by omega), HS3, HP3⟩
            · have hoz : (o == 2) = false := by simpa using ho2
              go_wp2_with fail
              go_meet
              case rel => exact ⟨p, o, d1, rfl, rfl, HPV, HS2, HP1⟩
          case rest =>
            obtain ⟨p2, o2, d2, rfl, rfl, HPV2, HS3, HP3⟩ := hcut
            clear HS2 c0 c1 HPV HOO HP1
            have c0 := HS3.out.c0
            have c1 := HS3.out.c1
            go_upto_region 16 with fail
            go_cut [68] from 19 (fun s68 wx => ∃ q : Bool, s68 = .bool q ∧ wx = wc)
            case first =>
              cases wb <;> cases wp <;> by_cases ho2 : o2 = 1 <;>
                (have hoz : (o2 == 1) = decide (o2 = 1) := rfl
                 (try subst ho2)
                 go_wp2_with fail
                 go_meet
                 case rel => exact ⟨_, rfl, rfl⟩)
            case rest =>
              obtain ⟨q, rfl, rfl⟩ := hcut
              go_upto_if 68 with fail
              go_cut [] from 19 (fun wx => ∃ (d4 : Array α), Hid (St Tryz.prog lf sf lb sb g b0 n lt A w w.heap.size 103 d4 wx) ∧ Hid (Sort.PermIn a1 b1 dk d4))
              case first =>
                cases q
                · go_wp2_with fail
                  go_meet
                  case rel => exact ⟨d2, HS3, HP3⟩
                · have K := partial_any HSS.out HS3.out.a (by omega : a1 < b1) hb1
                  have hh := Sort.partialInsertionSort_holds HO.out d2 a1 b1 (by omega) (by rw [HS3.out.size]; exact hb1) (HB.out.perm (by rw [hsz.out]; exact hb1) HP3.out)
                  generalize Sort.partialInsertionSort lt d2 a1 b1 = r at K hh
                  obtain ⟨d4, r2⟩ := r
                  have HP4 := Lib.hid (Sort.permIn_trans _ _ _ a1 b1 HP3.out hh.1)
                  have HR := Lib.hid (fun hr => HF.out _ HP4.out (hh.2 hr))
                  simp only [] at K
                  have HK := Lib.hid K
                  clear K hh
                  cases r2
                  · go_wp2_with fail
                    refine HK.out.mono ?_
                    rintro e w4 ⟨rfl, hA4, hbt4⟩
                    have HS4 := Lib.hid (HS3.out.step hA4 hbt4)
                    clear hA4 hbt4 HK HS3 c0 c1
                    go_wp2_with fail
                    go_meet
                    case rel => exact ⟨d4, HS4, HP4⟩
                  · go_wp2_with fail
                    refine HK.out.mono ?_
                    rintro e w4 ⟨rfl, hA4, hbt4⟩
                    have HS4 := Lib.hid (HS3.out.step hA4 hbt4)
                    clear hA4 hbt4 HK HS3 c0 c1
                    go_wp2_with fail
                    (try simp only [Exit.inBlock, Exit.then]); refine bodyPost_ret (results_none rfl _ _ _) rfl ?_
                    exact ⟨rfl, d4, HS4.out.a, HS4.out.bt, (HR.out (by simp)).1, (HR.out (by simp)).2⟩
              case rest =>
                obtain ⟨d4, HS4, HP4⟩ := hcut
                clear HS3 HP3 c0 c1
                have c0 := HS4.out.c0
                have c1 := HS4.out.c1
                go_upto_region 18 with fail
                go_cut [83] from 19 (fun s83 wx => ∃ q : Bool, s83 = .bool q ∧ Hid (q = true → 0 < a1 ∧ lt d4[a1 - 1]! d4[p2]! = false) ∧ Hid (St Tryz.prog lf sf lb sb g b0 n lt A w w.heap.size 103 d4 wx))
                case first =>
                  by_cases ha0 : 0 < a1
                  · have ha0z : (0 : Int) < (a1 : Int) := by omega
                    have hl := HS4.out.less (i := a1 - 1) (j := p2) (by omega) (by have := HPV2.out; omega)
                    rw [show ((a1 - 1 : Nat) : Int) = (a1 : Int) - 1 by omega] at hl
                    cases hlv : lt d4[a1 - 1]! d4[p2]! with
                    | true =>
                      rw [hlv] at hl
                      have KL := Lib.hid hl
                      clear hl hlv
                      go_wp2_with fail
                      refine KL.out.mono ?_
                      rintro e w5 ⟨rfl, hS5, hb5⟩
                      have HS5 := Lib.hid hS5
                      clear hS5 hb5 KL HS4 c0 c1
                      go_wp2_with fail
                      go_meet
                      case rel => exact ⟨_, rfl, Lib.hid (fun h => by simp at h), HS5⟩
                    | false =>
                      have HLV := Lib.hid hlv
                      rw [hlv] at hl
                      have KL := Lib.hid hl
                      clear hl hlv
                      go_wp2_with fail
                      refine KL.out.mono ?_
                      rintro e w5 ⟨rfl, hS5, hb5⟩
                      have HS5 := Lib.hid hS5
                      clear hS5 hb5 KL HS4 c0 c1
                      go_wp2_with fail
                      go_meet
                      case rel => exact ⟨_, rfl, Lib.hid (fun _ => ⟨ha0, HLV.out⟩), HS5⟩
                  · have ha0z : ¬ (0 : Int) < (a1 : Int) := by omega
                    go_wp2_with fail
                    go_meet
                    case rel => exact ⟨_, rfl, Lib.hid (fun h => by simp at h), HS4⟩
                case rest =>
                  obtain ⟨q, rfl, HQ, HS5⟩ := hcut
                  clear HS4 c0 c1
                  have c0 := HS5.out.c0
                  have c1 := HS5.out.c1
                  have hB4 := HB.out.perm (by rw [hsz.out]; exact hb1) HP4.out
                  have hs4 := HS5.out.size
                  cases q
                  · have K := part_any HSS.out HS5.out.a HPV2.out.1 HPV2.out.2 hb1
                    have hh := fun mid ap d5 (hx : Sort.partition lt d4 a1 b1 p2 = (mid, ap, d5)) => Sort.round_part HO.out (Sort.partition_holds lt) HPV2.out.1 HPV2.out.2 (by rw [hs4]; exact hb1) hB4 hx
                    generalize Sort.partition lt d4 a1 b1 p2 = r at K hh
                    obtain ⟨mid, ap, d5⟩ := r
                    obtain ⟨r1, r2, r3, r4, r5, r6, r7⟩ := hh _ _ _ rfl
                    simp only [] at K
                    have HK := Lib.hid K
                    have R1 := Lib.hid r1
                    have R2 := Lib.hid r2
                    have R4 := Lib.hid r4
                    have R5 := Lib.hid r5
                    have R6 := Lib.hid r6
                    have R7 := Lib.hid r7
                    clear K hh r1 r2 r3 r4 r5 r6 r7 hB4 hs4 HQ
                    by_cases hm : mid - a1 < b1 - mid
                    · have hmz : (mid : Int) - (a1 : Int) < (b1 : Int) - (mid : Int) := by have := R1.out; have := R2.out; omega
                      go_wp2_with fail
                      refine HK.out.mono ?_
                      rintro e w6 ⟨rfl, hA6, hbt6⟩
                      have HS6 := Lib.hid (HS5.out.step hA6 hbt6)
                      have K := Lib.hid (ih.out a1 mid l1 d5 w6 (by have := R1.out; have := R2.out; have := HN.out; have := hsub.out; omega) hA6 R1.out (by have := R2.out; omega) hl1 R4.out)
                      clear hA6 hbt6 HK HS5 c0 c1
                      have c0 := HS6.out.c0
                      have c1 := HS6.out.c1
                      have q1 := R1.out
                      have q2 := R2.out
                      go_wp2_with fail
                      refine K.out.mono ?_
                      rintro e w7 ⟨rfl, d7, hA7, hbt7, hp7, hs7⟩
                      have HS7 := Lib.hid (HS6.out.step hA7 hbt7)
                      have h6 := R6.out _ hp7 hs7
                      have HB7 := Lib.hid h6.1
                      have HF7 : Hid (∀ R, Sort.PermIn (mid + 1) b1 d7 R → Sort.SortedIn lt (mid + 1) b1 R → Sort.PermIn a b d R ∧ Sort.SortedIn lt a b R) := Lib.hid (fun R x y => HF.out R (Sort.permIn_trans _ _ _ a1 b1 HP4.out (h6.2 R x y).1) (h6.2 R x y).2)
                      have hsub7 : Hid (b1 - (mid + 1) ≤ b - a) := Lib.hid (by have := hsub.out; omega)
                      clear hA7 hbt7 hp7 hs7 h6 K HS6 c0 c1 R4 R5 R6 R7
                      go_wp2_with fail
                      go_roundw
                      case rel => exact ⟨mid + 1, b1, l1, _, ap, d7, by go_num, rfl, rfl, rfl, rfl, by omega, hb1, hsub7, hl1, HB7, HS7, HF7⟩
                      case measure => simp [intOf]; omega
                    · have hmz : ¬ ((mid : Int) - (a1 : Int) < (b1 : Int) - (mid : Int)) := by have := R1.out; have := R2.out; omega
                      go_wp2_with fail
                      refine HK.out.mono ?_
                      rintro e w6 ⟨rfl, hA6, hbt6⟩
                      have HS6 := Lib.hid (HS5.out.step hA6 hbt6)
                      have K0 := ih.out (mid + 1) b1 l1 d5 w6 (by have := R1.out; have := R2.out; have := HN.out; have := hsub.out; omega) hA6 (by have := R2.out; omega) hb1 hl1 R5.out
                      rw [show ((mid + 1 : Nat) : Int) = (mid : Int) + 1 by omega] at K0
                      have K := Lib.hid K0
                      clear hA6 hbt6 HK HS5 c0 c1 K0
                      have c0 := HS6.out.c0
                      have c1 := HS6.out.c1
                      have q1 := R1.out
                      have q2 := R2.out
                      go_wp2_with fail
                      refine K.out.mono ?_
                      rintro e w7 ⟨rfl, d7, hA7, hbt7, hp7, hs7⟩
                      have HS7 := Lib.hid (HS6.out.step hA7 hbt7)
                      have h7 := R7.out _ hp7 hs7
                      have HB7 := Lib.hid h7.1
                      have HF7 : Hid (∀ R, Sort.PermIn a1 mid d7 R → Sort.SortedIn lt a1 mid R → Sort.PermIn a b d R ∧ Sort.SortedIn lt a b R) := Lib.hid (fun R x y => HF.out R (Sort.permIn_trans _ _ _ a1 b1 HP4.out (h7.2 R x y).1) (h7.2 R x y).2)
                      have hsub7 : Hid (mid - a1 ≤ b - a) := Lib.hid (by have := hsub.out; omega)
                      clear hA7 hbt7 hp7 hs7 h7 K HS6 c0 c1 R4 R5 R6 R7
                      go_wp2_with fail
                      go_roundw
                      case rel => exact ⟨a1, mid, l1, _, ap, d7, rfl, rfl, rfl, rfl, rfl, by omega, by omega, hsub7, hl1, HB7, HS7, HF7⟩
                      case measure => simp [intOf]; omega
                  · have K := equal_any HSS.out HS5.out.a HPV2.out.1 HPV2.out.2 hb1
                    have hh := fun mid d5 (hx : Sort.partitionEqual lt d4 a1 b1 p2 = (mid, d5)) => Sort.round_eq HO.out (Sort.partitionEqual_holds lt) (HQ.out rfl).1 HPV2.out.1 HPV2.out.2 (by rw [hs4]; exact hb1) hB4 (HQ.out rfl).2 hx
                    generalize Sort.partitionEqual lt d4 a1 b1 p2 = r at K hh
                    obtain ⟨mid, d5⟩ := r
                    obtain ⟨r1, r2, r3, r4, r5⟩ := hh _ _ rfl
                    simp only [] at K
                    have HK := Lib.hid K
                    have HB6 := Lib.hid r4
                    have HF6 : Hid (∀ R, Sort.PermIn mid b1 d5 R → Sort.SortedIn lt mid b1 R → Sort.PermIn a b d R ∧ Sort.SortedIn lt a b R) := Lib.hid (fun R x y => HF.out R (Sort.permIn_trans _ _ _ a1 b1 HP4.out (r5 R x y).1) (r5 R x y).2)
                    have hsub6 : Hid (b1 - mid ≤ b - a) := Lib.hid (by have := hsub.out; omega)
                    clear K hh r3 r4 r5 hB4 hs4 HQ
                    go_wp2_with fail
                    refine HK.out.mono ?_
                    rintro e w6 ⟨rfl, hA6, hbt6⟩
                    have HS6 := Lib.hid (HS5.out.step hA6 hbt6)
                    clear hA6 hbt6 HK HS5 c0 c1
                    go_wp2_with fail
                    go_roundw
                    case rel => exact ⟨mid, b1, l1, wb, wp, d5, rfl, rfl, rfl, rfl, rfl, r2, hb1, hsub6, hl1, HB6, HS6, HF6⟩
                    case measure => simp [intOf]; omega
theorem pdq_any (S : Srt Tryz.prog lf sf lb sb g b0 n lt A) (hO : Sort.SWO lt) : ∀ (N a b limit : Nat) (d : Array α) (w : World), b - a < N → A d w → a ≤ b → b ≤ n → limit ≤ 100 → Sort.Below lt a b d →
    Calls Tryz.prog 60 #[.agg #[.func (.func lf) #[] lb, .func (.func sf) #[] sb], .int .i64 a, .int .i64 b, .int .i64 limit] w fun e w' => e = .returned (.tuple #[]) ∧ ∃ d', A d' w' ∧ Bt g w w' ∧ Sort.PermIn a b d d' ∧ Sort.SortedIn lt a b d'
  | 0, _, _, _, _, _, h, _, _, _, _, _ => absurd h (Nat.not_lt_zero _)
  | N + 1, a, b, limit, d, w, h, h1, h2, h3, h4, h5 => pdq_step S hO N (Lib.hid (pdq_any S hO N)) h h1 h2 h3 h4 h5
end
end Go.Proofs.YtefkolkagebffaaGreatDoor.Srt
/- Package sort's Slice at a list of bans, for any 'less' that is known. -/
namespace Go.Proofs.YtefkolkagebffaaGreatDoor.Srt
set_option maxRecDepth 100000
open Go.ChangeShapes Go.WideShapes Go.ChangeAt Go.RowKit
set_option linter.unusedVariables false
theorem info_slice : ∃ i, Tryz.prog.info? 22 = some i ∧ i.desc = .slice 40 := by
  have h : (Tryz.prog.info? 22).map (fun i => i.desc) = some (.slice 40) := by kernel_rfl
  cases hq : Tryz.prog.info? 22 with
  | none => rw [hq] at h; cases h
  | some i => exact ⟨i, rfl, by rw [hq] at h; simpa using h⟩
theorem info_ban : ∃ i, Tryz.prog.info? 40 = some i ∧ i.size = 5 ∧ i.hasPointers = false ∧ i.bytes = 40 := by
  have h : (Tryz.prog.info? 40).map (fun i => (i.size, i.hasPointers, i.bytes)) = some (5, false, 40) := by kernel_rfl
  cases hq : Tryz.prog.info? 40 with
  | none => rw [hq] at h; cases h
  | some i => exact ⟨i, rfl, by rw [hq] at h; simpa using h⟩
/-- What stands for a type where the library asks for one. -/
noncomputable def hand (t : TypeId) : Value := typeHandle Tryz.prog t
theorem valueOf_run (p : Option Addr) (n c : Nat) (w : World) : (callFunc 56 #[.iface 22 (.slice p n c)]).run Tryz.prog w = .ok (.value (.agg #[hand 22, .pointer (some ⟨w.heap.size, 0, none⟩), .int .u64 151])) (w.alloc (.cells #[.slice p n c] 22)) := by
  obtain ⟨i, hi, hd⟩ := info_slice
  rw [run_callFunc_extern Tryz.func56 (by kernel_rfl) (by kernel_rfl) (by kernel_rfl) (e := fun args => Extern.ReflectliteValue.unpack (args.getD 0 (.tuple #[]))) (by kernel_rfl),
    show Sem.run Tryz.prog ((fun args : Array Value => Extern.ReflectliteValue.unpack (args.getD 0 (.tuple #[]))) #[.iface 22 (.slice p n c)]) w = _ from Lib.run_valueOf_slice (P := Tryz.prog) _ _ i hi hd p n c w]
  rfl
theorem len_run (a : Addr) (p : Option Addr) (n c : Nat) (w : World) (ha : w.cell? a = some (.slice p n c)) : (callFunc 58 #[.agg #[hand 22, .pointer (some a), .int .u64 151]]).run Tryz.prog w = .ok (.value (.int .i64 n)) w := by
  obtain ⟨i, hi, hd⟩ := info_slice
  rw [run_callFunc_extern Tryz.func58 (by kernel_rfl) (by kernel_rfl) (by kernel_rfl) (e := Extern.ReflectliteValue.method (Extern.ReflectliteValue.valueError "reflectlite.Value.Len" 0) Extern.ReflectliteValue.len) (by kernel_rfl),
    show Sem.run Tryz.prog (Extern.ReflectliteValue.method (Extern.ReflectliteValue.valueError "reflectlite.Value.Len" 0) Extern.ReflectliteValue.len #[.agg #[hand 22, .pointer (some a), .int .u64 151]]) w = _ from Lib.run_valueLen_slice (P := Tryz.prog) _ _ i hi hd (by kernel_rfl) a p n c w ha]
  rfl
theorem swapper_run (p : Option Addr) (n c : Nat) (h2 : 2 ≤ n) (w : World) : (callFunc 57 #[.iface 22 (.slice p n c)]).run Tryz.prog w = .ok (.value (.func (.func 101) #[] #[.slice p n c, hand 40])) w := by
  obtain ⟨i, hi, hd⟩ := info_slice
  obtain ⟨ie, hie, h5, hp, hb⟩ := info_ban
  have hk : Lib.swapperK n ie 25 = 9 := by
    unfold Lib.swapperK
    rw [if_neg (by simp; omega), if_neg (by simp; omega), hp, hb]
    rfl
  rw [run_callFunc_extern Tryz.func57 (by kernel_rfl) (by kernel_rfl) (by kernel_rfl) (e := Extern.ReflectliteSwapper.swapper "internal/reflectlite" (Extern.ReflectliteValue.valueError "Swapper")) (by kernel_rfl),
    Lib.run_swapper_slice (P := Tryz.prog) _ _ i ie hi hd hie 25 (fun _ => by kernel_rfl) p n c 101 (by rw [hk]; kernel_rfl) w, hk]
  rfl
theorem swapper_tiny (p : Option Addr) (n c : Nat) (h2 : n ≤ 1) : ∃ f : Nat, ∀ w : World, (callFunc 57 #[.iface 22 (.slice p n c)]).run Tryz.prog w = .ok (.value (.func (.func f) #[] #[])) w := by
  obtain ⟨i, hi, hd⟩ := info_slice
  obtain ⟨ie, hie, h5, hp, hb⟩ := info_ban
  rcases Nat.eq_zero_or_pos n with rfl | h
  · have hk : Lib.swapperK 0 ie 25 = 1 := rfl
    refine ⟨93, fun w => ?_⟩
    rw [run_callFunc_extern Tryz.func57 (by kernel_rfl) (by kernel_rfl) (by kernel_rfl) (e := Extern.ReflectliteSwapper.swapper "internal/reflectlite" (Extern.ReflectliteValue.valueError "Swapper")) (by kernel_rfl),
      Lib.run_swapper_slice (P := Tryz.prog) _ _ i ie hi hd hie 25 (fun _ => by kernel_rfl) p 0 c 93 (by rw [hk]; kernel_rfl) w, hk]
    rfl
  · obtain rfl : n = 1 := by omega
    have hk : Lib.swapperK 1 ie 25 = 2 := rfl
    refine ⟨94, fun w => ?_⟩
    rw [run_callFunc_extern Tryz.func57 (by kernel_rfl) (by kernel_rfl) (by kernel_rfl) (e := Extern.ReflectliteSwapper.swapper "internal/reflectlite" (Extern.ReflectliteValue.valueError "Swapper")) (by kernel_rfl),
      Lib.run_swapper_slice (P := Tryz.prog) _ _ i ie hi hd hie 25 (fun _ => by kernel_rfl) p 1 c 94 (by rw [hk]; kernel_rfl) w, hk]
    rfl
section
set_option maxHeartbeats 2000000 in
theorem insertion_tiny (f1 f2 : Value) (n : Nat) (hn : n ≤ 1) (w : World) :
    Calls Tryz.prog 104 #[.agg #[f1, f2], .int .i64 0, .int .i64 n] w fun e w' => e = .returned (.tuple #[]) ∧ Below w.heap.size w w' := by
  have HB := Lib.hid ((Below.refl w.heap.size w).alloc (Nat.le_refl _) (.cells #[f1, f2] 103))
  have hz : ¬ (1 : Int) < (n : Int) := by omega
  go_enter Tryz.func104, Tryz.ntmps104
  go_wp2_with fail
  go_loopw [6] (fun vi wr => vi = .int .i64 1 ∧ Hid (Below w.heap.size w wr)) (fun _ _ => 0)
  case atStart => exact ⟨by go_num, HB⟩
  case round =>
    obtain ⟨rfl, HB2⟩ := hrel
    go_wp2_with fail
    go_end0
    exact ⟨rfl, HB2.out⟩
set_option maxHeartbeats 4000000 in
theorem pdq_tiny {lf sf : Fn} {la lb sa sb : Array Value} (n limit : Nat) (hn : n ≤ 1) (w : World) :
    Calls Tryz.prog 60 #[.agg #[.func lf la lb, .func sf sa sb], .int .i64 0, .int .i64 n, .int .i64 limit] w fun e w' => e = .returned (.tuple #[]) ∧ Below w.heap.size w w' := by
  have HB := Lib.hid ((Below.refl w.heap.size w).alloc (Nat.le_refl _) (.cells #[.func lf la lb, .func sf sa sb] 103))
  have HX : Hid (Blk (w.alloc (.cells #[.func lf la lb, .func sf sa sb] 103)) w.heap.size 103 [.func lf la lb, .func sf sa sb]) := Lib.hid (Blk.new _ _ _)
  have hz : (n : Int) ≤ 12 := by omega
  have K := Lib.hid (fun W => insertion_tiny (.func lf la lb) (.func sf sa sb) n hn W)
  go_enter Tryz.func60, Tryz.ntmps60
  go_wp2_with fail
  go_loopw [1, 2, 3, 8, 9] (fun s1 s2 s3 s8 s9 wr => s1 = .int .i64 0 ∧ s2 = .int .i64 n ∧ s3 = .int .i64 limit ∧ s8 = .bool true ∧ s9 = .bool true ∧ Hid (Below w.heap.size w wr) ∧ Hid (Blk wr w.heap.size 103 [.func lf la lb, .func sf sa sb])) (fun _ _ _ _ _ _ => 0)
  case atStart => exact ⟨rfl, rfl, rfl, rfl, rfl, HB, HX⟩
  case round =>
    clear HB HX
    obtain ⟨rfl, rfl, rfl, rfl, rfl, HB, HX⟩ := hrel
    have c0 := HX.out.cell (j := 0) rfl
    have c1 := HX.out.cell (j := 1) rfl
    go_wp2_with fail
    refine (K.out _).mono ?_
    rintro e w1 ⟨rfl, hb1⟩
    have HB1 := Lib.hid (HB.out.trans (hb1.mono HB.out.size))
    clear hb1 K c0 c1
    go_wp2_with fail
    (try simp only [Exit.inBlock, Exit.then]); refine bodyPost_ret (results_none rfl _ _ _) rfl ?_
    exact ⟨rfl, HB1.out⟩
set_option maxHeartbeats 4000000 in
theorem slice_tiny {lf : Fn} {la lb : Array Value} (p : Option Addr) (n c : Nat) (hn : n ≤ 1) (w : World) :
    Calls Tryz.prog 32 #[.iface 22 (.slice p n c), .func lf la lb] w fun e w' => e = .returned (.tuple #[]) ∧ Below w.heap.size w w' := by
  have hv := valueOf_run p n c
  obtain ⟨f, hs⟩ := swapper_tiny p n c hn
  have hl := fun a W ha => len_run a p n c W ha
  have KB := Lib.hid (fun W => Tryz.bits_Len (n : Int) W (by omega) (by omega))
  have e1 : IntKind.u64.wrap (n : Int) = (n : Int) := by simp [IntKind.wrap, IntKind.bits, IntKind.signed]; omega
  have hlen : Hid (Lib.bitLen n ≤ 62) := Lib.hid (Lib.bitLen_le n 62 (by omega) (by omega))
  obtain ⟨ta, hta⟩ : ∃ ta, hand 22 = .pointer (some ta) := ⟨_, rfl⟩
  have HLW : Hid (Below w.heap.size w ((w.alloc (.cells #[.slice p n c] 22)).alloc (.cells #[.pointer (some ta), .pointer (some ⟨w.heap.size, 0, none⟩), .int .u64 151] 94))) := Lib.hid (((Below.refl w.heap.size w).alloc (Nat.le_refl _) _).alloc (by simp) _)
  rw [hta] at hv hl
  rw [Int.toNat_natCast] at KB
  generalize Lib.bitLen n = q at KB hlen
  have KP := Lib.hid (fun W => pdq_tiny (lf := lf) (la := la) (lb := lb) (sf := .func f) (sa := #[]) (sb := #[]) n q hn W)
  clear hta
  go_enter Tryz.func32, Tryz.ntmps32
  go_wp2_with fail
  refine (KB.out _).mono ?_
  rintro e w1 ⟨rfl, rfl⟩
  go_wp2_with fail
  refine (KP.out _).mono ?_
  rintro e w2 ⟨rfl, hb2⟩
  have HE := Lib.hid (HLW.out.trans (hb2.mono HLW.out.size))
  clear hb2 KP KB
  go_wp2_with fail
  go_end0
  exact ⟨rfl, HE.out⟩
section
variable {α : Type} [Inhabited α] {lf : Nat} {lb : Array Value} {g b0 n c : Nat} {p : Option Addr} {lt : α → α → Bool} {A : Array α → World → Prop}
set_option maxHeartbeats 4000000 in
theorem slice_any (S : Srt Tryz.prog lf 101 lb #[.slice p n c, hand 40] g b0 n lt A) (hO : Sort.SWO lt) (h2 : 2 ≤ n) {d : Array α} {w : World} (h : A d w) :
    Calls Tryz.prog 32 #[.iface 22 (.slice p n c), .func (.func lf) #[] lb] w fun e w' => e = .returned (.tuple #[]) ∧ ∃ d', A d' w' ∧ Bt g w w' ∧ Sort.PermIn 0 n d d' ∧ Sort.SortedIn lt 0 n d' := by
  have hn := S.small
  have hv := valueOf_run p n c
  have hs := fun W => swapper_run p n c h2 W
  have hl := fun a W ha => len_run a p n c W ha
  have KB := Lib.hid (fun W => Tryz.bits_Len (n : Int) W (by omega) (by omega))
  have e1 : IntKind.u64.wrap (n : Int) = (n : Int) := by simp [IntKind.wrap, IntKind.bits, IntKind.signed]; omega
  have hlen : Hid (Lib.bitLen n ≤ 62) := Lib.hid (Lib.bitLen_le n 62 (by omega) (by omega))
  obtain ⟨ta, hta⟩ : ∃ ta, hand 22 = .pointer (some ta) := ⟨_, rfl⟩
  have HLW : Hid (Below w.heap.size w ((w.alloc (.cells #[.slice p n c] 22)).alloc (.cells #[.pointer (some ta), .pointer (some ⟨w.heap.size, 0, none⟩), .int .u64 151] 94))) := Lib.hid (((Below.refl w.heap.size w).alloc (Nat.le_refl _) _).alloc (by simp) _)
  rw [hta] at hv hl
  rw [Int.toNat_natCast] at KB
  generalize Lib.bitLen n = q at KB hlen
  have KP0 := pdq_any S hO (n + 1) 0 n q d ((w.alloc (.cells #[.slice p n c] 22)).alloc (.cells #[.pointer (some ta), .pointer (some ⟨w.heap.size, 0, none⟩), .int .u64 151] 94)) (by omega) (S.keep h (HLW.out.mono (S.low h).1)) (by omega) (Nat.le_refl _) (by have := hlen.out; omega) (Or.inl rfl)
  rw [show ((0 : Nat) : Int) = 0 from rfl] at KP0
  have KP := Lib.hid KP0
  clear KP0 S h
  generalize hand 40 = th2 at *
  clear hta
  go_enter Tryz.func32, Tryz.ntmps32
  go_wp2_with fail
  refine (KB.out _).mono ?_
  rintro e w1 ⟨rfl, rfl⟩
  go_wp2_with fail
  refine KP.out.mono ?_
  rintro e w2 ⟨rfl, d', hA, hbt, hp, hso⟩
  have HE : Hid (∃ d', A d' w2 ∧ Bt g w w2 ∧ Sort.PermIn 0 n d d' ∧ Sort.SortedIn lt 0 n d') := Lib.hid ⟨d', hA, (Bt.of HLW.out).trans hbt, hp, hso⟩
  clear hA hbt hp hso KP KB
  go_wp2_with fail
  go_end0
  exact ⟨rfl, HE.out⟩
end
end
end Go.Proofs.YtefkolkagebffaaGreatDoor.Srt
