/- The document's answers of layer 27: is an address's group free? Two lists of subnets that read as one. -/
import Derived.Test.YtbonfmjalgfgaaaRef27
namespace Go.Proofs.Ytbonfmjalgfgaaa.Sp
set_option maxRecDepth 100000
open Go.ChangeShapes Go.WideShapes Go.ChangeAt Go.RowKit
open Pe Et Ra Bo
open Dec Words V4 V6 Ad Ci En Gr Go.Deep
set_option linter.unusedVariables false
set_option maxHeartbeats 4000000 in
theorem sameNets_any (u1 u2 : Value) (L : List Net) (w : World) (h1 : Nets w u1 L) (h2 : Nets w u2 L) (hl : L.length ≤ 1000000) :
    Calls Try.prog 6 #[u1, u2] w fun e w' => e = .returned (.bool true) ∧ Below w.heap.size w w' := by
  obtain ⟨A1, c1, rfl, hc1, _, hcell1⟩ := h1
  obtain ⟨A2, c2, rfl, hc2, _, hcell2⟩ := h2
  have HC1 := Lib.hid hcell1
  have HC2 := Lib.hid hcell2
  have z0 : ((L.length : Int) != (L.length : Int)) = false := by simp
  clear hcell1 hcell2
  go_enter Try.func6, Try.ntmps6
  go_wp2_with fail
  go_loopw [5] (fun vi wr => ∃ i : Nat, vi = .int .i64 i ∧ i ≤ L.length ∧ Hid (Lows w wr)) (fun vi _ => L.length - (intOf vi).toNat)
  case atStart => exact ⟨0, rfl, Nat.zero_le _, Lib.hid (Lows.self _)⟩
  case round =>
    obtain ⟨i, rfl, hi, HL⟩ := hrel
    by_cases hli : i < L.length
    · have hliz : (i : Int) < (L.length : Int) := by omega
      obtain ⟨b1, o1, rfl, hb1, hcc1⟩ := HC1.out (by omega)
      obtain ⟨b2, o2, rfl, hb2, hcc2⟩ := HC2.out (by omega)
      obtain ⟨x, hx⟩ : ∃ x, x = L[i]! := ⟨_, rfl⟩
      have NQ := fun W => neqNet_self x W
      have hne : Nonempty (Cls (Lows wr)) := ⟨⟨_, Lows.self _⟩⟩
      have f0 : ∀ nq : Cls (Lows wr), nq.w.cell? ⟨b1, o1 + i * 4, none⟩ = some (.bool x.a.v6) := fun nq => by rw [hx]; exact net_at (netlow HL.out nq.h) hb1 hcc1 hli (j := 0) rfl
      have f1 : ∀ nq : Cls (Lows wr), nq.w.cell? ⟨b1, o1 + i * 4 + 1, none⟩ = some (.int .u64 x.a.hi) := fun nq => by rw [hx]; exact net_at (netlow HL.out nq.h) hb1 hcc1 hli (j := 1) rfl
      have f2 : ∀ nq : Cls (Lows wr), nq.w.cell? ⟨b1, o1 + i * 4 + 2, none⟩ = some (.int .u64 x.a.lo) := fun nq => by rw [hx]; exact net_at (netlow HL.out nq.h) hb1 hcc1 hli (j := 2) rfl
      have f3 : ∀ nq : Cls (Lows wr), nq.w.cell? ⟨b1, o1 + i * 4 + 3, none⟩ = some (.int .i64 x.n) := fun nq => by rw [hx]; exact net_at (netlow HL.out nq.h) hb1 hcc1 hli (j := 3) rfl
      have g0 : ∀ nq : Cls (Lows wr), nq.w.cell? ⟨b2, o2 + i * 4, none⟩ = some (.bool x.a.v6) := fun nq => by rw [hx]; exact net_at (netlow HL.out nq.h) hb2 hcc2 hli (j := 0) rfl
      have g1 : ∀ nq : Cls (Lows wr), nq.w.cell? ⟨b2, o2 + i * 4 + 1, none⟩ = some (.int .u64 x.a.hi) := fun nq => by rw [hx]; exact net_at (netlow HL.out nq.h) hb2 hcc2 hli (j := 1) rfl
      have g2 : ∀ nq : Cls (Lows wr), nq.w.cell? ⟨b2, o2 + i * 4 + 2, none⟩ = some (.int .u64 x.a.lo) := fun nq => by rw [hx]; exact net_at (netlow HL.out nq.h) hb2 hcc2 hli (j := 2) rfl
      have g3 : ∀ nq : Cls (Lows wr), nq.w.cell? ⟨b2, o2 + i * 4 + 3, none⟩ = some (.int .i64 x.n) := fun nq => by rw [hx]; exact net_at (netlow HL.out nq.h) hb2 hcc2 hli (j := 3) rfl
      clear hx hcc1 hcc2 hb1 hb2
      go_wp2_with fail
      refine Cls.region (Lows wr) (by kernel_rfl) (by kernel_rfl) (low_drewN (Below.refl _ _) 1) ?_
      (try dsimp only [List.append])
      repeat (go_big_quiet_step (first | fail))
      refine wpQuiet_nil ?_
      intro n9
      have hk9 := n9.h
      generalize n9.w = w9 at hk9 ⊢
      clear hne n9 NQ f0 f1 f2 f3 g0 g1 g2 g3
      go_wp2_with fail
      go_roundw
      case rel => exact ⟨i + 1, by go_num, by omega, Lib.hid (low_trans HL.out hk9)⟩
      case measure => simp [intOf]; omega
    · have hliz : ¬ (i : Int) < (L.length : Int) := by omega
      go_wp2_with fail
      go_ret
      exact ⟨rfl, HL.out⟩
set_option maxHeartbeats 16000000 in
theorem rfreeN_any (vp vb : Value) (L : List Pe.Pr) (b : List Ey) (a : Adr) (w : World) (hP : Peers w vp L) (hE : Books w vb b) (hl : L.length ≤ 400000) (hbl : b.length ≤ 400000) (hok : ∀ x ∈ L, x.ok) (hyo : ∀ y ∈ b, y.ok) (ha : a.ok) :
    Calls Try.prog 10 #[vp, vb, .agg #[.bool a.v6, .int .u64 a.hi, .int .u64 a.lo]] w fun e w' => e = .returned (.bool (freeR L b a)) ∧ Below w.heap.size w w' := by
  have LL : Hid (Below w.heap.size w (w.alloc (.cells #[.bool a.v6, .int .u64 a.hi, .int .u64 a.lo] 26))) := Lib.hid ((Below.refl _ _).alloc (Nat.le_refl _) _)
  have OB := Lib.hid (Blk.new w #[.bool a.v6, .int .u64 a.hi, .int .u64 a.lo] 26)
  have KR := Lib.hid fun W => rright_any a W ha
  obtain ⟨A1, c1, rfl, hc1, _, hcell1⟩ := hP
  obtain ⟨A2, c2, rfl, hc2, _, hcell2⟩ := hE
  have HC1 := Lib.hid hcell1
  have HC2 := Lib.hid hcell2
  have HOL := Lib.hid hok
  have HOB := Lib.hid hyo
  clear hcell1 hcell2 hok hyo
  cases hr : rightA a
  · have E : Hid (freeR L b a = false) := Lib.hid (free_wrong hr)
    rw [hr] at KR
    clear hr
    go_enter Try.func10, Try.ntmps10
    go_wp2_with fail
    refine (KR.out _).mono ?_; rintro e w1 ⟨rfl, hb1⟩
    have L1 := Lib.hid (low_trans LL.out hb1)
    clear hb1
    go_wp2_with fail
    go_ret
    exact ⟨by rw [E.out]; rfl, L1.out⟩
  · have HRA := Lib.hid hr
    rw [hr] at KR
    clear hr
    go_enter Try.func10, Try.ntmps10
    go_wp2_with fail
    refine (KR.out _).mono ?_; rintro e w1 ⟨rfl, hb1⟩
    have L1 := Lib.hid (low_trans LL.out hb1)
    have OB1 := Lib.hid (OB.out.on hb1)
    clear hb1 KR OB LL
    go_wp2_with fail
    go_loopw [7] (fun vi wr => ∃ i : Nat, vi = .int .i64 i ∧ i ≤ L.length ∧ Hid (∀ g ∈ outL (L.take i), sameN g (groupN a) = false) ∧ Hid (Lows w1 wr)) (fun vi _ => L.length - (intOf vi).toNat)
    case atStart => exact ⟨0, rfl, Nat.zero_le _, Lib.hid (fun g hg => by simp [outL] at hg), Lib.hid (Lows.self _)⟩
    case round =>
      obtain ⟨i, rfl, hi, HN, HS⟩ := hrel
      have HL : Hid (Below w.heap.size w wr) := Lib.hid (low_trans L1.out HS.out)
      by_cases hlt : i < L.length
      · have hiz : (i : Int) < (L.length : Int) := by omega
        obtain ⟨bb, o, rfl, hb, hcc⟩ := HC1.out (by omega)
        obtain ⟨x, hx⟩ : ∃ x, x = L[i]! := ⟨_, rfl⟩
        have hne : Nonempty (Cls (Lows wr)) := ⟨⟨_, Lows.self _⟩⟩
        have HCF : Hid (∀ nq : Cls (Lows wr), ∀ {j : Nat} {u : Value}, (encP x)[j]? = some u → nq.w.cell? ⟨bb, o + i * 10 + j, none⟩ = some u) := Lib.hid fun nq j u hu => peer_at (low_trans HL.out nq.h) hb hcc hlt (by rw [← hx]; exact hu)
        have HBR := Lib.hid (OB1.out.on HS.out)
        have f0 : ∀ nq : Cls (Lows wr), nq.w.cell? ⟨bb, o + i * 10, none⟩ = some (.bool x.e.a.v6) := fun nq => HCF.out nq (j := 0) rfl
        have f1 : ∀ nq : Cls (Lows wr), nq.w.cell? ⟨bb, o + i * 10 + 1, none⟩ = some (.int .u64 x.e.a.hi) := fun nq => HCF.out nq (j := 1) rfl
        have f2 : ∀ nq : Cls (Lows wr), nq.w.cell? ⟨bb, o + i * 10 + 2, none⟩ = some (.int .u64 x.e.a.lo) := fun nq => HCF.out nq (j := 2) rfl
        have g0 : ∀ nq : Cls (Lows wr), nq.w.cell? ⟨w.heap.size, 0, none⟩ = some (.bool a.v6) := fun nq => Blk.cell (HBR.out.on nq.h) (j := 0) rfl
        have g1 : ∀ nq : Cls (Lows wr), nq.w.cell? ⟨w.heap.size, 1, none⟩ = some (.int .u64 a.hi) := fun nq => Blk.cell (HBR.out.on nq.h) (j := 1) rfl
        have g2 : ∀ nq : Cls (Lows wr), nq.w.cell? ⟨w.heap.size, 2, none⟩ = some (.int .u64 a.lo) := fun nq => Blk.cell (HBR.out.on nq.h) (j := 2) rfl
        have KS := Lib.hid fun W => rsameG_any x.e.a a W (by rw [hx, getElem!_pos L i hlt]; exact (HOL.out _ (List.getElem_mem _)).1.1) ha
        have HX := Lib.hid hx
        clear hx hcc hb
        by_cases hin : x.i = false
        · have f9 : ∀ nq : Cls (Lows wr), nq.w.cell? ⟨bb, o + i * 10 + 4, none⟩ = some (.bool false) := fun nq => HCF.out nq (j := 4) (by rw [← hin]; rfl)
          have HP : Hid ((outL (L.take (i + 1))) = (outL (L.take i)) ++ [groupN x.e.a]) := Lib.hid (by rw [out_out hlt (by rw [← HX.out]; exact hin), HX.out])
          have HQ : Hid ((outL (L.take i)) ++ [groupN x.e.a] <+: takL L b) := Lib.hid (by rw [← HP.out]; exact tak_out L b (i + 1))
          have HSG := Lib.hid (group_same (x := x.e.a) HRA.out)
          cases hs : sameG x.e.a a
          · rw [hs] at KS
            have HN2 : Hid (∀ g ∈ (outL (L.take (i + 1))), sameN g (groupN a) = false) := Lib.hid fun g hg => by
              rw [HP.out, List.mem_append, List.mem_singleton] at hg
              rcases hg with hg | rfl
              · exact HN.out g hg
              · rw [← HSG.out]; exact hs
            clear hin hs HX HCF HBR HP HQ HSG
            go_wp2_with fail
            refine Cls.region (Lows wr) (by kernel_rfl) (by kernel_rfl) (low_drewN (Below.refl _ _) 1) ?_
            (try dsimp only [List.append])
            repeat (go_big_quiet_step (first | fail | (with_reducible exact Cls.call ((lows_call KS).out _ (Cls.h _)))))
            refine wpQuiet_nil ?_
            intro n9
            have hk9 := n9.h
            generalize n9.w = w9 at hk9 ⊢
            clear hne n9 f9 f0 f1 f2 g0 g1 g2
            go_wp2_with fail
            go_roundw
            case rel => exact ⟨i + 1, by go_num, by omega, HN2, Lib.hid (low_trans HS.out hk9)⟩
            case measure => simp [intOf]; omega
          · rw [hs] at KS
            have E : Hid (freeR L b a = false) := Lib.hid (free_no HQ.out (by rw [← HSG.out]; exact hs))
            clear hin hs HX HCF HBR HP HQ HSG
            go_wp2_with fail
            refine Cls.region (Lows wr) (by kernel_rfl) (by kernel_rfl) (low_drewN (Below.refl _ _) 1) ?_
            (try dsimp only [List.append])
            repeat (go_big_quiet_step (first | fail | (with_reducible exact Cls.call ((lows_call KS).out _ (Cls.h _)))))
            refine wpQuiet_nil ?_
            intro n9
            have hk9 := n9.h
            generalize n9.w = w9 at hk9 ⊢
            clear hne n9 f9 f0 f1 f2 g0 g1 g2
            go_wp2_with fail
            go_ret
            exact ⟨by rw [E.out]; rfl, low_trans HL.out hk9⟩
        · have HP : Hid ((outL (L.take (i + 1))) = (outL (L.take i))) := Lib.hid (by rw [out_in hlt (by rw [← HX.out]; simpa using hin)])
          have hin2 : x.i = true := by simpa using hin
          have f9 : ∀ nq : Cls (Lows wr), nq.w.cell? ⟨bb, o + i * 10 + 4, none⟩ = some (.bool true) := fun nq => HCF.out nq (j := 4) (by rw [← hin2]; rfl)
          clear hin hin2
          have HN2 : Hid (∀ g ∈ (outL (L.take (i + 1))), sameN g (groupN a) = false) := Lib.hid (by rw [HP.out]; exact HN.out)
          clear HX HCF HBR HP
          go_wp2_with fail
          refine Cls.region (Lows wr) (by kernel_rfl) (by kernel_rfl) (low_drewN (Below.refl _ _) 1) ?_
          (try dsimp only [List.append])
          repeat (go_big_quiet_step (first | fail | (with_reducible exact Cls.call ((lows_call KS).out _ (Cls.h _)))))
          refine wpQuiet_nil ?_
          intro n9
          have hk9 := n9.h
          generalize n9.w = w9 at hk9 ⊢
          clear hne n9 f9 f0 f1 f2 g0 g1 g2
          go_wp2_with fail
          go_roundw
          case rel => exact ⟨i + 1, by go_num, by omega, HN2, Lib.hid (low_trans HS.out hk9)⟩
          case measure => simp [intOf]; omega
      · have hiz : ¬ (i : Int) < (L.length : Int) := by omega
        have HN1 : Hid (∀ g ∈ outL L ++ flyL (b.take 0), sameN g (groupN a) = false) := Lib.hid (by
          have h3 := HN.out
          rw [List.take_of_length_le (by omega)] at h3
          simpa [flyL] using h3)
        clear HN HL
        go_wp2_with fail
        go_loopw [8] (fun vi wr => ∃ i : Nat, vi = .int .i64 i ∧ i ≤ b.length ∧ Hid (∀ g ∈ outL L ++ flyL (b.take i), sameN g (groupN a) = false) ∧ Hid (Lows w1 wr)) (fun vi _ => b.length - (intOf vi).toNat)
        case atStart => exact ⟨0, rfl, Nat.zero_le _, HN1, HS⟩
        case round =>
          obtain ⟨i, rfl, hi, HN, HS⟩ := hrel
          have HL : Hid (Below w.heap.size w wr) := Lib.hid (low_trans L1.out HS.out)
          by_cases hlt : i < b.length
          · have hiz : (i : Int) < (b.length : Int) := by omega
            obtain ⟨bb, o, rfl, hb, hcc⟩ := HC2.out (by omega)
            obtain ⟨x, hx⟩ : ∃ x, x = b[i]! := ⟨_, rfl⟩
            have hne : Nonempty (Cls (Lows wr)) := ⟨⟨_, Lows.self _⟩⟩
            have HCF : Hid (∀ nq : Cls (Lows wr), ∀ {j : Nat} {u : Value}, (encY x)[j]? = some u → nq.w.cell? ⟨bb, o + i * 7 + j, none⟩ = some u) := Lib.hid fun nq j u hu => entry_at (low_trans HL.out nq.h) hb hcc hlt (by rw [← hx]; exact hu)
            have HBR := Lib.hid (OB1.out.on HS.out)
            have f0 : ∀ nq : Cls (Lows wr), nq.w.cell? ⟨bb, o + i * 7, none⟩ = some (.bool x.e.a.v6) := fun nq => HCF.out nq (j := 0) rfl
            have f1 : ∀ nq : Cls (Lows wr), nq.w.cell? ⟨bb, o + i * 7 + 1, none⟩ = some (.int .u64 x.e.a.hi) := fun nq => HCF.out nq (j := 1) rfl
            have f2 : ∀ nq : Cls (Lows wr), nq.w.cell? ⟨bb, o + i * 7 + 2, none⟩ = some (.int .u64 x.e.a.lo) := fun nq => HCF.out nq (j := 2) rfl
            have g0 : ∀ nq : Cls (Lows wr), nq.w.cell? ⟨w.heap.size, 0, none⟩ = some (.bool a.v6) := fun nq => Blk.cell (HBR.out.on nq.h) (j := 0) rfl
            have g1 : ∀ nq : Cls (Lows wr), nq.w.cell? ⟨w.heap.size, 1, none⟩ = some (.int .u64 a.hi) := fun nq => Blk.cell (HBR.out.on nq.h) (j := 1) rfl
            have g2 : ∀ nq : Cls (Lows wr), nq.w.cell? ⟨w.heap.size, 2, none⟩ = some (.int .u64 a.lo) := fun nq => Blk.cell (HBR.out.on nq.h) (j := 2) rfl
            have KS := Lib.hid fun W => rsameG_any x.e.a a W (by rw [hx, getElem!_pos b i hlt]; exact (HOB.out _ (List.getElem_mem _)).he.1) ha
            have HX := Lib.hid hx
            clear hx hcc hb
            by_cases hin : x.st = 2
            · have f9 : ∀ nq : Cls (Lows wr), nq.w.cell? ⟨bb, o + i * 7 + 4, none⟩ = some (.int .i64 2) := fun nq => HCF.out nq (j := 4) (by rw [← hin]; rfl)
              have HP : Hid ((outL L ++ flyL (b.take (i + 1))) = (outL L ++ flyL (b.take i)) ++ [groupN x.e.a]) := Lib.hid (by rw [fly_yes hlt (by rw [← HX.out]; exact hin), HX.out, List.append_assoc])
              have HQ : Hid ((outL L ++ flyL (b.take i)) ++ [groupN x.e.a] <+: takL L b) := Lib.hid (by rw [← HP.out]; exact tak_fly L b (i + 1))
              have HSG := Lib.hid (group_same (x := x.e.a) HRA.out)
              cases hs : sameG x.e.a a
              · rw [hs] at KS
                have HN2 : Hid (∀ g ∈ (outL L ++ flyL (b.take (i + 1))), sameN g (groupN a) = false) := Lib.hid fun g hg => by
                  rw [HP.out, List.mem_append, List.mem_singleton] at hg
                  rcases hg with hg | rfl
                  · exact HN.out g hg
                  · rw [← HSG.out]; exact hs
                clear hin hs HX HCF HBR HP HQ HSG
                go_wp2_with fail
                refine Cls.region (Lows wr) (by kernel_rfl) (by kernel_rfl) (low_drewN (Below.refl _ _) 1) ?_
                (try dsimp only [List.append])
                repeat (go_big_quiet_step (first | fail | (with_reducible exact Cls.call ((lows_call KS).out _ (Cls.h _)))))
                refine wpQuiet_nil ?_
                intro n9
                have hk9 := n9.h
                generalize n9.w = w9 at hk9 ⊢
                clear hne n9 f9 f0 f1 f2 g0 g1 g2
                go_wp2_with fail
                go_roundw
                case rel => exact ⟨i + 1, by go_num, by omega, HN2, Lib.hid (low_trans HS.out hk9)⟩
                case measure => simp [intOf]; omega
              · rw [hs] at KS
                have E : Hid (freeR L b a = false) := Lib.hid (free_no HQ.out (by rw [← HSG.out]; exact hs))
                clear hin hs HX HCF HBR HP HQ HSG
                go_wp2_with fail
                refine Cls.region (Lows wr) (by kernel_rfl) (by kernel_rfl) (low_drewN (Below.refl _ _) 1) ?_
                (try dsimp only [List.append])
                repeat (go_big_quiet_step (first | fail | (with_reducible exact Cls.call ((lows_call KS).out _ (Cls.h _)))))
                refine wpQuiet_nil ?_
                intro n9
                have hk9 := n9.h
                generalize n9.w = w9 at hk9 ⊢
                clear hne n9 f9 f0 f1 f2 g0 g1 g2
                go_wp2_with fail
                go_ret
                exact ⟨by rw [E.out]; rfl, low_trans HL.out hk9⟩
            · have HP : Hid ((outL L ++ flyL (b.take (i + 1))) = (outL L ++ flyL (b.take i))) := Lib.hid (by rw [fly_no hlt (by rw [← HX.out]; exact hin)])
              have hin2 : (x.st == 2) = false := by simpa using hin
              have f9 : ∀ nq : Cls (Lows wr), nq.w.cell? ⟨bb, o + i * 7 + 4, none⟩ = some (.int .i64 x.st) := fun nq => HCF.out nq (j := 4) rfl
              have HN2 : Hid (∀ g ∈ (outL L ++ flyL (b.take (i + 1))), sameN g (groupN a) = false) := Lib.hid (by rw [HP.out]; exact HN.out)
              clear HX HCF HBR HP
              go_wp2_with fail
              refine Cls.region (Lows wr) (by kernel_rfl) (by kernel_rfl) (low_drewN (Below.refl _ _) 1) ?_
              (try dsimp only [List.append])
              repeat (go_big_quiet_step (first | fail | (with_reducible exact Cls.call ((lows_call KS).out _ (Cls.h _)))))
              refine wpQuiet_nil ?_
              intro n9
              have hk9 := n9.h
              generalize n9.w = w9 at hk9 ⊢
              clear hne n9 f9 f0 f1 f2 g0 g1 g2
              go_wp2_with fail
              go_roundw
              case rel => exact ⟨i + 1, by go_num, by omega, HN2, Lib.hid (low_trans HS.out hk9)⟩
              case measure => simp [intOf]; omega
          · have hiz : ¬ (i : Int) < (b.length : Int) := by omega
            have E : Hid (freeR L b a = true) := Lib.hid (free_yes HRA.out (by
              have h3 := HN.out
              rw [List.take_of_length_le (by omega)] at h3
              exact h3))
            go_wp2_with fail
            go_ret
            exact ⟨by rw [E.out]; rfl, HL.out⟩
end Go.Proofs.Ytbonfmjalgfgaaa.Sp
