/- Of the statements of layer 22 (siege): a site that comes in; are ends unlike; the example. -/
import Derived.Test.YthmcggbmeabpmaaRef22Safe
import Derived.Test.YthmcggbmeabpmaaLaw19
import Derived.Deep.RegionHeld3
namespace Go.Proofs.Ythmcggbmeabpmaa
set_option maxRecDepth 100000
open Go.ChangeShapes Go.WideShapes Go.ChangeAt Go.RowKit
open Dec Words V4 V6 Ad Ci En Sat Ha Pe Stb Gr Mi Ra Sh Cw Ev Si Go.Deep
set_option linter.unusedVariables false
set_option linter.unusedSimpArgs false
/-- A site that came in. -/
theorem open_site {H : Type} {enc : TypeId × Value → H} {W : World} {v : Value} {d : DataW H} {ps : List MemPlace} {r : Reach} {b0 : Nat}
    (hval : Value.okWide Try.prog W r b0 27 v) (h : DataW.Trod enc Try.prog W 0 (fun _ => true) true 27 v d ps) :
    ∃ S : Sit, S.ok ∧ v = .agg #[.int .i64 S.m, .int .i64 S.q.g, .int .i64 S.q.p, .int .i64 S.q.w, .int .i64 S.q.t, .int .u64 (S.s : Nat)] := by
  obtain ⟨cs, rfl, hsz⟩ := okWide_struct Try.underlying27 hval
  have hC : Try.prog.cellsOf 27 = 6 := by kernel_rfl
  obtain ⟨fuel, hf⟩ := h
  obtain ⟨l⟩ := cs
  have hl : l.length = 6 := by simpa [hC] using hsz
  match l, hl with
  | [c0, c1, c2, c3, c4, c5], _ =>
  obtain ⟨xs, m, _, _, _, hx, he⟩ := DataW.trod_struct Try.underlying27 hf
  have hx3 : xs.length = 3 := hx
  have k1 : Try.prog.cellsOf 3 = 1 := by kernel_rfl
  have k4 : Try.prog.cellsOf 24 = 4 := by kernel_rfl
  have ku : Try.prog.cellsOf 25 = 1 := by kernel_rfl
  obtain ⟨y0, e0⟩ : ∃ y, xs[0]? = some y := ⟨_, List.getElem?_eq_getElem (by omega)⟩
  obtain ⟨y1, e1⟩ : ∃ y, xs[1]? = some y := ⟨_, List.getElem?_eq_getElem (by omega)⟩
  obtain ⟨y2, e2⟩ : ∃ y, xs[2]? = some y := ⟨_, List.getElem?_eq_getElem (by omega)⟩
  have h0 : DataW.trod enc Try.prog W 0 (fun _ => true) true m 3 (([c0, c1, c2, c3, c4, c5].drop 0).take (Try.prog.cellsOf 3)) = xs[0]? := he 0 _ rfl
  rw [k1, e0] at h0
  have g0 : DataW.trod enc Try.prog W 0 (fun _ => true) true m 3 [c0] = some y0 := h0
  have h1 : DataW.trod enc Try.prog W 0 (fun _ => true) true m 24 (([c0, c1, c2, c3, c4, c5].drop 1).take (Try.prog.cellsOf 24)) = xs[1]? := he 1 _ rfl
  rw [k4, e1] at h1
  have g1 : DataW.trod enc Try.prog W 0 (fun _ => true) true m 24 [c1, c2, c3, c4] = some y1 := h1
  have h2 : DataW.trod enc Try.prog W 0 (fun _ => true) true m 25 (([c0, c1, c2, c3, c4, c5].drop 5).take (Try.prog.cellsOf 25)) = xs[2]? := he 2 _ rfl
  rw [ku, e2] at h2
  have g2 : DataW.trod enc Try.prog W 0 (fun _ => true) true m 25 [c5] = some y2 := h2
  obtain ⟨x0, j0, _, w0⟩ := DataW.trod_int Try.underlying3 g0
  obtain ⟨x5, j5, _, w5⟩ := DataW.trod_int Try.underlying25 g2
  obtain ⟨zs, n, _, _, _, hz, hq⟩ := DataW.trod_struct Try.underlying24 g1
  have hz4 : zs.length = 4 := hz
  obtain ⟨z0, i0⟩ : ∃ y, zs[0]? = some y := ⟨_, List.getElem?_eq_getElem (by omega)⟩
  have p0 : DataW.trod enc Try.prog W 0 (fun _ => true) true n 3 (([c1, c2, c3, c4].drop 0).take (Try.prog.cellsOf 3)) = zs[0]? := hq 0 _ rfl
  rw [k1, i0] at p0
  have q0 : DataW.trod enc Try.prog W 0 (fun _ => true) true n 3 [c1] = some z0 := p0
  obtain ⟨x1, j1, _, w1⟩ := DataW.trod_int Try.underlying3 q0
  obtain ⟨z1, i1⟩ : ∃ y, zs[1]? = some y := ⟨_, List.getElem?_eq_getElem (by omega)⟩
  have p1 : DataW.trod enc Try.prog W 0 (fun _ => true) true n 3 (([c1, c2, c3, c4].drop 1).take (Try.prog.cellsOf 3)) = zs[1]? := hq 1 _ rfl
  rw [k1, i1] at p1
  have q1 : DataW.trod enc Try.prog W 0 (fun _ => true) true n 3 [c2] = some z1 := p1
  obtain ⟨x2, j2, _, w2⟩ := DataW.trod_int Try.underlying3 q1
  obtain ⟨z2, i2⟩ : ∃ y, zs[2]? = some y := ⟨_, List.getElem?_eq_getElem (by omega)⟩
  have p2 : DataW.trod enc Try.prog W 0 (fun _ => true) true n 3 (([c1, c2, c3, c4].drop 2).take (Try.prog.cellsOf 3)) = zs[2]? := hq 2 _ rfl
  rw [k1, i2] at p2
  have q2 : DataW.trod enc Try.prog W 0 (fun _ => true) true n 3 [c3] = some z2 := p2
  obtain ⟨x3, j3, _, w3⟩ := DataW.trod_int Try.underlying3 q2
  obtain ⟨z3, i3⟩ : ∃ y, zs[3]? = some y := ⟨_, List.getElem?_eq_getElem (by omega)⟩
  have p3 : DataW.trod enc Try.prog W 0 (fun _ => true) true n 3 (([c1, c2, c3, c4].drop 3).take (Try.prog.cellsOf 3)) = zs[3]? := hq 3 _ rfl
  rw [k1, i3] at p3
  have q3 : DataW.trod enc Try.prog W 0 (fun _ => true) true n 3 [c4] = some z3 := p3
  obtain ⟨x4, j4, _, w4⟩ := DataW.trod_int Try.underlying3 q3
  obtain ⟨s, rfl, hs⟩ := nat_of_u64 w5
  simp only [List.cons.injEq, and_true] at j0 j1 j2 j3 j4 j5
  subst j0 j1 j2 j3 j4 j5
  exact ⟨⟨x0, ⟨x1, x2, x3, x4⟩, s⟩, ⟨wf64 w0, ⟨wf64 w1, wf64 w2, wf64 w3, wf64 w4⟩, hs⟩, rfl⟩
theorem at22_any (a g : Int) (w : World) : Calls Try.prog 16 #[.int .i64 a, .int .i64 g] w fun e w' => e = .returned (.agg #[.bool false, .int .u64 0, .int .u64 1, .int .i64 a, .bool true, .int .i64 a, .int .i64 0, .int .i64 0, .int .i64 g, .int .i64 0]) ∧ Below w.heap.size w w' := by
  have L : Below w.heap.size w (w.alloc (.cells #[.bool false, .int .u64 0, .int .u64 1, .int .i64 a, .bool true, .int .i64 a, .int .i64 0, .int .i64 0, .int .i64 g, .int .i64 0] 41)) := (Below.refl _ _).alloc (Nat.le_refl _) _
  go_enter Try.func16, Try.ntmps16
  go_wp2_with fail
  exact bodyPost_ret (v := .agg #[.bool false, .int .u64 0, .int .u64 1, .int .i64 a, .bool true, .int .i64 a, .int .i64 0, .int .i64 0, .int .i64 g, .int .i64 0]) (by simp [results, Try.results16, go_sem]) rfl ⟨rfl, L⟩
def pA (a g : Int) : Pr := ⟨⟨⟨false, 0, 1⟩, a⟩, true, a, ⟨0, 0⟩, g, 0⟩
abbrev s22 : Sit := ⟨1, ⟨0, 1, 0, 0⟩, 7⟩
theorem pA_ok {a g : Int} (ha : -9223372036854775808 ≤ a ∧ a ≤ 9223372036854775807) (hg : -9223372036854775808 ≤ g ∧ g ≤ 9223372036854775807) : (pA a g).ok := ⟨⟨⟨by show (0 : Nat) < 18446744073709551616; decide, by show (1 : Nat) < 18446744073709551616; decide⟩, ha⟩, ha, ⟨by show -9223372036854775808 ≤ (0 : Int) ∧ (0 : Int) ≤ 9223372036854775807; decide, by show -9223372036854775808 ≤ (0 : Int) ∧ (0 : Int) ≤ 9223372036854775807; decide⟩, hg, by show -9223372036854775808 ≤ (0 : Int) ∧ (0 : Int) ≤ 9223372036854775807; decide⟩
theorem one_ok {a g : Int} (ha : -9223372036854775808 ≤ a ∧ a ≤ 9223372036854775807) (hg : -9223372036854775808 ≤ g ∧ g ≤ 9223372036854775807) : ∀ x ∈ [pA a g], x.ok := fun x hx => by
  obtain rfl : x = pA a g := by simpa using hx
  exact pA_ok ha hg
theorem cand_full : (candR [pA 1 3] s22.q 7).length = 0 := by
  have h := cand_alone (y := pA 1 3) (q := ⟨0, 1, 0, 0⟩) (s := 7) [] (by simp) rfl (b := 2) ⟨by decide, by decide⟩
  have hr : Sh.inR (pA 1 3 :: cameR []) 0 ⟨0, 1, 0, 0⟩ 7 ((2 : Nat) : Int) = true := by
    unfold Sh.inR
    rw [show ((0 : Nat) : Int) = 0 from rfl, rank_head]
    decide
  rw [hr] at h
  have h : testB (candR [pA 1 3] s22.q 7) (pA 1 3) = true := h
  by_cases h0 : (candR [pA 1 3] s22.q 7).length = 0
  · exact h0
  · exfalso
    have hm : (candR [pA 1 3] s22.q 7)[0]! ∈ candR [pA 1 3] s22.q 7 := by
      rw [getElem!_pos _ 0 (by omega)]; exact List.getElem_mem _
    obtain ⟨i, hi, _, e⟩ := those_mem.1 hm
    have hi : i < 1 := hi
    obtain rfl : i = 0 := by omega
    have e : pA 1 3 = (candR [pA 1 3] s22.q 7)[0]! := e
    unfold testB at h
    rw [decide_eq_false h0, ← e, (sameP_iff _ _).2 rfl] at h
    cases h
theorem arr22_first : arrL [] (pA 1 3) s22 = [pA 1 3] ∧ arrE [] (pA 1 3) s22 = zeroE ∧ arrC [] (pA 1 3) s22 = 0 := ⟨rfl, rfl, rfl⟩
theorem arr22_next (p : Pr) (h : ¬ fstN [pA 1 3] p.e < 1) : arrL [pA 1 3] p s22 = [pA 1 3] ∧ arrE [pA 1 3] p s22 = zeroE ∧ arrC [pA 1 3] p s22 = 5 := by
  have h1 : ¬ fstN [pA 1 3] p.e < [pA 1 3].length := h
  have h2 : ¬ (((cameR [pA 1 3]).length : Nat) : Int) < s22.m := by decide
  refine ⟨?_, ?_, ?_⟩
  · unfold arrL; rw [if_neg h1, if_neg h2, if_pos cand_full]
  · unfold arrE; rw [if_neg h1, if_neg h2]; unfold exitR; rw [if_pos cand_full]
  · unfold arrC; rw [if_neg h1, if_neg h2, if_pos cand_full]
theorem run22 : runR s22 [pA 1 3] [pA 3 9, pA 4 8] = [pA 1 3] := by
  show arrL (arrL [pA 1 3] (pA 3 9) s22) (pA 4 8) s22 = _
  rw [(arr22_next (pA 3 9) (by decide)).1, (arr22_next (pA 4 8) (by decide)).1]
theorem safe22 : safeR [pA 1 3] [pA 3 9] 0 s22.q 7 = true := by
  unfold safeR
  rw [Bool.and_eq_true]
  refine ⟨rfl, Si.ins_yes (b := 2) (by omega) (by omega) ?_⟩
  unfold Sh.inR allR
  rw [show ((0 : Nat) : Int) = 0 from rfl, show [pA 1 3][0]! = pA 1 3 from rfl, rank_head, show cameR [pA 1 3] = [pA 1 3] from rfl]
  have h : [pA 1 3, pA 3 9].countP (ahF (pA 1 3) ((2 : Nat) : Int) 7) = 0 := by
    rw [List.countP_eq_zero]
    intro x hx
    simp only [List.mem_cons, List.not_mem_nil, or_false] at hx
    rcases hx with rfl | rfl
    · rw [ahF_self]; simp
    · rw [show ahF (pA 1 3) ((2 : Nat) : Int) 7 (pA 3 9) = false from slower_no 7 (by decide) (by decide)]; simp
  rw [show [pA 1 3] ++ [pA 3 9] = [pA 1 3, pA 3 9] from rfl, h]
  decide
theorem own22_set {B g j : Nat} {W : World} {v u : Value} {l : List Pr} (h : OwnP B W v l) (k : g < B) : OwnP B (W.setCell ⟨g, j, none⟩ u) v l := own_but h (Bt.setCell W g j u) k
theorem keep9 {B : Nat} {w9 : World} {v : Value} {l : List Pr} (hO : OwnP B w9 v l) : (∀ o, Peers (w9.alloc o) v l) ∧ (∀ b u0 u1 u2 u3, b < B → Peers ((((w9.setCell ⟨b, 0, none⟩ u0).setCell ⟨b, 1, none⟩ u1).setCell ⟨b, 2, none⟩ u2).setCell ⟨b, 3, none⟩ u3) v l) :=
  ⟨fun o => ownP_peers (Si.own_alloc hO o), fun b u0 u1 u2 u3 h => ownP_peers (own22_set (own22_set (own22_set (own22_set hO h) h) h) h)⟩
set_option maxHeartbeats 8000000 in
theorem unlike22_any (v : Value) (l : List Pr) (w : World) (h : Peers w v l) (hl : l.length ≤ 1000000) :
    Calls Try.prog 13 #[v] w fun e w' => e = .returned (.bool (unlikeB l)) ∧ Below w.heap.size w w' := by
  have HT : Hid ((∀ p q, p < q → q < l.length → (l[p]!).e ≠ (l[q]!).e) → unlikeB l = true) := Lib.hid fun h => unlikeB_yes (unlike_yes h)
  have HF : Hid (∀ p q, p < q → q < l.length → (l[p]!).e = (l[q]!).e → unlikeB l = false) := Lib.hid fun p q hpq hq e => unlikeB_no fun hu => by have := unlike_at hu (by omega : p < l.length) hq e; omega
  generalize unlikeB l = U at *
  obtain ⟨A, c, rfl, hc, _, hcell⟩ := h
  have HC := Lib.hid hcell
  clear hcell hc
  go_enter Try.func13, Try.ntmps13
  go_wp2_with fail
  go_loopw [3] (fun vi wr => ∃ i : Nat, vi = .int .i64 i ∧ i ≤ l.length ∧ Hid (∀ p q, p < q → q < i → (l[p]!).e ≠ (l[q]!).e) ∧ Hid (Lows w wr)) (fun vi _ => l.length - (intOf vi).toNat)
  case atStart => exact ⟨0, rfl, Nat.zero_le _, Lib.hid (fun p q _ h => by omega), Lib.hid (Lows.self _)⟩
  case round =>
    obtain ⟨i, rfl, hi, HD, HL⟩ := hrel
    by_cases hli : i < l.length
    · have hliz : (i : Int) < (l.length : Int) := by omega
      obtain ⟨W, hW⟩ : ∃ W, W = wr := ⟨_, rfl⟩
      subst hW
      go_wp2_with fail
      go_loopw [4] (fun vk wr => ∃ k : Nat, vk = .int .i64 k ∧ k ≤ i ∧ Hid (∀ p, p < k → (l[p]!).e ≠ (l[i]!).e) ∧ Hid (Lows w wr)) (fun vk _ => i - (intOf vk).toNat)
      case atStart => exact ⟨0, rfl, Nat.zero_le _, Lib.hid (fun p h => by omega), HL⟩
      case round =>
        obtain ⟨k, rfl, hk, HE, HL2⟩ := hrel
        by_cases hki : k < i
        · have hkiz : (k : Int) < (i : Int) := by omega
          have hlk : k < l.length := by omega
          have hlkz : (k : Int) < (l.length : Int) := by omega
          obtain ⟨bb, o, rfl, hb9, hcc⟩ := HC.out (by omega)
          obtain ⟨x, hx⟩ : ∃ x, x = l[i]! := ⟨_, rfl⟩
          obtain ⟨z, hz⟩ : ∃ x, x = l[k]! := ⟨_, rfl⟩
          have hne : Nonempty (Cls (Lows wr)) := ⟨⟨_, Lows.self _⟩⟩
          have f0 : ∀ nq : Cls (Lows wr), nq.w.cell? ⟨bb, o + i * 10, none⟩ = some (.bool x.e.a.v6) := fun nq => by rw [hx]; exact peer_at (low_trans'' HL2.out nq.h) hb9 hcc hli (j := 0) rfl
          have f1 : ∀ nq : Cls (Lows wr), nq.w.cell? ⟨bb, o + i * 10 + 1, none⟩ = some (.int .u64 x.e.a.hi) := fun nq => by rw [hx]; exact peer_at (low_trans'' HL2.out nq.h) hb9 hcc hli (j := 1) rfl
          have f2 : ∀ nq : Cls (Lows wr), nq.w.cell? ⟨bb, o + i * 10 + 2, none⟩ = some (.int .u64 x.e.a.lo) := fun nq => by rw [hx]; exact peer_at (low_trans'' HL2.out nq.h) hb9 hcc hli (j := 2) rfl
          have f3 : ∀ nq : Cls (Lows wr), nq.w.cell? ⟨bb, o + i * 10 + 3, none⟩ = some (.int .i64 x.e.n) := fun nq => by rw [hx]; exact peer_at (low_trans'' HL2.out nq.h) hb9 hcc hli (j := 3) rfl
          have g0 : ∀ nq : Cls (Lows wr), nq.w.cell? ⟨bb, o + k * 10, none⟩ = some (.bool z.e.a.v6) := fun nq => by rw [hz]; exact peer_at (low_trans'' HL2.out nq.h) hb9 hcc hlk (j := 0) rfl
          have g1 : ∀ nq : Cls (Lows wr), nq.w.cell? ⟨bb, o + k * 10 + 1, none⟩ = some (.int .u64 z.e.a.hi) := fun nq => by rw [hz]; exact peer_at (low_trans'' HL2.out nq.h) hb9 hcc hlk (j := 1) rfl
          have g2 : ∀ nq : Cls (Lows wr), nq.w.cell? ⟨bb, o + k * 10 + 2, none⟩ = some (.int .u64 z.e.a.lo) := fun nq => by rw [hz]; exact peer_at (low_trans'' HL2.out nq.h) hb9 hcc hlk (j := 2) rfl
          have g3 : ∀ nq : Cls (Lows wr), nq.w.cell? ⟨bb, o + k * 10 + 3, none⟩ = some (.int .i64 z.e.n) := fun nq => by rw [hz]; exact peer_at (low_trans'' HL2.out nq.h) hb9 hcc hlk (j := 3) rfl
          have Hx := Lib.hid hx
          have Hz := Lib.hid hz
          have EQ := fun W => eqEnd x.e z.e W
          clear hcc hb9 hx hz
          cases hs : sameE x.e z.e with
          | true =>
            have HU : Hid (U = false) := Lib.hid (HF.out k i hki hli (by rw [← Hz.out, ← Hx.out]; exact ((sameE_iff x.e z.e).1 hs).symm))
            rw [hs] at EQ
            clear hs
            go_wp2_with fail
            refine Cls.region (Lows wr) (by kernel_rfl) (by kernel_rfl) (low_drewN (Below.refl _ _) 1) ?_
            (try dsimp only [List.append])
            repeat (go_big_quiet_step (first | fail))
            refine wpQuiet_nil ?_
            intro n9
            have hk9 := n9.h
            generalize n9.w = w9 at hk9 ⊢
            clear hne n9 EQ f0 f1 f2 f3 g0 g1 g2 g3
            go_wp2_with fail
            go_ret
            exact ⟨ret_b HU.out.symm, low_trans HL2.out hk9⟩
          | false =>
            have HE2 : Hid (∀ p, p < k + 1 → (l[p]!).e ≠ (l[i]!).e) := Lib.hid (fun p hp e => by
              by_cases c : p = k
              · subst c
                rw [← Hz.out, ← Hx.out] at e
                rw [(sameE_iff x.e z.e).2 e.symm] at hs
                cases hs
              · exact HE.out p (by omega) e)
            rw [hs] at EQ
            clear hs
            go_wp2_with fail
            refine Cls.region (Lows wr) (by kernel_rfl) (by kernel_rfl) (low_drewN (Below.refl _ _) 1) ?_
            (try dsimp only [List.append])
            repeat (go_big_quiet_step (first | fail))
            refine wpQuiet_nil ?_
            intro n9
            have hk9 := n9.h
            generalize n9.w = w9 at hk9 ⊢
            clear hne n9 EQ f0 f1 f2 f3 g0 g1 g2 g3
            go_wp2_with fail
            go_roundw
            case rel => exact ⟨k + 1, by go_num, by omega, HE2, Lib.hid (low_trans HL2.out hk9)⟩
            case measure => simp [intOf]; omega
        · have hkiz : ¬ (k : Int) < (i : Int) := by omega
          have HD2 : Hid (∀ p q, p < q → q < i + 1 → (l[p]!).e ≠ (l[q]!).e) := Lib.hid (fun p q hp hq => by
            by_cases c : q = i
            · subst c; exact HE.out p (by omega)
            · exact HD.out p q hp (by omega))
          go_wp2_with fail
          go_roundw
          case rel => exact ⟨i + 1, by go_num, by omega, HD2, HL2⟩
          case measure => simp [intOf]; omega
    · have hliz : ¬ (i : Int) < (l.length : Int) := by omega
      have HU : Hid (U = true) := Lib.hid (HT.out fun p q hp hq => HD.out p q hp (by omega))
      go_wp2_with fail
      go_ret
      exact ⟨ret_b HU.out.symm, HL.out⟩
abbrev S22 (w W1 w' : World) : Prop := w'.cell? ⟨w.heap.size, 0, none⟩ = some (.int .i64 1) ∧ w'.cell? ⟨w.heap.size, 1, none⟩ = some (.int .i64 0) ∧ w'.cell? ⟨w.heap.size, 2, none⟩ = some (.int .i64 1) ∧ w'.cell? ⟨w.heap.size, 3, none⟩ = some (.int .i64 0) ∧ w'.cell? ⟨w.heap.size, 4, none⟩ = some (.int .i64 0) ∧ w'.cell? ⟨w.heap.size, 5, none⟩ = some (.int .u64 7) ∧ Lows W1 w'
abbrev S23 (w W1 : World) (b o : Nat) (w' : World) : Prop := w'.cell? ⟨w.heap.size, 0, none⟩ = some (.int .i64 1) ∧ w'.cell? ⟨w.heap.size, 1, none⟩ = some (.int .i64 0) ∧ w'.cell? ⟨w.heap.size, 2, none⟩ = some (.int .i64 1) ∧ w'.cell? ⟨w.heap.size, 3, none⟩ = some (.int .i64 0) ∧ w'.cell? ⟨w.heap.size, 4, none⟩ = some (.int .i64 0) ∧ w'.cell? ⟨w.heap.size, 5, none⟩ = some (.int .u64 7) ∧ Lows W1 w' ∧ w'.cell? ⟨b, o + 3, none⟩ = some (.int .i64 1)
set_option maxHeartbeats 16000000 in
theorem awake22_any (w : World) : Calls Try.prog 6 #[] w fun e w' => e = .returned (.bool true) ∧ Below w.heap.size w w' := by
  obtain ⟨W1, hW1⟩ : ∃ W1, W1 = w.alloc (.cells #[.int .i64 1, .int .i64 0, .int .i64 1, .int .i64 0, .int .i64 0, .int .u64 7] 27) := ⟨_, rfl⟩
  have Lx : Hid (Below w.heap.size w W1) := Lib.hid (by rw [hW1]; exact Lows.alloc (Lows.self _) _)
  have OSx : Hid (Blk W1 w.heap.size 27 [.int .i64 1, .int .i64 0, .int .i64 1, .int .i64 0, .int .i64 0, .int .u64 7]) := Lib.hid (by rw [hW1]; exact Blk.new w #[.int .i64 1, .int .i64 0, .int .i64 1, .int .i64 0, .int .i64 0, .int .u64 7] 27)
  go_enter Try.func6, Try.ntmps6
  go_upto_region 2 with fail
  rw [← hW1]
  clear hW1
  go_cut [2, 3, 4] from 11 to 57 (fun s2 _ s4 wx => ∃ (A : Option Addr) (k : Nat), s2 = .slice A 1 k ∧ s4 = .int .i64 0 ∧ Hid (Peers wx (.slice A 1 k) [pA 1 3]) ∧ Hid (Lows W1 wx))
  case first =>
    have IN : ∀ w', Lows W1 w' → S22 w W1 w' := fun w' h => ⟨(OSx.out.on h).cell (j := 0) rfl, (OSx.out.on h).cell (j := 1) rfl, (OSx.out.on h).cell (j := 2) rfl, (OSx.out.on h).cell (j := 3) rfl, (OSx.out.on h).cell (j := 4) rfl, (OSx.out.on h).cell (j := 5) rfl, h⟩
    have JD : Hid (∀ W, S22 w W1 W → S22 w W1 W.drew) := Lib.hid fun W h => IN _ (low_drewN h.2.2.2.2.2.2 1)
    have JA : Hid (∀ W o, S22 w W1 W → S22 w W1 (W.alloc o)) := Lib.hid fun W o h => IN _ (Lows.alloc h.2.2.2.2.2.2 _)
    have JS : Hid (∀ W b j u, W1.heap.size ≤ b → S22 w W1 W → S22 w W1 (W.setCell ⟨b, j, none⟩ u)) := Lib.hid fun W b j u hb h => IN _ (Below.setCell h.2.2.2.2.2.2 hb _)
    have hk0 : S22 w W1 W1 := IN _ (Lows.self _)
    have K13 : Hid (∀ W, S22 w W1 W → Calls Try.prog 16 #[.int .i64 1, .int .i64 3] W fun e w' => e = .returned (.agg #[.bool false, .int .u64 0, .int .u64 1, .int .i64 1, .bool true, .int .i64 1, .int .i64 0, .int .i64 0, .int .i64 3, .int .i64 0]) ∧ Below W.heap.size W w' ∧ S22 w W1 w') := Lib.hid fun W h => (at22_any 1 3 W).mono fun e w' ⟨he, hb⟩ => ⟨he, hb, IN _ (low_trans h.2.2.2.2.2.2 hb)⟩
    have KR : Hid (∀ W, S22 w W1 W → Calls Try.prog 9 #[.slice none 0 0, .agg #[.bool false, .int .u64 0, .int .u64 1, .int .i64 1, .bool true, .int .i64 1, .int .i64 0, .int .i64 0, .int .i64 3, .int .i64 0], .agg #[.int .i64 1, .int .i64 0, .int .i64 1, .int .i64 0, .int .i64 0, .int .u64 7]] W fun e w' => ∃ A k, e = .returned (.tuple #[.slice A 1 k, .agg #[.bool false, .int .u64 0, .int .u64 0, .int .i64 0], .int .i64 0]) ∧ OwnP W.heap.size w' (.slice A 1 k) [pA 1 3] ∧ Below W.heap.size W w' ∧ S22 w W1 w') := Lib.hid fun W h => by
      have k := arrive_any (.slice none 0 0) [] (pA 1 3) s22 W (Recs.nil 10 encP W) (fun x hx => by cases hx) (by decide) (by decide)
      rw [arr22_first.1, arr22_first.2.1, arr22_first.2.2] at k
      refine k.mono fun e w' ⟨u, he, ho, hb⟩ => ?_
      obtain ⟨A, c, rfl, _, _, _⟩ := ownP_peers ho
      exact ⟨A, c, he, ho, hb, IN _ (low_trans h.2.2.2.2.2.2 hb)⟩
    clear IN Lx OSx
    obtain ⟨k0, k1, k2, k3, k4, k5, k6⟩ := id hk0
    go_region_held3 (fun w' => w'.cell? ⟨w.heap.size, 0, none⟩ = some (.int .i64 1) ∧ w'.cell? ⟨w.heap.size, 1, none⟩ = some (.int .i64 0) ∧ w'.cell? ⟨w.heap.size, 2, none⟩ = some (.int .i64 1) ∧ w'.cell? ⟨w.heap.size, 3, none⟩ = some (.int .i64 0) ∧ w'.cell? ⟨w.heap.size, 4, none⟩ = some (.int .i64 0) ∧ w'.cell? ⟨w.heap.size, 5, none⟩ = some (.int .u64 7) ∧ Lows W1 w')
      (first | (with_reducible assumption) | (repeat (first | (with_reducible assumption) | (with_reducible refine JD.out _ ?_) | (with_reducible refine JA.out _ _ ?_) | (with_reducible refine JS.out _ _ _ _ (by first | omega | (simp; omega)) ?_))))
      (first
        | (go_at_call 16; (with_reducible refine (K13.out _ (by with_reducible assumption)).mono ?_); rintro e v0 ⟨rfl, hb0, hkw0⟩; obtain ⟨hc0, hf0⟩ := old hb0; have hz0 := hb0.size; (try simp [go_sem, Nat.add_one_le_iff] at hz0))
        | (go_at_call 9; (with_reducible refine (KR.out _ (by with_reducible assumption)).mono ?_); rintro e w9 ⟨A2, k2, rfl, hO, hb9, hkw⟩; have HK9 := Lib.hid (keep9 hO); clear hO; obtain ⟨hc9, hf9⟩ := old hb9; have hz9 := hb9.size; (try simp [go_sem, Nat.add_one_le_iff] at hz9)))
    all_goals
      have hkf := ‹S22 w W1 _›
      go_wp2_with fail
      go_meet
      case rel => exact ⟨_, _, rfl, rfl, Lib.hid (by first | (with_reducible exact HK9.out.1 _) | (with_reducible exact HK9.out.2 _ _ _ _ _ (by first | omega | (simp; done) | (simp; omega)))), Lib.hid hkf.2.2.2.2.2.2⟩
  case rest =>
    obtain ⟨A, k, rfl, rfl, HP, HL⟩ := hcut
    obtain ⟨W2, hW2⟩ : ∃ W2, W2 = wc := ⟨_, rfl⟩
    rw [← hW2] at HP HL ⊢
    clear hW2
    have OSx := Lib.hid (OSx.out.on HL.out)
    have Lx := Lib.hid (low_trans Lx.out HL.out)
    clear HL
    go_upto_region 3 with fail
    go_cut [5, 6, 7] from 18 to 57 (fun _ _ s7 wx => s7 = .int .i64 5 ∧ Hid (Lows W2 wx))
    case first =>
      have IN : ∀ w', Lows W2 w' → S22 w W2 w' := fun w' h => ⟨(OSx.out.on h).cell (j := 0) rfl, (OSx.out.on h).cell (j := 1) rfl, (OSx.out.on h).cell (j := 2) rfl, (OSx.out.on h).cell (j := 3) rfl, (OSx.out.on h).cell (j := 4) rfl, (OSx.out.on h).cell (j := 5) rfl, h⟩
      have JD : Hid (∀ W, S22 w W2 W → S22 w W2 W.drew) := Lib.hid fun W h => IN _ (low_drewN h.2.2.2.2.2.2 1)
      have JA : Hid (∀ W o, S22 w W2 W → S22 w W2 (W.alloc o)) := Lib.hid fun W o h => IN _ (Lows.alloc h.2.2.2.2.2.2 _)
      have JS : Hid (∀ W b j u, W2.heap.size ≤ b → S22 w W2 W → S22 w W2 (W.setCell ⟨b, j, none⟩ u)) := Lib.hid fun W b j u hb h => IN _ (Below.setCell h.2.2.2.2.2.2 hb _)
      have hk0 : S22 w W2 W2 := IN _ (Lows.self _)
      have K25 : Hid (∀ W, S22 w W2 W → Calls Try.prog 16 #[.int .i64 2, .int .i64 5] W fun e w' => e = .returned (.agg #[.bool false, .int .u64 0, .int .u64 1, .int .i64 2, .bool true, .int .i64 2, .int .i64 0, .int .i64 0, .int .i64 5, .int .i64 0]) ∧ Below W.heap.size W w' ∧ S22 w W2 w') := Lib.hid fun W h => (at22_any 2 5 W).mono fun e w' ⟨he, hb⟩ => ⟨he, hb, IN _ (low_trans h.2.2.2.2.2.2 hb)⟩
      have KR : Hid (∀ W, S22 w W2 W → Calls Try.prog 9 #[.slice A 1 k, .agg #[.bool false, .int .u64 0, .int .u64 1, .int .i64 2, .bool true, .int .i64 2, .int .i64 0, .int .i64 0, .int .i64 5, .int .i64 0], .agg #[.int .i64 1, .int .i64 0, .int .i64 1, .int .i64 0, .int .i64 0, .int .u64 7]] W fun e w' => ∃ u, e = .returned (.tuple #[u, .agg #[.bool false, .int .u64 0, .int .u64 0, .int .i64 0], .int .i64 5]) ∧ Below W.heap.size W w' ∧ S22 w W2 w') := Lib.hid fun W h => by
        have k := arrive_any (.slice A 1 k) [pA 1 3] (pA 2 5) s22 W (HP.out.below h.2.2.2.2.2.2) (one_ok (by decide) (by decide)) (by decide) (by decide)
        have e := arr22_next (pA 2 5) (by decide)
        rw [e.2.1, e.2.2] at k
        exact k.mono fun e w' ⟨u, he, _, hb⟩ => ⟨u, he, hb, IN _ (low_trans h.2.2.2.2.2.2 hb)⟩
      clear IN Lx OSx HP
      obtain ⟨k0, k1, k2, k3, k4, k5, k6⟩ := id hk0
      go_region_held3 (fun w' => w'.cell? ⟨w.heap.size, 0, none⟩ = some (.int .i64 1) ∧ w'.cell? ⟨w.heap.size, 1, none⟩ = some (.int .i64 0) ∧ w'.cell? ⟨w.heap.size, 2, none⟩ = some (.int .i64 1) ∧ w'.cell? ⟨w.heap.size, 3, none⟩ = some (.int .i64 0) ∧ w'.cell? ⟨w.heap.size, 4, none⟩ = some (.int .i64 0) ∧ w'.cell? ⟨w.heap.size, 5, none⟩ = some (.int .u64 7) ∧ Lows W2 w')
        (first | (with_reducible assumption) | (repeat (first | (with_reducible assumption) | (with_reducible refine JD.out _ ?_) | (with_reducible refine JA.out _ _ ?_) | (with_reducible refine JS.out _ _ _ _ (by first | omega | (simp; omega)) ?_))))
        (first
          | (go_at_call 16; (with_reducible refine (K25.out _ (by with_reducible assumption)).mono ?_); rintro e v0 ⟨rfl, hb0, hkw0⟩; obtain ⟨hc0, hf0⟩ := old hb0; have hz0 := hb0.size; (try simp [go_sem, Nat.add_one_le_iff] at hz0))
          | (go_at_call 9; (with_reducible refine (KR.out _ (by with_reducible assumption)).mono ?_); rintro e w9 ⟨u9, rfl, hb9, hkw⟩; obtain ⟨hc9, hf9⟩ := old hb9; have hz9 := hb9.size; (try simp [go_sem, Nat.add_one_le_iff] at hz9)))
      all_goals
        have hkf := ‹S22 w W2 _›
        go_wp2_with fail
        go_meet
        case rel => exact ⟨rfl, Lib.hid hkf.2.2.2.2.2.2⟩
    case rest =>
      obtain ⟨rfl, HL⟩ := hcut
      obtain ⟨W3, hW3⟩ : ∃ W3, W3 = wc := ⟨_, rfl⟩
      rw [← hW3] at HL ⊢
      clear hW3
      have OSx := Lib.hid (OSx.out.on HL.out)
      have Lx := Lib.hid (low_trans Lx.out HL.out)
      have HP := Lib.hid (HP.out.below HL.out)
      clear HL
      go_upto_region 4 with fail
      go_cut [8] from 26 to 57 (fun s8 wx => ∃ (A2 : Option Addr) (k2 : Nat), s8 = .slice A2 1 k2 ∧ Hid (Peers wx (.slice A2 1 k2) [pA 1 3]) ∧ Hid (Lows W3 wx))
      case first =>
        have IN : ∀ w', Lows W3 w' → S22 w W3 w' := fun w' h => ⟨(OSx.out.on h).cell (j := 0) rfl, (OSx.out.on h).cell (j := 1) rfl, (OSx.out.on h).cell (j := 2) rfl, (OSx.out.on h).cell (j := 3) rfl, (OSx.out.on h).cell (j := 4) rfl, (OSx.out.on h).cell (j := 5) rfl, h⟩
        have JD : Hid (∀ W, S22 w W3 W → S22 w W3 W.drew) := Lib.hid fun W h => IN _ (low_drewN h.2.2.2.2.2.2 1)
        have JA : Hid (∀ W o, S22 w W3 W → S22 w W3 (W.alloc o)) := Lib.hid fun W o h => IN _ (Lows.alloc h.2.2.2.2.2.2 _)
        have JS : Hid (∀ W b j u, W3.heap.size ≤ b → S22 w W3 W → S22 w W3 (W.setCell ⟨b, j, none⟩ u)) := Lib.hid fun W b j u hb h => IN _ (Below.setCell h.2.2.2.2.2.2 hb _)
        have hk0 : S22 w W3 W3 := IN _ (Lows.self _)
        have K39 : Hid (∀ W, S22 w W3 W → Calls Try.prog 16 #[.int .i64 3, .int .i64 9] W fun e w' => e = .returned (.agg #[.bool false, .int .u64 0, .int .u64 1, .int .i64 3, .bool true, .int .i64 3, .int .i64 0, .int .i64 0, .int .i64 9, .int .i64 0]) ∧ Below W.heap.size W w' ∧ S22 w W3 w') := Lib.hid fun W h => (at22_any 3 9 W).mono fun e w' ⟨he, hb⟩ => ⟨he, hb, IN _ (low_trans h.2.2.2.2.2.2 hb)⟩
        have K48 : Hid (∀ W, S22 w W3 W → Calls Try.prog 16 #[.int .i64 4, .int .i64 8] W fun e w' => e = .returned (.agg #[.bool false, .int .u64 0, .int .u64 1, .int .i64 4, .bool true, .int .i64 4, .int .i64 0, .int .i64 0, .int .i64 8, .int .i64 0]) ∧ Below W.heap.size W w' ∧ S22 w W3 w') := Lib.hid fun W h => (at22_any 4 8 W).mono fun e w' ⟨he, hb⟩ => ⟨he, hb, IN _ (low_trans h.2.2.2.2.2.2 hb)⟩
        have KR : Hid (∀ W g, S22 w W3 W → S22 w W3 (W.alloc (.cells #[.bool false, .int .u64 0, .int .u64 1, .int .i64 3, .bool true, .int .i64 3, .int .i64 0, .int .i64 0, .int .i64 9, .int .i64 0, .bool false, .int .u64 0, .int .u64 1, .int .i64 4, .bool true, .int .i64 4, .int .i64 0, .int .i64 0, .int .i64 8, .int .i64 0] 41)) → g = W.heap.size → Calls Try.prog 12 #[.slice A 1 k, .slice (some ⟨g, 0, none⟩) 2 2, .agg #[.int .i64 1, .int .i64 0, .int .i64 1, .int .i64 0, .int .i64 0, .int .u64 7]] (W.alloc (.cells #[.bool false, .int .u64 0, .int .u64 1, .int .i64 3, .bool true, .int .i64 3, .int .i64 0, .int .i64 0, .int .i64 9, .int .i64 0, .bool false, .int .u64 0, .int .u64 1, .int .i64 4, .bool true, .int .i64 4, .int .i64 0, .int .i64 0, .int .i64 8, .int .i64 0] 41)) fun e w' => ∃ A2 k2, e = .returned (.slice A2 1 k2) ∧ Peers w' (.slice A2 1 k2) [pA 1 3] ∧ Below (W.alloc (.cells #[.bool false, .int .u64 0, .int .u64 1, .int .i64 3, .bool true, .int .i64 3, .int .i64 0, .int .i64 0, .int .i64 9, .int .i64 0, .bool false, .int .u64 0, .int .u64 1, .int .i64 4, .bool true, .int .i64 4, .int .i64 0, .int .i64 0, .int .i64 8, .int .i64 0] 41)).heap.size (W.alloc (.cells #[.bool false, .int .u64 0, .int .u64 1, .int .i64 3, .bool true, .int .i64 3, .int .i64 0, .int .i64 0, .int .i64 9, .int .i64 0, .bool false, .int .u64 0, .int .u64 1, .int .i64 4, .bool true, .int .i64 4, .int .i64 0, .int .i64 0, .int .i64 8, .int .i64 0] 41)) w' ∧ S22 w W3 w') := Lib.hid fun W g h h2 hg => by
          have k := run_any (.slice A 1 k) (.slice (some ⟨g, 0, none⟩) 2 2) [pA 1 3] [pA 3 9, pA 4 8] s22 (W.alloc (.cells #[.bool false, .int .u64 0, .int .u64 1, .int .i64 3, .bool true, .int .i64 3, .int .i64 0, .int .i64 0, .int .i64 9, .int .i64 0, .bool false, .int .u64 0, .int .u64 1, .int .i64 4, .bool true, .int .i64 4, .int .i64 0, .int .i64 0, .int .i64 8, .int .i64 0] 41)) (HP.out.below h2.2.2.2.2.2.2) (by rw [hg]; exact Recs.lit encP_len W [pA 3 9, pA 4 8] #[.bool false, .int .u64 0, .int .u64 1, .int .i64 3, .bool true, .int .i64 3, .int .i64 0, .int .i64 0, .int .i64 9, .int .i64 0, .bool false, .int .u64 0, .int .u64 1, .int .i64 4, .bool true, .int .i64 4, .int .i64 0, .int .i64 0, .int .i64 8, .int .i64 0] 41 rfl) (one_ok (by decide) (by decide)) (fun x hx => by
            simp only [List.mem_cons, List.not_mem_nil, or_false] at hx
            rcases hx with rfl | rfl
            · exact pA_ok (by decide) (by decide)
            · exact pA_ok (by decide) (by decide)) (by decide) (by decide)
          rw [run22] at k
          refine k.mono fun e w' ⟨u, he, hu, hb⟩ => ?_
          have hu2 := hu
          obtain ⟨A2, k2, rfl, _, _, _⟩ := hu2
          exact ⟨A2, k2, he, hu, hb, IN _ (low_trans h2.2.2.2.2.2.2 hb)⟩
        clear IN Lx OSx HP
        obtain ⟨k0, k1, k2, k3, k4, k5, k6⟩ := id hk0
        go_region_held3 (fun w' => w'.cell? ⟨w.heap.size, 0, none⟩ = some (.int .i64 1) ∧ w'.cell? ⟨w.heap.size, 1, none⟩ = some (.int .i64 0) ∧ w'.cell? ⟨w.heap.size, 2, none⟩ = some (.int .i64 1) ∧ w'.cell? ⟨w.heap.size, 3, none⟩ = some (.int .i64 0) ∧ w'.cell? ⟨w.heap.size, 4, none⟩ = some (.int .i64 0) ∧ w'.cell? ⟨w.heap.size, 5, none⟩ = some (.int .u64 7) ∧ Lows W3 w')
          (first | (with_reducible assumption) | (repeat (first | (with_reducible assumption) | (with_reducible refine JD.out _ ?_) | (with_reducible refine JA.out _ _ ?_) | (with_reducible refine JS.out _ _ _ _ (by first | omega | (simp; omega)) ?_))))
          (first
            | (go_at_call 16; (with_reducible refine (K39.out _ (by with_reducible assumption)).mono ?_); rintro e v0 ⟨rfl, hb0, hkw0⟩; obtain ⟨hc0, hf0⟩ := old hb0; have hz0 := hb0.size; (try simp [go_sem, Nat.add_one_le_iff] at hz0))
            | (go_at_call 16; (with_reducible refine (K48.out _ (by with_reducible assumption)).mono ?_); rintro e v1 ⟨rfl, hb1, hkw1⟩; obtain ⟨hc1, hf1⟩ := old hb1; have hz1 := hb1.size; (try simp [go_sem, Nat.add_one_le_iff] at hz1))
            | (go_at_call 12; (with_reducible refine (KR.out _ _ ?hq1 ?hq2 ?hq3).mono ?_); (case hq3 => first | rfl | (simp; done)); (case hq1 => with_reducible assumption); (case hq2 => with_reducible assumption); rintro e w9 ⟨A2, k2, rfl, hP9, hb9, hkw⟩; obtain ⟨hc9, hf9⟩ := old hb9; have hz9 := hb9.size; (try simp [go_sem, Nat.add_one_le_iff] at hz9)))
        all_goals
          have hkf := ‹S22 w W3 _›
          go_wp2_with fail
          go_meet
          case rel => exact ⟨_, _, rfl, Lib.hid hP9, Lib.hid hkf.2.2.2.2.2.2⟩
      case rest =>
        obtain ⟨A2, k2, rfl, HP2, HL⟩ := hcut
        obtain ⟨W4, hW4⟩ : ∃ W4, W4 = wc := ⟨_, rfl⟩
        rw [← hW4] at HL HP2 ⊢
        clear hW4
        have OSx := Lib.hid (OSx.out.on HL.out)
        have Lx := Lib.hid (low_trans Lx.out HL.out)
        have HP := Lib.hid (HP.out.below HL.out)
        have hP2 := HP2.out
        obtain ⟨A3, c3, he3, hcx, hnx, hcell3⟩ := hP2
        clear hcx hnx
        obtain ⟨rfl, hone, rfl⟩ : A2 = A3 ∧ 1 = [pA 1 3].length ∧ k2 = c3 := by simpa using he3
        clear hone
        obtain ⟨b2, o2, rfl, hb2, hcc3⟩ := hcell3 (by decide)
        have hc2 : W4.cell? ⟨b2, o2 + 3, none⟩ = some (.int .i64 1) := by
          have h := hcc3 0 (by decide) 3 (.int .i64 1) rfl
          simpa using h
        clear HL HP2 he3 hcell3 hcc3
        have IN : ∀ w', Lows W4 w' → S23 w W4 b2 o2 w' := fun w' h => ⟨(OSx.out.on h).cell (j := 0) rfl, (OSx.out.on h).cell (j := 1) rfl, (OSx.out.on h).cell (j := 2) rfl, (OSx.out.on h).cell (j := 3) rfl, (OSx.out.on h).cell (j := 4) rfl, (OSx.out.on h).cell (j := 5) rfl, h, (h.cell (p := ⟨b2, o2 + 3, none⟩) hb2).trans hc2⟩
        have JD : Hid (∀ W, S23 w W4 b2 o2 W → S23 w W4 b2 o2 W.drew) := Lib.hid fun W h => IN _ (low_drewN h.2.2.2.2.2.2.1 1)
        have JA : Hid (∀ W o, S23 w W4 b2 o2 W → S23 w W4 b2 o2 (W.alloc o)) := Lib.hid fun W o h => IN _ (Lows.alloc h.2.2.2.2.2.2.1 _)
        have JS : Hid (∀ W b j u, W4.heap.size ≤ b → S23 w W4 b2 o2 W → S23 w W4 b2 o2 (W.setCell ⟨b, j, none⟩ u)) := Lib.hid fun W b j u hb h => IN _ (Below.setCell h.2.2.2.2.2.2.1 hb _)
        have hk0 : S23 w W4 b2 o2 W4 := IN _ (Lows.self _)
        have K39 : Hid (∀ W, S23 w W4 b2 o2 W → Calls Try.prog 16 #[.int .i64 3, .int .i64 9] W fun e w' => e = .returned (.agg #[.bool false, .int .u64 0, .int .u64 1, .int .i64 3, .bool true, .int .i64 3, .int .i64 0, .int .i64 0, .int .i64 9, .int .i64 0]) ∧ Below W.heap.size W w' ∧ S23 w W4 b2 o2 w') := Lib.hid fun W h => (at22_any 3 9 W).mono fun e w' ⟨he, hb⟩ => ⟨he, hb, IN _ (low_trans h.2.2.2.2.2.2.1 hb)⟩
        have KR : Hid (∀ W g, S23 w W4 b2 o2 W → S23 w W4 b2 o2 (W.alloc (.cells #[.bool false, .int .u64 0, .int .u64 1, .int .i64 3, .bool true, .int .i64 3, .int .i64 0, .int .i64 0, .int .i64 9, .int .i64 0] 41)) → g = W.heap.size → Calls Try.prog 7 #[.slice A 1 k, .slice (some ⟨g, 0, none⟩) 1 1, .int .i64 0, .agg #[.int .i64 1, .int .i64 0, .int .i64 1, .int .i64 0, .int .i64 0, .int .u64 7]] (W.alloc (.cells #[.bool false, .int .u64 0, .int .u64 1, .int .i64 3, .bool true, .int .i64 3, .int .i64 0, .int .i64 0, .int .i64 9, .int .i64 0] 41)) fun e w' => e = .returned (.bool true) ∧ Below (W.alloc (.cells #[.bool false, .int .u64 0, .int .u64 1, .int .i64 3, .bool true, .int .i64 3, .int .i64 0, .int .i64 0, .int .i64 9, .int .i64 0] 41)).heap.size (W.alloc (.cells #[.bool false, .int .u64 0, .int .u64 1, .int .i64 3, .bool true, .int .i64 3, .int .i64 0, .int .i64 0, .int .i64 9, .int .i64 0] 41)) w' ∧ S23 w W4 b2 o2 w') := Lib.hid fun W g h h2 hg => by
          have k := safe_any (.slice A 1 k) (.slice (some ⟨g, 0, none⟩) 1 1) [pA 1 3] [pA 3 9] 0 s22 (W.alloc (.cells #[.bool false, .int .u64 0, .int .u64 1, .int .i64 3, .bool true, .int .i64 3, .int .i64 0, .int .i64 0, .int .i64 9, .int .i64 0] 41)) (HP.out.below h2.2.2.2.2.2.2.1) (by rw [hg]; exact Recs.lit encP_len W [pA 3 9] #[.bool false, .int .u64 0, .int .u64 1, .int .i64 3, .bool true, .int .i64 3, .int .i64 0, .int .i64 0, .int .i64 9, .int .i64 0] 41 rfl) (one_ok (by decide) (by decide)) (one_ok (by decide) (by decide)) (by decide) (by decide) (by decide)
          have k2 := safe22
          rw [show s22.s = 7 from rfl, k2] at k
          exact k.mono fun e w' ⟨he, hb⟩ => ⟨he, hb, IN _ (low_trans h2.2.2.2.2.2.2.1 hb)⟩
        have LF := Lx
        clear IN Lx OSx HP hc2
        obtain ⟨k0, k1, k2', k3, k4, k5, k6, k7⟩ := id hk0
        go_upto_region 5 with fail
        go_region_held3 (fun w' => w'.cell? ⟨w.heap.size, 0, none⟩ = some (.int .i64 1) ∧ w'.cell? ⟨w.heap.size, 1, none⟩ = some (.int .i64 0) ∧ w'.cell? ⟨w.heap.size, 2, none⟩ = some (.int .i64 1) ∧ w'.cell? ⟨w.heap.size, 3, none⟩ = some (.int .i64 0) ∧ w'.cell? ⟨w.heap.size, 4, none⟩ = some (.int .i64 0) ∧ w'.cell? ⟨w.heap.size, 5, none⟩ = some (.int .u64 7) ∧ Lows W4 w' ∧ w'.cell? ⟨b2, o2 + 3, none⟩ = some (.int .i64 1))
          (first | (with_reducible assumption) | (repeat (first | (with_reducible assumption) | (with_reducible refine JD.out _ ?_) | (with_reducible refine JA.out _ _ ?_) | (with_reducible refine JS.out _ _ _ _ (by first | omega | (simp; omega)) ?_))))
          (first
            | (go_at_call 16; (with_reducible refine (K39.out _ (by with_reducible assumption)).mono ?_); rintro e v0 ⟨rfl, hb0, hkw0⟩; obtain ⟨hc0, hf0⟩ := old hb0; have hz0 := hb0.size; (try simp [go_sem, Nat.add_one_le_iff] at hz0))
            | (go_at_call 7; (with_reducible refine (KR.out _ _ ?hq1 ?hq2 ?hq3).mono ?_); (case hq3 => first | rfl | (simp; done)); (case hq1 => with_reducible assumption); (case hq2 => with_reducible assumption); rintro e w9 ⟨rfl, hb9, hkw⟩; obtain ⟨hc9, hf9⟩ := old hb9; have hz9 := hb9.size; (try simp [go_sem, Nat.add_one_le_iff] at hz9)))
        all_goals
          have hkf := ‹S23 w W4 b2 o2 _›
          go_wp2_with fail
          go_ret
          exact ⟨rfl, low_trans LF.out hkf.2.2.2.2.2.2.1⟩
end Go.Proofs.Ythmcggbmeabpmaa
