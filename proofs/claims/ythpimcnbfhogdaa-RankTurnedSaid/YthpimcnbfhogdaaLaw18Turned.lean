/- The second statement of layer 18, proved: of peers with unlike ends just one order comes, however they are turned, and the first are those whose rank is below their number; for all lists of peers and all that may be asked. -/
import Derived.Test.YthpimcnbfhogdaaLaw18
import Derived.Deep.DeepCutAuto
namespace Go.Proofs.Ythpimcnbfhogdaa
set_option maxRecDepth 100000
open Go.ChangeShapes Go.WideShapes Go.ChangeAt Go.RowKit
open Dec Words V4 V6 Ad Ci En Sat Ha Pe Stb Gr Mi Ra Go.Deep
set_option linter.unusedVariables false
abbrev T18 (w : World) (b n a : Int) (s : Nat) (w3 w' : World) : Prop := w'.cell? ⟨w.heap.size, 0, none⟩ = some (.int .i64 b) ∧ w'.cell? ⟨w.heap.size, 1, none⟩ = some (.int .i64 n) ∧ w'.cell? ⟨w.heap.size, 2, none⟩ = some (.int .i64 a) ∧ w'.cell? ⟨w.heap.size, 3, none⟩ = some (.int .u64 (s : Nat)) ∧ Lows w3 w'
abbrev OwnP (B : Nat) (w : World) (v : Value) (l : List Pr) : Prop := w.ownsRow B 35 10 v l.length (flat encP l)
theorem encP_len (x : Pr) : (encP x).length = 10 := rfl
theorem encP_one : ∀ x, ∀ u ∈ encP x, u.oneCell' = true := fun x u hu => by
  simp only [encP, List.mem_cons, List.not_mem_nil, or_false] at hu
  rcases hu with rfl | rfl | rfl | rfl | rfl | rfl | rfl | rfl | rfl | rfl <;> rfl
theorem ownP_lit (W : World) {B : Nat} (hB : B ≤ W.heap.size) : OwnP B (W.alloc (.cells #[] 35)) (.slice (some ⟨W.heap.size, 0, none⟩) 0 0) [] := World.ownsRow_made W #[] 0 hB (by simp [maxLen]) rfl
theorem append_peers {B : Nat} {W : World} {v x : Value} {xs ys : List Pr} (hown : OwnP B W v xs) (hy : Peers W x ys) (hlen : xs.length + ys.length ≤ 1000000) (hB : B ≤ W.heap.size) :
    ∃ v' w', (Builtin.append_ #[22, 22] 22 #[v, x]).run Try.prog W = .ok v' w' ∧ OwnP B w' v' (xs ++ ys) ∧ Below B W w' :=
  append_recs (P := Try.prog) (z := .agg #[.bool false, .int .u64 0, .int .u64 0, .int .i64 0, .bool false, .int .i64 0, .int .i64 0, .int .i64 0, .int .i64 0, .int .i64 0]) (bytes := 80) Try.underlying22 (by kernel_rfl) rfl (by decide) encP_len encP_one hown hy (by omega) (by omega) hB
theorem used_setF {F : List Nat} {n i : Nat} (hi : i < F.length) (hn : F[i]! < n) : (ls n (usedB F i)).set (F[i]!) (.bool true) = ls n (usedB F (i + 1)) := by
  rw [ls_set _ _ hn]
  congr 1
  funext j
  unfold usedB
  have h : j ∈ F.take (i + 1) ↔ (j = F[i]! ∨ j ∈ F.take i) := by
    rw [List.take_succ_eq_append_getElem hi, List.mem_append, getElem!_pos _ i hi]
    simp only [List.mem_singleton]
    exact Or.comm
  by_cases e : j = F[i]!
  · rw [if_pos e, decide_eq_true (h.2 (Or.inl e))]
  · rw [if_neg e]
    congr 1
    rw [decide_eq_decide]
    exact ⟨fun x => h.2 (Or.inr x), fun x => (h.1 x).resolve_left e⟩
theorem nums_at {w wr : World} {b o : Nat} {F : List Nat} (hb : b < w.heap.size) (hcc : ∀ i (h : i < F.length) j u, (encN F[i])[j]? = some u → w.cell? ⟨b, o + i * 1 + j, none⟩ = some u) {i : Nat} (hi : i < F.length) (hL : Lows w wr) : wr.cell? ⟨b, o + i, none⟩ = some (.int .i64 (F[i]! : Int)) := by
  have h := hcc i hi 0 (.int .i64 (F[i] : Int)) rfl
  rw [Nat.mul_one, Nat.add_zero] at h
  rw [getElem!_pos F i hi]
  exact (hL.cell (p := ⟨b, o + i, none⟩) hb).trans h
theorem recs_at {w wr : World} {b o : Nat} {l : List Pr} (hb : b < w.heap.size) (hcc : ∀ i (h : i < l.length) j u, (encP l[i])[j]? = some u → w.cell? ⟨b, o + i * 10 + j, none⟩ = some u) {i : Nat} (hi : i < l.length) (hL : Lows w wr) {j : Nat} {u : Value} (hu : (encP l[i]!)[j]? = some u) : wr.cell? ⟨b, o + i * 10 + j, none⟩ = some u := by
  rw [getElem!_pos l i hi] at hu
  exact (hL.cell (p := ⟨b, o + i * 10 + j, none⟩) hb).trans (hcc i hi j u hu)
set_option maxHeartbeats 24000000 in
theorem rankTurned_walk (w : World) (v : Value) (l : List Pr) (h : Peers w v l) (hok : ∀ x ∈ l, x.ok) (b n a : Int) (s : Nat) (hb : (-9223372036854775808 ≤ b ∧ b ≤ 9223372036854775807)) (hn : (-9223372036854775808 ≤ n ∧ n ≤ 9223372036854775807)) (ha : (-9223372036854775808 ≤ a ∧ a ≤ 9223372036854775807)) (hs : s < 18446744073709551616) :
    Calls Try.prog 4 #[v, .agg #[.int .i64 b, .int .i64 n, .int .i64 a, .int .u64 (s : Nat)]] w fun e w' => e = .returned (.bool true) ∧ Below w.heap.size w w' := by
  have PW := Lib.hid h
  have AW := Lib.hid (fun W => awake18_any W)
  obtain ⟨A, c, rfl, hc, _, hcell⟩ := h
  have HC := Lib.hid hcell
  have HOK := Lib.hid hok
  have HS := Lib.hid hs
  have HA := Lib.hid ha
  have OB : Hid (Blk (w.alloc (.cells #[.int .i64 b, .int .i64 n, .int .i64 a, .int .u64 (s : Nat)] 25)) w.heap.size 25 [.int .i64 b, .int .i64 n, .int .i64 a, .int .u64 (s : Nat)]) := Lib.hid (Blk.new w #[.int .i64 b, .int .i64 n, .int .i64 a, .int .u64 (s : Nat)] 25)
  have L0 : Hid (Lows w (w.alloc (.cells #[.int .i64 b, .int .i64 n, .int .i64 a, .int .u64 (s : Nat)] 25))) := Lib.hid (Lows.alloc (Lows.self w) _)
  clear hcell hok hs hb hn ha
  by_cases h30 : 30 < l.length
  · have h30z : (30 : Int) < (l.length : Int) := by omega
    go_enter Try.func4, Try.ntmps4
    go_wp2_with fail
    refine (AW.out _).mono ?_; rintro e w1 ⟨rfl, hb1⟩
    go_wp2_with fail
    go_ret
    exact ⟨rfl, low_trans L0.out hb1⟩
  · have h30z : ¬ (30 : Int) < (l.length : Int) := by omega
    have hl1 : l.length ≤ 1000000 := by omega
    by_cases hl0 : l.length = 0
    · have h0z : ((l.length : Int) == 0) = true := by rw [beq_iff_eq]; omega
      have h0y : (l.length : Int) = 0 := by omega
      clear hl0
      go_enter Try.func4, Try.ntmps4
      go_wp2_with fail
      refine (AW.out _).mono ?_; rintro e w1 ⟨rfl, hb1⟩
      go_wp2_with fail
      go_ret
      exact ⟨rfl, low_trans L0.out hb1⟩
    · have h0z : ((l.length : Int) == 0) = false := by rw [beq_eq_false_iff_ne]; omega
      have h0y : ¬ (l.length : Int) = 0 := by omega
      have hl2 : 1 ≤ l.length := by omega
      clear hl0
      go_enter Try.func4, Try.ntmps4
      go_wp2_with fail
      go_loopw [5] (fun vi wr => ∃ i : Nat, vi = .int .i64 i ∧ i ≤ l.length ∧ Hid (∀ p q, p < q → q < i → (l[p]!).e ≠ (l[q]!).e) ∧ Hid (Lows (w.alloc (.cells #[.int .i64 b, .int .i64 n, .int .i64 a, .int .u64 (s : Nat)] 25)) wr)) (fun vi _ => l.length - (intOf vi).toNat)
      case atStart => exact ⟨0, rfl, Nat.zero_le _, Lib.hid (fun p q _ h => by omega), Lib.hid (Lows.self _)⟩
      case round =>
        obtain ⟨i, rfl, hi, HD, HL⟩ := hrel
        by_cases hli : i < l.length
        · have hliz : (i : Int) < (l.length : Int) := by omega
          obtain ⟨W, hW⟩ : ∃ W, W = wr := ⟨_, rfl⟩
          subst hW
          go_wp2_with fail
          go_loopw [6] (fun vk wr => ∃ k : Nat, vk = .int .i64 k ∧ k ≤ i ∧ Hid (∀ p, p < k → (l[p]!).e ≠ (l[i]!).e) ∧ Hid (Lows (w.alloc (.cells #[.int .i64 b, .int .i64 n, .int .i64 a, .int .u64 (s : Nat)] 25)) wr)) (fun vk _ => i - (intOf vk).toNat)
          case atStart => exact ⟨0, rfl, Nat.zero_le _, Lib.hid (fun p h => by omega), HL⟩
          case round =>
            obtain ⟨k, rfl, hk, HE, HL2⟩ := hrel
            by_cases hki : k < i
            · have hkiz : (k : Int) < (i : Int) := by omega
              have hlk : k < l.length := by omega
              have hlkz : (k : Int) < (l.length : Int) := by omega
              have HLW : Hid (Below w.heap.size w wr) := Lib.hid (low_trans L0.out HL2.out)
              obtain ⟨bb, o, rfl, hb9, hcc⟩ := HC.out (by omega)
              have hne : Nonempty (Cls (Lows wr)) := ⟨⟨_, Lows.self _⟩⟩
              obtain ⟨x, hx⟩ : ∃ x, x = l[i]! := ⟨_, rfl⟩
              have f0 : ∀ nq : Cls (Lows wr), nq.w.cell? ⟨bb, o + i * 10, none⟩ = some (.bool x.e.a.v6) := fun nq => by rw [hx]; exact peer_at (low_trans'' HLW.out nq.h) hb9 hcc hli (j := 0) rfl
              have f1 : ∀ nq : Cls (Lows wr), nq.w.cell? ⟨bb, o + i * 10 + 1, none⟩ = some (.int .u64 x.e.a.hi) := fun nq => by rw [hx]; exact peer_at (low_trans'' HLW.out nq.h) hb9 hcc hli (j := 1) rfl
              have f2 : ∀ nq : Cls (Lows wr), nq.w.cell? ⟨bb, o + i * 10 + 2, none⟩ = some (.int .u64 x.e.a.lo) := fun nq => by rw [hx]; exact peer_at (low_trans'' HLW.out nq.h) hb9 hcc hli (j := 2) rfl
              have f3 : ∀ nq : Cls (Lows wr), nq.w.cell? ⟨bb, o + i * 10 + 3, none⟩ = some (.int .i64 x.e.n) := fun nq => by rw [hx]; exact peer_at (low_trans'' HLW.out nq.h) hb9 hcc hli (j := 3) rfl
              have Hx := Lib.hid hx
              clear hx
              obtain ⟨z, hz⟩ : ∃ x, x = l[k]! := ⟨_, rfl⟩
              have g0 : ∀ nq : Cls (Lows wr), nq.w.cell? ⟨bb, o + k * 10, none⟩ = some (.bool z.e.a.v6) := fun nq => by rw [hz]; exact peer_at (low_trans'' HLW.out nq.h) hb9 hcc hlk (j := 0) rfl
              have g1 : ∀ nq : Cls (Lows wr), nq.w.cell? ⟨bb, o + k * 10 + 1, none⟩ = some (.int .u64 z.e.a.hi) := fun nq => by rw [hz]; exact peer_at (low_trans'' HLW.out nq.h) hb9 hcc hlk (j := 1) rfl
              have g2 : ∀ nq : Cls (Lows wr), nq.w.cell? ⟨bb, o + k * 10 + 2, none⟩ = some (.int .u64 z.e.a.lo) := fun nq => by rw [hz]; exact peer_at (low_trans'' HLW.out nq.h) hb9 hcc hlk (j := 2) rfl
              have g3 : ∀ nq : Cls (Lows wr), nq.w.cell? ⟨bb, o + k * 10 + 3, none⟩ = some (.int .i64 z.e.n) := fun nq => by rw [hz]; exact peer_at (low_trans'' HLW.out nq.h) hb9 hcc hlk (j := 3) rfl
              have Hz := Lib.hid hz
              clear hz
              have EQ := fun W => eqEnd x.e z.e W
              clear hcc hb9
              cases hs : sameE x.e z.e with
              | true =>
                rw [hs] at EQ
                clear hs
                go_wp2_with fail
                refine Cls.region (Lows wr) (by kernel_rfl) (by kernel_rfl) (low_drewN (Below.refl _ _) 1) ?_
                (try dsimp only [List.append])
                repeat (go_big_quiet_step (first | fail))
                refine wpQuiet_nil ?_
                intro n9
                have hk9 := n9.h
                generalize n9.w = w9 at hk9 ⊢
                clear hne n9 EQ f0 f1 f2 f3 g0 g1 g2 g3
                go_wp2_with fail
                refine (AW.out _).mono ?_; rintro e w1 ⟨rfl, hb1⟩
                have HF := Lib.hid (low_trans L0.out (low_trans HL2.out (low_trans hk9 hb1)))
                clear hb1
                go_wp2_with fail
                go_ret
                exact ⟨rfl, HF.out⟩
              | false =>
                have HE2 : Hid (∀ p, p < k + 1 → (l[p]!).e ≠ (l[i]!).e) := Lib.hid (fun p hp e => by
                  by_cases c : p = k
                  · subst c
                    rw [← Hz.out, ← Hx.out] at e
                    rw [(sameE_iff x.e z.e).2 e.symm] at hs
                    cases hs
                  · exact HE.out p (by omega) e)
                rw [hs] at EQ
                clear hs
                go_wp2_with fail
                refine Cls.region (Lows wr) (by kernel_rfl) (by kernel_rfl) (low_drewN (Below.refl _ _) 1) ?_
                (try dsimp only [List.append])
                repeat (go_big_quiet_step (first | fail))
                refine wpQuiet_nil ?_
                intro n9
                have hk9 := n9.h
                generalize n9.w = w9 at hk9 ⊢
                clear hne n9 EQ f0 f1 f2 f3 g0 g1 g2 g3
                go_wp2_with fail
                go_roundw
                case rel => exact ⟨k + 1, by go_num, by omega, HE2, Lib.hid (low_trans HL2.out hk9)⟩
                case measure => simp [intOf]; omega
            · have hkiz : ¬ (k : Int) < (i : Int) := by omega
              have HD2 : Hid (∀ p q, p < q → q < i + 1 → (l[p]!).e ≠ (l[q]!).e) := Lib.hid (fun p q hp hq => by
                by_cases c : q = i
                · subst c; exact HE.out p (by omega)
                · exact HD.out p q hp (by omega))
              go_wp2_with fail
              go_roundw
              case rel => exact ⟨i + 1, by go_num, by omega, HD2, HL2⟩
              case measure => simp [intOf]; omega
        · have hliz : ¬ (i : Int) < (l.length : Int) := by omega
          have HU : Hid (Unlike l) := Lib.hid (List.pairwise_iff_getElem.2 fun p q hp hq hpq => by
            have h := HD.out p q hpq (by omega)
            rw [getElem!_pos l p hp, getElem!_pos l q hq] at h
            exact h)
          have bc0 := Blk.in OB HL.out (j := 0) rfl
          have bc1 := Blk.in OB HL.out (j := 1) rfl
          have bc2 := Blk.in OB HL.out (j := 2) rfl
          have bc3 := Blk.in OB HL.out (j := 3) rfl
          have KB := Lib.hid (fun W => around_any a l.length W hl2 hl1 HA.out)
          clear HD hi hli
          go_wp2_with fail
          refine (KB.out _).mono ?_; rintro e w1 ⟨k, rfl, hkl, rfl⟩
          clear KB bc0 bc1 bc2 bc3
          obtain ⟨bb, o, rfl, hb9, hcc⟩ := HC.out (by omega)
          have hkz : (k : Int) ≤ (l.length : Int) := by omega
          have hkc : (k : Int) ≤ (c : Int) := by omega
          have hkne : ¬ (c = k) := by omega
          have hkne2 : ¬ (k = c) := by omega
          have hw1 : (w.alloc (.cells #[.int .i64 b, .int .i64 n, .int .i64 a, .int .u64 (s : Nat)] 25)).heap.size ≤ wr.heap.size := HL.out.size
          have PN : Hid (∀ W, Lows (w.alloc (.cells #[.int .i64 b, .int .i64 n, .int .i64 a, .int .u64 (s : Nat)] 25)) W → Peers W (.slice (some ⟨bb, o, none⟩) l.length c) l) := Lib.hid fun W h => PW.out.below (low_trans L0.out h)
          have HA1 : Hid (∀ W g, OwnP (w.alloc (.cells #[.int .i64 b, .int .i64 n, .int .i64 a, .int .u64 (s : Nat)] 25)).heap.size W (.slice (some ⟨g, 0, none⟩) 0 0) [] → Lows (w.alloc (.cells #[.int .i64 b, .int .i64 n, .int .i64 a, .int .u64 (s : Nat)] 25)) W → ∃ v1 w1, (Builtin.append_ #[22, 22] 22 #[.slice (some ⟨g, 0, none⟩) 0 0, .slice (some ⟨bb, o + k * 10, none⟩) (l.length - k) (c - k)]).run Try.prog W = .ok v1 w1 ∧ (OwnP (w.alloc (.cells #[.int .i64 b, .int .i64 n, .int .i64 a, .int .u64 (s : Nat)] 25)).heap.size w1 v1 (l.drop k) ∧ Lows (w.alloc (.cells #[.int .i64 b, .int .i64 n, .int .i64 a, .int .u64 (s : Nat)] 25)) w1)) := Lib.hid fun W g ho hW => by
            obtain ⟨v1, w1, h1, h2, h3⟩ := append_peers ho ((PN.out W hW).rest (i := k) (by omega)) (by simp; omega) hW.size
            exact ⟨v1, w1, h1, h2, hW.trans h3⟩
          have HA2 : Hid (∀ W v, OwnP (w.alloc (.cells #[.int .i64 b, .int .i64 n, .int .i64 a, .int .u64 (s : Nat)] 25)).heap.size W v (l.drop k) → Lows (w.alloc (.cells #[.int .i64 b, .int .i64 n, .int .i64 a, .int .u64 (s : Nat)] 25)) W → ∃ v1 w1, (Builtin.append_ #[22, 22] 22 #[v, .slice (some ⟨bb, o, none⟩) k c]).run Try.prog W = .ok v1 w1 ∧ (Peers w1 v1 (turnR l k) ∧ Lows (w.alloc (.cells #[.int .i64 b, .int .i64 n, .int .i64 a, .int .u64 (s : Nat)] 25)) w1)) := Lib.hid fun W v ho hW => by
            obtain ⟨v1, w1, h1, h2, h3⟩ := append_peers ho ((PN.out W hW).part (i := k) (by omega)) (by simp; omega) hW.size
            exact ⟨v1, w1, h1, (recs_own encP_len (by decide) h2).1, hW.trans h3⟩
          have HTL : Hid ((turnR l k).length = l.length) := Lib.hid (turn_length l k)
          have HUT := Lib.hid (turn_unlike HU.out k)
          have HOT : Hid (∀ x ∈ turnR l k, x.ok) := Lib.hid fun x hx => HOK.out x ((turn_perm l k).mem_iff.1 hx)
          have F1 : Hid ((firstR l b n s).length = (firstR (turnR l k) b n s).length) := Lib.hid (first_length HU.out k b n s)
          have F2 : Hid (∀ i, i < (firstR l b n s).length → l[(firstR l b n s)[i]!]! = (turnR l k)[(firstR (turnR l k) b n s)[i]!]!) := Lib.hid fun i hi => first_at HU.out k b n s hi
          have F3 : Hid (∀ i, i < (firstR l b n s).length → (firstR l b n s)[i]! < l.length) := Lib.hid fun i hi => first_lt hi
          have F4 : Hid (∀ i, i < (firstR (turnR l k) b n s).length → (firstR (turnR l k) b n s)[i]! < (turnR l k).length) := Lib.hid fun i hi => first_lt hi
          have F5 : Hid (∀ j, j < l.length → decide (j ∈ firstR l b n s) = (countsR l[j]! b && decide (rankR l j b s < n))) := Lib.hid fun j hj => first_rank HU.out hj
          clear hb9 hcc HU
          go_wp2_with fail
          go_region_law (first
            | (refine step_append_ex rfl (.tmp 51) (.tmp 54) _ _ rfl rfl _ _ (by simp [Act.eval]) (by first | (simp [Act.eval]; done) | (simp [Act.eval]; omega)) (HA1.out _ _ (World.ownsRow.drew (ownP_lit wr hw1)) (low_drewN (Below.alloc HL.out hw1 _) 1)) ?_; rintro v1 w2 ⟨ho1, hl1'⟩)
            | (refine step_append_ex rfl (.tmp 55) (.tmp 58) _ _ rfl rfl _ _ (by simp [Act.eval]) (by first | (simp [Act.eval]; done) | (simp [Act.eval]; omega)) (HA2.out _ _ ho1 hl1') ?_; rintro v2 w3 ⟨ho2, hl2'⟩))
          have L3 := Lib.hid hl2'
          have PT := Lib.hid ho2
          clear ho1 hl1' hl2' HL HA1 HA2
          generalize turnR l k = T at *
          obtain ⟨A2, c2, rfl, hc2, _, hcell2⟩ := ho2
          have HC2 := Lib.hid hcell2
          have htl : T.length ≤ 1000000 := by rw [HTL.out]; omega
          have F0 : Hid ((firstR l b n s).length ≤ l.length) := Lib.hid (by
            have := ordR_le l b s
            unfold firstR
            rw [List.length_take]; omega)
          clear hcell2 hw1
          go_wp2_with fail
          simp [Act.put]
          go_cut [9, 10] from 60 to 75 (fun s9 s10 wx => Hid (NumsI wx s9 (firstR l b n s)) ∧ Hid (NumsI wx s10 (firstR T b n s)) ∧ Hid (Lows w3 wx))
          case first =>
            have IN : ∀ w', Lows w3 w' → T18 w b n a s w3 w' := fun w' h => ⟨Blk.in OB (low_trans L3.out h) rfl, Blk.in OB (low_trans L3.out h) rfl, Blk.in OB (low_trans L3.out h) rfl, Blk.in OB (low_trans L3.out h) rfl, h⟩
            have KF1 : Hid (∀ W, T18 w b n a s w3 W → Calls Try.prog 11 #[.slice (some ⟨bb, o, none⟩) l.length c, .int .i64 b, .int .i64 n, .int .u64 (s : Nat)] W fun e w' => ∃ u, e = .returned u ∧ NumsI w' u (firstR l b n s) ∧ Below W.heap.size W w' ∧ T18 w b n a s w3 w') := Lib.hid fun W h => (first_any _ l b n s W (PN.out W (low_trans L3.out h.2.2.2.2)) HOK.out hl1 HS.out).mono fun e w' ⟨u, he, hu, hb⟩ => ⟨u, he, hu, hb, IN _ (low_trans h.2.2.2.2 hb)⟩
            have KF2 : Hid (∀ W, T18 w b n a s w3 W → Calls Try.prog 11 #[.slice A2 T.length c2, .int .i64 b, .int .i64 n, .int .u64 (s : Nat)] W fun e w' => ∃ u, e = .returned u ∧ NumsI w' u (firstR T b n s) ∧ Below W.heap.size W w' ∧ T18 w b n a s w3 w') := Lib.hid fun W h => (first_any _ T b n s W (PT.out.below h.2.2.2.2) HOT.out htl HS.out).mono fun e w' ⟨u, he, hu, hb⟩ => ⟨u, he, hu, hb, IN _ (low_trans h.2.2.2.2 hb)⟩
            have hk0 : T18 w b n a s w3 w3 := IN _ (Lows.self _)
            have JD : Hid (∀ W, T18 w b n a s w3 W → T18 w b n a s w3 W.drew) := Lib.hid fun W h => IN _ (low_drewN h.2.2.2.2 1)
            generalize firstR l b n s = FF at *
            generalize firstR T b n s = GG at *
            clear IN
            obtain ⟨k0, k1, k2, k3, hsk⟩ := id hk0
            go_region_held3 (fun w' => w'.cell? ⟨w.heap.size, 0, none⟩ = some (.int .i64 b) ∧ w'.cell? ⟨w.heap.size, 1, none⟩ = some (.int .i64 n) ∧ w'.cell? ⟨w.heap.size, 2, none⟩ = some (.int .i64 a) ∧ w'.cell? ⟨w.heap.size, 3, none⟩ = some (.int .u64 (s : Nat)) ∧ Lows w3 w')
              (first | (with_reducible assumption) | (with_reducible exact JD.out _ (by with_reducible assumption)))
              (first
                | (go_at_call 11; first
                  | ((with_reducible refine (KF1.out _ (by with_reducible assumption)).mono ?_); rintro e w9 ⟨u, rfl, hF, hbF, hkw⟩; (try have hG2 := hG.below hbF))
                  | ((with_reducible refine (KF2.out _ (by with_reducible assumption)).mono ?_); rintro e w9 ⟨u, rfl, hG, hbG, hkw⟩; (try have hF2 := hF.below hbG))))
            all_goals
              have hkf := ‹T18 w b n a s w3 _›
              go_wp2_with fail
              go_meet
              case rel => first | exact ⟨Lib.hid hF2, Lib.hid hG, Lib.hid hkf.2.2.2.2⟩ | exact ⟨Lib.hid hF, Lib.hid hG2, Lib.hid hkf.2.2.2.2⟩
          case rest =>
            obtain ⟨HX, HY, HL13⟩ := hcut
            have KR0 : Hid (∀ W i, Lows (w.alloc (.cells #[.int .i64 b, .int .i64 n, .int .i64 a, .int .u64 (s : Nat)] 25)) W → Calls Try.prog 13 #[.slice (some ⟨bb, o, none⟩) l.length c, .int .i64 i, .int .i64 b, .int .u64 (s : Nat)] W fun e w' => e = .returned (.int .i64 (rankR l i b s)) ∧ Below W.heap.size W w') := Lib.hid fun W i h => rank_any _ l i b s W (PN.out W h) HOK.out hl1 HS.out
            generalize firstR l b n s = FF at *
            generalize firstR T b n s = GG at *
            obtain ⟨A3, c3, rfl, hc3, _, hcx⟩ := HX.out
            obtain ⟨A4, c4, rfl, hc4, _, hcy⟩ := HY.out
            have HCX := Lib.hid hcx
            have HCY := Lib.hid hcy
            have zl : ((FF.length : Int) != (GG.length : Int)) = false := by rw [F1.out]; simp
            have zl2 : (FF.length : Int) = (GG.length : Int) := by rw [F1.out]
            have zl3 : ((FF.length : Int) == (GG.length : Int)) = true := by rw [F1.out]; simp
            have HZ := Lib.hid zl2
            have hfl : FF.length ≤ 30 := by have := F0.out; omega
            have R1 := Lib.hid (make_bools wc l.length hl1)
            have B0 : Hid (Blk (wc.alloc (.cells (madeCells (Value.cells (.bool false)) (l.length * 1)) 4)) wc.heap.size 4 (ls l.length (usedB FF 0))) := Lib.hid (by
              have h := Blk.new wc (madeCells (Value.cells (.bool false)) (l.length * 1)) 4
              rw [made_bools, ← used_start FF] at h
              exact h)
            have LA : Hid (Lows wc (wc.alloc (.cells (madeCells (Value.cells (.bool false)) (l.length * 1)) 4))) := Lib.hid (Lows.alloc (Lows.self wc) _)
            generalize wc.alloc (.cells (madeCells (Value.cells (.bool false)) (l.length * 1)) 4) = W4 at R1 B0 LA
            clear hcx hcy HX HY zl2
            go_wp2_with (first
              | (at_make; refine wpList_make_run rfl _ _ _ rfl _ _ _ _ rfl rfl R1.out ?_)
              | fail)
            go_loopw [12] (fun vi wr => ∃ i : Nat, vi = .int .i64 i ∧ i ≤ FF.length ∧ Hid (Blk wr wc.heap.size 4 (ls l.length (usedB FF i))) ∧ Hid (Lows wc wr)) (fun vi _ => FF.length - (intOf vi).toNat)
            case atStart => exact ⟨0, rfl, Nat.zero_le _, B0, LA⟩
            case round =>
              obtain ⟨i, rfl, hiF, OU, HLR⟩ := hrel
              clear B0 LA R1
              have LW0 : Hid (Lows (w.alloc (.cells #[.int .i64 b, .int .i64 n, .int .i64 a, .int .u64 (s : Nat)] 25)) wr) := Lib.hid (low_trans L3.out (low_trans HL13.out HLR.out))
              by_cases hiz : i < FF.length
              · have hiz1 : (i : Int) < (FF.length : Int) := by omega
                have hiz2 : (i : Int) < (GG.length : Int) := by have := HZ.out; omega
                have hiG : i < GG.length := by omega
                obtain ⟨xb, xo, rfl, hxb, hxc⟩ := HCX.out (by omega)
                obtain ⟨yb, yo, rfl, hyb, hyc⟩ := HCY.out (by omega)
                obtain ⟨bb2, o2, hbe, hb9, hcc⟩ := HC.out (by omega)
                obtain ⟨rfl, rfl⟩ : bb = bb2 ∧ o = o2 := by simpa using hbe
                obtain ⟨tb, tf, rfl, htb, htc⟩ := HC2.out (by have := HTL.out; omega)
                obtain ⟨xi, hxi⟩ : ∃ x, x = FF[i]! := ⟨_, rfl⟩
                obtain ⟨yi, hyi⟩ : ∃ x, x = GG[i]! := ⟨_, rfl⟩
                obtain ⟨p, hp⟩ : ∃ p, p = l[xi]! := ⟨_, rfl⟩
                have hpy : p = T[yi]! := by rw [hp, hxi, hyi]; exact F2.out i hiz
                have hxl : xi < l.length := by rw [hxi]; exact F3.out i hiz
                have hyl : yi < T.length := by rw [hyi]; exact F4.out i hiG
                have hxz : (xi : Int) < (l.length : Int) := by omega
                have hyz : (yi : Int) < (T.length : Int) := by omega
                have hyz2 : (yi : Int) < (l.length : Int) := by have := HTL.out; omega
                have d1 : decide ((xi : Int) < 0) = false := decide_eq_false (by omega)
                have d2 : decide ((l.length : Int) ≤ (xi : Int)) = false := decide_eq_false (by omega)
                have d3 : decide ((yi : Int) < 0) = false := decide_eq_false (by omega)
                have d4 : decide ((l.length : Int) ≤ (yi : Int)) = false := decide_eq_false (by omega)
                have d5 : ¬ (l.length : Int) ≤ (xi : Int) := by omega
                have d6 : ¬ (l.length : Int) ≤ (yi : Int) := by omega
                have d7 : decide (l.length ≤ xi) = false := decide_eq_false (by omega)
                have d8 : decide (l.length ≤ yi) = false := decide_eq_false (by omega)
                have d9 : ¬ (xi : Int) < 0 := by omega
                have d10 : ¬ (yi : Int) < 0 := by omega
                have NQ := fun W => neqPeer_self p W
                have HXI := Lib.hid hxi
                have hne : Nonempty (Cls (Lows wr)) := ⟨⟨_, Lows.self _⟩⟩
                have a1 : ∀ nq : Cls (Lows wr), nq.w.cell? ⟨xb, xo + i, none⟩ = some (.int .i64 (xi : Int)) := fun nq => by rw [hxi]; exact nums_at hxb hxc hiz (low_trans HLR.out nq.h)
                have a2 : ∀ nq : Cls (Lows wr), nq.w.cell? ⟨yb, yo + i, none⟩ = some (.int .i64 (yi : Int)) := fun nq => by rw [hyi]; exact nums_at hyb hyc hiG (low_trans HLR.out nq.h)
                have L13 : Hid (Lows w3 wr) := Lib.hid (low_trans HL13.out HLR.out)
                have HX9 : Hid (∀ W, Lows wr W → W.cell? ⟨xb, xo + i, none⟩ = some (.int .i64 (xi : Int))) := Lib.hid fun W h => a1 ⟨W, h⟩
                have f0 : ∀ nq : Cls (Lows wr), nq.w.cell? ⟨bb, o + xi * 10, none⟩ = some (.bool p.e.a.v6) := fun nq => by rw [hp]; exact recs_at hb9 hcc hxl (low_trans L0.out (low_trans LW0.out nq.h)) (j := 0) rfl
                have f1 : ∀ nq : Cls (Lows wr), nq.w.cell? ⟨bb, o + xi * 10 + 1, none⟩ = some (.int .u64 p.e.a.hi) := fun nq => by rw [hp]; exact recs_at hb9 hcc hxl (low_trans L0.out (low_trans LW0.out nq.h)) (j := 1) rfl
                have f2 : ∀ nq : Cls (Lows wr), nq.w.cell? ⟨bb, o + xi * 10 + 2, none⟩ = some (.int .u64 p.e.a.lo) := fun nq => by rw [hp]; exact recs_at hb9 hcc hxl (low_trans L0.out (low_trans LW0.out nq.h)) (j := 2) rfl
                have f3 : ∀ nq : Cls (Lows wr), nq.w.cell? ⟨bb, o + xi * 10 + 3, none⟩ = some (.int .i64 p.e.n) := fun nq => by rw [hp]; exact recs_at hb9 hcc hxl (low_trans L0.out (low_trans LW0.out nq.h)) (j := 3) rfl
                have f4 : ∀ nq : Cls (Lows wr), nq.w.cell? ⟨bb, o + xi * 10 + 4, none⟩ = some (.bool p.i) := fun nq => by rw [hp]; exact recs_at hb9 hcc hxl (low_trans L0.out (low_trans LW0.out nq.h)) (j := 4) rfl
                have f5 : ∀ nq : Cls (Lows wr), nq.w.cell? ⟨bb, o + xi * 10 + 5, none⟩ = some (.int .i64 p.t) := fun nq => by rw [hp]; exact recs_at hb9 hcc hxl (low_trans L0.out (low_trans LW0.out nq.h)) (j := 5) rfl
                have f6 : ∀ nq : Cls (Lows wr), nq.w.cell? ⟨bb, o + xi * 10 + 6, none⟩ = some (.int .i64 p.c.p) := fun nq => by rw [hp]; exact recs_at hb9 hcc hxl (low_trans L0.out (low_trans LW0.out nq.h)) (j := 6) rfl
                have f7 : ∀ nq : Cls (Lows wr), nq.w.cell? ⟨bb, o + xi * 10 + 7, none⟩ = some (.int .i64 p.c.a) := fun nq => by rw [hp]; exact recs_at hb9 hcc hxl (low_trans L0.out (low_trans LW0.out nq.h)) (j := 7) rfl
                have f8 : ∀ nq : Cls (Lows wr), nq.w.cell? ⟨bb, o + xi * 10 + 8, none⟩ = some (.int .i64 p.g) := fun nq => by rw [hp]; exact recs_at hb9 hcc hxl (low_trans L0.out (low_trans LW0.out nq.h)) (j := 8) rfl
                have f9 : ∀ nq : Cls (Lows wr), nq.w.cell? ⟨bb, o + xi * 10 + 9, none⟩ = some (.int .i64 p.k) := fun nq => by rw [hp]; exact recs_at hb9 hcc hxl (low_trans L0.out (low_trans LW0.out nq.h)) (j := 9) rfl
                have e0 : ∀ nq : Cls (Lows wr), nq.w.cell? ⟨tb, tf + yi * 10, none⟩ = some (.bool p.e.a.v6) := fun nq => by rw [hpy]; exact recs_at htb htc hyl (low_trans L13.out nq.h) (j := 0) rfl
                have e1 : ∀ nq : Cls (Lows wr), nq.w.cell? ⟨tb, tf + yi * 10 + 1, none⟩ = some (.int .u64 p.e.a.hi) := fun nq => by rw [hpy]; exact recs_at htb htc hyl (low_trans L13.out nq.h) (j := 1) rfl
                have e2 : ∀ nq : Cls (Lows wr), nq.w.cell? ⟨tb, tf + yi * 10 + 2, none⟩ = some (.int .u64 p.e.a.lo) := fun nq => by rw [hpy]; exact recs_at htb htc hyl (low_trans L13.out nq.h) (j := 2) rfl
                have e3 : ∀ nq : Cls (Lows wr), nq.w.cell? ⟨tb, tf + yi * 10 + 3, none⟩ = some (.int .i64 p.e.n) := fun nq => by rw [hpy]; exact recs_at htb htc hyl (low_trans L13.out nq.h) (j := 3) rfl
                have e4 : ∀ nq : Cls (Lows wr), nq.w.cell? ⟨tb, tf + yi * 10 + 4, none⟩ = some (.bool p.i) := fun nq => by rw [hpy]; exact recs_at htb htc hyl (low_trans L13.out nq.h) (j := 4) rfl
                have e5 : ∀ nq : Cls (Lows wr), nq.w.cell? ⟨tb, tf + yi * 10 + 5, none⟩ = some (.int .i64 p.t) := fun nq => by rw [hpy]; exact recs_at htb htc hyl (low_trans L13.out nq.h) (j := 5) rfl
                have e6 : ∀ nq : Cls (Lows wr), nq.w.cell? ⟨tb, tf + yi * 10 + 6, none⟩ = some (.int .i64 p.c.p) := fun nq => by rw [hpy]; exact recs_at htb htc hyl (low_trans L13.out nq.h) (j := 6) rfl
                have e7 : ∀ nq : Cls (Lows wr), nq.w.cell? ⟨tb, tf + yi * 10 + 7, none⟩ = some (.int .i64 p.c.a) := fun nq => by rw [hpy]; exact recs_at htb htc hyl (low_trans L13.out nq.h) (j := 7) rfl
                have e8 : ∀ nq : Cls (Lows wr), nq.w.cell? ⟨tb, tf + yi * 10 + 8, none⟩ = some (.int .i64 p.g) := fun nq => by rw [hpy]; exact recs_at htb htc hyl (low_trans L13.out nq.h) (j := 8) rfl
                have e9 : ∀ nq : Cls (Lows wr), nq.w.cell? ⟨tb, tf + yi * 10 + 9, none⟩ = some (.int .i64 p.k) := fun nq => by rw [hpy]; exact recs_at htb htc hyl (low_trans L13.out nq.h) (j := 9) rfl
                clear hxi hyi hp hpy hxb hxc hyb hyc hb9 hcc htb htc hbe
                go_wp2_with fail
                refine Cls.region (Lows wr) (by kernel_rfl) (by kernel_rfl) (low_drewN (Below.refl _ _) 1) ?_
                (try dsimp only [List.append])
                repeat (go_big_quiet_step (first | fail))
                refine wpQuiet_nil ?_
                intro n9
                have hk9 := n9.h
                generalize n9.w = w9 at hk9 ⊢
                clear hne n9 a1 a2 NQ f0 f1 f2 f3 f4 f5 f6 f7 f8 f9 e0 e1 e2 e3 e4 e5 e6 e7 e8 e9
                have a1 := HX9.out w9 hk9
                have OU9 := Lib.hid (OU.out.on hk9)
                have u0 : w9.cell? ⟨wc.heap.size, xi, none⟩ = some (.bool (decide (xi ∈ FF.take i))) := OU9.out.cell (by rw [ls_at _ hxl]; rfl)
                have u1 := OU9.out.free xi
                have OUN : Hid (Blk (w9.setCell ⟨wc.heap.size, xi, none⟩ (.bool true)) wc.heap.size 4 (ls l.length (usedB FF (i + 1)))) := Lib.hid (by
                  rw [← used_setF hiz (by rw [← HXI.out]; exact hxl), ← HXI.out]
                  exact OU9.out.set xi _)
                have HLN : Hid (Lows wc (w9.setCell ⟨wc.heap.size, xi, none⟩ (.bool true))) := Lib.hid (Below.setCell (low_trans HLR.out hk9) (Nat.le_refl _) _)
                clear hk9
                go_wp2_with fail
                go_roundw
                case rel => exact ⟨i + 1, by go_num, by omega, OUN, HLN⟩
                case measure => simp [intOf]; omega
              · have hiz1 : ¬ (i : Int) < (FF.length : Int) := by omega
                have hie : i = FF.length := by omega
                subst hie
                go_wp2_with fail
                go_loopw [13] (fun vi wr => ∃ j : Nat, vi = .int .i64 j ∧ j ≤ l.length ∧ Hid (Blk wr wc.heap.size 4 (ls l.length (usedB FF FF.length))) ∧ Hid (Lows wc wr)) (fun vi _ => l.length - (intOf vi).toNat)
                case atStart => exact ⟨0, rfl, Nat.zero_le _, OU, HLR⟩
                case round =>
                  obtain ⟨j, rfl, hjl, OU2, HLR⟩ := hrel
                  have LW0 : Hid (Lows (w.alloc (.cells #[.int .i64 b, .int .i64 n, .int .i64 a, .int .u64 (s : Nat)] 25)) wr) := Lib.hid (low_trans L3.out (low_trans HL13.out HLR.out))
                  by_cases hlj : j < l.length
                  · have hljz : (j : Int) < (l.length : Int) := by omega
                    obtain ⟨bb2, o2, hbe, hb9, hcc⟩ := HC.out (by omega)
                    obtain ⟨rfl, rfl⟩ : bb = bb2 ∧ o = o2 := by simpa using hbe
                    obtain ⟨x, hx⟩ : ∃ x, x = l[j]! := ⟨_, rfl⟩
                    have HF := F5.out j hlj
                    rw [← hx] at HF
                    have KR1 : Hid (∀ W, Lows wr W → Calls Try.prog 13 #[.slice (some ⟨bb, o, none⟩) l.length c, .int .i64 j, .int .i64 b, .int .u64 (s : Nat)] W fun e w' => e = .returned (.int .i64 (rankR l j b s)) ∧ Lows wr w') := Lib.hid fun W h => (KR0.out W j (low_trans LW0.out h)).mono fun e w' ⟨he, hb⟩ => ⟨he, low_trans h hb⟩
                    have KR := KR1
                    generalize rankR l j b s = RR at KR HF
                    clear KR1 hbe
                    have KC : Hid (∀ W, Calls Try.prog 6 #[.agg #[.bool x.e.a.v6, .int .u64 x.e.a.hi, .int .u64 x.e.a.lo, .int .i64 x.e.n, .bool x.i, .int .i64 x.t, .int .i64 x.c.p, .int .i64 x.c.a, .int .i64 x.g, .int .i64 x.k], .int .i64 b] W fun e w' => e = .returned (.bool (countsR x b)) ∧ Below W.heap.size W w') := Lib.hid fun W => counts_any x b W
                    cases hq : countsR x b with
                    | false =>
                      rw [hq] at KC HF
                      rw [Bool.false_and] at HF
                      have HU1 : Hid (Blk wr wc.heap.size 4 (ls l.length (usedB FF FF.length))) := OU2
                      have hne : Nonempty (Cls (Lows wr)) := ⟨⟨_, Lows.self _⟩⟩
                      have u0 : ∀ nq : Cls (Lows wr), nq.w.cell? ⟨wc.heap.size, j, none⟩ = some (.bool false) := fun nq => Blk.in OU2 nq.h (by rw [ls_at _ hlj]; unfold usedB; rw [List.take_of_length_le (Nat.le_refl _), HF])
                      have f0 : ∀ nq : Cls (Lows wr), nq.w.cell? ⟨bb, o + j * 10, none⟩ = some (.bool x.e.a.v6) := fun nq => by rw [hx]; exact recs_at hb9 hcc hlj (low_trans L0.out (low_trans LW0.out nq.h)) (j := 0) rfl
                      have f1 : ∀ nq : Cls (Lows wr), nq.w.cell? ⟨bb, o + j * 10 + 1, none⟩ = some (.int .u64 x.e.a.hi) := fun nq => by rw [hx]; exact recs_at hb9 hcc hlj (low_trans L0.out (low_trans LW0.out nq.h)) (j := 1) rfl
                      have f2 : ∀ nq : Cls (Lows wr), nq.w.cell? ⟨bb, o + j * 10 + 2, none⟩ = some (.int .u64 x.e.a.lo) := fun nq => by rw [hx]; exact recs_at hb9 hcc hlj (low_trans L0.out (low_trans LW0.out nq.h)) (j := 2) rfl
                      have f3 : ∀ nq : Cls (Lows wr), nq.w.cell? ⟨bb, o + j * 10 + 3, none⟩ = some (.int .i64 x.e.n) := fun nq => by rw [hx]; exact recs_at hb9 hcc hlj (low_trans L0.out (low_trans LW0.out nq.h)) (j := 3) rfl
                      have f4 : ∀ nq : Cls (Lows wr), nq.w.cell? ⟨bb, o + j * 10 + 4, none⟩ = some (.bool x.i) := fun nq => by rw [hx]; exact recs_at hb9 hcc hlj (low_trans L0.out (low_trans LW0.out nq.h)) (j := 4) rfl
                      have f5 : ∀ nq : Cls (Lows wr), nq.w.cell? ⟨bb, o + j * 10 + 5, none⟩ = some (.int .i64 x.t) := fun nq => by rw [hx]; exact recs_at hb9 hcc hlj (low_trans L0.out (low_trans LW0.out nq.h)) (j := 5) rfl
                      have f6 : ∀ nq : Cls (Lows wr), nq.w.cell? ⟨bb, o + j * 10 + 6, none⟩ = some (.int .i64 x.c.p) := fun nq => by rw [hx]; exact recs_at hb9 hcc hlj (low_trans L0.out (low_trans LW0.out nq.h)) (j := 6) rfl
                      have f7 : ∀ nq : Cls (Lows wr), nq.w.cell? ⟨bb, o + j * 10 + 7, none⟩ = some (.int .i64 x.c.a) := fun nq => by rw [hx]; exact recs_at hb9 hcc hlj (low_trans L0.out (low_trans LW0.out nq.h)) (j := 7) rfl
                      have f8 : ∀ nq : Cls (Lows wr), nq.w.cell? ⟨bb, o + j * 10 + 8, none⟩ = some (.int .i64 x.g) := fun nq => by rw [hx]; exact recs_at hb9 hcc hlj (low_trans L0.out (low_trans LW0.out nq.h)) (j := 8) rfl
                      have f9 : ∀ nq : Cls (Lows wr), nq.w.cell? ⟨bb, o + j * 10 + 9, none⟩ = some (.int .i64 x.k) := fun nq => by rw [hx]; exact recs_at hb9 hcc hlj (low_trans L0.out (low_trans LW0.out nq.h)) (j := 9) rfl
                      have g0 : ∀ nq : Cls (Lows wr), nq.w.cell? ⟨w.heap.size, 0, none⟩ = some (.int .i64 b) := fun nq => Blk.in OB (low_trans LW0.out nq.h) rfl
                      have g1 : ∀ nq : Cls (Lows wr), nq.w.cell? ⟨w.heap.size, 1, none⟩ = some (.int .i64 n) := fun nq => Blk.in OB (low_trans LW0.out nq.h) rfl
                      have g2 : ∀ nq : Cls (Lows wr), nq.w.cell? ⟨w.heap.size, 2, none⟩ = some (.int .i64 a) := fun nq => Blk.in OB (low_trans LW0.out nq.h) rfl
                      have g3 : ∀ nq : Cls (Lows wr), nq.w.cell? ⟨w.heap.size, 3, none⟩ = some (.int .u64 (s : Nat)) := fun nq => Blk.in OB (low_trans LW0.out nq.h) rfl
                      clear hcc hb9 hq HF hx
                      go_wp2_with fail
                      refine Cls.region (Lows wr) (by kernel_rfl) (by kernel_rfl) (low_drewN (Below.refl _ _) 1) ?_
                      (try dsimp only [List.append])
                      repeat (go_big_quiet_step (first | fail | (with_reducible exact Cls.call ((lows_call KC).out _ (Cls.h _)))))
                      refine wpQuiet_nil ?_
                      intro n9
                      have hk9 := n9.h
                      generalize n9.w = w9 at hk9 ⊢
                      clear hne n9 u0 g0 g1 g2 g3 f0 f1 f2 f3 f4 f5 f6 f7 f8 f9 KC KR
                      go_wp2_with fail
                      go_roundw
                      case rel => exact ⟨j + 1, by go_num, by omega, Lib.hid (OU2.out.on hk9), Lib.hid (low_trans HLR.out hk9)⟩
                      case measure => simp [intOf]; omega
                    | true =>
                      by_cases hr : RR < n
                      · rw [hq] at KC HF
                        rw [Bool.true_and] at HF
                        rw [decide_eq_true hr] at HF
                        have hne : Nonempty (Cls (Lows wr)) := ⟨⟨_, Lows.self _⟩⟩
                        have u0 : ∀ nq : Cls (Lows wr), nq.w.cell? ⟨wc.heap.size, j, none⟩ = some (.bool true) := fun nq => Blk.in OU2 nq.h (by rw [ls_at _ hlj]; unfold usedB; rw [List.take_of_length_le (Nat.le_refl _), HF])
                        have f0 : ∀ nq : Cls (Lows wr), nq.w.cell? ⟨bb, o + j * 10, none⟩ = some (.bool x.e.a.v6) := fun nq => by rw [hx]; exact recs_at hb9 hcc hlj (low_trans L0.out (low_trans LW0.out nq.h)) (j := 0) rfl
                        have f1 : ∀ nq : Cls (Lows wr), nq.w.cell? ⟨bb, o + j * 10 + 1, none⟩ = some (.int .u64 x.e.a.hi) := fun nq => by rw [hx]; exact recs_at hb9 hcc hlj (low_trans L0.out (low_trans LW0.out nq.h)) (j := 1) rfl
                        have f2 : ∀ nq : Cls (Lows wr), nq.w.cell? ⟨bb, o + j * 10 + 2, none⟩ = some (.int .u64 x.e.a.lo) := fun nq => by rw [hx]; exact recs_at hb9 hcc hlj (low_trans L0.out (low_trans LW0.out nq.h)) (j := 2) rfl
                        have f3 : ∀ nq : Cls (Lows wr), nq.w.cell? ⟨bb, o + j * 10 + 3, none⟩ = some (.int .i64 x.e.n) := fun nq => by rw [hx]; exact recs_at hb9 hcc hlj (low_trans L0.out (low_trans LW0.out nq.h)) (j := 3) rfl
                        have f4 : ∀ nq : Cls (Lows wr), nq.w.cell? ⟨bb, o + j * 10 + 4, none⟩ = some (.bool x.i) := fun nq => by rw [hx]; exact recs_at hb9 hcc hlj (low_trans L0.out (low_trans LW0.out nq.h)) (j := 4) rfl
                        have f5 : ∀ nq : Cls (Lows wr), nq.w.cell? ⟨bb, o + j * 10 + 5, none⟩ = some (.int .i64 x.t) := fun nq => by rw [hx]; exact recs_at hb9 hcc hlj (low_trans L0.out (low_trans LW0.out nq.h)) (j := 5) rfl
                        have f6 : ∀ nq : Cls (Lows wr), nq.w.cell? ⟨bb, o + j * 10 + 6, none⟩ = some (.int .i64 x.c.p) := fun nq => by rw [hx]; exact recs_at hb9 hcc hlj (low_trans L0.out (low_trans LW0.out nq.h)) (j := 6) rfl
                        have f7 : ∀ nq : Cls (Lows wr), nq.w.cell? ⟨bb, o + j * 10 + 7, none⟩ = some (.int .i64 x.c.a) := fun nq => by rw [hx]; exact recs_at hb9 hcc hlj (low_trans L0.out (low_trans LW0.out nq.h)) (j := 7) rfl
                        have f8 : ∀ nq : Cls (Lows wr), nq.w.cell? ⟨bb, o + j * 10 + 8, none⟩ = some (.int .i64 x.g) := fun nq => by rw [hx]; exact recs_at hb9 hcc hlj (low_trans L0.out (low_trans LW0.out nq.h)) (j := 8) rfl
                        have f9 : ∀ nq : Cls (Lows wr), nq.w.cell? ⟨bb, o + j * 10 + 9, none⟩ = some (.int .i64 x.k) := fun nq => by rw [hx]; exact recs_at hb9 hcc hlj (low_trans L0.out (low_trans LW0.out nq.h)) (j := 9) rfl
                        have g0 : ∀ nq : Cls (Lows wr), nq.w.cell? ⟨w.heap.size, 0, none⟩ = some (.int .i64 b) := fun nq => Blk.in OB (low_trans LW0.out nq.h) rfl
                        have g1 : ∀ nq : Cls (Lows wr), nq.w.cell? ⟨w.heap.size, 1, none⟩ = some (.int .i64 n) := fun nq => Blk.in OB (low_trans LW0.out nq.h) rfl
                        have g2 : ∀ nq : Cls (Lows wr), nq.w.cell? ⟨w.heap.size, 2, none⟩ = some (.int .i64 a) := fun nq => Blk.in OB (low_trans LW0.out nq.h) rfl
                        have g3 : ∀ nq : Cls (Lows wr), nq.w.cell? ⟨w.heap.size, 3, none⟩ = some (.int .u64 (s : Nat)) := fun nq => Blk.in OB (low_trans LW0.out nq.h) rfl
                        clear hcc hb9 hq HF hx
                        go_wp2_with fail
                        refine Cls.region (Lows wr) (by kernel_rfl) (by kernel_rfl) (low_drewN (Below.refl _ _) 1) ?_
                        (try dsimp only [List.append])
                        repeat (go_big_quiet_step (first | fail | (with_reducible exact Cls.call ((lows_call KC).out _ (Cls.h _))) | (with_reducible exact Cls.call (KR.out _ (Cls.h _)))))
                        refine wpQuiet_nil ?_
                        intro n9
                        have hk9 := n9.h
                        generalize n9.w = w9 at hk9 ⊢
                        clear hne n9 u0 g0 g1 g2 g3 f0 f1 f2 f3 f4 f5 f6 f7 f8 f9 KC KR
                        go_wp2_with fail
                        go_roundw
                        case rel => exact ⟨j + 1, by go_num, by omega, Lib.hid (OU2.out.on hk9), Lib.hid (low_trans HLR.out hk9)⟩
                        case measure => simp [intOf]; omega
                      · rw [hq] at KC HF
                        rw [Bool.true_and] at HF
                        rw [decide_eq_false hr] at HF
                        have hne : Nonempty (Cls (Lows wr)) := ⟨⟨_, Lows.self _⟩⟩
                        have u0 : ∀ nq : Cls (Lows wr), nq.w.cell? ⟨wc.heap.size, j, none⟩ = some (.bool false) := fun nq => Blk.in OU2 nq.h (by rw [ls_at _ hlj]; unfold usedB; rw [List.take_of_length_le (Nat.le_refl _), HF])
                        have f0 : ∀ nq : Cls (Lows wr), nq.w.cell? ⟨bb, o + j * 10, none⟩ = some (.bool x.e.a.v6) := fun nq => by rw [hx]; exact recs_at hb9 hcc hlj (low_trans L0.out (low_trans LW0.out nq.h)) (j := 0) rfl
                        have f1 : ∀ nq : Cls (Lows wr), nq.w.cell? ⟨bb, o + j * 10 + 1, none⟩ = some (.int .u64 x.e.a.hi) := fun nq => by rw [hx]; exact recs_at hb9 hcc hlj (low_trans L0.out (low_trans LW0.out nq.h)) (j := 1) rfl
                        have f2 : ∀ nq : Cls (Lows wr), nq.w.cell? ⟨bb, o + j * 10 + 2, none⟩ = some (.int .u64 x.e.a.lo) := fun nq => by rw [hx]; exact recs_at hb9 hcc hlj (low_trans L0.out (low_trans LW0.out nq.h)) (j := 2) rfl
                        have f3 : ∀ nq : Cls (Lows wr), nq.w.cell? ⟨bb, o + j * 10 + 3, none⟩ = some (.int .i64 x.e.n) := fun nq => by rw [hx]; exact recs_at hb9 hcc hlj (low_trans L0.out (low_trans LW0.out nq.h)) (j := 3) rfl
                        have f4 : ∀ nq : Cls (Lows wr), nq.w.cell? ⟨bb, o + j * 10 + 4, none⟩ = some (.bool x.i) := fun nq => by rw [hx]; exact recs_at hb9 hcc hlj (low_trans L0.out (low_trans LW0.out nq.h)) (j := 4) rfl
                        have f5 : ∀ nq : Cls (Lows wr), nq.w.cell? ⟨bb, o + j * 10 + 5, none⟩ = some (.int .i64 x.t) := fun nq => by rw [hx]; exact recs_at hb9 hcc hlj (low_trans L0.out (low_trans LW0.out nq.h)) (j := 5) rfl
                        have f6 : ∀ nq : Cls (Lows wr), nq.w.cell? ⟨bb, o + j * 10 + 6, none⟩ = some (.int .i64 x.c.p) := fun nq => by rw [hx]; exact recs_at hb9 hcc hlj (low_trans L0.out (low_trans LW0.out nq.h)) (j := 6) rfl
                        have f7 : ∀ nq : Cls (Lows wr), nq.w.cell? ⟨bb, o + j * 10 + 7, none⟩ = some (.int .i64 x.c.a) := fun nq => by rw [hx]; exact recs_at hb9 hcc hlj (low_trans L0.out (low_trans LW0.out nq.h)) (j := 7) rfl
                        have f8 : ∀ nq : Cls (Lows wr), nq.w.cell? ⟨bb, o + j * 10 + 8, none⟩ = some (.int .i64 x.g) := fun nq => by rw [hx]; exact recs_at hb9 hcc hlj (low_trans L0.out (low_trans LW0.out nq.h)) (j := 8) rfl
                        have f9 : ∀ nq : Cls (Lows wr), nq.w.cell? ⟨bb, o + j * 10 + 9, none⟩ = some (.int .i64 x.k) := fun nq => by rw [hx]; exact recs_at hb9 hcc hlj (low_trans L0.out (low_trans LW0.out nq.h)) (j := 9) rfl
                        have g0 : ∀ nq : Cls (Lows wr), nq.w.cell? ⟨w.heap.size, 0, none⟩ = some (.int .i64 b) := fun nq => Blk.in OB (low_trans LW0.out nq.h) rfl
                        have g1 : ∀ nq : Cls (Lows wr), nq.w.cell? ⟨w.heap.size, 1, none⟩ = some (.int .i64 n) := fun nq => Blk.in OB (low_trans LW0.out nq.h) rfl
                        have g2 : ∀ nq : Cls (Lows wr), nq.w.cell? ⟨w.heap.size, 2, none⟩ = some (.int .i64 a) := fun nq => Blk.in OB (low_trans LW0.out nq.h) rfl
                        have g3 : ∀ nq : Cls (Lows wr), nq.w.cell? ⟨w.heap.size, 3, none⟩ = some (.int .u64 (s : Nat)) := fun nq => Blk.in OB (low_trans LW0.out nq.h) rfl
                        clear hcc hb9 hq HF hx
                        go_wp2_with fail
                        refine Cls.region (Lows wr) (by kernel_rfl) (by kernel_rfl) (low_drewN (Below.refl _ _) 1) ?_
                        (try dsimp only [List.append])
                        repeat (go_big_quiet_step (first | fail | (with_reducible exact Cls.call ((lows_call KC).out _ (Cls.h _))) | (with_reducible exact Cls.call (KR.out _ (Cls.h _)))))
                        refine wpQuiet_nil ?_
                        intro n9
                        have hk9 := n9.h
                        generalize n9.w = w9 at hk9 ⊢
                        clear hne n9 u0 g0 g1 g2 g3 f0 f1 f2 f3 f4 f5 f6 f7 f8 f9 KC KR
                        go_wp2_with fail
                        go_roundw
                        case rel => exact ⟨j + 1, by go_num, by omega, Lib.hid (OU2.out.on hk9), Lib.hid (low_trans HLR.out hk9)⟩
                        case measure => simp [intOf]; omega
                  · have hljz : ¬ (j : Int) < (l.length : Int) := by omega
                    go_wp2_with fail
                    refine (AW.out _).mono ?_; rintro e w9 ⟨rfl, hb9⟩
                    have HFN := Lib.hid (low_trans L0.out (low_trans LW0.out hb9))
                    clear hb9
                    go_wp2_with fail
                    go_ret
                    exact ⟨rfl, HFN.out⟩
namespace rankTurned
theorem contract (H : Type) (enc : TypeId × Value → H) (W : World) (base : Nat) (args : Array Value) (ds gs : List (DataW H)) (before : List MemPlace)
    (hval0 : ∀ (j : Nat) t v, Try.f4.params[j]? = some t → args[j]? = some v → Value.okWide Try.prog W .any base t v)
    (hW : DataW.Whole enc Try.prog Try.f4.params.toList Rows.rankTurnedSpec.vars false W args.toList ds gs before) (hSh : W.ShapedOpen Try.prog) :
    Calls Try.prog 4 args W fun e W' => ∃ v, e = .returned v ∧ Rows.rankTurnedSpec.post enc Try.prog Try.f4 false true false false W args v W' := by
  have hval : ∀ (j : Nat) t v, Try.f4.params[j]? = some t → args[j]? = some v → Value.okWide Try.prog W .any base t v := hval0
  have hW' := hW
  obtain ⟨p, q, hA0, hV, _, _, _⟩ := hW
  have hA : DataW.TrodAll enc Try.prog W 0 (fun _ => true) true Try.f4.params.toList args.toList ds p := hA0
  rw [Try.params4] at hA hval
  obtain ⟨v0, vs0, d0, ds0, p0, q0, hargs, rfl, rfl, h0, r0⟩ := trodAll_cons hA
  obtain ⟨v1, vs1, d1, ds1, p1, q1, rfl, rfl, rfl, h1, r1⟩ := trodAll_cons r0
  obtain ⟨rfl, rfl, rfl⟩ := trodAll_nil r1
  obtain rfl : args = #[v0, v1] := by cases args; simp_all
  obtain ⟨rfl, rfl⟩ := trodVars_none hV
  obtain ⟨l0, t0, n0, s0⟩ := open_peers (hval 0 22 v0 rfl rfl) h0
  obtain ⟨i1, j1, k1, s1, y1, z1, x1, u1, rfl⟩ := open_asked18 (hval 1 25 v1 rfl rfl) h1
  clear hA0 hval0
  refine (rankTurned_walk W v0 l0 t0 s0 i1 j1 k1 s1 y1 z1 x1 u1).mono fun e W' ⟨he, hg⟩ => ?_
  subst he
  exact ⟨_, rfl, post_law laidOut (by kernel_rfl) (by kernel_rfl) Try.underlying4 rfl hW' rfl rfl rfl hg⟩
set_option maxRecDepth 100000 in
theorem lifted (os : Os) (started : os.Started) (H : Type) (enc : TypeId × Value → H) (F : Stop.Interp) :
    ReturnsInHanded {} Try.checked os 4 .any ((OpenSpec.ofChange Rows.rankTurnedSpec).preRow enc Try.prog Try.f4 Rows.rankTurnedRow.domain false Rows.rankTurnedRow.laid) (((OpenSpec.ofChange Rows.rankTurnedSpec).at F).post enc Try.prog Try.f4 false true false false) := by
  refine returnsInHanded_of_row (C := Try.checked) (s := OpenSpec.ofChange Rows.rankTurnedSpec) own started (by kernel_rfl) Try.func4
    (witness_laid (enc := enc) (C := Try.checked) (s := OpenSpec.ofChange Rows.rankTurnedSpec) (laid := Rows.rankTurnedRow.laid) #[.slice none 0 0, .agg #[.int .i64 0, .int .i64 0, .int .i64 0, .int .u64 0]] (World.shaped_of_ZipB (by kernel_rfl) (by kernel_rfl)) (by kernel_rfl)
      (OpenSpec.preRow_of_cond 8 (x := ([.nil, .agg [.lit (.int .i64 0), .lit (.int .i64 0), .lit (.int .i64 0), .lit (.int .u64 0)]], [], [])) (by kernel_rfl) (by kernel_rfl) (fun k hk => by cases hk) (by kernel_rfl)
        (by rw [MakeChecks.laidMetH_plain _ _ _ (by kernel_rfl)]; exact laidMet_laidAll _ (by kernel_rfl) (by kernel_rfl)))) ?_
  intro W base args ds gs before hval hW _ hcond _ _ hsh _
  exact contract H enc W base args ds gs before hval hW hsh
theorem over : Rows.rankTurnedRow.holds Try.pinned (OpenSpec.ofChange Rows.rankTurnedSpec) :=
  OpenClaim.holds_of_cond 4 Try.f4 rfl rfl rfl rfl rfl rfl rfl ⟨rfl, rfl, rfl, rfl, rfl⟩ rfl rfl rfl rfl rfl (by kernel_rfl) Try.func4 (by kernel_rfl)
    (of_decide_eq_true (by kernel_rfl)) (by unfold Func.isWrapper; first | (rw [if_pos (by decide +kernel)]; kernel_rfl) | (rw [if_neg (by decide +kernel)]; exact ⟨rfl, rfl⟩))
    (fun os started H enc _ F => by rw [OpenClaim.pre_eq_preRow]; exact lifted os started H enc F)
/-- ████ THE STATEMENT ████ -/
theorem proved : Rows.RankTurnedSaid := over
end rankTurned
end Go.Proofs.Ythpimcnbfhogdaa
