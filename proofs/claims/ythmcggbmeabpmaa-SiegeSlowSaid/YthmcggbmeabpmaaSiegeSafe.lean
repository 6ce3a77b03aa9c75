/- siege.Safe. -/
import Derived.Test.YthmcggbmeabpmaaSiegeRiv
namespace Go.Proofs.Ythmcggbmeabpmaa.Si
set_option maxRecDepth 100000
open Go.ChangeShapes Go.WideShapes Go.ChangeAt Go.RowKit
open Dec Words V4 V6 Ad Ci En Sat Ha Pe Stb Gr Mi Ra Sh Cw Ev Go.Deep
set_option linter.unusedVariables false
theorem alone_at (q : Qt) (k : Nat) (hk : k < 4) (W : World) : (Instr.index 53 (.agg #[.int .i64 q.g, .int .i64 0, .int .i64 0, .int .i64 0, .int .i64 0, .int .i64 q.p, .int .i64 0, .int .i64 0, .int .i64 0, .int .i64 0, .int .i64 q.w, .int .i64 0, .int .i64 0, .int .i64 0, .int .i64 0, .int .i64 q.t]) (.int .i64 (k : Int))).run Try.prog W = .ok (.agg #[.int .i64 (aloneQ q (k + 1)).g, .int .i64 (aloneQ q (k + 1)).p, .int .i64 (aloneQ q (k + 1)).w, .int .i64 (aloneQ q (k + 1)).t]) W := by
  have : k = 0 ∨ k = 1 ∨ k = 2 ∨ k = 3 := by omega
  rcases this with rfl | rfl | rfl | rfl
  · show (Instr.index 53 (.agg #[.int .i64 q.g, .int .i64 0, .int .i64 0, .int .i64 0, .int .i64 0, .int .i64 q.p, .int .i64 0, .int .i64 0, .int .i64 0, .int .i64 0, .int .i64 q.w, .int .i64 0, .int .i64 0, .int .i64 0, .int .i64 0, .int .i64 q.t]) (.int .i64 0)).run Try.prog W = .ok (.agg #[.int .i64 q.g, .int .i64 0, .int .i64 0, .int .i64 0]) W
    simp [Instr.index, run_underlying Try.underlying53, asIntOf, go_sem]
  · show (Instr.index 53 (.agg #[.int .i64 q.g, .int .i64 0, .int .i64 0, .int .i64 0, .int .i64 0, .int .i64 q.p, .int .i64 0, .int .i64 0, .int .i64 0, .int .i64 0, .int .i64 q.w, .int .i64 0, .int .i64 0, .int .i64 0, .int .i64 0, .int .i64 q.t]) (.int .i64 1)).run Try.prog W = .ok (.agg #[.int .i64 0, .int .i64 q.p, .int .i64 0, .int .i64 0]) W
    simp [Instr.index, run_underlying Try.underlying53, asIntOf, go_sem]
  · show (Instr.index 53 (.agg #[.int .i64 q.g, .int .i64 0, .int .i64 0, .int .i64 0, .int .i64 0, .int .i64 q.p, .int .i64 0, .int .i64 0, .int .i64 0, .int .i64 0, .int .i64 q.w, .int .i64 0, .int .i64 0, .int .i64 0, .int .i64 0, .int .i64 q.t]) (.int .i64 2)).run Try.prog W = .ok (.agg #[.int .i64 0, .int .i64 0, .int .i64 q.w, .int .i64 0]) W
    simp [Instr.index, run_underlying Try.underlying53, asIntOf, go_sem]
  · show (Instr.index 53 (.agg #[.int .i64 q.g, .int .i64 0, .int .i64 0, .int .i64 0, .int .i64 0, .int .i64 q.p, .int .i64 0, .int .i64 0, .int .i64 0, .int .i64 0, .int .i64 q.w, .int .i64 0, .int .i64 0, .int .i64 0, .int .i64 0, .int .i64 q.t]) (.int .i64 3)).run Try.prog W = .ok (.agg #[.int .i64 0, .int .i64 0, .int .i64 0, .int .i64 q.t]) W
    simp [Instr.index, run_underlying Try.underlying53, asIntOf, go_sem]
theorem safe_off {l news : List Pr} {i : Nat} {q : Qt} {s : Nat} (h : (l[i]!).i = false) : safeR l news i q s = false := by unfold safeR; rw [h]; rfl
theorem safe_done {l news : List Pr} {i : Nat} {q : Qt} {s : Nat} (hi : (l[i]!).i = true) (h : ∀ k, k < 4 → testB (candR (l[i]! :: rivR l[i]! l news) (aloneQ q (k + 1)) s) l[i]! = false) : safeR l news i q s = false := by
  unfold safeR
  rw [ins_no fun b h1 h2 => by
    have := h (b - 1) (by omega)
    rw [show b - 1 + 1 = b by omega, safe_test hi ⟨h1, h2⟩] at this
    exact this, Bool.and_false]
theorem safe_hit {l news : List Pr} {i : Nat} {q : Qt} {s k : Nat} (hi : (l[i]!).i = true) (hk : k < 4) (h : testB (candR (l[i]! :: rivR l[i]! l news) (aloneQ q (k + 1)) s) l[i]! = true) : safeR l news i q s = true := by
  rw [safe_test hi ⟨by omega, by omega⟩] at h
  unfold safeR
  rw [hi, ins_yes (by omega) (by omega) h]
  rfl
theorem riv_length (y : Pr) (l news : List Pr) : (rivR y l news).length ≤ l.length + news.length := by
  have := List.length_filter_le (fun x => !sameP x y) (l ++ news.map setI)
  rw [List.length_append, List.length_map] at this
  exact this
theorem riv_ok {y : Pr} {l news : List Pr} (h1 : ∀ x ∈ l, x.ok) (h2 : ∀ x ∈ news, x.ok) : ∀ x ∈ rivR y l news, x.ok := fun x hx => by
  rcases List.mem_append.1 (List.mem_filter.1 hx).1 with h | h
  · exact h1 x h
  · obtain ⟨z, hz, rfl⟩ := List.mem_map.1 h
    exact setI_ok (h2 z hz)
set_option maxHeartbeats 8000000 in
/-- Whether a peer is inside a quota, whoever comes. -/
theorem safe_any (v1 v2 : Value) (l news : List Pr) (i : Nat) (S : Sit) (w : World) (h1 : Peers w v1 l) (h2 : Peers w v2 news) (hok : ∀ x ∈ l, x.ok) (hok2 : ∀ x ∈ news, x.ok) (hl : l.length + news.length ≤ 800000) (hs : S.s < 18446744073709551616) (hi : i < l.length) :
    Calls Try.prog 7 #[v1, v2, .int .i64 i, .agg #[.int .i64 S.m, .int .i64 S.q.g, .int .i64 S.q.p, .int .i64 S.q.w, .int .i64 S.q.t, .int .u64 (S.s : Nat)]] w fun e w' => e = .returned (.bool (safeR l news i S.q S.s)) ∧ Below w.heap.size w w' := by
  have L0 : Hid (Lows w (w.alloc (.cells #[.int .i64 S.m, .int .i64 S.q.g, .int .i64 S.q.p, .int .i64 S.q.w, .int .i64 S.q.t, .int .u64 (S.s : Nat)] 27))) := Lib.hid (Lows.alloc (Lows.self w) _)
  have OS := Lib.hid (Blk.new w #[.int .i64 S.m, .int .i64 S.q.g, .int .i64 S.q.p, .int .i64 S.q.w, .int .i64 S.q.t, .int .u64 (S.s : Nat)] 27)
  have PW : Hid (∀ W, Below w.heap.size w W → Peers W v1 l ∧ Peers W v2 news) := Lib.hid fun W hW => ⟨h1.below hW, h2.below hW⟩
  obtain ⟨A, c, rfl, hc, _, hcell⟩ := h1
  obtain ⟨bb, o, rfl, hb, hcc⟩ := hcell (by omega)
  obtain ⟨x, hx⟩ : ∃ x, x = l[i]! := ⟨_, rfl⟩
  have HCW : Hid (∀ W, Below w.heap.size w W → W.cell? ⟨bb, o + i * 10, none⟩ = some (.bool x.e.a.v6) ∧ W.cell? ⟨bb, o + i * 10 + 1, none⟩ = some (.int .u64 x.e.a.hi) ∧ W.cell? ⟨bb, o + i * 10 + 2, none⟩ = some (.int .u64 x.e.a.lo) ∧ W.cell? ⟨bb, o + i * 10 + 3, none⟩ = some (.int .i64 x.e.n) ∧ W.cell? ⟨bb, o + i * 10 + 4, none⟩ = some (.bool x.i) ∧ W.cell? ⟨bb, o + i * 10 + 5, none⟩ = some (.int .i64 x.t) ∧ W.cell? ⟨bb, o + i * 10 + 6, none⟩ = some (.int .i64 x.c.p) ∧ W.cell? ⟨bb, o + i * 10 + 7, none⟩ = some (.int .i64 x.c.a) ∧ W.cell? ⟨bb, o + i * 10 + 8, none⟩ = some (.int .i64 x.g) ∧ W.cell? ⟨bb, o + i * 10 + 9, none⟩ = some (.int .i64 x.k)) := Lib.hid fun W hW => ⟨peer_at hW hb hcc hi (j := 0) (by rw [← hx]; rfl), peer_at hW hb hcc hi (j := 1) (by rw [← hx]; rfl), peer_at hW hb hcc hi (j := 2) (by rw [← hx]; rfl), peer_at hW hb hcc hi (j := 3) (by rw [← hx]; rfl), peer_at hW hb hcc hi (j := 4) (by rw [← hx]; rfl), peer_at hW hb hcc hi (j := 5) (by rw [← hx]; rfl), peer_at hW hb hcc hi (j := 6) (by rw [← hx]; rfl), peer_at hW hb hcc hi (j := 7) (by rw [← hx]; rfl), peer_at hW hb hcc hi (j := 8) (by rw [← hx]; rfl), peer_at hW hb hcc hi (j := 9) (by rw [← hx]; rfl)⟩
  have hiz : (i : Int) < (l.length : Int) := by omega
  have hi0 : ¬ (i : Int) < 0 := by omega
  have hi1 : ¬ (l.length : Int) ≤ (i : Int) := by omega
  have HX := Lib.hid hx
  clear hcell hcc hb
  obtain ⟨c0, c1, c2, c3, c4, c5, c6, c7, c8, c9⟩ := HCW.out _ L0.out
  cases hq : x.i with
  | false =>
    have HF : Hid (safeR l news i S.q S.s = false) := Lib.hid (safe_off (by rw [← hx]; exact hq))
    generalize safeR l news i S.q S.s = R at HF ⊢
    rw [hq] at c4
    clear hx HX HCW PW OS
    go_enter Try.func7, Try.ntmps7
    go_wp2_with fail
    go_ret
    exact ⟨by rw [HF.out]; rfl, L0.out⟩
  | true =>
    have hxi : (l[i]!).i = true := by rw [← hx]; exact hq
    have HT : Hid (∀ k, k < 4 → testB (candR (x :: rivR x l news) (aloneQ S.q (k + 1)) S.s) x = true → safeR l news i S.q S.s = true) := Lib.hid fun k hk h => safe_hit hxi hk (by rw [← hx]; exact h)
    have HF : Hid ((∀ k, k < 4 → testB (candR (x :: rivR x l news) (aloneQ S.q (k + 1)) S.s) x = false) → safeR l news i S.q S.s = false) := Lib.hid fun h => safe_done hxi (by rw [← hx]; exact h)
    have KR : Hid (∀ W, Below w.heap.size w W → Calls Try.prog 18 #[.agg #[.bool x.e.a.v6, .int .u64 x.e.a.hi, .int .u64 x.e.a.lo, .int .i64 x.e.n, .bool true, .int .i64 x.t, .int .i64 x.c.p, .int .i64 x.c.a, .int .i64 x.g, .int .i64 x.k], .slice (some ⟨bb, o, none⟩) l.length c, v2] W fun e w' => ∃ u, e = .returned u ∧ Peers w' u (rivR x l news) ∧ Below W.heap.size W w') := Lib.hid fun W hW => by
      have := rivals_any x _ v2 l news W (PW.out W hW).1 (PW.out W hW).2 (by omega) (by omega)
      rw [hq] at this
      exact this
    have hrl := riv_length x l news
    have hro : Hid (∀ z ∈ rivR x l news, z.ok) := Lib.hid (riv_ok hok hok2)
    have HXO : Hid x.ok := Lib.hid (by rw [hx, getElem!_pos l i hi]; exact hok _ (List.getElem_mem _))
    generalize rivR x l news = RR at *
    generalize safeR l news i S.q S.s = R at *
    have KC : Hid (∀ W u, Below w.heap.size w W → Peers W u RR → Calls Try.prog 17 #[.slice (some ⟨W.heap.size, 0, none⟩) 2 2] (W.alloc (.cells #[.slice (some ⟨bb, o + i * 10, none⟩) 1 (c - i), u] 22)) fun e w' => ∃ u2, e = .returned u2 ∧ Peers w' u2 (x :: RR) ∧ Below W.heap.size W w') := Lib.hid fun W u hW hu => by
      have hP : Peers W (.slice (some ⟨bb, o + i * 10, none⟩) 1 (c - i)) [x] := by
        have h := ((PW.out W hW).1.rest (i := i) (by omega)).part (i := 1) (by rw [List.length_drop]; omega)
        have e : (l.drop i).take 1 = [x] := by rw [List.drop_eq_getElem_cons hi, HX.out, getElem!_pos l i hi]; rfl
        rw [e] at h
        exact h
      have LR : Below W.heap.size W (W.alloc (.cells #[.slice (some ⟨bb, o + i * 10, none⟩) 1 (c - i), u] 22)) := Lows.alloc (Lows.self _) _
      refine (concat_any W.heap.size #[.slice (some ⟨bb, o + i * 10, none⟩) 1 (c - i), u].toList [[x], RR] _ (Blk.new W #[.slice (some ⟨bb, o + i * 10, none⟩) 1 (c - i), u] 22) rfl (fun k hk => ?_) (by simp) (by simp; omega)).mono ?_
      · obtain rfl | rfl : k = 0 ∨ k = 1 := by simp at hk; omega
        · exact hP.below LR
        · exact hu.below LR
      · rintro e w' ⟨u2, h1, h2, h3⟩
        exact ⟨u2, h1, by have h := ownP_peers h2; rw [show [[x], RR].flatten = x :: RR by simp] at h; exact h, LR.trans (h3.mono LR.size)⟩
    have KD : Hid (∀ W u k, Peers W u (x :: RR) → Calls Try.prog 20 #[u, .agg #[.int .i64 (aloneQ S.q (k + 1)).g, .int .i64 (aloneQ S.q (k + 1)).p, .int .i64 (aloneQ S.q (k + 1)).w, .int .i64 (aloneQ S.q (k + 1)).t], .int .u64 (S.s : Nat)] W fun e w' => ∃ u2, e = .returned u2 ∧ Peers w' u2 (candR (x :: RR) (aloneQ S.q (k + 1)) S.s) ∧ Below W.heap.size W w') := Lib.hid fun W u k hu => candidates_any u (x :: RR) (aloneQ S.q (k + 1)) S.s W hu (by
      intro z hz
      rcases List.mem_cons.1 hz with rfl | hz
      · exact HXO.out
      · exact hro.out z hz) (by simp; omega) hs
    have KQ : Hid (∀ W, Calls Try.prog 19 #[.agg #[.int .i64 S.q.g, .int .i64 S.q.p, .int .i64 S.q.w, .int .i64 S.q.t]] W fun e w' => e = .returned (.agg #[.int .i64 S.q.g, .int .i64 0, .int .i64 0, .int .i64 0, .int .i64 0, .int .i64 S.q.p, .int .i64 0, .int .i64 0, .int .i64 0, .int .i64 0, .int .i64 S.q.w, .int .i64 0, .int .i64 0, .int .i64 0, .int .i64 0, .int .i64 S.q.t]) ∧ Below W.heap.size W w') := Lib.hid fun W => alone_all S.q W
    have HCL : Hid (∀ k, (candR (x :: RR) (aloneQ S.q (k + 1)) S.s).length ≤ 1000000) := Lib.hid fun k => by
      have := cand_le (x :: RR) (aloneQ S.q (k + 1)) S.s
      rw [List.length_cons] at this
      omega
    have hj1 : IntKind.i64.wrap ((i : Int) + 1) = (i : Int) + 1 := by rw [IntKind.wrap_i64]; omega
    have hj2 : ((i : Int) + 1).toNat = i + 1 := by omega
    have hj3 : (i : Int) + 1 ≤ (c : Int) := by omega
    have hj4 : (i : Int) ≤ (i : Int) + 1 := by omega
    have hj5 : (0 : Int) ≤ (i : Int) := by omega
    have hj6 : (0 : Int) ≤ (i : Int) + 1 := by omega
    have hj7 : i + 1 - i = 1 := by omega
    have hj8 : ¬ c = i := by omega
    have HQT := Lib.hid hq
    rw [hq] at c4
    clear hx hok hok2 hro HXO hxi hq
    go_enter Try.func7, Try.ntmps7
    go_upto_region 3 with fail
    have L0d : Hid (Lows w (w.alloc (.cells #[.int .i64 S.m, .int .i64 S.q.g, .int .i64 S.q.p, .int .i64 S.q.w, .int .i64 S.q.t, .int .u64 (S.s : Nat)] 27)).drew) := Lib.hid (Lows.drew L0.out)
    go_region_with (first
      | (go_at_call 18; (refine (KR.out _ L0d.out).mono ?_); rintro e9 w1 ⟨u1, rfl, hU1, hb1⟩; have hU1c := hU1; obtain ⟨A16, k16, rfl, _, _, _⟩ := hU1c)
      | (go_at_call 17; (refine (KC.out _ _ (low_trans L0d.out hb1) hU1).mono ?_); rintro e9 w2 ⟨u2, rfl, hU2, hb2⟩))
    have L2 := Lib.hid (low_trans L0d.out (hb1.trans (hb2.mono hb1.size)))
    have HU2 := Lib.hid hU2
    have OS2 := Lib.hid ((OS.out.drew.on hb1).on hb2)
    clear hU1 hb1 hU2 hb2 KR KC L0 L0d OS c0 c1 c2 c3 c4 c5 c6 c7 c8 c9
    have q0 := OS2.out.cell (j := 0) rfl
    have q1 := OS2.out.cell (j := 1) rfl
    have q2 := OS2.out.cell (j := 2) rfl
    have q3 := OS2.out.cell (j := 3) rfl
    have q4 := OS2.out.cell (j := 4) rfl
    have KQ2 := Lib.hid (KQ.out w2)
    clear KQ
    go_wp2_with fail
    refine KQ2.out.mono ?_; rintro e9 w3 ⟨rfl, hb3⟩
    have L3 := Lib.hid (low_trans L2.out hb3)
    have OS3 := Lib.hid (OS2.out.on hb3)
    have HU3 := Lib.hid (HU2.out.below hb3)
    clear hb3 KQ2 L2 OS2 HU2 q0 q1 q2 q3 q4
    go_wp2_with fail
    go_loopw [46] (fun vk wr => ∃ k : Nat, vk = .int .i64 k ∧ k ≤ 4 ∧ Hid (∀ j, j < k → testB (candR (x :: RR) (aloneQ S.q (j + 1)) S.s) x = false) ∧ Hid (Lows w3 wr)) (fun vk _ => 4 - (intOf vk).toNat)
    case atStart => exact ⟨0, rfl, Nat.zero_le _, Lib.hid (fun j h => absurd h (Nat.not_lt_zero _)), Lib.hid (Lows.self _)⟩
    case round =>
      obtain ⟨k, rfl, hk, HN, HL⟩ := hrel
      by_cases hk4 : k < 4
      · have hk4z : (k : Int) < 4 := by omega
        have RI := alone_at S.q k hk4
        have KD1 := Lib.hid fun W u hu => KD.out W u k hu
        have HT1 := Lib.hid (HT.out k hk4)
        have HN2 : Hid (testB (candR (x :: RR) (aloneQ S.q (k + 1)) S.s) x = false → ∀ j, j < k + 1 → testB (candR (x :: RR) (aloneQ S.q (j + 1)) S.s) x = false) := Lib.hid fun h j hj => by
          rcases Nat.lt_succ_iff_lt_or_eq.1 hj with h2 | rfl
          · exact HN.out j h2
          · exact h
        have hcl := HCL.out k
        generalize candR (x :: RR) (aloneQ S.q (k + 1)) S.s = C at *
        generalize aloneQ S.q (k + 1) = Q at *
        have L4 : Hid (Below w.heap.size w (wr.alloc (.cells #[.int .i64 Q.g, .int .i64 Q.p, .int .i64 Q.w, .int .i64 Q.t] 24))) := Lib.hid (Lows.alloc (low_trans L3.out HL.out) _)
        have KD2 := Lib.hid (KD1.out (wr.alloc (.cells #[.int .i64 Q.g, .int .i64 Q.p, .int .i64 Q.w, .int .i64 Q.t] 24)) u2 (HU3.out.below (Lows.alloc HL.out _)))
        have s5 := (OS3.out.on (Lows.alloc HL.out (.cells #[.int .i64 Q.g, .int .i64 Q.p, .int .i64 Q.w, .int .i64 Q.t] 24))).cell (j := 5) rfl
        clear KD KD1 HN HT
        go_wp2_with fail
        refine KD2.out.mono ?_; rintro e9 w5 ⟨u5, rfl, hU5, hb5⟩
        have L5 := Lib.hid (low_trans L4.out hb5)
        have HL5 := Lib.hid (low_trans (Lows.alloc HL.out (.cells #[.int .i64 Q.g, .int .i64 Q.p, .int .i64 Q.w, .int .i64 Q.t] 24)) hb5)
        clear hb5 KD2 L4 RI s5
        obtain ⟨A5, c5, rfl, hc5, _, hcell5⟩ := hU5
        have hne : Nonempty (Cls (Lows w5)) := ⟨⟨_, Lows.self _⟩⟩
        by_cases h0 : C.length = 0
        · have HR : Hid (R = true) := Lib.hid (HT1.out (by unfold testB; rw [decide_eq_true h0]; rfl))
          have hz0 : ((C.length : Int) == 0) = true := by rw [h0]; rfl
          rw [h0]
          clear HT1 HN2 hcell5
          go_wp2_with fail
          have hd : ((0 : Int) == 0) = true := rfl
          refine Cls.region (Lows w5) (by kernel_rfl) (by kernel_rfl) (low_drewN (Below.refl _ _) 1) ?_
          (try dsimp only [List.append])
          repeat (go_big_quiet_step (first | fail))
          refine wpQuiet_nil ?_
          intro n9
          have hk9 := n9.h
          generalize n9.w = w9 at hk9 ⊢
          clear hne n9 
          go_wp2_with fail
          go_ret
          exact ⟨by rw [HR.out]; rfl, low_trans L5.out hk9⟩
        · obtain ⟨b5, o5, rfl, hb5, hcc5⟩ := hcell5 (by omega)
          obtain ⟨y, hy⟩ : ∃ y, y = C[0]! := ⟨_, rfl⟩
          have h0z : ((C.length : Int) == 0) = false := by rw [beq_eq_false_iff_ne]; omega
          have h0y : ¬ (C.length : Int) = 0 := by omega
          have h0x : (0 : Int) < (C.length : Int) := by omega
          have NQ := fun W => neqPeer y x W
          have g0 : ∀ nq : Cls (Lows w5), nq.w.cell? ⟨b5, o5, none⟩ = some (.bool y.e.a.v6) := fun nq => by
            have h := peer_at nq.h hb5 hcc5 (i := 0) (by omega) (j := 0) (u := .bool y.e.a.v6) (by rw [← hy]; rfl)
            simpa using h
          have g1 : ∀ nq : Cls (Lows w5), nq.w.cell? ⟨b5, o5 + 1, none⟩ = some (.int .u64 y.e.a.hi) := fun nq => by
            have h := peer_at nq.h hb5 hcc5 (i := 0) (by omega) (j := 1) (u := .int .u64 y.e.a.hi) (by rw [← hy]; rfl)
            simpa using h
          have g2 : ∀ nq : Cls (Lows w5), nq.w.cell? ⟨b5, o5 + 2, none⟩ = some (.int .u64 y.e.a.lo) := fun nq => by
            have h := peer_at nq.h hb5 hcc5 (i := 0) (by omega) (j := 2) (u := .int .u64 y.e.a.lo) (by rw [← hy]; rfl)
            simpa using h
          have g3 : ∀ nq : Cls (Lows w5), nq.w.cell? ⟨b5, o5 + 3, none⟩ = some (.int .i64 y.e.n) := fun nq => by
            have h := peer_at nq.h hb5 hcc5 (i := 0) (by omega) (j := 3) (u := .int .i64 y.e.n) (by rw [← hy]; rfl)
            simpa using h
          have g4 : ∀ nq : Cls (Lows w5), nq.w.cell? ⟨b5, o5 + 4, none⟩ = some (.bool y.i) := fun nq => by
            have h := peer_at nq.h hb5 hcc5 (i := 0) (by omega) (j := 4) (u := .bool y.i) (by rw [← hy]; rfl)
            simpa using h
          have g5 : ∀ nq : Cls (Lows w5), nq.w.cell? ⟨b5, o5 + 5, none⟩ = some (.int .i64 y.t) := fun nq => by
            have h := peer_at nq.h hb5 hcc5 (i := 0) (by omega) (j := 5) (u := .int .i64 y.t) (by rw [← hy]; rfl)
            simpa using h
          have g6 : ∀ nq : Cls (Lows w5), nq.w.cell? ⟨b5, o5 + 6, none⟩ = some (.int .i64 y.c.p) := fun nq => by
            have h := peer_at nq.h hb5 hcc5 (i := 0) (by omega) (j := 6) (u := .int .i64 y.c.p) (by rw [← hy]; rfl)
            simpa using h
          have g7 : ∀ nq : Cls (Lows w5), nq.w.cell? ⟨b5, o5 + 7, none⟩ = some (.int .i64 y.c.a) := fun nq => by
            have h := peer_at nq.h hb5 hcc5 (i := 0) (by omega) (j := 7) (u := .int .i64 y.c.a) (by rw [← hy]; rfl)
            simpa using h
          have g8 : ∀ nq : Cls (Lows w5), nq.w.cell? ⟨b5, o5 + 8, none⟩ = some (.int .i64 y.g) := fun nq => by
            have h := peer_at nq.h hb5 hcc5 (i := 0) (by omega) (j := 8) (u := .int .i64 y.g) (by rw [← hy]; rfl)
            simpa using h
          have g9 : ∀ nq : Cls (Lows w5), nq.w.cell? ⟨b5, o5 + 9, none⟩ = some (.int .i64 y.k) := fun nq => by
            have h := peer_at nq.h hb5 hcc5 (i := 0) (by omega) (j := 9) (u := .int .i64 y.k) (by rw [← hy]; rfl)
            simpa using h
          have f : ∀ nq : Cls (Lows w5), nq.w.cell? ⟨bb, o + i * 10, none⟩ = some (.bool x.e.a.v6) ∧ nq.w.cell? ⟨bb, o + i * 10 + 1, none⟩ = some (.int .u64 x.e.a.hi) ∧ nq.w.cell? ⟨bb, o + i * 10 + 2, none⟩ = some (.int .u64 x.e.a.lo) ∧ nq.w.cell? ⟨bb, o + i * 10 + 3, none⟩ = some (.int .i64 x.e.n) ∧ nq.w.cell? ⟨bb, o + i * 10 + 4, none⟩ = some (.bool x.i) ∧ nq.w.cell? ⟨bb, o + i * 10 + 5, none⟩ = some (.int .i64 x.t) ∧ nq.w.cell? ⟨bb, o + i * 10 + 6, none⟩ = some (.int .i64 x.c.p) ∧ nq.w.cell? ⟨bb, o + i * 10 + 7, none⟩ = some (.int .i64 x.c.a) ∧ nq.w.cell? ⟨bb, o + i * 10 + 8, none⟩ = some (.int .i64 x.g) ∧ nq.w.cell? ⟨bb, o + i * 10 + 9, none⟩ = some (.int .i64 x.k) := fun nq => by
            have h := HCW.out nq.w (low_trans L5.out nq.h)
            exact h
          have f0 : ∀ nq : Cls (Lows w5), nq.w.cell? ⟨bb, o + i * 10, none⟩ = some (.bool x.e.a.v6) := fun nq => (f nq).1
          have f1 : ∀ nq : Cls (Lows w5), nq.w.cell? ⟨bb, o + i * 10 + 1, none⟩ = some (.int .u64 x.e.a.hi) := fun nq => (f nq).2.1
          have f2 : ∀ nq : Cls (Lows w5), nq.w.cell? ⟨bb, o + i * 10 + 2, none⟩ = some (.int .u64 x.e.a.lo) := fun nq => (f nq).2.2.1
          have f3 : ∀ nq : Cls (Lows w5), nq.w.cell? ⟨bb, o + i * 10 + 3, none⟩ = some (.int .i64 x.e.n) := fun nq => (f nq).2.2.2.1
          have f4 : ∀ nq : Cls (Lows w5), nq.w.cell? ⟨bb, o + i * 10 + 4, none⟩ = some (.bool x.i) := fun nq => (f nq).2.2.2.2.1
          have f5 : ∀ nq : Cls (Lows w5), nq.w.cell? ⟨bb, o + i * 10 + 5, none⟩ = some (.int .i64 x.t) := fun nq => (f nq).2.2.2.2.2.1
          have f6 : ∀ nq : Cls (Lows w5), nq.w.cell? ⟨bb, o + i * 10 + 6, none⟩ = some (.int .i64 x.c.p) := fun nq => (f nq).2.2.2.2.2.2.1
          have f7 : ∀ nq : Cls (Lows w5), nq.w.cell? ⟨bb, o + i * 10 + 7, none⟩ = some (.int .i64 x.c.a) := fun nq => (f nq).2.2.2.2.2.2.2.1
          have f8 : ∀ nq : Cls (Lows w5), nq.w.cell? ⟨bb, o + i * 10 + 8, none⟩ = some (.int .i64 x.g) := fun nq => (f nq).2.2.2.2.2.2.2.2.1
          have f9 : ∀ nq : Cls (Lows w5), nq.w.cell? ⟨bb, o + i * 10 + 9, none⟩ = some (.int .i64 x.k) := fun nq => (f nq).2.2.2.2.2.2.2.2.2
          clear f
          rw [HQT.out] at f4 NQ
          have HTB : Hid (testB C x = !sameP y x) := Lib.hid (by unfold testB; rw [decide_eq_false h0, Bool.false_or, hy])
          clear hcc5 hb5 hy
          cases hs : sameP y x with
          | false =>
            rw [hs] at NQ
            have HR : Hid (R = true) := Lib.hid (HT1.out (by rw [HTB.out, hs]; rfl))
            clear hs HTB HT1 HN2
            go_wp2_with fail
            refine Cls.region (Lows w5) (by kernel_rfl) (by kernel_rfl) (low_drewN (Below.refl _ _) 1) ?_
            (try dsimp only [List.append])
            repeat (go_big_quiet_step (first | fail))
            refine wpQuiet_nil ?_
            intro n9
            have hk9 := n9.h
            generalize n9.w = w9 at hk9 ⊢
            clear hne n9 NQ f0 f1 f2 f3 f4 f5 f6 f7 f8 f9 g0 g1 g2 g3 g4 g5 g6 g7 g8 g9
            go_wp2_with fail
            go_ret
            exact ⟨by rw [HR.out]; rfl, low_trans L5.out hk9⟩
          | true =>
            rw [hs] at NQ
            have HN3 := Lib.hid (HN2.out (by rw [HTB.out, hs]; rfl))
            clear hs HTB HT1 HN2
            go_wp2_with fail
            refine Cls.region (Lows w5) (by kernel_rfl) (by kernel_rfl) (low_drewN (Below.refl _ _) 1) ?_
            (try dsimp only [List.append])
            repeat (go_big_quiet_step (first | fail))
            refine wpQuiet_nil ?_
            intro n9
            have hk9 := n9.h
            generalize n9.w = w9 at hk9 ⊢
            clear hne n9 NQ f0 f1 f2 f3 f4 f5 f6 f7 f8 f9 g0 g1 g2 g3 g4 g5 g6 g7 g8 g9
            go_wp2_with fail
            go_roundw
            case rel => exact ⟨k + 1, by go_num, by omega, HN3, Lib.hid (low_trans HL5.out hk9)⟩
            case measure => simp [intOf]; omega
      · have hk4z : ¬ (k : Int) < 4 := by omega
        have HR : Hid (R = false) := Lib.hid (HF.out fun j hj => HN.out j (by omega))
        have L9 := Lib.hid (low_trans L3.out HL.out)
        go_wp2_with fail
        go_ret
        exact ⟨by rw [HR.out]; rfl, L9.out⟩
end Go.Proofs.Ythmcggbmeabpmaa.Si
