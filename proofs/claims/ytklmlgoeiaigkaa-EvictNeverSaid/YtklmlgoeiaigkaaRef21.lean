/- The document's answers of layer 21: who came, of whom one would go, who goes; two lists of peers compared. -/
import Derived.Test.YtklmlgoeiaigkaaEvict
import Derived.Test.YtklmlgoeiaigkaaRef19All
namespace Go.Proofs.Ytklmlgoeiaigkaa.Ev
set_option maxRecDepth 100000
open Go.ChangeShapes Go.WideShapes Go.ChangeAt Go.RowKit
open Dec Words V4 V6 Ad Ci En Sat Ha Pe Stb Gr Mi Ra Sh Cw Go.Deep
set_option linter.unusedVariables false
set_option maxHeartbeats 8000000 in
theorem rcame_any (v : Value) (l : List Pr) (w : World) (h : Peers w v l) (hl : l.length ≤ 900000) :
    Calls Try.prog 13 #[v] w fun e w' => ∃ u, e = .returned u ∧ Peers w' u (cameR l) ∧ Below w.heap.size w w' := by
  obtain ⟨A, c, rfl, hc, _, hcell⟩ := h
  have HC := Lib.hid hcell
  clear hcell hc
  go_enter Try.func13, Try.ntmps13
  go_wp2_with fail
  go_loopw [3, 4] (fun vr vi wr => ∃ (i : Nat), vi = .int .i64 i ∧ i ≤ l.length ∧ Hid (OwnP w.heap.size wr vr (cameR (l.take i))) ∧ Hid (Below w.heap.size w wr)) (fun _ vi _ => l.length - (intOf vi).toNat)
  case atStart => exact ⟨0, rfl, Nat.zero_le _, Lib.hid (ownP_lit w (Nat.le_refl _)), Lib.hid (Lows.alloc (Lows.self _) _)⟩
  case round =>
    obtain ⟨i, rfl, hi, HO, HL⟩ := hrel
    by_cases hli : i < l.length
    · have hliz : (i : Int) < (l.length : Int) := by omega
      obtain ⟨bb, o, rfl, hb, hcc⟩ := HC.out (by omega)
      obtain ⟨x, hx⟩ : ∃ x, x = l[i]! := ⟨_, rfl⟩
      have c0 : wr.cell? ⟨bb, o + i * 10, none⟩ = some (.bool x.e.a.v6) := peer_at HL.out hb hcc hli (j := 0) (by rw [← hx]; rfl)
      have c1 : wr.cell? ⟨bb, o + i * 10 + 1, none⟩ = some (.int .u64 x.e.a.hi) := peer_at HL.out hb hcc hli (j := 1) (by rw [← hx]; rfl)
      have c2 : wr.cell? ⟨bb, o + i * 10 + 2, none⟩ = some (.int .u64 x.e.a.lo) := peer_at HL.out hb hcc hli (j := 2) (by rw [← hx]; rfl)
      have c3 : wr.cell? ⟨bb, o + i * 10 + 3, none⟩ = some (.int .i64 x.e.n) := peer_at HL.out hb hcc hli (j := 3) (by rw [← hx]; rfl)
      have c4 : wr.cell? ⟨bb, o + i * 10 + 4, none⟩ = some (.bool x.i) := peer_at HL.out hb hcc hli (j := 4) (by rw [← hx]; rfl)
      have c5 : wr.cell? ⟨bb, o + i * 10 + 5, none⟩ = some (.int .i64 x.t) := peer_at HL.out hb hcc hli (j := 5) (by rw [← hx]; rfl)
      have c6 : wr.cell? ⟨bb, o + i * 10 + 6, none⟩ = some (.int .i64 x.c.p) := peer_at HL.out hb hcc hli (j := 6) (by rw [← hx]; rfl)
      have c7 : wr.cell? ⟨bb, o + i * 10 + 7, none⟩ = some (.int .i64 x.c.a) := peer_at HL.out hb hcc hli (j := 7) (by rw [← hx]; rfl)
      have c8 : wr.cell? ⟨bb, o + i * 10 + 8, none⟩ = some (.int .i64 x.g) := peer_at HL.out hb hcc hli (j := 8) (by rw [← hx]; rfl)
      have c9 : wr.cell? ⟨bb, o + i * 10 + 9, none⟩ = some (.int .i64 x.k) := peer_at HL.out hb hcc hli (j := 9) (by rw [← hx]; rfl)
      have hlen : (cameR (l.take i)).length ≤ 900000 := by have := came_take l i; omega
      have HX := Lib.hid hx
      clear hcc hb hx
      cases hq : x.i with
      | false =>
        rw [hq] at c4
        have HY : Hid (cameR (l.take (i + 1)) = cameR (l.take i)) := Lib.hid (came_no hli (by rw [← HX.out]; exact hq))
        clear hq HX
        go_wp2_with fail
        go_roundw
        case rel => exact ⟨i + 1, by go_num, by omega, Lib.hid (by rw [HY.out]; exact HO.out), HL⟩
        case measure => simp [intOf]; omega
      | true =>
        obtain ⟨v', w', RR, HO2, hb5⟩ := append_peer (B := w.heap.size) HO.out x hlen HL.out.size
        rw [hq] at RR
        have R1 := Lib.hid RR
        have HO3 : Hid (OwnP w.heap.size w' v' (cameR (l.take (i + 1)))) := Lib.hid (by rw [came_yes hli (by rw [← HX.out]; exact hq), ← HX.out]; exact HO2)
        have HL3 : Hid (Below w.heap.size w w') := Lib.hid (HL.out.trans hb5)
        rw [hq] at c4
        clear RR HO2 hb5 HO HL hq HX
        go_wp2_with (first
          | (at_builtin; refine wpList_append_run rfl (.tmp 17) (.tmp 22) _ _ rfl rfl _ _ _ _ rfl rfl R1.out ?_)
          | fail)
        go_roundw
        case rel => exact ⟨i + 1, by go_num, by omega, HO3, HL3⟩
        case measure => simp [intOf]; omega
    · have hliz : ¬ (i : Int) < (l.length : Int) := by omega
      have HR := Lib.hid (ownP_peers HO.out)
      have HE : Hid (cameR (l.take i) = cameR l) := Lib.hid (came_done (by omega))
      clear HO
      go_wp2_with fail
      go_ret
      exact ⟨_, rfl, by rw [← HE.out]; exact HR.out, HL.out⟩
set_option maxHeartbeats 8000000 in
theorem rcandidates_any (v : Value) (l : List Pr) (q : Qt) (s : Nat) (w : World) (h : Peers w v l) (hok : ∀ x ∈ l, x.ok) (hl : l.length ≤ 900000) (hs : s < 18446744073709551616) :
    Calls Try.prog 11 #[v, .agg #[.int .i64 q.g, .int .i64 q.p, .int .i64 q.w, .int .i64 q.t], .int .u64 (s : Nat)] w fun e w' => ∃ u, e = .returned u ∧ Peers w' u (candR l q s) ∧ Below w.heap.size w w' := by
  have L0 : Hid (Lows w (w.alloc (.cells #[.int .i64 q.g, .int .i64 q.p, .int .i64 q.w, .int .i64 q.t] 24))) := Lib.hid (Lows.alloc (Lows.self w) _)
  have OQ := Lib.hid (Blk.new w #[.int .i64 q.g, .int .i64 q.p, .int .i64 q.w, .int .i64 q.t] 24)
  have KI := Lib.hid (rcame_any v l (w.alloc (.cells #[.int .i64 q.g, .int .i64 q.p, .int .i64 q.w, .int .i64 q.t] 24)) (h.below L0.out) hl)
  have E : Hid (candR l q s = thoseR (cameR l) (restR (cameR l).length (savedR (cameR l) q s 4))) := Lib.hid rfl
  have KL : Hid (∀ W u, Peers W u (cameR l) → Calls Try.prog 14 #[u, .agg #[.int .i64 q.g, .int .i64 q.p, .int .i64 q.w, .int .i64 q.t], .int .u64 (s : Nat)] W fun e w' => ∃ u, e = .returned u ∧ BoolsI w' u (ls (cameR l).length (savedR (cameR l) q s 4)) ∧ Below W.heap.size W w') := Lib.hid fun W u hu => rsaved_any u (cameR l) q s W hu (came_ok hok) (Nat.le_trans (came_le l) (by omega)) hs
  have hn : (cameR l).length ≤ 900000 := Nat.le_trans (came_le l) hl
  generalize savedR (cameR l) q s 4 = S at *
  generalize cameR l = L at *
  clear h hok hs hl
  go_enter Try.func11, Try.ntmps11
  go_wp2_with fail
  refine KI.out.mono ?_; rintro e9 w1 ⟨u, rfl, hU, hb1⟩
  have L1 := Lib.hid (low_trans L0.out hb1)
  have OQ1 := OQ.out.on hb1
  have q0 := OQ1.cell (j := 0) rfl
  have q1 := OQ1.cell (j := 1) rfl
  have q2 := OQ1.cell (j := 2) rfl
  have q3 := OQ1.cell (j := 3) rfl
  have KF := Lib.hid (KL.out w1 u hU)
  have HU := Lib.hid hU
  clear hb1 hU KI KL OQ OQ1
  go_wp2_with fail
  refine KF.out.mono ?_; rintro e9 w2 ⟨u2, rfl, hN, hb2⟩
  have L2 := Lib.hid (low_trans L1.out hb2)
  have hU := HU.out.below hb2
  clear hb2 KF HU q0 q1 q2 q3
  obtain ⟨A, c, rfl, hc, _, hcell⟩ := hU
  obtain ⟨A2, c2, rfl, hc2, _, hcell2⟩ := hN
  have HC := Lib.hid hcell
  have HC2 := Lib.hid hcell2
  have HLN : Hid ((ls L.length S).length = L.length) := Lib.hid (ls_length _ S)
  rw [ls_length]
  clear hcell hcell2 hc2 hc
  go_wp2_with fail
  go_loopw [9, 10] (fun vr vi wr => ∃ (i : Nat), vi = .int .i64 i ∧ i ≤ L.length ∧ Hid (OwnP w2.heap.size wr vr (thoseR L (restR i S))) ∧ Hid (Lows w2 wr)) (fun _ vi _ => L.length - (intOf vi).toNat)
  case atStart => exact ⟨0, rfl, Nat.zero_le _, Lib.hid (ownP_lit w2 (Nat.le_refl _)), Lib.hid (Lows.alloc (Lows.self _) _)⟩
  case round =>
    obtain ⟨i, rfl, hi, HO, HL⟩ := hrel
    by_cases hli : i < L.length
    · have hliz : (i : Int) < (L.length : Int) := by omega
      obtain ⟨bb, o, rfl, hb, hcc⟩ := HC.out (by omega)
      obtain ⟨b2, o2, rfl, hb2, hcc2⟩ := HC2.out (by rw [HLN.out]; omega)
      have e0 := bool_at HL.out hb2 hcc2 hli
      obtain ⟨x, hx⟩ : ∃ x, x = L[i]! := ⟨_, rfl⟩
      have c0 : wr.cell? ⟨bb, o + i * 10, none⟩ = some (.bool x.e.a.v6) := peer_at HL.out hb hcc hli (j := 0) (by rw [← hx]; rfl)
      have c1 : wr.cell? ⟨bb, o + i * 10 + 1, none⟩ = some (.int .u64 x.e.a.hi) := peer_at HL.out hb hcc hli (j := 1) (by rw [← hx]; rfl)
      have c2 : wr.cell? ⟨bb, o + i * 10 + 2, none⟩ = some (.int .u64 x.e.a.lo) := peer_at HL.out hb hcc hli (j := 2) (by rw [← hx]; rfl)
      have c3 : wr.cell? ⟨bb, o + i * 10 + 3, none⟩ = some (.int .i64 x.e.n) := peer_at HL.out hb hcc hli (j := 3) (by rw [← hx]; rfl)
      have c4 : wr.cell? ⟨bb, o + i * 10 + 4, none⟩ = some (.bool x.i) := peer_at HL.out hb hcc hli (j := 4) (by rw [← hx]; rfl)
      have c5 : wr.cell? ⟨bb, o + i * 10 + 5, none⟩ = some (.int .i64 x.t) := peer_at HL.out hb hcc hli (j := 5) (by rw [← hx]; rfl)
      have c6 : wr.cell? ⟨bb, o + i * 10 + 6, none⟩ = some (.int .i64 x.c.p) := peer_at HL.out hb hcc hli (j := 6) (by rw [← hx]; rfl)
      have c7 : wr.cell? ⟨bb, o + i * 10 + 7, none⟩ = some (.int .i64 x.c.a) := peer_at HL.out hb hcc hli (j := 7) (by rw [← hx]; rfl)
      have c8 : wr.cell? ⟨bb, o + i * 10 + 8, none⟩ = some (.int .i64 x.g) := peer_at HL.out hb hcc hli (j := 8) (by rw [← hx]; rfl)
      have c9 : wr.cell? ⟨bb, o + i * 10 + 9, none⟩ = some (.int .i64 x.k) := peer_at HL.out hb hcc hli (j := 9) (by rw [← hx]; rfl)
      have hlen : (thoseR L (restR i S)).length ≤ 900000 := by rw [those_length]; have := rest_le i S; omega
      have HX := Lib.hid hx
      clear hcc hb hx hcc2 hb2
      cases hq : S i with
      | true =>
        rw [hq] at e0
        have HY : Hid (thoseR L (restR (i + 1) S) = thoseR L (restR i S)) := Lib.hid (those_yes hq)
        clear hq HX
        go_wp2_with fail
        go_roundw
        case rel => exact ⟨i + 1, by go_num, by omega, Lib.hid (by rw [HY.out]; exact HO.out), HL⟩
        case measure => simp [intOf]; omega
      | false =>
        rw [hq] at e0
        obtain ⟨v', w', RR, HO2, hb5⟩ := append_peer (B := w2.heap.size) HO.out x hlen HL.out.size
        have R1 := Lib.hid RR
        have HO3 : Hid (OwnP w2.heap.size w' v' (thoseR L (restR (i + 1) S))) := Lib.hid (by rw [those_no hq, ← HX.out]; exact HO2)
        have HL3 : Hid (Lows w2 w') := Lib.hid (HL.out.trans hb5)
        clear RR HO2 hb5 HO HL hq HX
        go_wp2_with (first
          | (at_builtin; refine wpList_append_run rfl (.tmp 29) (.tmp 34) _ _ rfl rfl _ _ _ _ rfl rfl R1.out ?_)
          | fail)
        go_roundw
        case rel => exact ⟨i + 1, by go_num, by omega, HO3, HL3⟩
        case measure => simp [intOf]; omega
    · have hliz : ¬ (i : Int) < (L.length : Int) := by omega
      have HR := Lib.hid (ownP_peers HO.out)
      have HE : Hid (L.length = i) := Lib.hid (by omega)
      clear HO
      go_wp2_with fail
      go_ret
      exact ⟨_, rfl, by rw [E.out, HE.out]; exact HR.out, low_trans L2.out HL.out⟩
set_option maxHeartbeats 8000000 in
theorem rchoose_any (v : Value) (l : List Pr) (q : Qt) (s : Nat) (w : World) (h : Peers w v l) (hok : ∀ x ∈ l, x.ok) (hl : l.length ≤ 900000) (hs : s < 18446744073709551616) :
    Calls Try.prog 8 #[v, .agg #[.int .i64 q.g, .int .i64 q.p, .int .i64 q.w, .int .i64 q.t], .int .u64 (s : Nat)] w fun e w' => e = .returned (.tuple #[.agg #[.bool (exitR (candR l q s)).a.v6, .int .u64 (exitR (candR l q s)).a.hi, .int .u64 (exitR (candR l q s)).a.lo, .int .i64 (exitR (candR l q s)).n], .bool (decide (0 < (candR l q s).length))]) ∧ Below w.heap.size w w' := by
  have L0 : Hid (Lows w ((w.alloc (.cells #[.int .i64 q.g, .int .i64 q.p, .int .i64 q.w, .int .i64 q.t] 24)).alloc (.cells #[.bool false, .int .u64 0, .int .u64 0, .int .i64 0] 30))) := Lib.hid (Lows.alloc (Lows.alloc (Lows.self w) _) _)
  have OQ := Lib.hid ((Blk.new w #[.int .i64 q.g, .int .i64 q.p, .int .i64 q.w, .int .i64 q.t] 24).alloc (.cells #[.bool false, .int .u64 0, .int .u64 0, .int .i64 0] 30))
  have OE := Lib.hid (Blk.two w (.cells #[.int .i64 q.g, .int .i64 q.p, .int .i64 q.w, .int .i64 q.t] 24) #[.bool false, .int .u64 0, .int .u64 0, .int .i64 0] 30)
  have KI := Lib.hid (rcandidates_any v l q s ((w.alloc (.cells #[.int .i64 q.g, .int .i64 q.p, .int .i64 q.w, .int .i64 q.t] 24)).alloc (.cells #[.bool false, .int .u64 0, .int .u64 0, .int .i64 0] 30)) (h.below L0.out) hok hl hs)
  have KP : Hid (∀ W u, Peers W u (candR l q s) → Calls Try.prog 19 #[u] W fun e w' => e = .returned (.int .i64 (pickR (candR l q s))) ∧ Below W.heap.size W w') := Lib.hid fun W u hu => rpick_any u (candR l q s) W hu (cand_ok hok q s) (Nat.le_trans (cand_le l q s) (by omega))
  have hn : (candR l q s).length ≤ 900000 := Nat.le_trans (cand_le l q s) hl
  have q0 := OQ.out.cell (j := 0) rfl
  have q1 := OQ.out.cell (j := 1) rfl
  have q2 := OQ.out.cell (j := 2) rfl
  have q3 := OQ.out.cell (j := 3) rfl
  generalize candR l q s = C at *
  obtain ⟨g, hg⟩ : ∃ g : Bool, g = decide (0 < C.length) := ⟨_, rfl⟩
  obtain ⟨E, hE⟩ : ∃ E, E = exitR C := ⟨_, rfl⟩
  rw [← hg, ← hE]
  have HG := Lib.hid hg
  have HEE := Lib.hid hE
  clear h hok hs hl OQ hg hE
  go_enter Try.func8, Try.ntmps8
  go_wp2_with fail
  refine KI.out.mono ?_; rintro e9 w1 ⟨u, rfl, hU, hb1⟩
  have L1 := Lib.hid (low_trans L0.out hb1)
  have OE1 := OE.out.on hb1
  have KF := Lib.hid (KP.out w1 u hU)
  have HU := Lib.hid hU
  have OE1 := Lib.hid OE1
  clear hb1 hU KI KP q0 q1 q2 q3 OE
  go_wp2_with fail
  refine KF.out.mono ?_; rintro e9 w2 ⟨rfl, hb2⟩
  have L2 := Lib.hid (low_trans L1.out hb2)
  have hU := HU.out.below hb2
  have own2 := OE1.out.on hb2
  have s0 := own2.cell (j := 0) rfl
  have f0 := own2.free 0
  have s1 := own2.cell (j := 1) rfl
  have f1 := own2.free 1
  have s2 := own2.cell (j := 2) rfl
  have f2 := own2.free 2
  have s3 := own2.cell (j := 3) rfl
  have f3 := own2.free 3
  clear hb2 KF HU own2 OE1
  by_cases h0 : C.length = 0
  · have hp : pickR C = -1 := by unfold pickR; rw [if_pos h0]
    have hd : g = false := by rw [HG.out]; exact decide_eq_false (by omega)
    have he : E = zeroE := by rw [HEE.out]; unfold exitR; rw [if_pos h0]
    rw [hp]
    clear hp h0 hU hn HG HEE
    subst hd he
    go_wp2_with fail
    exact bodyPost_ret (v := .tuple #[.agg #[.bool false, .int .u64 0, .int .u64 0, .int .i64 0], .bool false]) (by simp [results, Try.results8, go_sem, s0, s1, s2, s3]) rfl ⟨rfl, by repeat (first | (with_reducible exact L2.out) | (with_reducible refine Below.setCell ?_ (by first | exact Nat.le_refl _ | exact Nat.le_succ _ | (simp; done) | (simp; omega)) _) | (refine low_drewN ?_ 1))⟩
  · have hm : bestR C (C.length - 1) < C.length := best_at (by omega)
    have hp : pickR C = (bestR C (C.length - 1) : Int) := by unfold pickR; rw [if_neg h0]
    have hd : g = true := by rw [HG.out]; exact decide_eq_true (by omega)
    have he : E = (C[bestR C (C.length - 1)]!).e := by rw [HEE.out]; unfold exitR; rw [if_neg h0]
    rw [hp]
    clear hp HG HEE
    generalize bestR C (C.length - 1) = m at *
    obtain ⟨A, c, rfl, hc, _, hcell⟩ := hU
    obtain ⟨bb, o, rfl, hb, hcc⟩ := hcell (by omega)
    obtain ⟨x, hx⟩ : ∃ x, x = C[m]! := ⟨_, rfl⟩
    have c0 : w2.cell? ⟨bb, o + m * 10, none⟩ = some (.bool x.e.a.v6) := peer_at (Below.refl _ _) hb hcc hm (j := 0) (by rw [← hx]; rfl)
    have c1 : w2.cell? ⟨bb, o + m * 10 + 1, none⟩ = some (.int .u64 x.e.a.hi) := peer_at (Below.refl _ _) hb hcc hm (j := 1) (by rw [← hx]; rfl)
    have c2 : w2.cell? ⟨bb, o + m * 10 + 2, none⟩ = some (.int .u64 x.e.a.lo) := peer_at (Below.refl _ _) hb hcc hm (j := 2) (by rw [← hx]; rfl)
    have c3 : w2.cell? ⟨bb, o + m * 10 + 3, none⟩ = some (.int .i64 x.e.n) := peer_at (Below.refl _ _) hb hcc hm (j := 3) (by rw [← hx]; rfl)
    rw [← hx] at he
    subst hd he
    have hmz : (m : Int) < (C.length : Int) := by omega
    have hmn : ¬ (m : Int) < 0 := by omega
    have hmb : (m : Int) ≤ 9223372036854775807 := by omega
    clear hcell hcc hb hx h0
    go_wp2_with fail
    exact bodyPost_ret (v := .tuple #[.agg #[.bool x.e.a.v6, .int .u64 x.e.a.hi, .int .u64 x.e.a.lo, .int .i64 x.e.n], .bool true]) (by simp [results, Try.results8, go_sem, s0, s1, s2, s3]) rfl ⟨rfl, by repeat (first | (with_reducible exact L2.out) | (with_reducible refine Below.setCell ?_ (by first | exact Nat.le_refl _ | exact Nat.le_succ _ | (simp; done) | (simp; omega)) _) | (refine low_drewN ?_ 1))⟩
set_option maxHeartbeats 4000000 in
theorem samePeers_any (u1 u2 : Value) (L : List Pr) (w : World) (h1 : Peers w u1 L) (h2 : Peers w u2 L) (hl : L.length ≤ 1000000) :
    Calls Try.prog 9 #[u1, u2] w fun e w' => e = .returned (.bool true) ∧ Below w.heap.size w w' := by
  obtain ⟨A1, c1, rfl, hc1, _, hcell1⟩ := h1
  obtain ⟨A2, c2, rfl, hc2, _, hcell2⟩ := h2
  have HC1 := Lib.hid hcell1
  have HC2 := Lib.hid hcell2
  have z0 : ((L.length : Int) != (L.length : Int)) = false := by simp
  clear hcell1 hcell2
  go_enter Try.func9, Try.ntmps9
  go_wp2_with fail
  go_loopw [5] (fun vi wr => ∃ i : Nat, vi = .int .i64 i ∧ i ≤ L.length ∧ Hid (Lows w wr)) (fun vi _ => L.length - (intOf vi).toNat)
  case atStart => exact ⟨0, rfl, Nat.zero_le _, Lib.hid (Lows.self _)⟩
  case round =>
    obtain ⟨i, rfl, hi, HL⟩ := hrel
    by_cases hli : i < L.length
    · have hliz : (i : Int) < (L.length : Int) := by omega
      obtain ⟨b1, o1, rfl, hb1, hcc1⟩ := HC1.out (by omega)
      obtain ⟨b2, o2, rfl, hb2, hcc2⟩ := HC2.out (by omega)
      obtain ⟨x, hx⟩ : ∃ x, x = L[i]! := ⟨_, rfl⟩
      have NQ := fun W => neqPeer_self x W
      have hne : Nonempty (Cls (Lows wr)) := ⟨⟨_, Lows.self _⟩⟩
      have f0 : ∀ nq : Cls (Lows wr), nq.w.cell? ⟨b1, o1 + i * 10, none⟩ = some (.bool x.e.a.v6) := fun nq => by rw [hx]; exact peer_at (low_trans'' HL.out nq.h) hb1 hcc1 hli (j := 0) rfl
      have f1 : ∀ nq : Cls (Lows wr), nq.w.cell? ⟨b1, o1 + i * 10 + 1, none⟩ = some (.int .u64 x.e.a.hi) := fun nq => by rw [hx]; exact peer_at (low_trans'' HL.out nq.h) hb1 hcc1 hli (j := 1) rfl
      have f2 : ∀ nq : Cls (Lows wr), nq.w.cell? ⟨b1, o1 + i * 10 + 2, none⟩ = some (.int .u64 x.e.a.lo) := fun nq => by rw [hx]; exact peer_at (low_trans'' HL.out nq.h) hb1 hcc1 hli (j := 2) rfl
      have f3 : ∀ nq : Cls (Lows wr), nq.w.cell? ⟨b1, o1 + i * 10 + 3, none⟩ = some (.int .i64 x.e.n) := fun nq => by rw [hx]; exact peer_at (low_trans'' HL.out nq.h) hb1 hcc1 hli (j := 3) rfl
      have f4 : ∀ nq : Cls (Lows wr), nq.w.cell? ⟨b1, o1 + i * 10 + 4, none⟩ = some (.bool x.i) := fun nq => by rw [hx]; exact peer_at (low_trans'' HL.out nq.h) hb1 hcc1 hli (j := 4) rfl
      have f5 : ∀ nq : Cls (Lows wr), nq.w.cell? ⟨b1, o1 + i * 10 + 5, none⟩ = some (.int .i64 x.t) := fun nq => by rw [hx]; exact peer_at (low_trans'' HL.out nq.h) hb1 hcc1 hli (j := 5) rfl
      have f6 : ∀ nq : Cls (Lows wr), nq.w.cell? ⟨b1, o1 + i * 10 + 6, none⟩ = some (.int .i64 x.c.p) := fun nq => by rw [hx]; exact peer_at (low_trans'' HL.out nq.h) hb1 hcc1 hli (j := 6) rfl
      have f7 : ∀ nq : Cls (Lows wr), nq.w.cell? ⟨b1, o1 + i * 10 + 7, none⟩ = some (.int .i64 x.c.a) := fun nq => by rw [hx]; exact peer_at (low_trans'' HL.out nq.h) hb1 hcc1 hli (j := 7) rfl
      have f8 : ∀ nq : Cls (Lows wr), nq.w.cell? ⟨b1, o1 + i * 10 + 8, none⟩ = some (.int .i64 x.g) := fun nq => by rw [hx]; exact peer_at (low_trans'' HL.out nq.h) hb1 hcc1 hli (j := 8) rfl
      have f9 : ∀ nq : Cls (Lows wr), nq.w.cell? ⟨b1, o1 + i * 10 + 9, none⟩ = some (.int .i64 x.k) := fun nq => by rw [hx]; exact peer_at (low_trans'' HL.out nq.h) hb1 hcc1 hli (j := 9) rfl
      have g0 : ∀ nq : Cls (Lows wr), nq.w.cell? ⟨b2, o2 + i * 10, none⟩ = some (.bool x.e.a.v6) := fun nq => by rw [hx]; exact peer_at (low_trans'' HL.out nq.h) hb2 hcc2 hli (j := 0) rfl
      have g1 : ∀ nq : Cls (Lows wr), nq.w.cell? ⟨b2, o2 + i * 10 + 1, none⟩ = some (.int .u64 x.e.a.hi) := fun nq => by rw [hx]; exact peer_at (low_trans'' HL.out nq.h) hb2 hcc2 hli (j := 1) rfl
      have g2 : ∀ nq : Cls (Lows wr), nq.w.cell? ⟨b2, o2 + i * 10 + 2, none⟩ = some (.int .u64 x.e.a.lo) := fun nq => by rw [hx]; exact peer_at (low_trans'' HL.out nq.h) hb2 hcc2 hli (j := 2) rfl
      have g3 : ∀ nq : Cls (Lows wr), nq.w.cell? ⟨b2, o2 + i * 10 + 3, none⟩ = some (.int .i64 x.e.n) := fun nq => by rw [hx]; exact peer_at (low_trans'' HL.out nq.h) hb2 hcc2 hli (j := 3) rfl
      have g4 : ∀ nq : Cls (Lows wr), nq.w.cell? ⟨b2, o2 + i * 10 + 4, none⟩ = some (.bool x.i) := fun nq => by rw [hx]; exact peer_at (low_trans'' HL.out nq.h) hb2 hcc2 hli (j := 4) rfl
      have g5 : ∀ nq : Cls (Lows wr), nq.w.cell? ⟨b2, o2 + i * 10 + 5, none⟩ = some (.int .i64 x.t) := fun nq => by rw [hx]; exact peer_at (low_trans'' HL.out nq.h) hb2 hcc2 hli (j := 5) rfl
      have g6 : ∀ nq : Cls (Lows wr), nq.w.cell? ⟨b2, o2 + i * 10 + 6, none⟩ = some (.int .i64 x.c.p) := fun nq => by rw [hx]; exact peer_at (low_trans'' HL.out nq.h) hb2 hcc2 hli (j := 6) rfl
      have g7 : ∀ nq : Cls (Lows wr), nq.w.cell? ⟨b2, o2 + i * 10 + 7, none⟩ = some (.int .i64 x.c.a) := fun nq => by rw [hx]; exact peer_at (low_trans'' HL.out nq.h) hb2 hcc2 hli (j := 7) rfl
      have g8 : ∀ nq : Cls (Lows wr), nq.w.cell? ⟨b2, o2 + i * 10 + 8, none⟩ = some (.int .i64 x.g) := fun nq => by rw [hx]; exact peer_at (low_trans'' HL.out nq.h) hb2 hcc2 hli (j := 8) rfl
      have g9 : ∀ nq : Cls (Lows wr), nq.w.cell? ⟨b2, o2 + i * 10 + 9, none⟩ = some (.int .i64 x.k) := fun nq => by rw [hx]; exact peer_at (low_trans'' HL.out nq.h) hb2 hcc2 hli (j := 9) rfl
      clear hx hcc1 hcc2 hb1 hb2
      go_wp2_with fail
      refine Cls.region (Lows wr) (by kernel_rfl) (by kernel_rfl) (low_drewN (Below.refl _ _) 1) ?_
      (try dsimp only [List.append])
      repeat (go_big_quiet_step (first | fail))
      refine wpQuiet_nil ?_
      intro n9
      have hk9 := n9.h
      generalize n9.w = w9 at hk9 ⊢
      clear hne n9 NQ f0 f1 f2 f3 f4 f5 f6 f7 f8 f9 g0 g1 g2 g3 g4 g5 g6 g7 g8 g9
      go_wp2_with fail
      go_roundw
      case rel => exact ⟨i + 1, by go_num, by omega, Lib.hid (low_trans HL.out hk9)⟩
      case measure => simp [intOf]; omega
    · have hliz : ¬ (i : Int) < (L.length : Int) := by omega
      go_wp2_with fail
      go_ret
      exact ⟨rfl, HL.out⟩
end Go.Proofs.Ytklmlgoeiaigkaa.Ev
