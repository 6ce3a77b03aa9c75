/- Contracts of package evict: who came, of whom one would go, who goes. -/
import Derived.Test.YtklmlgoeiaigkaaEvMath
import Derived.Test.YtklmlgoeiaigkaaShieldAll
namespace Go.Proofs.Ytklmlgoeiaigkaa.Ev
set_option maxRecDepth 100000
open Go.ChangeShapes Go.WideShapes Go.ChangeAt Go.RowKit
open Dec Words V4 V6 Ad Ci En Sat Ha Pe Stb Gr Mi Ra Sh Cw Go.Deep
set_option linter.unusedVariables false
theorem append_peer {B : Nat} {W : World} {v : Value} {xs : List Pr} (hown : OwnP B W v xs) (y : Pr) (hlen : xs.length ≤ 900000) (hB : B ≤ W.heap.size) :
    ∃ v' w', (Builtin.append_ #[22, 22] 22 #[v, .slice (some ⟨W.heap.size, 0, none⟩) 1 1]).run Try.prog (W.alloc (.cells #[.bool y.e.a.v6, .int .u64 y.e.a.hi, .int .u64 y.e.a.lo, .int .i64 y.e.n, .bool y.i, .int .i64 y.t, .int .i64 y.c.p, .int .i64 y.c.a, .int .i64 y.g, .int .i64 y.k] 43)) = .ok v' w' ∧ OwnP B w' v' (xs ++ [y]) ∧ Below B W w' := by
  obtain ⟨v', w', h1, h2, h3⟩ := append_peers (B := B) (hown.alloc (.cells #[.bool y.e.a.v6, .int .u64 y.e.a.hi, .int .u64 y.e.a.lo, .int .i64 y.e.n, .bool y.i, .int .i64 y.t, .int .i64 y.c.p, .int .i64 y.c.a, .int .i64 y.g, .int .i64 y.k] 43)) (Recs.lit encP_len W [y] #[.bool y.e.a.v6, .int .u64 y.e.a.hi, .int .u64 y.e.a.lo, .int .i64 y.e.n, .bool y.i, .int .i64 y.t, .int .i64 y.c.p, .int .i64 y.c.a, .int .i64 y.g, .int .i64 y.k] 43 (by rw [flat_one]; rfl)) (by simp; omega) (Nat.le_trans hB (by simp))
  exact ⟨v', w', h1, h2, ((Below.refl B W).alloc hB _).trans h3⟩
theorem ownP_peers {B : Nat} {w : World} {v : Value} {l : List Pr} (h : OwnP B w v l) : Peers w v l := (recs_own encP_len (by decide) h).1
set_option maxHeartbeats 8000000 in
theorem inbound_any (v : Value) (l : List Pr) (w : World) (h : Peers w v l) (hl : l.length ≤ 900000) :
    Calls Try.prog 20 #[v] w fun e w' => ∃ u, e = .returned u ∧ Peers w' u (cameR l) ∧ Below w.heap.size w w' := by
  obtain ⟨A, c, rfl, hc, _, hcell⟩ := h
  have HC := Lib.hid hcell
  clear hcell hc
  go_enter Try.func20, Try.ntmps20
  go_wp2_with fail
  go_loopw [3, 8] (fun vr vi wr => ∃ (i : Nat), vi = .int .i64 i ∧ i ≤ l.length ∧ Hid (OwnP w.heap.size wr vr (cameR (l.take i))) ∧ Hid (Below w.heap.size w wr)) (fun _ vi _ => l.length - (intOf vi).toNat)
  case atStart => exact ⟨0, rfl, Nat.zero_le _, Lib.hid ⟨rfl, Or.inl ⟨rfl, rfl⟩⟩, Lib.hid (Below.refl _ _)⟩
  case round =>
    obtain ⟨i, rfl, hi, HO, HL⟩ := hrel
    by_cases hli : i < l.length
    · have hliz : (i : Int) < (l.length : Int) := by omega
      obtain ⟨bb, o, rfl, hb, hcc⟩ := HC.out (by omega)
      obtain ⟨x, hx⟩ : ∃ x, x = l[i]! := ⟨_, rfl⟩
      have c0 : wr.cell? ⟨bb, o + i * 10, none⟩ = some (.bool x.e.a.v6) := peer_at HL.out hb hcc hli (j := 0) (by rw [← hx]; rfl)
      have c1 : wr.cell? ⟨bb, o + i * 10 + 1, none⟩ = some (.int .u64 x.e.a.hi) := peer_at HL.out hb hcc hli (j := 1) (by rw [← hx]; rfl)
      have c2 : wr.cell? ⟨bb, o + i * 10 + 2, none⟩ = some (.int .u64 x.e.a.lo) := peer_at HL.out hb hcc hli (j := 2) (by rw [← hx]; rfl)
      have c3 : wr.cell? ⟨bb, o + i * 10 + 3, none⟩ = some (.int .i64 x.e.n) := peer_at HL.out hb hcc hli (j := 3) (by rw [← hx]; rfl)
      have c4 : wr.cell? ⟨bb, o + i * 10 + 4, none⟩ = some (.bool x.i) := peer_at HL.out hb hcc hli (j := 4) (by rw [← hx]; rfl)
      have c5 : wr.cell? ⟨bb, o + i * 10 + 5, none⟩ = some (.int .i64 x.t) := peer_at HL.out hb hcc hli (j := 5) (by rw [← hx]; rfl)
      have c6 : wr.cell? ⟨bb, o + i * 10 + 6, none⟩ = some (.int .i64 x.c.p) := peer_at HL.out hb hcc hli (j := 6) (by rw [← hx]; rfl)
      have c7 : wr.cell? ⟨bb, o + i * 10 + 7, none⟩ = some (.int .i64 x.c.a) := peer_at HL.out hb hcc hli (j := 7) (by rw [← hx]; rfl)
      have c8 : wr.cell? ⟨bb, o + i * 10 + 8, none⟩ = some (.int .i64 x.g) := peer_at HL.out hb hcc hli (j := 8) (by rw [← hx]; rfl)
      have c9 : wr.cell? ⟨bb, o + i * 10 + 9, none⟩ = some (.int .i64 x.k) := peer_at HL.out hb hcc hli (j := 9) (by rw [← hx]; rfl)
      have hlen : (cameR (l.take i)).length ≤ 900000 := by have := came_take l i; omega
      have HX := Lib.hid hx
      clear hcc hb hx
      cases hq : x.i with
      | false =>
        rw [hq] at c4
        have HY : Hid (cameR (l.take (i + 1)) = cameR (l.take i)) := Lib.hid (came_no hli (by rw [← HX.out]; exact hq))
        clear hq HX
        go_wp2_with fail
        go_roundw
        case rel => exact ⟨i + 1, by go_num, by omega, Lib.hid (by rw [HY.out]; exact HO.out.alloc _), Lib.hid (Lows.alloc HL.out _)⟩
        case measure => simp [intOf]; omega
      | true =>
        obtain ⟨v', w', RR, HO2, hb5⟩ := append_peer (B := w.heap.size) (HO.out.alloc (.cells #[.bool x.e.a.v6, .int .u64 x.e.a.hi, .int .u64 x.e.a.lo, .int .i64 x.e.n, .bool x.i, .int .i64 x.t, .int .i64 x.c.p, .int .i64 x.c.a, .int .i64 x.g, .int .i64 x.k] 43)) x hlen (Nat.le_trans HL.out.size (by simp))
        rw [show (wr.alloc (.cells #[.bool x.e.a.v6, .int .u64 x.e.a.hi, .int .u64 x.e.a.lo, .int .i64 x.e.n, .bool x.i, .int .i64 x.t, .int .i64 x.c.p, .int .i64 x.c.a, .int .i64 x.g, .int .i64 x.k] 43)).heap.size = wr.heap.size + 1 by simp, hq] at RR
        have R1 := Lib.hid RR
        have HO3 : Hid (OwnP w.heap.size w' v' (cameR (l.take (i + 1)))) := Lib.hid (by rw [came_yes hli (by rw [← HX.out]; exact hq), ← HX.out]; exact HO2)
        have HL3 : Hid (Below w.heap.size w w') := Lib.hid ((Lows.alloc HL.out _).trans hb5)
        rw [hq] at c4
        clear RR HO2 hb5 HO HL hq HX
        go_wp2_with (first
          | (at_builtin; refine wpList_append_run rfl (.tmp 14) (.tmp 16) _ _ rfl rfl _ _ _ _ rfl rfl R1.out ?_)
          | fail)
        go_roundw
        case rel => exact ⟨i + 1, by go_num, by omega, HO3, HL3⟩
        case measure => simp [intOf]; omega
    · have hliz : ¬ (i : Int) < (l.length : Int) := by omega
      have HR := Lib.hid (ownP_peers HO.out)
      have HE : Hid (cameR (l.take i) = cameR l) := Lib.hid (came_done (by omega))
      clear HO
      go_wp2_with fail
      go_ret
      exact ⟨_, rfl, by rw [← HE.out]; exact HR.out, HL.out⟩
set_option maxHeartbeats 8000000 in
theorem candidates_any (v : Value) (l : List Pr) (q : Qt) (s : Nat) (w : World) (h : Peers w v l) (hok : ∀ x ∈ l, x.ok) (hl : l.length ≤ 900000) (hs : s < 18446744073709551616) :
    Calls Try.prog 10 #[v, .agg #[.int .i64 q.g, .int .i64 q.p, .int .i64 q.w, .int .i64 q.t], .int .u64 (s : Nat)] w fun e w' => ∃ u, e = .returned u ∧ Peers w' u (candR l q s) ∧ Below w.heap.size w w' := by
  have L0 : Hid (Lows w (w.alloc (.cells #[.int .i64 q.g, .int .i64 q.p, .int .i64 q.w, .int .i64 q.t] 24))) := Lib.hid (Lows.alloc (Lows.self w) _)
  have OQ := Lib.hid (Blk.new w #[.int .i64 q.g, .int .i64 q.p, .int .i64 q.w, .int .i64 q.t] 24)
  have KI := Lib.hid (inbound_any v l (w.alloc (.cells #[.int .i64 q.g, .int .i64 q.p, .int .i64 q.w, .int .i64 q.t] 24)) (h.below L0.out) hl)
  have E : Hid (candR l q s = thoseR (cameR l) (leftR (cameR l) q s)) := Lib.hid rfl
  have KL : Hid (∀ W u, Peers W u (cameR l) → Calls Try.prog 21 #[u, .agg #[.int .i64 q.g, .int .i64 q.p, .int .i64 q.w, .int .i64 q.t], .int .u64 (s : Nat)] W fun e w' => ∃ u, e = .returned u ∧ NumsI w' u (leftR (cameR l) q s) ∧ Below W.heap.size W w') := Lib.hid fun W u hu => sleft_any u (cameR l) q s W hu (came_ok hok) (Nat.le_trans (came_le l) (by omega)) hs
  have HRL : Hid (∀ i ∈ leftR (cameR l) q s, i < (cameR l).length) := Lib.hid fun i hi => left_lt hi
  have hn : (cameR l).length ≤ 900000 := Nat.le_trans (came_le l) hl
  have hm : (leftR (cameR l) q s).length ≤ 900000 := Nat.le_trans (left_le _ _ _) hn
  generalize leftR (cameR l) q s = R at *
  generalize cameR l = L at *
  clear h hok hs hl
  go_enter Try.func10, Try.ntmps10
  go_wp2_with fail
  refine KI.out.mono ?_; rintro e9 w1 ⟨u, rfl, hU, hb1⟩
  have L1 := Lib.hid (low_trans L0.out hb1)
  have OQ1 := OQ.out.on hb1
  have q0 := OQ1.cell (j := 0) rfl
  have q1 := OQ1.cell (j := 1) rfl
  have q2 := OQ1.cell (j := 2) rfl
  have q3 := OQ1.cell (j := 3) rfl
  have KF := Lib.hid (KL.out w1 u hU)
  have HU := Lib.hid hU
  clear hb1 hU KI KL OQ OQ1
  go_wp2_with fail
  refine KF.out.mono ?_; rintro e9 w2 ⟨u2, rfl, hN, hb2⟩
  have L2 := Lib.hid (low_trans L1.out hb2)
  have hU := HU.out.below hb2
  clear hb2 KF HU q0 q1 q2 q3
  obtain ⟨A, c, rfl, hc, _, hcell⟩ := hU
  obtain ⟨A2, c2, rfl, hc2, _, hcell2⟩ := hN
  have HC := Lib.hid hcell
  have HC2 := Lib.hid hcell2
  obtain ⟨k, hk⟩ : ∃ k, k = R.length := ⟨_, rfl⟩
  rw [← hk] at hm ⊢
  have HK := Lib.hid hk
  have R1 := Lib.hid (make_peers w2 k (by omega))
  have B0 : Hid (Blk (w2.alloc (.cells (madeCells (Value.cells (.agg #[.bool false, .int .u64 0, .int .u64 0, .int .i64 0, .bool false, .int .i64 0, .int .i64 0, .int .i64 0, .int .i64 0, .int .i64 0])) (k * 10)) 43)) w2.heap.size 43 (flat encP (ls k (inP L R 0)))) := Lib.hid (by
    have h := Blk.new w2 (madeCells (Value.cells (.agg #[.bool false, .int .u64 0, .int .u64 0, .int .i64 0, .bool false, .int .i64 0, .int .i64 0, .int .i64 0, .int .i64 0, .int .i64 0])) (k * 10)) 43
    rw [made_peers] at h
    exact h)
  have L3 : Hid (Lows w2 (w2.alloc (.cells (madeCells (Value.cells (.agg #[.bool false, .int .u64 0, .int .u64 0, .int .i64 0, .bool false, .int .i64 0, .int .i64 0, .int .i64 0, .int .i64 0, .int .i64 0])) (k * 10)) 43))) := Lib.hid (Lows.alloc (Lows.self w2) _)
  generalize w2.alloc (.cells (madeCells (Value.cells (.agg #[.bool false, .int .u64 0, .int .u64 0, .int .i64 0, .bool false, .int .i64 0, .int .i64 0, .int .i64 0, .int .i64 0, .int .i64 0])) (k * 10)) 43) = W4 at R1 B0 L3
  clear hcell hcell2 hk hc2 hc
  go_wp2_with (first
    | (at_make; refine wpList_make_run rfl _ _ _ rfl _ _ _ _ rfl rfl R1.out ?_)
    | fail)
  go_loopw [23] (fun vi wr => ∃ j : Nat, vi = .int .i64 j ∧ j ≤ k ∧ Hid (Blk wr w2.heap.size 43 (flat encP (ls k (inP L R j)))) ∧ Hid (Lows w2 wr)) (fun vi _ => k - (intOf vi).toNat)
  case atStart => exact ⟨0, rfl, Nat.zero_le _, B0, L3⟩
  case round =>
    obtain ⟨j, rfl, hj, HB, HL⟩ := hrel
    clear B0 L3 R1
    by_cases hlj : j < k
    · have hljz : (j : Int) < (k : Int) := by omega
      obtain ⟨b2, o2, rfl, hb2, hcc2⟩ := HC2.out (by have := HK.out; omega)
      have e1 := num_at hb2 hcc2 (i := j) (by have := HK.out; omega) (fun p hp => HL.out.cell (p := p) (by omega))
      have hrl : R[j]! < L.length := by
        have hj2 : j < R.length := by have := HK.out; omega
        rw [getElem!_pos R j hj2]; exact HRL.out _ (List.getElem_mem _)
      obtain ⟨r, hr⟩ : ∃ r, r = R[j]! := ⟨_, rfl⟩
      rw [← hr] at e1 hrl
      have HRJ := Lib.hid hr
      clear hr hcc2 hb2
      have hrz : (r : Int) < (L.length : Int) := by omega
      have hrb : (r : Int) ≤ 9223372036854775807 := by omega
      obtain ⟨bb, o, rfl, hb, hcc⟩ := HC.out (by omega)
      obtain ⟨x, hx⟩ : ∃ x, x = L[r]! := ⟨_, rfl⟩
      have hlow := HL.out
      have c0 : wr.cell? ⟨bb, o + r * 10, none⟩ = some (.bool x.e.a.v6) := peer_at hlow hb hcc hrl (j := 0) (by rw [← hx]; rfl)
      have c1 : wr.cell? ⟨bb, o + r * 10 + 1, none⟩ = some (.int .u64 x.e.a.hi) := peer_at hlow hb hcc hrl (j := 1) (by rw [← hx]; rfl)
      have c2 : wr.cell? ⟨bb, o + r * 10 + 2, none⟩ = some (.int .u64 x.e.a.lo) := peer_at hlow hb hcc hrl (j := 2) (by rw [← hx]; rfl)
      have c3 : wr.cell? ⟨bb, o + r * 10 + 3, none⟩ = some (.int .i64 x.e.n) := peer_at hlow hb hcc hrl (j := 3) (by rw [← hx]; rfl)
      have c4 : wr.cell? ⟨bb, o + r * 10 + 4, none⟩ = some (.bool x.i) := peer_at hlow hb hcc hrl (j := 4) (by rw [← hx]; rfl)
      have c5 : wr.cell? ⟨bb, o + r * 10 + 5, none⟩ = some (.int .i64 x.t) := peer_at hlow hb hcc hrl (j := 5) (by rw [← hx]; rfl)
      have c6 : wr.cell? ⟨bb, o + r * 10 + 6, none⟩ = some (.int .i64 x.c.p) := peer_at hlow hb hcc hrl (j := 6) (by rw [← hx]; rfl)
      have c7 : wr.cell? ⟨bb, o + r * 10 + 7, none⟩ = some (.int .i64 x.c.a) := peer_at hlow hb hcc hrl (j := 7) (by rw [← hx]; rfl)
      have c8 : wr.cell? ⟨bb, o + r * 10 + 8, none⟩ = some (.int .i64 x.g) := peer_at hlow hb hcc hrl (j := 8) (by rw [← hx]; rfl)
      have c9 : wr.cell? ⟨bb, o + r * 10 + 9, none⟩ = some (.int .i64 x.k) := peer_at hlow hb hcc hrl (j := 9) (by rw [← hx]; rfl)
      have HX := Lib.hid hx
      clear hx hcc hlow
      have d0 := HB.out.cell (j := j * 10 + 0) (by rw [flat_at encP_len _ j 0 (by rw [ls_length]; exact hlj) (by decide), ls_get]; unfold inP; rw [if_neg (Nat.lt_irrefl _)]; rfl)
      have df0 := HB.out.free (j * 10)
      have d1 := HB.out.cell (j := j * 10 + 1) (by rw [flat_at encP_len _ j 1 (by rw [ls_length]; exact hlj) (by decide), ls_get]; unfold inP; rw [if_neg (Nat.lt_irrefl _)]; rfl)
      have df1 := HB.out.free (j * 10 + 1)
      have d2 := HB.out.cell (j := j * 10 + 2) (by rw [flat_at encP_len _ j 2 (by rw [ls_length]; exact hlj) (by decide), ls_get]; unfold inP; rw [if_neg (Nat.lt_irrefl _)]; rfl)
      have df2 := HB.out.free (j * 10 + 2)
      have d3 := HB.out.cell (j := j * 10 + 3) (by rw [flat_at encP_len _ j 3 (by rw [ls_length]; exact hlj) (by decide), ls_get]; unfold inP; rw [if_neg (Nat.lt_irrefl _)]; rfl)
      have df3 := HB.out.free (j * 10 + 3)
      have d4 := HB.out.cell (j := j * 10 + 4) (by rw [flat_at encP_len _ j 4 (by rw [ls_length]; exact hlj) (by decide), ls_get]; unfold inP; rw [if_neg (Nat.lt_irrefl _)]; rfl)
      have df4 := HB.out.free (j * 10 + 4)
      have d5 := HB.out.cell (j := j * 10 + 5) (by rw [flat_at encP_len _ j 5 (by rw [ls_length]; exact hlj) (by decide), ls_get]; unfold inP; rw [if_neg (Nat.lt_irrefl _)]; rfl)
      have df5 := HB.out.free (j * 10 + 5)
      have d6 := HB.out.cell (j := j * 10 + 6) (by rw [flat_at encP_len _ j 6 (by rw [ls_length]; exact hlj) (by decide), ls_get]; unfold inP; rw [if_neg (Nat.lt_irrefl _)]; rfl)
      have df6 := HB.out.free (j * 10 + 6)
      have d7 := HB.out.cell (j := j * 10 + 7) (by rw [flat_at encP_len _ j 7 (by rw [ls_length]; exact hlj) (by decide), ls_get]; unfold inP; rw [if_neg (Nat.lt_irrefl _)]; rfl)
      have df7 := HB.out.free (j * 10 + 7)
      have d8 := HB.out.cell (j := j * 10 + 8) (by rw [flat_at encP_len _ j 8 (by rw [ls_length]; exact hlj) (by decide), ls_get]; unfold inP; rw [if_neg (Nat.lt_irrefl _)]; rfl)
      have df8 := HB.out.free (j * 10 + 8)
      have d9 := HB.out.cell (j := j * 10 + 9) (by rw [flat_at encP_len _ j 9 (by rw [ls_length]; exact hlj) (by decide), ls_get]; unfold inP; rw [if_neg (Nat.lt_irrefl _)]; rfl)
      have df9 := HB.out.free (j * 10 + 9)
      rw [Nat.add_zero] at d0
      have HN := Lib.hid (put_peer HB.out (i := j) (by rw [ls_length]; exact hlj) x)
      have HE : Hid ((ls k (inP L R j)).set j x = ls k (inP L R (j + 1))) := Lib.hid (by rw [HX.out, HRJ.out]; exact inP_next L R k j hlj)
      go_wp2_with fail
      go_roundw
      case rel => exact ⟨j + 1, by go_num, by omega, Lib.hid (by rw [← HE.out]; exact HN.out.1), Lib.hid (HL.out.trans (HN.out.2.low (Nat.le_refl _) HL.out.size))⟩
      case measure => simp [intOf]; omega
    · have hljz : ¬ (j : Int) < (k : Int) := by omega
      have hjk : Hid (k = j) := Lib.hid (by omega)
      have HRR : Hid (Peers wr (.slice (some ⟨w2.heap.size, 0, none⟩) k k) (thoseR L R)) := Lib.hid (by
        have e := inP_done L R
        have h := HB.out
        have e2 := HK.out
        have e3 := hjk.out
        subst e3
        subst e2
        rw [e] at h
        exact h.recs encP_len (xs := thoseR L R) (m := R.length) (cap := R.length) (by rw [List.take_of_length_le (by rw [those_length]; omega)]) (by rw [those_length]; omega) (Nat.le_refl _))
      go_wp2_with fail
      go_ret
      exact ⟨_, rfl, by rw [E.out]; exact HRR.out, low_trans L2.out HL.out⟩
set_option maxHeartbeats 8000000 in
theorem choose_any (v : Value) (l : List Pr) (q : Qt) (s : Nat) (w : World) (h : Peers w v l) (hok : ∀ x ∈ l, x.ok) (hl : l.length ≤ 900000) (hs : s < 18446744073709551616) :
    Calls Try.prog 7 #[v, .agg #[.int .i64 q.g, .int .i64 q.p, .int .i64 q.w, .int .i64 q.t], .int .u64 (s : Nat)] w fun e w' => e = .returned (.tuple #[.agg #[.bool (exitR (candR l q s)).a.v6, .int .u64 (exitR (candR l q s)).a.hi, .int .u64 (exitR (candR l q s)).a.lo, .int .i64 (exitR (candR l q s)).n], .bool (decide (0 < (candR l q s).length))]) ∧ Below w.heap.size w w' := by
  have L0 : Hid (Lows w ((w.alloc (.cells #[.int .i64 q.g, .int .i64 q.p, .int .i64 q.w, .int .i64 q.t] 24)).alloc (.cells #[.bool false, .int .u64 0, .int .u64 0, .int .i64 0] 30))) := Lib.hid (Lows.alloc (Lows.alloc (Lows.self w) _) _)
  have OQ := Lib.hid ((Blk.new w #[.int .i64 q.g, .int .i64 q.p, .int .i64 q.w, .int .i64 q.t] 24).alloc (.cells #[.bool false, .int .u64 0, .int .u64 0, .int .i64 0] 30))
  have OE := Lib.hid (Blk.two w (.cells #[.int .i64 q.g, .int .i64 q.p, .int .i64 q.w, .int .i64 q.t] 24) #[.bool false, .int .u64 0, .int .u64 0, .int .i64 0] 30)
  have KI := Lib.hid (candidates_any v l q s ((w.alloc (.cells #[.int .i64 q.g, .int .i64 q.p, .int .i64 q.w, .int .i64 q.t] 24)).alloc (.cells #[.bool false, .int .u64 0, .int .u64 0, .int .i64 0] 30)) (h.below L0.out) hok hl hs)
  have KP : Hid (∀ W u, Peers W u (candR l q s) → Calls Try.prog 18 #[u] W fun e w' => e = .returned (.int .i64 (pickR (candR l q s))) ∧ Below W.heap.size W w') := Lib.hid fun W u hu => pick_any u (candR l q s) W hu (cand_ok hok q s) (Nat.le_trans (cand_le l q s) (by omega))
  have hn : (candR l q s).length ≤ 900000 := Nat.le_trans (cand_le l q s) hl
  have q0 := OQ.out.cell (j := 0) rfl
  have q1 := OQ.out.cell (j := 1) rfl
  have q2 := OQ.out.cell (j := 2) rfl
  have q3 := OQ.out.cell (j := 3) rfl
  generalize candR l q s = C at *
  obtain ⟨g, hg⟩ : ∃ g : Bool, g = decide (0 < C.length) := ⟨_, rfl⟩
  obtain ⟨E, hE⟩ : ∃ E, E = exitR C := ⟨_, rfl⟩
  rw [← hg, ← hE]
  have HG := Lib.hid hg
  have HEE := Lib.hid hE
  clear h hok hs hl OQ hg hE
  go_enter Try.func7, Try.ntmps7
  go_wp2_with fail
  refine KI.out.mono ?_; rintro e9 w1 ⟨u, rfl, hU, hb1⟩
  have L1 := Lib.hid (low_trans L0.out hb1)
  have OE1 := OE.out.on hb1
  have KF := Lib.hid (KP.out w1 u hU)
  have HU := Lib.hid hU
  have OE1 := Lib.hid OE1
  clear hb1 hU KI KP q0 q1 q2 q3 OE
  go_wp2_with fail
  refine KF.out.mono ?_; rintro e9 w2 ⟨rfl, hb2⟩
  have L2 := Lib.hid (low_trans L1.out hb2)
  have hU := HU.out.below hb2
  have own2 := OE1.out.on hb2
  have s0 := own2.cell (j := 0) rfl
  have f0 := own2.free 0
  have s1 := own2.cell (j := 1) rfl
  have f1 := own2.free 1
  have s2 := own2.cell (j := 2) rfl
  have f2 := own2.free 2
  have s3 := own2.cell (j := 3) rfl
  have f3 := own2.free 3
  clear hb2 KF HU own2 OE1
  by_cases h0 : C.length = 0
  · have hp : pickR C = -1 := by unfold pickR; rw [if_pos h0]
    have hd : g = false := by rw [HG.out]; exact decide_eq_false (by omega)
    have he : E = zeroE := by rw [HEE.out]; unfold exitR; rw [if_pos h0]
    rw [hp]
    clear hp h0 hU hn HG HEE
    subst hd he
    go_wp2_with fail
    exact bodyPost_ret (v := .tuple #[.agg #[.bool false, .int .u64 0, .int .u64 0, .int .i64 0], .bool false]) (by simp [results, Try.results7, go_sem, s0, s1, s2, s3]) rfl ⟨rfl, by repeat (first | (with_reducible exact L2.out) | (with_reducible refine Below.setCell ?_ (by first | exact Nat.le_refl _ | exact Nat.le_succ _ | (simp; done) | (simp; omega)) _) | (refine low_drewN ?_ 1))⟩
  · have hm : bestR C (C.length - 1) < C.length := best_at (by omega)
    have hp : pickR C = (bestR C (C.length - 1) : Int) := by unfold pickR; rw [if_neg h0]
    have hd : g = true := by rw [HG.out]; exact decide_eq_true (by omega)
    have he : E = (C[bestR C (C.length - 1)]!).e := by rw [HEE.out]; unfold exitR; rw [if_neg h0]
    rw [hp]
    clear hp HG HEE
    generalize bestR C (C.length - 1) = m at *
    obtain ⟨A, c, rfl, hc, _, hcell⟩ := hU
    obtain ⟨bb, o, rfl, hb, hcc⟩ := hcell (by omega)
    obtain ⟨x, hx⟩ : ∃ x, x = C[m]! := ⟨_, rfl⟩
    have c0 : w2.cell? ⟨bb, o + m * 10, none⟩ = some (.bool x.e.a.v6) := peer_at (Below.refl _ _) hb hcc hm (j := 0) (by rw [← hx]; rfl)
    have c1 : w2.cell? ⟨bb, o + m * 10 + 1, none⟩ = some (.int .u64 x.e.a.hi) := peer_at (Below.refl _ _) hb hcc hm (j := 1) (by rw [← hx]; rfl)
    have c2 : w2.cell? ⟨bb, o + m * 10 + 2, none⟩ = some (.int .u64 x.e.a.lo) := peer_at (Below.refl _ _) hb hcc hm (j := 2) (by rw [← hx]; rfl)
    have c3 : w2.cell? ⟨bb, o + m * 10 + 3, none⟩ = some (.int .i64 x.e.n) := peer_at (Below.refl _ _) hb hcc hm (j := 3) (by rw [← hx]; rfl)
    rw [← hx] at he
    subst hd he
    have hmz : (m : Int) < (C.length : Int) := by omega
    have hmn : ¬ (m : Int) < 0 := by omega
    have hmb : (m : Int) ≤ 9223372036854775807 := by omega
    clear hcell hcc hb hx h0
    go_wp2_with fail
    exact bodyPost_ret (v := .tuple #[.agg #[.bool x.e.a.v6, .int .u64 x.e.a.hi, .int .u64 x.e.a.lo, .int .i64 x.e.n], .bool true]) (by simp [results, Try.results7, go_sem, s0, s1, s2, s3]) rfl ⟨rfl, by repeat (first | (with_reducible exact L2.out) | (with_reducible refine Below.setCell ?_ (by first | exact Nat.le_refl _ | exact Nat.le_succ _ | (simp; done) | (simp; omega)) _) | (refine low_drewN ?_ 1))⟩
end Go.Proofs.Ytklmlgoeiaigkaa.Ev
