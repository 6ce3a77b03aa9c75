/- The document's Safe of layer 22. -/
import Derived.Test.YthmcggbmeabpmaaRef22
import Derived.Deep.CutRange
namespace Go.Proofs.Ythmcggbmeabpmaa.Si
set_option maxRecDepth 100000
open Go.ChangeShapes Go.WideShapes Go.ChangeAt Go.RowKit
open Dec Words V4 V6 Ad Ci En Sat Ha Pe Stb Gr Mi Ra Sh Cw Ev Go.Deep
set_option linter.unusedVariables false
theorem own_one_at {B : Nat} (W : World) (g : Nat) (x : Pr) (hg : g = W.heap.size) (hB : B ≤ W.heap.size) : OwnP B (W.alloc (.cells #[.bool x.e.a.v6, .int .u64 x.e.a.hi, .int .u64 x.e.a.lo, .int .i64 x.e.n, .bool x.i, .int .i64 x.t, .int .i64 x.c.p, .int .i64 x.c.a, .int .i64 x.g, .int .i64 x.k] 41)) (.slice (some ⟨g, 0, none⟩) 1 1) [x] := by
  rw [hg]
  refine ⟨rfl, Or.inr ⟨W.heap.size, 1, _, rfl, hB, heap_alloc_new W _, Nat.le_refl _, by decide, rfl, rfl⟩⟩
theorem own_one_in {B : Nat} (W : World) (g : Nat) (x : Pr) (hx : x.i = true) (hg : g = W.heap.size) (hB : B ≤ W.heap.size) : OwnP B (W.alloc (.cells #[.bool x.e.a.v6, .int .u64 x.e.a.hi, .int .u64 x.e.a.lo, .int .i64 x.e.n, .bool true, .int .i64 x.t, .int .i64 x.c.p, .int .i64 x.c.a, .int .i64 x.g, .int .i64 x.k] 41)) (.slice (some ⟨g, 0, none⟩) 1 1) [x] := by
  have h := own_one_at (B := B) W g x hg hB
  rw [hx] at h
  exact h
theorem own_on {B : Nat} {W W' : World} {v : Value} {l : List Pr} (h : OwnP B W v l) (k : Below W.heap.size W W') : OwnP B W' v l := by
  refine World.ownsRow.kept (row := none) h ⟨k.os, k.tape, k.output, k.size, fun j hj _ => k.block j hj⟩ ?_
  cases hv : v.ownBlock <;> simp
theorem peers_alloc {W : World} {v : Value} {l : List Pr} (h : Peers W v l) (o : Obj) : Peers (W.alloc o) v l := h.below (Lows.alloc (Lows.self _) _)
theorem peers_drew {W : World} {v : Value} {l : List Pr} (h : Peers W v l) : Peers W.drew v l := h.below (Lows.drew (Lows.self _))
set_option maxHeartbeats 8000000 in
theorem rsafe_any (v1 v2 : Value) (l news : List Pr) (i : Nat) (q : Qt) (s : Nat) (w : World) (h1 : Peers w v1 l) (h2 : Peers w v2 news) (hok : ∀ x ∈ l, x.ok) (hok2 : ∀ x ∈ news, x.ok) (hl : l.length + news.length ≤ 800000) (hs : s < 18446744073709551616) (hi : i < l.length) :
    Calls Try.prog 8 #[v1, v2, .int .i64 i, .agg #[.int .i64 q.g, .int .i64 q.p, .int .i64 q.w, .int .i64 q.t], .int .u64 (s : Nat)] w fun e w' => e = .returned (.bool (safeR l news i q s)) ∧ Below w.heap.size w w' := by
  have L0 : Hid (Lows w (w.alloc (.cells #[.int .i64 q.g, .int .i64 q.p, .int .i64 q.w, .int .i64 q.t] 24))) := Lib.hid (Lows.alloc (Lows.self w) _)
  have OQ := Lib.hid (Blk.new w #[.int .i64 q.g, .int .i64 q.p, .int .i64 q.w, .int .i64 q.t] 24)
  have PW : Hid (∀ W, Below w.heap.size w W → Peers W v1 l ∧ Peers W v2 news) := Lib.hid fun W hW => ⟨h1.below hW, h2.below hW⟩
  obtain ⟨A, c, rfl, hc, _, hcell⟩ := h1
  obtain ⟨bb, o, rfl, hb, hcc⟩ := hcell (by omega)
  obtain ⟨x, hx⟩ : ∃ x, x = l[i]! := ⟨_, rfl⟩
  have HCW : Hid (∀ W, Below w.heap.size w W → W.cell? ⟨bb, o + i * 10, none⟩ = some (.bool x.e.a.v6) ∧ W.cell? ⟨bb, o + i * 10 + 1, none⟩ = some (.int .u64 x.e.a.hi) ∧ W.cell? ⟨bb, o + i * 10 + 2, none⟩ = some (.int .u64 x.e.a.lo) ∧ W.cell? ⟨bb, o + i * 10 + 3, none⟩ = some (.int .i64 x.e.n) ∧ W.cell? ⟨bb, o + i * 10 + 4, none⟩ = some (.bool x.i) ∧ W.cell? ⟨bb, o + i * 10 + 5, none⟩ = some (.int .i64 x.t) ∧ W.cell? ⟨bb, o + i * 10 + 6, none⟩ = some (.int .i64 x.c.p) ∧ W.cell? ⟨bb, o + i * 10 + 7, none⟩ = some (.int .i64 x.c.a) ∧ W.cell? ⟨bb, o + i * 10 + 8, none⟩ = some (.int .i64 x.g) ∧ W.cell? ⟨bb, o + i * 10 + 9, none⟩ = some (.int .i64 x.k)) := Lib.hid fun W hW => ⟨peer_at hW hb hcc hi (j := 0) (by rw [← hx]; rfl), peer_at hW hb hcc hi (j := 1) (by rw [← hx]; rfl), peer_at hW hb hcc hi (j := 2) (by rw [← hx]; rfl), peer_at hW hb hcc hi (j := 3) (by rw [← hx]; rfl), peer_at hW hb hcc hi (j := 4) (by rw [← hx]; rfl), peer_at hW hb hcc hi (j := 5) (by rw [← hx]; rfl), peer_at hW hb hcc hi (j := 6) (by rw [← hx]; rfl), peer_at hW hb hcc hi (j := 7) (by rw [← hx]; rfl), peer_at hW hb hcc hi (j := 8) (by rw [← hx]; rfl), peer_at hW hb hcc hi (j := 9) (by rw [← hx]; rfl)⟩
  have hiz : (i : Int) < (l.length : Int) := by omega
  have hi0 : ¬ (i : Int) < 0 := by omega
  have hi1 : ¬ (l.length : Int) ≤ (i : Int) := by omega
  have HX := Lib.hid hx
  clear hcell hcc hb
  obtain ⟨c0, c1, c2, c3, c4, c5, c6, c7, c8, c9⟩ := HCW.out _ L0.out
  cases hq : x.i with
  | false =>
    have HF : Hid (safeR l news i q s = false) := Lib.hid (safe_off (by rw [← hx]; exact hq))
    generalize safeR l news i q s = R at HF ⊢
    rw [hq] at c4
    clear hx HX HCW PW OQ
    go_enter Try.func8, Try.ntmps8
    go_wp2_with fail
    go_ret
    exact ⟨by rw [HF.out]; rfl, L0.out⟩
  | true =>
    have E : Hid (safeR l news i q s = insR (x :: (cameR l ++ news)) 0 q s) := Lib.hid (by unfold safeR allR; rw [← hx, hq, Bool.true_and])
    have hxo : x.ok := by rw [hx, getElem!_pos l i hi]; exact hok _ (List.getElem_mem _)
    have HAO : Hid (∀ z ∈ x :: (cameR l ++ news), z.ok) := Lib.hid fun z hz => by
      rcases List.mem_cons.1 hz with rfl | hz
      · exact hxo
      · rcases List.mem_append.1 hz with h | h
        · exact hok z (List.mem_filter.1 h).1
        · exact hok2 z h
    have hcl := came_le l
    have KM : Hid (∀ W, Below w.heap.size w W → Calls Try.prog 15 #[.slice (some ⟨bb, o, none⟩) l.length c] W fun e w' => ∃ A6 c6, e = .returned (.slice A6 (cameR l).length c6) ∧ Peers w' (.slice A6 (cameR l).length c6) (cameR l) ∧ Below W.heap.size W w') := Lib.hid fun W hW => (rcame_any _ l W (PW.out W hW).1 (by omega)).mono fun e w' ⟨u, h1, h2, h3⟩ => by
      have h4 := h2
      obtain ⟨A6, c6, rfl, _, _, _⟩ := h4
      exact ⟨A6, c6, h1, h2, h3⟩
    have HA : Hid (∀ B W g A6 c6, OwnP B W (.slice (some ⟨g, 0, none⟩) 1 1) [x] → Peers W (.slice A6 (cameR l).length c6) (cameR l) → B ≤ W.heap.size → ∃ v1 w1, (Builtin.append_ #[22, 22] 22 #[.slice (some ⟨g, 0, none⟩) 1 1, .slice A6 (cameR l).length c6]).run Try.prog W = .ok v1 w1 ∧ (OwnP B w1 v1 (x :: cameR l) ∧ Below B W w1)) := Lib.hid fun B W g A6 c6 ho hu hB => by
      obtain ⟨v1, w1, h1, h2, h3⟩ := append_peers ho hu (by simp; omega) hB
      exact ⟨v1, w1, h1, h2, h3⟩
    have HN2 : Hid (∀ B W u, OwnP B W u (x :: cameR l) → Below w.heap.size w W → B ≤ W.heap.size → ∃ v1 w1, (Builtin.append_ #[22, 22] 22 #[u, v2]).run Try.prog W = .ok v1 w1 ∧ OwnP B w1 v1 (x :: (cameR l ++ news)) ∧ Below B W w1) := Lib.hid fun B W u ho hW hB => by
      obtain ⟨v1, w1, h1, h2, h3⟩ := append_peers ho (PW.out W hW).2 (by simp; omega) hB
      exact ⟨v1, w1, h1, h2, h3⟩
    have hAL : (x :: (cameR l ++ news)).length ≤ 900000 := by simp; omega
    obtain ⟨AL, hALL⟩ : ∃ AL, AL = x :: (cameR l ++ news) := ⟨_, rfl⟩
    have HA0 : Hid (AL[0]! = x) := Lib.hid (by rw [hALL]; rfl)
    have HA0L : Hid (0 < AL.length) := Lib.hid (by rw [hALL]; simp)
    rw [← hALL] at E HAO HN2 hAL
    generalize safeR l news i q s = R at *
    generalize (cameR l).length = n at KM HA
    have HQT := Lib.hid hq
    rw [hq] at c4
    clear hx hok hok2 hxo hq hALL h2
    go_enter Try.func8, Try.ntmps8
    go_upto_region 3 with fail
    have hk1 : w.heap.size < (w.alloc (.cells #[.int .i64 q.g, .int .i64 q.p, .int .i64 q.w, .int .i64 q.t] 24)).heap.size := by simp
    generalize hw0 : w.alloc (.cells #[.int .i64 q.g, .int .i64 q.p, .int .i64 q.w, .int .i64 q.t] 24) = w0 at *
    clear hw0
    have hbz : bb < w0.heap.size := by
      have h : w0.cell? ⟨bb, o + i * 10, none⟩ = _ := c0
      exact World.block_lt_of_cell? w0 _ h
    have hbz2 : ¬ bb = w0.heap.size := by omega
    go_cut [11] from 13 to 60 (fun s11 wx => ∃ m k : Nat, ∃ A7 : Option Addr, s11 = .slice A7 m k ∧ Hid (OwnP w0.heap.size wx (.slice A7 m k) (x :: cameR l)) ∧ Hid (Lows w0 wx))
    case first =>
      go_region_law (first
        | (go_simp; go_at_call 15; (refine (KM.out _ (low_trans L0.out (by repeat (first | (with_reducible exact Lows.self _) | (with_reducible refine Lows.drew ?_) | (with_reducible refine Lows.alloc ?_ _))))).mono ?_); rintro e9 w1 ⟨A6, k6, rfl, hU, hb1⟩
           have hl1 : Lows w0 w1 := low_trans (by repeat (first | (with_reducible exact Lows.self _) | (with_reducible refine Lows.drew ?_) | (with_reducible refine Lows.alloc ?_ _))) hb1
           obtain ⟨d0, d1, d2, d3, d4, d5, d6, d7, d8, d9⟩ := HCW.out _ (low_trans L0.out hl1)
           rw [HQT.out] at d4
           have hsz := hl1.size)
        | (refine step_append_ex rfl (.tmp 33) (.tmp 35) _ _ rfl rfl _ _ (by first | rfl | simp [Act.eval]) (by first | rfl | simp [Act.eval]) (HA.out w0.heap.size _ _ _ _ (by repeat (first | (with_reducible exact own_one_in _ _ _ HQT.out (by first | rfl | (simp; done)) (by first | exact Nat.le_refl _ | (simp; done) | (simp; omega) | (have := hl1.size; simp; omega))) | (with_reducible refine own_drew ?_) | (with_reducible refine own_alloc ?_ _) | (with_reducible refine own_on ?_ hb1))) (by repeat (first | (with_reducible exact hU) | (with_reducible refine peers_drew ?_) | (with_reducible refine peers_alloc ?_ _))) (by have := hl1.size; first | omega | (simp; omega))) ?_; rintro v3 w3 ⟨ho3, hb3⟩))
      all_goals
        have HO3 := Lib.hid ho3
        have HL3 : Hid (Lows w0 w3) := Lib.hid (Below.trans (by repeat (first | (with_reducible exact hl1) | (with_reducible refine Lows.drew ?_) | (with_reducible refine Lows.alloc ?_ _))) hb3)
        obtain ⟨A7, k7, hv, _, _, _⟩ := ownP_peers ho3
        subst hv
        clear ho3 hb3 hU hb1 hl1
        go_wp2_with fail
        go_meet
        case rel => exact ⟨_, _, _, rfl, HO3, HL3⟩
    case rest =>
      obtain ⟨m, k7, A7, rfl, HO, HL3⟩ := hcut
      obtain ⟨v5, w5, R5, O5, b5⟩ := HN2.out w0.heap.size _ _ HO.out (low_trans L0.out HL3.out) HL3.out.size
      have R1 := Lib.hid R5
      have L5 := Lib.hid (HL3.out.trans b5)
      have PA := Lib.hid (ownP_peers O5)
      clear R5 O5 b5 HO HL3 HN2 KM HA c0 c1 c2 c3 c4 c5 c6 c7 c8 c9
      go_wp2_with (first
        | (at_builtin; refine wpList_append_run rfl (.tmp 37) (.tmp 38) _ _ rfl rfl _ _ _ _ rfl rfl R1.out ?_)
        | fail)
      go_loopw [12] (fun vi wr => ∃ j b : Nat, vi = .int .i64 b ∧ b = j + 1 ∧ b ≤ 5 ∧ Hid (∀ c : Nat, 1 ≤ c → c ≤ j → Sh.inR AL 0 q s ((c : Nat) : Int) = false) ∧ Hid (Lows w5 wr)) (fun vi _ => 5 - (intOf vi).toNat)
      case atStart => exact ⟨0, 1, rfl, rfl, by decide, Lib.hid (fun c h1 h2 => by omega), Lib.hid (Lows.self _)⟩
      case round =>
        obtain ⟨j, b, rfl, hjb, hb5, HI, HL⟩ := hrel
        have HJB := Lib.hid hjb
        by_cases hj4 : j < 4
        · have hj4z : (b : Int) ≤ 4 := by omega
          have hb6 : b ≤ 4 := by omega
          have HB : Hid (((j + 1 : Nat) : Int) = (b : Int)) := Lib.hid (by rw [hjb])
          obtain ⟨m, hm⟩ : ∃ m, m = q.by b := ⟨_, rfl⟩
          have HM := Lib.hid hm
          have hne : Nonempty (Cls (Lows wr)) := ⟨⟨_, Lows.self _⟩⟩
          have LW : Hid (∀ W, Lows wr W → Below w.heap.size w W) := Lib.hid fun W hW => low_trans L0.out (L5.out.trans ((low_trans HL.out hW).mono L5.out.size))
          have f : ∀ nq : Cls (Lows wr), nq.w.cell? ⟨bb, o + i * 10, none⟩ = some (.bool x.e.a.v6) ∧ nq.w.cell? ⟨bb, o + i * 10 + 1, none⟩ = some (.int .u64 x.e.a.hi) ∧ nq.w.cell? ⟨bb, o + i * 10 + 2, none⟩ = some (.int .u64 x.e.a.lo) ∧ nq.w.cell? ⟨bb, o + i * 10 + 3, none⟩ = some (.int .i64 x.e.n) ∧ nq.w.cell? ⟨bb, o + i * 10 + 4, none⟩ = some (.bool x.i) ∧ nq.w.cell? ⟨bb, o + i * 10 + 5, none⟩ = some (.int .i64 x.t) ∧ nq.w.cell? ⟨bb, o + i * 10 + 6, none⟩ = some (.int .i64 x.c.p) ∧ nq.w.cell? ⟨bb, o + i * 10 + 7, none⟩ = some (.int .i64 x.c.a) ∧ nq.w.cell? ⟨bb, o + i * 10 + 8, none⟩ = some (.int .i64 x.g) ∧ nq.w.cell? ⟨bb, o + i * 10 + 9, none⟩ = some (.int .i64 x.k) := fun nq => HCW.out nq.w (LW.out _ nq.h)
          have f0 : ∀ nq : Cls (Lows wr), nq.w.cell? ⟨bb, o + i * 10, none⟩ = some (.bool x.e.a.v6) := fun nq => (f nq).1
          have f1 : ∀ nq : Cls (Lows wr), nq.w.cell? ⟨bb, o + i * 10 + 1, none⟩ = some (.int .u64 x.e.a.hi) := fun nq => (f nq).2.1
          have f2 : ∀ nq : Cls (Lows wr), nq.w.cell? ⟨bb, o + i * 10 + 2, none⟩ = some (.int .u64 x.e.a.lo) := fun nq => (f nq).2.2.1
          have f3 : ∀ nq : Cls (Lows wr), nq.w.cell? ⟨bb, o + i * 10 + 3, none⟩ = some (.int .i64 x.e.n) := fun nq => (f nq).2.2.2.1
          have f4 : ∀ nq : Cls (Lows wr), nq.w.cell? ⟨bb, o + i * 10 + 4, none⟩ = some (.bool x.i) := fun nq => (f nq).2.2.2.2.1
          have f5 : ∀ nq : Cls (Lows wr), nq.w.cell? ⟨bb, o + i * 10 + 5, none⟩ = some (.int .i64 x.t) := fun nq => (f nq).2.2.2.2.2.1
          have f6 : ∀ nq : Cls (Lows wr), nq.w.cell? ⟨bb, o + i * 10 + 6, none⟩ = some (.int .i64 x.c.p) := fun nq => (f nq).2.2.2.2.2.2.1
          have f7 : ∀ nq : Cls (Lows wr), nq.w.cell? ⟨bb, o + i * 10 + 7, none⟩ = some (.int .i64 x.c.a) := fun nq => (f nq).2.2.2.2.2.2.2.1
          have f8 : ∀ nq : Cls (Lows wr), nq.w.cell? ⟨bb, o + i * 10 + 8, none⟩ = some (.int .i64 x.g) := fun nq => (f nq).2.2.2.2.2.2.2.2.1
          have f9 : ∀ nq : Cls (Lows wr), nq.w.cell? ⟨bb, o + i * 10 + 9, none⟩ = some (.int .i64 x.k) := fun nq => (f nq).2.2.2.2.2.2.2.2.2
          rw [HQT.out] at f4
          have g0 : ∀ nq : Cls (Lows wr), nq.w.cell? ⟨w.heap.size, 0, none⟩ = some (.int .i64 q.g) := fun nq => (OQ.out.on (L5.out.trans ((low_trans HL.out nq.h).mono L5.out.size))).cell (j := 0) rfl
          have g1 : ∀ nq : Cls (Lows wr), nq.w.cell? ⟨w.heap.size, 1, none⟩ = some (.int .i64 q.p) := fun nq => (OQ.out.on (L5.out.trans ((low_trans HL.out nq.h).mono L5.out.size))).cell (j := 1) rfl
          have g2 : ∀ nq : Cls (Lows wr), nq.w.cell? ⟨w.heap.size, 2, none⟩ = some (.int .i64 q.w) := fun nq => (OQ.out.on (L5.out.trans ((low_trans HL.out nq.h).mono L5.out.size))).cell (j := 2) rfl
          have g3 : ∀ nq : Cls (Lows wr), nq.w.cell? ⟨w.heap.size, 3, none⟩ = some (.int .i64 q.t) := fun nq => (OQ.out.on (L5.out.trans ((low_trans HL.out nq.h).mono L5.out.size))).cell (j := 3) rfl
          have KC : Hid (∀ W, Calls Try.prog 21 #[.agg #[.bool x.e.a.v6, .int .u64 x.e.a.hi, .int .u64 x.e.a.lo, .int .i64 x.e.n, .bool true, .int .i64 x.t, .int .i64 x.c.p, .int .i64 x.c.a, .int .i64 x.g, .int .i64 x.k], .int .i64 b] W fun e w' => e = .returned (.bool (countsR x b)) ∧ Below W.heap.size W w') := Lib.hid fun W => by
            have h := rcounts_any x b W
            rw [HQT.out] at h
            exact h
          have KQ : Hid (∀ W, Calls Try.prog 23 #[.agg #[.int .i64 q.g, .int .i64 q.p, .int .i64 q.w, .int .i64 q.t], .int .i64 b] W fun e w' => e = .returned (.int .i64 m) ∧ Below W.heap.size W w') := Lib.hid fun W => by rw [hm]; exact rquota_any q b W
          have KR : Hid (∀ W, Lows wr W → Calls Try.prog 22 #[v5, .int .i64 0, .int .i64 b, .int .u64 (s : Nat)] W fun e w' => e = .returned (.int .i64 (rankR AL 0 b s)) ∧ Lows wr w') := Lib.hid fun W h => (rrank_any v5 AL 0 b s W (PA.out.below (low_trans HL.out h)) HAO.out (by omega) hs).mono fun e w' hh => ⟨hh.1, low_trans h hh.2⟩
          obtain ⟨RR, hRR⟩ : ∃ r, r = rankR AL 0 b s := ⟨_, rfl⟩
          rw [← hRR] at KR
          have HR : Hid (RR = rankR AL ((0 : Nat) : Int) b s) := Lib.hid hRR
          clear hm hRR hjb f
          cases hq : countsR x b with
          | false =>
            rw [hq] at KC
            have HN : Hid (Sh.inR AL 0 q s b = false) := Lib.hid (by unfold Sh.inR; rw [HA0.out, hq]; rfl)
            clear hq KR KQ
            go_wp2_with fail
            refine Cls.region (Lows wr) (by kernel_rfl) (by kernel_rfl) (low_drewN (Below.refl _ _) 1) ?_
            (try dsimp only [List.append])
            repeat (go_big_quiet_step (first | fail | (with_reducible exact Cls.call ((lows_call KC).out _ (Cls.h _)))))
            refine wpQuiet_nil ?_
            intro n9
            have hk9 := n9.h
            generalize n9.w = w9 at hk9 ⊢
            clear hne n9 f0 f1 f2 f3 f4 f5 f6 f7 f8 f9 g0 g1 g2 g3 KC
            have HLN : Hid (Lows w5 w9) := Lib.hid (low_trans HL.out hk9)
            go_wp2_with fail
            go_roundw
            case rel => exact ⟨j + 1, b + 1, by go_num, by have := HJB.out; omega, by omega, Lib.hid (ins_next HB.out HI.out HN.out), HLN⟩
            case measure => simp [intOf]; omega
          | true =>
            rw [hq] at KC
            by_cases hr : RR < m
            · have hrz : decide (RR < m) = true := decide_eq_true hr
              have HN : Hid (Sh.inR AL 0 q s b = true) := Lib.hid (by unfold Sh.inR; rw [HA0.out, hq, ← HR.out, ← HM.out, decide_eq_true hr]; rfl)
              clear hq
              go_wp2_with fail
              refine Cls.region (Lows wr) (by kernel_rfl) (by kernel_rfl) (low_drewN (Below.refl _ _) 1) ?_
              (try dsimp only [List.append])
              repeat (go_big_quiet_step (first | fail | (with_reducible exact Cls.call ((lows_call KC).out _ (Cls.h _))) | (with_reducible exact Cls.call ((KR).out _ (Cls.h _))) | (with_reducible exact Cls.call ((lows_call KQ).out _ (Cls.h _)))))
              refine wpQuiet_nil ?_
              intro n9
              have hk9 := n9.h
              generalize n9.w = w9 at hk9 ⊢
              clear hne n9 f0 f1 f2 f3 f4 f5 f6 f7 f8 f9 g0 g1 g2 g3 KC KR KQ
              have HLN : Hid (Below w.heap.size w w9) := Lib.hid (LW.out _ hk9)
              go_wp2_with fail
              go_ret
              exact ⟨ret_b (by rw [E.out]; exact (Si.ins_yes (b := b) (by have := HJB.out; omega) hb6 HN.out).symm), HLN.out⟩
            · have hrz : decide (RR < m) = false := decide_eq_false hr
              have HN : Hid (Sh.inR AL 0 q s b = false) := Lib.hid (by unfold Sh.inR; rw [HA0.out, hq, ← HR.out, ← HM.out, decide_eq_false hr]; rfl)
              clear hq
              go_wp2_with fail
              refine Cls.region (Lows wr) (by kernel_rfl) (by kernel_rfl) (low_drewN (Below.refl _ _) 1) ?_
              (try dsimp only [List.append])
              repeat (go_big_quiet_step (first | fail | (with_reducible exact Cls.call ((lows_call KC).out _ (Cls.h _))) | (with_reducible exact Cls.call ((KR).out _ (Cls.h _))) | (with_reducible exact Cls.call ((lows_call KQ).out _ (Cls.h _)))))
              refine wpQuiet_nil ?_
              intro n9
              have hk9 := n9.h
              generalize n9.w = w9 at hk9 ⊢
              clear hne n9 f0 f1 f2 f3 f4 f5 f6 f7 f8 f9 g0 g1 g2 g3 KC KR KQ
              have HLN : Hid (Lows w5 w9) := Lib.hid (low_trans HL.out hk9)
              go_wp2_with fail
              go_roundw
              case rel => exact ⟨j + 1, b + 1, by go_num, by have := HJB.out; omega, by omega, Lib.hid (ins_next HB.out HI.out HN.out), HLN⟩
              case measure => simp [intOf]; omega
        · have hj4z : ¬ (b : Int) ≤ 4 := by omega
          have E2 : Hid (R = false) := Lib.hid (by rw [E.out]; exact Si.ins_no fun c h1 h2 => HI.out c h1 (by omega))
          have HLN : Hid (Below w.heap.size w wr) := Lib.hid (low_trans L0.out (L5.out.trans (HL.out.mono L5.out.size)))
          clear hjb
          go_wp2_with fail
          go_ret
          exact ⟨ret_b E2.out.symm, HLN.out⟩
end Go.Proofs.Ythmcggbmeabpmaa.Si
