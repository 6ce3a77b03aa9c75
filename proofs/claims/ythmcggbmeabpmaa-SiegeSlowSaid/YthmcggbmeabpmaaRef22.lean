/- The document's answers of layer 22: where an end stands, what becomes of peers when one comes, who is safe. -/
import Derived.Test.YthmcggbmeabpmaaSiegeRun
import Derived.Test.YthmcggbmeabpmaaSiegeSafe
import Derived.Deep.RegionHeld3
import Derived.Deep.RegionLaw
namespace Go.Proofs.Ythmcggbmeabpmaa.Si
set_option maxRecDepth 100000
open Go.ChangeShapes Go.WideShapes Go.ChangeAt Go.RowKit
open Dec Words V4 V6 Ad Ci En Sat Ha Pe Stb Gr Mi Ra Sh Cw Ev Go.Deep
set_option linter.unusedVariables false
/-- Peers put behind peers: no block but the row's own is touched. -/
theorem append_peersG {B : Nat} {W : World} {v x : Value} {xs ys : List Pr} (hown : OwnP B W v xs) (hy : Peers W x ys) (hlen : xs.length + ys.length ≤ 1000000) (hB : B ≤ W.heap.size) :
    ∃ v' w', (Builtin.append_ #[22, 22] 22 #[v, x]).run Try.prog W = .ok v' w' ∧ OwnP B w' v' (xs ++ ys) ∧ Below B W w' ∧ ∀ k, k < W.heap.size → some k ≠ v.ownBlock → w'.heap[k]? = W.heap[k]? := by
  obtain ⟨i, hi, hz0, hz1, hz2⟩ := info_parts (P := Try.prog) (e := 41) (z := .agg #[.bool false, .int .u64 0, .int .u64 0, .int .i64 0, .bool false, .int .i64 0, .int .i64 0, .int .i64 0, .int .i64 0, .int .i64 0]) (size := 10) (bytes := 80) (by kernel_rfl)
  obtain ⟨A, c, rfl, hc, hnil, hcell⟩ := hy
  cases A with
  | none =>
    obtain rfl := hnil rfl
    obtain rfl : ys = [] := List.eq_nil_of_length_eq_zero (by omega)
    have hr := run_append_owned_none (P := Try.prog) (w := W) B 22 22 41 i 10 Try.underlying22 hi v xs.length (flat encP xs) hown
    refine ⟨v, W, hr, ?_, Below.refl _ _, fun _ _ _ => rfl⟩
    rw [List.append_nil]; exact hown
  | some a =>
    obtain ⟨v', w', hr, h2, h3, _⟩ := run_append_own (P := Try.prog) W B 22 22 41 i _ 10 80 Try.underlying22 hi hz0 hz1 hz2 rfl (by decide) v xs.length (flat encP xs) hown
      a ys.length c (flat encP ys) (flat_len encP_len ys) (fun j u hj => by
        have hlt : j < ys.length * 10 := by have := (List.getElem?_eq_some_iff.1 hj).1; rwa [flat_len encP_len] at this
        have hq : j / 10 < ys.length := by omega
        have hjm : j = j / 10 * 10 + j % 10 := by omega
        rw [hjm, flat_at encP_len ys _ _ hq (Nat.mod_lt _ (by decide))] at hj
        obtain ⟨b, o, e, _, hcc⟩ := hcell (Nat.lt_of_le_of_lt (Nat.zero_le _) hq)
        obtain rfl : a = ⟨b, o, none⟩ := Option.some.inj e
        rw [add_plain, hjm, ← Nat.add_assoc]
        exact hcc _ hq _ _ hj) (fun u hu => by
        obtain ⟨y, _, hu2⟩ := List.mem_flatMap.1 hu
        exact encP_one y u hu2) (by simp only [maxLen]; omega) (by omega) hB
    refine ⟨v', w', hr, ?_, (Below.refl B W).grown h3 hB (fun k hk => (hown.lt k hk).1), fun k h1 h2 => h3.block k h1 h2⟩
    unfold OwnP
    rw [List.length_append, flat_append]
    exact h2
theorem blk_of {w w' : World} {g : Nat} {t : TypeId} {vs : List Value} (h : Blk w g t vs) (k : w'.heap[g]? = w.heap[g]?) : Blk w' g t vs := k.trans h
theorem own_nil_at {B : Nat} (W : World) (g : Nat) (hg : g = W.heap.size) (hB : B ≤ W.heap.size) : OwnP B (W.alloc (.cells #[] 41)) (.slice (some ⟨g, 0, none⟩) 0 0) [] := by rw [hg]; exact ownP_lit W hB
theorem own_drew {B : Nat} {W : World} {v : Value} {l : List Pr} (h : OwnP B W v l) : OwnP B W.drew v l := World.ownsRow.drew h
theorem own_alloc {B : Nat} {W : World} {v : Value} {l : List Pr} (h : OwnP B W v l) (o : Obj) : OwnP B (W.alloc o) v l := World.ownsRow.alloc h o
theorem blk_new_at (W : World) (g : Nat) {cs : Array Value} {t : TypeId} {L : List Value} (hg : g = W.heap.size) (hL : cs.toList = L) : Blk (W.alloc (.cells cs t)) g t L := by rw [hg, ← hL]; exact Blk.new W cs t
set_option maxHeartbeats 4000000 in
theorem rindex_any (v : Value) (l : List Pr) (E : Endp) (w : World) (h : Peers w v l) (hl : l.length ≤ 1000000) :
    Calls Try.prog 14 #[v, .agg #[.bool E.a.v6, .int .u64 E.a.hi, .int .u64 E.a.lo, .int .i64 E.n]] w fun e w' => e = .returned (.int .i64 (ixE l E)) ∧ Below w.heap.size w w' := by
  have L0 : Hid (Lows w (w.alloc (.cells #[.bool E.a.v6, .int .u64 E.a.hi, .int .u64 E.a.lo, .int .i64 E.n] 34))) := Lib.hid (Lows.alloc (Lows.self w) _)
  have OB := Lib.hid (Blk.new w #[.bool E.a.v6, .int .u64 E.a.hi, .int .u64 E.a.lo, .int .i64 E.n] 34)
  obtain ⟨A, c, rfl, hc, _, hcell⟩ := h
  have HC := Lib.hid hcell
  clear hcell
  go_enter Try.func14, Try.ntmps14
  go_wp2_with fail
  go_loopw [5] (fun vi wr => ∃ k : Nat, vi = .int .i64 k ∧ k ≤ l.length ∧ Hid (∀ i, i < l.length → i < k → sameE (l[i]!).e E = false) ∧ Hid (Lows (w.alloc (.cells #[.bool E.a.v6, .int .u64 E.a.hi, .int .u64 E.a.lo, .int .i64 E.n] 34)) wr)) (fun vi _ => l.length - (intOf vi).toNat)
  case atStart => exact ⟨0, rfl, Nat.zero_le _, Lib.hid (fun _ _ h => absurd h (Nat.not_lt_zero _)), Lib.hid (Lows.self _)⟩
  case round =>
    obtain ⟨k, rfl, hk, HN, HL⟩ := hrel
    by_cases hlt : k < l.length
    · have hltz : (k : Int) < (l.length : Int) := by omega
      obtain ⟨bb, o, rfl, hb, hcc⟩ := HC.out (by omega)
      obtain ⟨x, hx⟩ : ∃ x, x = l[k]! := ⟨_, rfl⟩
      have hne : Nonempty (Cls (Lows wr)) := ⟨⟨_, Lows.self _⟩⟩
      have HLW : Hid (Below w.heap.size w wr) := Lib.hid (low_trans L0.out HL.out)
      have f0 : ∀ nq : Cls (Lows wr), nq.w.cell? ⟨bb, o + k * 10, none⟩ = some (.bool x.e.a.v6) := fun nq => by rw [hx]; exact peer_at (low_trans'' HLW.out nq.h) hb hcc hlt (j := 0) rfl
      have f1 : ∀ nq : Cls (Lows wr), nq.w.cell? ⟨bb, o + k * 10 + 1, none⟩ = some (.int .u64 x.e.a.hi) := fun nq => by rw [hx]; exact peer_at (low_trans'' HLW.out nq.h) hb hcc hlt (j := 1) rfl
      have f2 : ∀ nq : Cls (Lows wr), nq.w.cell? ⟨bb, o + k * 10 + 2, none⟩ = some (.int .u64 x.e.a.lo) := fun nq => by rw [hx]; exact peer_at (low_trans'' HLW.out nq.h) hb hcc hlt (j := 2) rfl
      have f3 : ∀ nq : Cls (Lows wr), nq.w.cell? ⟨bb, o + k * 10 + 3, none⟩ = some (.int .i64 x.e.n) := fun nq => by rw [hx]; exact peer_at (low_trans'' HLW.out nq.h) hb hcc hlt (j := 3) rfl
      have g : ∀ nq : Cls (Lows wr), Blk nq.w w.heap.size 34 [.bool E.a.v6, .int .u64 E.a.hi, .int .u64 E.a.lo, .int .i64 E.n] := fun nq => (OB.out.on HL.out).on nq.h
      have g0 : ∀ nq : Cls (Lows wr), nq.w.cell? ⟨w.heap.size, 0, none⟩ = some (.bool E.a.v6) := fun nq => (g nq).cell (j := 0) rfl
      have g1 : ∀ nq : Cls (Lows wr), nq.w.cell? ⟨w.heap.size, 1, none⟩ = some (.int .u64 E.a.hi) := fun nq => (g nq).cell (j := 1) rfl
      have g2 : ∀ nq : Cls (Lows wr), nq.w.cell? ⟨w.heap.size, 2, none⟩ = some (.int .u64 E.a.lo) := fun nq => (g nq).cell (j := 2) rfl
      have g3 : ∀ nq : Cls (Lows wr), nq.w.cell? ⟨w.heap.size, 3, none⟩ = some (.int .i64 E.n) := fun nq => (g nq).cell (j := 3) rfl
      have EQ := fun W => eqEnd x.e E W
      have HX := Lib.hid hx
      clear hcc hb hx g
      cases hq : sameE x.e E with
      | false =>
        rw [hq] at EQ
        have HN2 : Hid (∀ i, i < l.length → i < k + 1 → sameE (l[i]!).e E = false) := Lib.hid fun i h hi => by
          rcases Nat.lt_succ_iff_lt_or_eq.1 hi with h2 | rfl
          · exact HN.out i h h2
          · rw [← HX.out]; exact hq
        clear hq HX
        go_wp2_with fail
        refine Cls.region (Lows wr) (by kernel_rfl) (by kernel_rfl) (low_drewN (Below.refl _ _) 1) ?_
        (try dsimp only [List.append])
        repeat (go_big_quiet_step (first | fail))
        refine wpQuiet_nil ?_
        intro n9
        have hk9 := n9.h
        generalize n9.w = w9 at hk9 ⊢
        clear hne n9 EQ f0 f1 f2 f3 g0 g1 g2 g3
        go_wp2_with fail
        go_roundw
        case rel => exact ⟨k + 1, by go_num, by omega, HN2, Lib.hid (low_trans HL.out hk9)⟩
        case measure => simp [intOf]; omega
      | true =>
        rw [hq] at EQ
        have HE : Hid (ixE l E = k) := Lib.hid (by rw [← pos_end]; exact (posP_hit hlt HN.out (by rw [← HX.out]; exact hq)).1)
        clear hq HX
        go_wp2_with fail
        refine Cls.region (Lows wr) (by kernel_rfl) (by kernel_rfl) (low_drewN (Below.refl _ _) 1) ?_
        (try dsimp only [List.append])
        repeat (go_big_quiet_step (first | fail))
        refine wpQuiet_nil ?_
        intro n9
        have hk9 := n9.h
        generalize n9.w = w9 at hk9 ⊢
        clear hne n9 EQ f0 f1 f2 f3 g0 g1 g2 g3
        go_wp2_with fail
        go_ret
        exact ⟨by rw [HE.out]; rfl, low_trans HLW.out hk9⟩
    · have hltz : ¬ (k : Int) < (l.length : Int) := by omega
      have HE : Hid (ixE l E = -1) := Lib.hid (by rw [← pos_end]; exact posP_miss fun i h => HN.out i h (by omega))
      have HLW : Hid (Below w.heap.size w wr) := Lib.hid (low_trans L0.out HL.out)
      go_wp2_with fail
      go_ret
      exact ⟨by rw [HE.out]; rfl, HLW.out⟩
set_option maxHeartbeats 16000000 in
theorem rarrive_any (v : Value) (l : List Pr) (p : Pr) (S : Sit) (w : World) (h : Peers w v l) (hok : ∀ x ∈ l, x.ok) (hl : l.length ≤ 800000) (hs : S.s < 18446744073709551616) :
    Calls Try.prog 10 #[v, .agg #[.bool p.e.a.v6, .int .u64 p.e.a.hi, .int .u64 p.e.a.lo, .int .i64 p.e.n, .bool p.i, .int .i64 p.t, .int .i64 p.c.p, .int .i64 p.c.a, .int .i64 p.g, .int .i64 p.k], .int .i64 S.m, .agg #[.int .i64 S.q.g, .int .i64 S.q.p, .int .i64 S.q.w, .int .i64 S.q.t], .int .u64 (S.s : Nat)] w fun e w' => ∃ u, e = .returned (.tuple #[u, .agg #[.bool (arrE l p S).a.v6, .int .u64 (arrE l p S).a.hi, .int .u64 (arrE l p S).a.lo, .int .i64 (arrE l p S).n], .int .i64 (arrC l p S)]) ∧ ((u = v ∧ arrL l p S = l) ∨ OwnP w.heap.size w' u (arrL l p S)) ∧ Below w.heap.size w w' := by
  have L3 : Hid (Lows w (((w.alloc (.cells #[.bool p.e.a.v6, .int .u64 p.e.a.hi, .int .u64 p.e.a.lo, .int .i64 p.e.n, .bool true, .int .i64 p.t, .int .i64 p.c.p, .int .i64 p.c.a, .int .i64 p.g, .int .i64 p.k] 41)).alloc (.cells #[.int .i64 S.q.g, .int .i64 S.q.p, .int .i64 S.q.w, .int .i64 S.q.t] 24)).alloc (.cells #[.bool false, .int .u64 0, .int .u64 0, .int .i64 0] 34))) := Lib.hid (Lows.alloc (Lows.alloc (Lows.alloc (Lows.self w) _) _) _)
  have OP := Lib.hid (((Blk.new w #[.bool p.e.a.v6, .int .u64 p.e.a.hi, .int .u64 p.e.a.lo, .int .i64 p.e.n, .bool true, .int .i64 p.t, .int .i64 p.c.p, .int .i64 p.c.a, .int .i64 p.g, .int .i64 p.k] 41).alloc (.cells #[.int .i64 S.q.g, .int .i64 S.q.p, .int .i64 S.q.w, .int .i64 S.q.t] 24)).alloc (.cells #[.bool false, .int .u64 0, .int .u64 0, .int .i64 0] 34))
  have OQ := Lib.hid ((Blk.two w (.cells #[.bool p.e.a.v6, .int .u64 p.e.a.hi, .int .u64 p.e.a.lo, .int .i64 p.e.n, .bool true, .int .i64 p.t, .int .i64 p.c.p, .int .i64 p.c.a, .int .i64 p.g, .int .i64 p.k] 41) #[.int .i64 S.q.g, .int .i64 S.q.p, .int .i64 S.q.w, .int .i64 S.q.t] 24).alloc (.cells #[.bool false, .int .u64 0, .int .u64 0, .int .i64 0] 34))
  have OE := Lib.hid (Blk.three w (.cells #[.bool p.e.a.v6, .int .u64 p.e.a.hi, .int .u64 p.e.a.lo, .int .i64 p.e.n, .bool true, .int .i64 p.t, .int .i64 p.c.p, .int .i64 p.c.a, .int .i64 p.g, .int .i64 p.k] 41) (.cells #[.int .i64 S.q.g, .int .i64 S.q.p, .int .i64 S.q.w, .int .i64 S.q.t] 24) #[.bool false, .int .u64 0, .int .u64 0, .int .i64 0] 34)
  have PW : Hid (∀ W, Below w.heap.size w W → Peers W v l) := Lib.hid fun W hW => h.below hW
  have KI : Hid (∀ W E, Below w.heap.size w W → Calls Try.prog 14 #[v, .agg #[.bool E.a.v6, .int .u64 E.a.hi, .int .u64 E.a.lo, .int .i64 E.n]] W fun e w' => e = .returned (.int .i64 (ixE l E)) ∧ Below W.heap.size W w') := Lib.hid fun W E hW => rindex_any v l E W (h.below hW) (by omega)
  have KM : Hid (∀ W, Below w.heap.size w W → Calls Try.prog 15 #[v] W fun e w' => ∃ u, e = .returned u ∧ Peers w' u (cameR l) ∧ Below W.heap.size W w') := Lib.hid fun W hW => rcame_any v l W (h.below hW) (by omega)
  have KH : Hid (∀ W, Below w.heap.size w W → Calls Try.prog 28 #[v, .agg #[.int .i64 S.q.g, .int .i64 S.q.p, .int .i64 S.q.w, .int .i64 S.q.t], .int .u64 (S.s : Nat)] W fun e w' => e = .returned (.tuple #[.agg #[.bool (exitR (candR l S.q S.s)).a.v6, .int .u64 (exitR (candR l S.q S.s)).a.hi, .int .u64 (exitR (candR l S.q S.s)).a.lo, .int .i64 (exitR (candR l S.q S.s)).n], .bool (decide (0 < (candR l S.q S.s).length))]) ∧ Below W.heap.size W w') := Lib.hid fun W hW => rchoose_any v l S.q S.s W (h.below hW) hok (by omega) hs
  obtain ⟨A, c, rfl, hc, hnil, hcell⟩ := h
  have HC := Lib.hid hcell
  have hix : Hid (ixE l p.e = if fstN l p.e < l.length then (fstN l p.e : Int) else -1) := Lib.hid rfl
  have HLL : Hid (arrL l p S = if fstN l p.e < l.length then l else if ((cameR l).length : Int) < S.m then l ++ [setI p] else if (candR l S.q S.s).length = 0 then l else goneR l (fstN l (exitR (candR l S.q S.s))) ++ [setI p]) := Lib.hid rfl
  have HEE : Hid (arrE l p S = if fstN l p.e < l.length then zeroE else if ((cameR l).length : Int) < S.m then zeroE else exitR (candR l S.q S.s)) := Lib.hid rfl
  have HCC : Hid (arrC l p S = if fstN l p.e < l.length then 7 else if ((cameR l).length : Int) < S.m then 0 else if (candR l S.q S.s).length = 0 then 5 else 0) := Lib.hid rfl
  have OP0 := OP
  have OQ0 := OQ
  have OE0 := OE
  have L0 := L3
  have KI0 := Lib.hid (KI.out _ p.e L0.out)
  have p0 := OP0.out.cell (j := 0) rfl
  have p1 := OP0.out.cell (j := 1) rfl
  have p2 := OP0.out.cell (j := 2) rfl
  have p3 := OP0.out.cell (j := 3) rfl
  generalize ixE l p.e = ix at KI0 hix
  generalize arrL l p S = LL at HLL ⊢
  generalize arrE l p S = EE at HEE ⊢
  generalize arrC l p S = CC at HCC ⊢
  clear hcell hok L3 OP OQ OE
  go_enter Try.func10, Try.ntmps10
  go_wp2_with fail
  refine KI0.out.mono ?_; rintro e9 w1 ⟨rfl, hb1⟩
  have Lw1 := Lib.hid (low_trans L0.out hb1)
  have OPw1 := Lib.hid (OP0.out.on hb1)
  have OQw1 := Lib.hid (OQ0.out.on hb1)
  have OEw1 := Lib.hid (OE0.out.on hb1)
  clear hb1 KI0 L0 OP0 OQ0 OE0 p0 p1 p2 p3
  by_cases ht : fstN l p.e < l.length
  · have e1 := hix.out
    have e2 := HLL.out
    have e3 := HEE.out
    have e4 := HCC.out
    rw [if_pos ht] at e1 e2 e3 e4
    generalize fstN l p.e = k at e1
    have e2 := e2.symm
    subst e1 e2 e3 e4
    have hkz : (0 : Int) ≤ (k : Int) := by omega
    clear ht hix HLL HEE HCC KM KH KI HC hnil
    have HR : Hid (∀ W', Bt (w.heap.size + 2) w1 W' → Below w.heap.size w W') := Lib.hid fun W' hW => Bt.below Lw1.out hW (by omega) (by have := Lw1.out.size; omega)
    have s0 := OEw1.out.cell (j := 0) rfl
    have f0 := OEw1.out.free 0
    have s1 := OEw1.out.cell (j := 1) rfl
    have f1 := OEw1.out.free 1
    have s2 := OEw1.out.cell (j := 2) rfl
    have f2 := OEw1.out.free 2
    have s3 := OEw1.out.cell (j := 3) rfl
    have f3 := OEw1.out.free 3
    go_wp2_with fail
    exact bodyPost_ret (v := .tuple #[.slice A l.length c, .agg #[.bool false, .int .u64 0, .int .u64 0, .int .i64 0], .int .i64 7]) (by simp [results, Try.results10, go_sem, s0, s1, s2, s3]) rfl ⟨_, rfl, Or.inl (by first | exact rfl | exact ⟨rfl, rfl⟩), HR.out _ (by repeat (first | (with_reducible exact Bt.refl _ _) | (with_reducible refine Bt.trans ?_ (Bt.setCell _ _ _ _)) | (refine Bt.drewN ?_ _)))⟩
  · have e1 := hix.out
    have e2 := HLL.out
    have e3 := HEE.out
    have e4 := HCC.out
    rw [if_neg ht] at e1 e2 e3 e4
    subst e1
    have HLL := Lib.hid e2
    have HEE := Lib.hid e3
    have HCC := Lib.hid e4
    clear hix e2 e3 e4
    have KM1 := Lib.hid (KM.out w1 Lw1.out)
    obtain ⟨n, hn⟩ : ∃ n, n = (cameR l).length := ⟨_, rfl⟩
    rw [← hn] at HLL HEE HCC
    have HNN := Lib.hid hn
    clear hn KM
    go_wp2_with fail
    refine KM1.out.mono ?_; rintro e9 w9 ⟨u9, rfl, hU9, hb9⟩
    have L9 := Lib.hid (low_trans Lw1.out hb9)
    have OP9 := Lib.hid (OPw1.out.on hb9)
    have OQ9 := Lib.hid (OQw1.out.on hb9)
    have OE9 := Lib.hid (OEw1.out.on hb9)
    obtain ⟨A9, c9, rfl, _, _, _⟩ := hU9
    rw [← HNN.out]
    clear hb9 KM1 Lw1 OPw1 OQw1 OEw1 HNN
    by_cases hm : (n : Int) < S.m
    · have e2 := HLL.out
      have e3 := HEE.out
      have e4 := HCC.out
      rw [if_pos hm] at e2 e3 e4
      subst e2 e3 e4
      have hgB : w.heap.size + 2 < w9.heap.size := by have := OE9.out.lt; omega
      have hgC : w.heap.size < w9.heap.size := by omega
      have hgD : ¬ w.heap.size = w9.heap.size := by omega
      have hgE : ¬ w.heap.size = w9.heap.size + 1 := by omega
      have HA1 : Hid (∀ W g, OwnP w9.heap.size W (.slice (some ⟨g, 0, none⟩) 0 0) [] → Lows w9 W → ∃ v1 w1, (Builtin.append_ #[22, 22] 22 #[.slice (some ⟨g, 0, none⟩) 0 0, .slice A l.length c]).run Try.prog W = .ok v1 w1 ∧ (OwnP w9.heap.size w1 v1 l ∧ Lows w9 w1 ∧ ∀ k vs, k ≠ g → Blk W k 41 vs → Blk w1 k 41 vs)) := Lib.hid fun W g ho hW => by
        obtain ⟨v1, w1, h1, h2, h3, h4⟩ := append_peersG ho (PW.out W (low_trans L9.out hW)) (by simp; omega) hW.size
        refine ⟨v1, w1, h1, by simpa using h2, hW.trans h3, fun k vs hk hb => blk_of hb (h4 k hb.lt (by simp [Value.ownBlock]; exact hk))⟩
      have HA2 : Hid (∀ W u g, OwnP w9.heap.size W u l → Blk W g 41 [.bool p.e.a.v6, .int .u64 p.e.a.hi, .int .u64 p.e.a.lo, .int .i64 p.e.n, .bool true, .int .i64 p.t, .int .i64 p.c.p, .int .i64 p.c.a, .int .i64 p.g, .int .i64 p.k] → Lows w9 W → ∃ v1 w1, (Builtin.append_ #[22, 22] 22 #[u, .slice (some ⟨g, 0, none⟩) 1 1]).run Try.prog W = .ok v1 w1 ∧ (OwnP w9.heap.size w1 v1 (l ++ [setI p]) ∧ Lows w9 w1)) := Lib.hid fun W u g ho hb hW => by
        have hP : Peers W (.slice (some ⟨g, 0, none⟩) 1 1) [setI p] := Blk.reads (m := 1) encP_len hb (by rfl) rfl (Nat.le_refl _)
        obtain ⟨v1, w1, h1, h2, h3⟩ := append_peers ho hP (by simp; omega) hW.size
        exact ⟨v1, w1, h1, h2, hW.trans h3⟩
      have p0 := OP9.out.cell (j := 0) rfl
      have p1 := OP9.out.cell (j := 1) rfl
      have p2 := OP9.out.cell (j := 2) rfl
      have p3 := OP9.out.cell (j := 3) rfl
      have p4 := OP9.out.cell (j := 4) rfl
      have p5 := OP9.out.cell (j := 5) rfl
      have p6 := OP9.out.cell (j := 6) rfl
      have p7 := OP9.out.cell (j := 7) rfl
      have p8 := OP9.out.cell (j := 8) rfl
      have p9 := OP9.out.cell (j := 9) rfl
      clear HLL HEE HCC KH KI HC OQ9
      go_upto_region 5 with fail
      go_region_law (first
        | (refine step_append_ex rfl (.tmp 30) (.tmp 31) _ _ rfl rfl _ _ (by first | rfl | simp [Act.eval]) (by first | rfl | simp [Act.eval]) (HA1.out _ _ (by repeat (first | (with_reducible exact own_nil_at _ _ (by first | rfl | (simp; done)) (by first | exact Nat.le_refl _ | (simp; done) | (simp; omega))) | (with_reducible refine own_drew ?_) | (with_reducible refine own_alloc ?_ _))) (by repeat (first | (with_reducible exact Lows.self _) | (with_reducible assumption) | (with_reducible refine Lows.drew ?_) | (with_reducible refine Lows.alloc ?_ _)))) ?_; rintro v1 w2 ⟨ho1, hl1, hk1⟩
           have OPa := OP9.out.on hl1
           have p0 := OPa.cell (j := 0) rfl
           have p1 := OPa.cell (j := 1) rfl
           have p2 := OPa.cell (j := 2) rfl
           have p3 := OPa.cell (j := 3) rfl
           have p4 := OPa.cell (j := 4) rfl
           have p5 := OPa.cell (j := 5) rfl
           have p6 := OPa.cell (j := 6) rfl
           have p7 := OPa.cell (j := 7) rfl
           have p8 := OPa.cell (j := 8) rfl
           have p9 := OPa.cell (j := 9) rfl
           clear OPa)
        | (refine step_append_ex rfl (.tmp 32) (.tmp 34) _ _ rfl rfl _ _ (by first | rfl | simp [Act.eval]) (by first | rfl | simp [Act.eval]) (HA2.out _ v1 _ (by repeat (first | (with_reducible exact ho1) | (with_reducible refine own_drew ?_) | (with_reducible refine own_alloc ?_ _))) (by repeat (first | (with_reducible exact blk_new_at _ _ (by first | rfl | (simp; done)) rfl) | (with_reducible refine hk1 _ _ (by first | (simp; done) | (simp; omega)) ?_) | (with_reducible refine Blk.drew ?_) | (with_reducible refine Blk.alloc ?_ _))) (by repeat (first | (with_reducible exact Lows.self _) | (with_reducible assumption) | (with_reducible refine Lows.drew ?_) | (with_reducible refine Lows.alloc ?_ _)))) ?_; rintro v2 w3 ⟨ho2, hl2⟩
           have OEa := OE9.out.on hl2
           have s0 := OEa.cell (j := 0) rfl
           have f0 := OEa.free 0
           have s1 := OEa.cell (j := 1) rfl
           have f1 := OEa.free 1
           have s2 := OEa.cell (j := 2) rfl
           have f2 := OEa.free 2
           have s3 := OEa.cell (j := 3) rfl
           have f3 := OEa.free 3
           clear OEa))
      all_goals
        have HR : Hid (∀ W', Bt (w.heap.size + 2) w3 W' → ((v2 = .slice A l.length c ∧ l ++ [setI p] = l) ∨ OwnP w.heap.size W' v2 (l ++ [setI p])) ∧ Below w.heap.size w W') := Lib.hid fun W' hW => ⟨Or.inr (own_mono (own_but ho2 hW hgB) (by omega)), Bt.below (low_trans L9.out hl2) hW (by omega) (by have := (low_trans L9.out hl2).size; omega)⟩
        clear HA1 HA2 OP9 OE9 L9 ho2 hl2 ho1 hl1 hk1
        go_wp2_with fail
        exact bodyPost_ret (v := .tuple #[v2, .agg #[.bool false, .int .u64 0, .int .u64 0, .int .i64 0], .int .i64 0]) (by simp [results, Try.results10, go_sem, s0, s1, s2, s3]) rfl ⟨v2, rfl, HR.out _ (by repeat (first | (with_reducible exact Bt.refl _ _) | (with_reducible refine Bt.trans ?_ (Bt.setCell _ _ _ _)) | (refine Bt.drewN ?_ _)))⟩
    · have e2 := HLL.out
      have e3 := HEE.out
      have e4 := HCC.out
      rw [if_neg hm] at e2 e3 e4
      have HLL := Lib.hid e2
      have HCC := Lib.hid e4
      have hgl : Hid (0 < (candR l S.q S.s).length → fstN l (exitR (candR l S.q S.s)) < l.length) := Lib.hid gone_lt
      have hx0 : Hid ((candR l S.q S.s).length = 0 → exitR (candR l S.q S.s) = zeroE) := Lib.hid fun h => by unfold exitR; rw [if_pos h]
      have hix : Hid (ixE l (exitR (candR l S.q S.s)) = if fstN l (exitR (candR l S.q S.s)) < l.length then (fstN l (exitR (candR l S.q S.s)) : Int) else -1) := Lib.hid rfl
      clear e2 e4
      generalize exitR (candR l S.q S.s) = XX at *
      generalize (candR l S.q S.s).length = C at *
      subst e3
      have KH1 := Lib.hid (KH.out w9 L9.out)
      have q0 := OQ9.out.cell (j := 0) rfl
      have q1 := OQ9.out.cell (j := 1) rfl
      have q2 := OQ9.out.cell (j := 2) rfl
      have q3 := OQ9.out.cell (j := 3) rfl
      clear KH HEE
      go_wp2_with fail
      refine KH1.out.mono ?_; rintro e9 w3 ⟨rfl, hb3⟩
      have L3 := Lib.hid (low_trans L9.out hb3)
      have OP3 := Lib.hid (OP9.out.on hb3)
      have OE3 := Lib.hid (OE9.out.on hb3)
      clear hb3 L9 OP9 OQ9 OE9 KH1 q0 q1 q2 q3
      have OA4 := Lib.hid (Blk.new w3 #[.bool EE.a.v6, .int .u64 EE.a.hi, .int .u64 EE.a.lo, .int .i64 EE.n] 34)
      have L4 : Hid (Below w.heap.size w (w3.alloc (.cells #[.bool EE.a.v6, .int .u64 EE.a.hi, .int .u64 EE.a.lo, .int .i64 EE.n] 34))) := Lib.hid (Lows.alloc L3.out _)
      have OP4 := Lib.hid (OP3.out.alloc (.cells #[.bool EE.a.v6, .int .u64 EE.a.hi, .int .u64 EE.a.lo, .int .i64 EE.n] 34))
      have OE4 := Lib.hid (OE3.out.alloc (.cells #[.bool EE.a.v6, .int .u64 EE.a.hi, .int .u64 EE.a.lo, .int .i64 EE.n] 34))
      have HSZ : Hid (w.heap.size + 2 < w3.heap.size) := Lib.hid (by have := OE3.out.lt; omega)
      clear L3 OP3 OE3
      by_cases h0 : C = 0
      · have e2 := HLL.out
        have e4 := HCC.out
        rw [if_pos h0] at e2 e4
        have e2 := e2.symm
        subst e2 e4
        have hd : decide (0 < C) = false := decide_eq_false (by omega)
        rw [hd]
        have OEw4 := OE4
        have Lw4 := L4
        clear HLL HCC KI OP4 OA4 L4 OE4 hgl hix HC
        go_upto_region 8 with fail
        generalize w3.alloc (.cells #[.bool EE.a.v6, .int .u64 EE.a.hi, .int .u64 EE.a.lo, .int .i64 EE.n] 34) = w4 at OEw4 Lw4 ⊢
        have HR : Hid (∀ W', Bt (w.heap.size + 2) w4 W' → Below w.heap.size w W') := Lib.hid fun W' hW => Bt.below Lw4.out hW (by omega) (by have := Lw4.out.size; omega)
        have s0 := OEw4.out.cell (j := 0) rfl
        have f0 := OEw4.out.free 0
        have s1 := OEw4.out.cell (j := 1) rfl
        have f1 := OEw4.out.free 1
        have s2 := OEw4.out.cell (j := 2) rfl
        have f2 := OEw4.out.free 2
        have s3 := OEw4.out.cell (j := 3) rfl
        have f3 := OEw4.out.free 3
        go_wp2_with fail
        exact bodyPost_ret (v := .tuple #[.slice A l.length c, .agg #[.bool false, .int .u64 0, .int .u64 0, .int .i64 0], .int .i64 5]) (by simp [results, Try.results10, go_sem, s0, s1, s2, s3]) rfl ⟨_, by rw [hx0.out h0]; rfl, Or.inl (by first | exact rfl | exact ⟨rfl, rfl⟩), HR.out _ (by repeat (first | (with_reducible exact Bt.refl _ _) | (with_reducible refine Bt.trans ?_ (Bt.setCell _ _ _ _)) | (refine Bt.drewN ?_ _)))⟩
      · have e2 := HLL.out
        have e4 := HCC.out
        rw [if_neg h0] at e2 e4
        have hgl2 := hgl.out (by omega)
        have hix2 := hix.out
        rw [if_pos hgl2] at hix2
        have KO1 := Lib.hid (KI.out (w3.alloc (.cells #[.bool EE.a.v6, .int .u64 EE.a.hi, .int .u64 EE.a.lo, .int .i64 EE.n] 34)) EE L4.out)
        rw [hix2] at KO1
        have hd : decide (0 < C) = true := decide_eq_true (by omega)
        rw [hd]
        generalize fstN l EE = i at hgl2 KO1 e2
        subst e2 e4
        obtain ⟨bb, o, rfl, _, _⟩ := HC.out (by omega)
        have z0 := OA4.out.cell (j := 0) rfl
        have z1 := OA4.out.cell (j := 1) rfl
        have z2 := OA4.out.cell (j := 2) rfl
        have z3 := OA4.out.cell (j := 3) rfl
        clear HLL HCC hgl hix hix2 hx0 KI HC hd
        go_wp2_with fail
        refine KO1.out.mono ?_; rintro e9 w5 ⟨rfl, hb5⟩
        have L5 := Lib.hid (low_trans L4.out hb5)
        have OP5 := Lib.hid (OP4.out.on hb5)
        have OE5 := Lib.hid (OE4.out.on hb5)
        have OA5 := Lib.hid (OA4.out.on hb5)
        clear hb5 L4 OP4 OE4 OA4 KO1 z0 z1 z2 z3
        have hi1 : (i : Int) ≤ (l.length : Int) := by omega
        have hi2 : (i : Int) ≤ (c : Int) := by omega
        have hi3 : (i : Int) + 1 ≤ (l.length : Int) := by omega
        have hi4 : (i : Int) + 1 ≤ (c : Int) := by omega
        have hw : IntKind.i64.wrap ((i : Int) + 1) = (i : Int) + 1 := by rw [IntKind.wrap_i64]; omega
        have hi5 : ((i : Int) + 1).toNat = i + 1 := by omega
        have hi6 : (0 : Int) ≤ (i : Int) + 1 := by omega
        have hi7 : ¬ c = i := by omega
        have hi9 : (0 : Int) ≤ (i : Int) := by omega
        have hgB : w.heap.size + 2 < w5.heap.size := by have := OE5.out.lt; omega
        have hgF : w3.heap.size < w5.heap.size := OA5.out.lt
        have HA1 : Hid (∀ W g, OwnP w5.heap.size W (.slice (some ⟨g, 0, none⟩) 0 0) [] → Lows w5 W → ∃ v1 w1, (Builtin.append_ #[22, 22] 22 #[.slice (some ⟨g, 0, none⟩) 0 0, .slice (some ⟨bb, o, none⟩) i c]).run Try.prog W = .ok v1 w1 ∧ (OwnP w5.heap.size w1 v1 (l.take i) ∧ Lows w5 w1)) := Lib.hid fun W g ho hW => by
          obtain ⟨v1, w1, h1, h2, h3⟩ := append_peers ho ((PW.out W (low_trans L5.out hW)).part (i := i) (by omega)) (by simp; omega) hW.size
          exact ⟨v1, w1, h1, by simpa using h2, hW.trans h3⟩
        have HA2 : Hid (∀ RV, (∀ W, Below w.heap.size w W → Peers W RV (l.drop (i + 1))) → ∀ W u, OwnP w5.heap.size W u (l.take i) → Lows w5 W → ∃ v1 w1, (Builtin.append_ #[22, 22] 22 #[u, RV]).run Try.prog W = .ok v1 w1 ∧ (OwnP w5.heap.size w1 v1 (goneR l i) ∧ Lows w5 w1)) := Lib.hid fun RV hRV W u ho hW => by
          obtain ⟨v1, w1, h1, h2, h3⟩ := append_peers ho (hRV W (low_trans L5.out hW)) (by simp; omega) hW.size
          exact ⟨v1, w1, h1, h2, hW.trans h3⟩
        have HA3 : Hid (∀ W u g, OwnP w5.heap.size W u (goneR l i) → Blk W g 41 [.bool p.e.a.v6, .int .u64 p.e.a.hi, .int .u64 p.e.a.lo, .int .i64 p.e.n, .bool true, .int .i64 p.t, .int .i64 p.c.p, .int .i64 p.c.a, .int .i64 p.g, .int .i64 p.k] → Lows w5 W → ∃ v1 w1, (Builtin.append_ #[22, 22] 22 #[u, .slice (some ⟨g, 0, none⟩) 1 1]).run Try.prog W = .ok v1 w1 ∧ (OwnP w5.heap.size w1 v1 (goneR l i ++ [setI p]) ∧ Lows w5 w1)) := Lib.hid fun W u g ho hb hW => by
          have hP : Peers W (.slice (some ⟨g, 0, none⟩) 1 1) [setI p] := Blk.reads (m := 1) encP_len hb (by rfl) rfl (Nat.le_refl _)
          obtain ⟨v1, w1, h1, h2, h3⟩ := append_peers ho hP (by have := (gone_sub l i).length_le; simp; omega) hW.size
          exact ⟨v1, w1, h1, h2, hW.trans h3⟩
        by_cases hce : c = i + 1
        · have HA2 := Lib.hid (HA2.out (.slice (some ⟨bb, o, none⟩) 0 0) fun W hW => rest_none (by omega) rfl)
          clear PW hnil
          subst hce
          have hi8 : (i : Int) ≤ (i : Int) + 1 := by omega
          go_upto_region 10 with fail
          go_region_law (first
            | (refine step_append_ex rfl (.tmp 51) (.tmp 54) _ _ rfl rfl _ _ (by first | rfl | simp [Act.eval]) (by first | rfl | simp [Act.eval]) (HA1.out _ _ (by repeat (first | (with_reducible exact own_nil_at _ _ (by first | rfl | (simp; done)) (by first | exact Nat.le_refl _ | (simp; done) | (simp; omega))) | (with_reducible refine own_drew ?_) | (with_reducible refine own_alloc ?_ _))) (by repeat (first | (with_reducible exact Lows.self _) | (with_reducible assumption) | (with_reducible refine Lows.drew ?_) | (with_reducible refine Lows.alloc ?_ _)))) ?_; rintro v1 w6 ⟨ho1, hl1⟩)
            | (refine step_append_ex rfl (.tmp 55) (.tmp 59) _ _ rfl rfl _ _ (by first | rfl | simp [Act.eval]) (by first | rfl | simp [Act.eval]) (HA2.out _ v1 (by repeat (first | (with_reducible exact ho1) | (with_reducible refine own_drew ?_) | (with_reducible refine own_alloc ?_ _))) (by repeat (first | (with_reducible exact Lows.self _) | (with_reducible assumption) | (with_reducible refine Lows.drew ?_) | (with_reducible refine Lows.alloc ?_ _)))) ?_; rintro v2 w7 ⟨ho2, hl2⟩))
          have OP7 := Lib.hid (OP5.out.on hl2)
          have OA7 := Lib.hid (OA5.out.on hl2)
          have hwz : w5.heap.size ≤ w7.heap.size := hl2.size
          have hh1 : w.heap.size < w7.heap.size := by omega
          have hh2 : ¬ w.heap.size = w7.heap.size := by omega
          have hh3 : w3.heap.size < w7.heap.size := by omega
          have hh4 : ¬ w3.heap.size = w7.heap.size := by omega
          have hl1 := hl2
          have ho1 := ho2
          have p0 := OP7.out.cell (j := 0) rfl
          have p1 := OP7.out.cell (j := 1) rfl
          have p2 := OP7.out.cell (j := 2) rfl
          have p3 := OP7.out.cell (j := 3) rfl
          have p4 := OP7.out.cell (j := 4) rfl
          have p5 := OP7.out.cell (j := 5) rfl
          have p6 := OP7.out.cell (j := 6) rfl
          have p7 := OP7.out.cell (j := 7) rfl
          have p8 := OP7.out.cell (j := 8) rfl
          have p9 := OP7.out.cell (j := 9) rfl
          have z0 := OA7.out.cell (j := 0) rfl
          have z1 := OA7.out.cell (j := 1) rfl
          have z2 := OA7.out.cell (j := 2) rfl
          have z3 := OA7.out.cell (j := 3) rfl
          clear HA1 HA2 OP5 OP7
          go_upto_region 11 with fail
          go_region_law (first
            | (refine step_append_ex rfl (.tmp 61) (.tmp 63) _ _ rfl rfl _ _ (by first | rfl | simp [Act.eval]) (by first | rfl | simp [Act.eval]) (HA3.out _ v2 _ (by repeat (first | (with_reducible exact ho1) | (with_reducible refine own_drew ?_) | (with_reducible refine own_alloc ?_ _))) (by repeat (first | (with_reducible exact blk_new_at _ _ (by first | rfl | (simp; done)) rfl) | (with_reducible refine Blk.drew ?_) | (with_reducible refine Blk.alloc ?_ _))) (by repeat (first | (with_reducible exact Lows.self _) | (with_reducible assumption) | (with_reducible refine Lows.drew ?_) | (with_reducible refine Lows.alloc ?_ _)))) ?_; rintro v3 w8 ⟨ho3, hl3⟩
               have OE8 := OE5.out.on hl3
               have OA8 := OA5.out.on hl3
               have s0 := OE8.cell (j := 0) rfl
               have f0 := OE8.free 0
               have s1 := OE8.cell (j := 1) rfl
               have f1 := OE8.free 1
               have s2 := OE8.cell (j := 2) rfl
               have f2 := OE8.free 2
               have s3 := OE8.cell (j := 3) rfl
               have f3 := OE8.free 3
               have z0 := OA8.cell (j := 0) rfl
               have z1 := OA8.cell (j := 1) rfl
               have z2 := OA8.cell (j := 2) rfl
               have z3 := OA8.cell (j := 3) rfl
               clear OE8 OA8))
          all_goals
            have HR : Hid (∀ W', Bt (w.heap.size + 2) w8 W' → ((v3 = .slice (some ⟨bb, o, none⟩) l.length (i + 1) ∧ goneR l i ++ [setI p] = l) ∨ OwnP w.heap.size W' v3 (goneR l i ++ [setI p])) ∧ Below w.heap.size w W') := Lib.hid fun W' hW => ⟨Or.inr (own_mono (own_but ho3 hW hgB) (by omega)), Bt.below (low_trans L5.out hl3) hW (by omega) (by have := (low_trans L5.out hl3).size; omega)⟩
            clear HA3 OE5 OA5 OA7 L5 ho3 hl3 ho1 hl1 ho2 hl2
            go_wp2_with fail
            exact bodyPost_ret (v := .tuple #[v3, .agg #[.bool EE.a.v6, .int .u64 EE.a.hi, .int .u64 EE.a.lo, .int .i64 EE.n], .int .i64 0]) (by simp [results, Try.results10, go_sem, s0, s1, s2, s3]) rfl ⟨v3, rfl, HR.out _ (by repeat (first | (with_reducible exact Bt.refl _ _) | (with_reducible refine Bt.trans ?_ (Bt.setCell _ _ _ _)) | (refine Bt.drewN ?_ _)))⟩
        · have HA2 := Lib.hid (HA2.out (.slice (some ⟨bb, o + (i + 1) * 10, none⟩) (l.length - (i + 1)) (c - (i + 1))) fun W hW => (PW.out W hW).rest (by omega))
          clear PW
          go_upto_region 10 with fail
          go_region_law (first
            | (refine step_append_ex rfl (.tmp 51) (.tmp 54) _ _ rfl rfl _ _ (by first | rfl | simp [Act.eval]) (by first | rfl | simp [Act.eval]) (HA1.out _ _ (by repeat (first | (with_reducible exact own_nil_at _ _ (by first | rfl | (simp; done)) (by first | exact Nat.le_refl _ | (simp; done) | (simp; omega))) | (with_reducible refine own_drew ?_) | (with_reducible refine own_alloc ?_ _))) (by repeat (first | (with_reducible exact Lows.self _) | (with_reducible assumption) | (with_reducible refine Lows.drew ?_) | (with_reducible refine Lows.alloc ?_ _)))) ?_; rintro v1 w6 ⟨ho1, hl1⟩)
            | (refine step_append_ex rfl (.tmp 55) (.tmp 59) _ _ rfl rfl _ _ (by first | rfl | simp [Act.eval]) (by first | rfl | simp [Act.eval]) (HA2.out _ v1 (by repeat (first | (with_reducible exact ho1) | (with_reducible refine own_drew ?_) | (with_reducible refine own_alloc ?_ _))) (by repeat (first | (with_reducible exact Lows.self _) | (with_reducible assumption) | (with_reducible refine Lows.drew ?_) | (with_reducible refine Lows.alloc ?_ _)))) ?_; rintro v2 w7 ⟨ho2, hl2⟩))
          have OP7 := Lib.hid (OP5.out.on hl2)
          have OA7 := Lib.hid (OA5.out.on hl2)
          have hwz : w5.heap.size ≤ w7.heap.size := hl2.size
          have hh1 : w.heap.size < w7.heap.size := by omega
          have hh2 : ¬ w.heap.size = w7.heap.size := by omega
          have hh3 : w3.heap.size < w7.heap.size := by omega
          have hh4 : ¬ w3.heap.size = w7.heap.size := by omega
          have hl1 := hl2
          have ho1 := ho2
          have p0 := OP7.out.cell (j := 0) rfl
          have p1 := OP7.out.cell (j := 1) rfl
          have p2 := OP7.out.cell (j := 2) rfl
          have p3 := OP7.out.cell (j := 3) rfl
          have p4 := OP7.out.cell (j := 4) rfl
          have p5 := OP7.out.cell (j := 5) rfl
          have p6 := OP7.out.cell (j := 6) rfl
          have p7 := OP7.out.cell (j := 7) rfl
          have p8 := OP7.out.cell (j := 8) rfl
          have p9 := OP7.out.cell (j := 9) rfl
          have z0 := OA7.out.cell (j := 0) rfl
          have z1 := OA7.out.cell (j := 1) rfl
          have z2 := OA7.out.cell (j := 2) rfl
          have z3 := OA7.out.cell (j := 3) rfl
          clear HA1 HA2 OP5 OP7
          go_upto_region 11 with fail
          go_region_law (first
            | (refine step_append_ex rfl (.tmp 61) (.tmp 63) _ _ rfl rfl _ _ (by first | rfl | simp [Act.eval]) (by first | rfl | simp [Act.eval]) (HA3.out _ v2 _ (by repeat (first | (with_reducible exact ho1) | (with_reducible refine own_drew ?_) | (with_reducible refine own_alloc ?_ _))) (by repeat (first | (with_reducible exact blk_new_at _ _ (by first | rfl | (simp; done)) rfl) | (with_reducible refine Blk.drew ?_) | (with_reducible refine Blk.alloc ?_ _))) (by repeat (first | (with_reducible exact Lows.self _) | (with_reducible assumption) | (with_reducible refine Lows.drew ?_) | (with_reducible refine Lows.alloc ?_ _)))) ?_; rintro v3 w8 ⟨ho3, hl3⟩
               have OE8 := OE5.out.on hl3
               have OA8 := OA5.out.on hl3
               have s0 := OE8.cell (j := 0) rfl
               have f0 := OE8.free 0
               have s1 := OE8.cell (j := 1) rfl
               have f1 := OE8.free 1
               have s2 := OE8.cell (j := 2) rfl
               have f2 := OE8.free 2
               have s3 := OE8.cell (j := 3) rfl
               have f3 := OE8.free 3
               have z0 := OA8.cell (j := 0) rfl
               have z1 := OA8.cell (j := 1) rfl
               have z2 := OA8.cell (j := 2) rfl
               have z3 := OA8.cell (j := 3) rfl
               clear OE8 OA8))
          all_goals
            have HR : Hid (∀ W', Bt (w.heap.size + 2) w8 W' → ((v3 = .slice (some ⟨bb, o, none⟩) l.length c ∧ goneR l i ++ [setI p] = l) ∨ OwnP w.heap.size W' v3 (goneR l i ++ [setI p])) ∧ Below w.heap.size w W') := Lib.hid fun W' hW => ⟨Or.inr (own_mono (own_but ho3 hW hgB) (by omega)), Bt.below (low_trans L5.out hl3) hW (by omega) (by have := (low_trans L5.out hl3).size; omega)⟩
            clear HA3 OE5 OA5 OA7 L5 ho3 hl3 ho1 hl1 ho2 hl2
            go_wp2_with fail
            exact bodyPost_ret (v := .tuple #[v3, .agg #[.bool EE.a.v6, .int .u64 EE.a.hi, .int .u64 EE.a.lo, .int .i64 EE.n], .int .i64 0]) (by simp [results, Try.results10, go_sem, s0, s1, s2, s3]) rfl ⟨v3, rfl, HR.out _ (by repeat (first | (with_reducible exact Bt.refl _ _) | (with_reducible refine Bt.trans ?_ (Bt.setCell _ _ _ _)) | (refine Bt.drewN ?_ _)))⟩
end Go.Proofs.Ythmcggbmeabpmaa.Si
