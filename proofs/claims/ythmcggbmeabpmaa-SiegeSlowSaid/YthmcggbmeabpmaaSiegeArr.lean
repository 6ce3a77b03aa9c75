/- siege.Arrive and Run. -/
import Derived.Test.YthmcggbmeabpmaaSiegeRiv
import Derived.Deep.RegionHeld3
namespace Go.Proofs.Ythmcggbmeabpmaa.Si
set_option maxRecDepth 100000
open Go.ChangeShapes Go.WideShapes Go.ChangeAt Go.RowKit
open Dec Words V4 V6 Ad Ci En Sat Ha Pe Stb Gr Mi Ra Sh Cw Ev Go.Deep
set_option linter.unusedVariables false
theorem own_mono {B C : Nat} {w : World} {v : Value} {l : List Pr} (h : OwnP C w v l) (k : B ≤ C) : OwnP B w v l := by
  obtain ⟨h1, h2⟩ := h
  refine ⟨h1, ?_⟩
  rcases h2 with h2 | ⟨g, cap, cur, h2, h3, h4⟩
  · exact Or.inl h2
  · exact Or.inr ⟨g, cap, cur, h2, Nat.le_trans k h3, h4⟩
theorem own_but {B g : Nat} {w w' : World} {v : Value} {l : List Pr} (h : OwnP B w v l) (k : Bt g w w') (hg : g < B) : OwnP B w' v l := by
  refine World.ownsRow.kept (row := some g) h ⟨k.os, k.tape, k.output, k.size, fun j hj hne => k.block j (fun e => hne (by rw [e])) hj⟩ (Or.inr fun e => ?_)
  have := (World.ownsRow.lt h g e).1
  omega
theorem gone_lt {l : List Pr} {S : Sit} (hc : 0 < (candR l S.q S.s).length) : fstN l (exitR (candR l S.q S.s)) < l.length := by
  obtain ⟨j, hj, _, he⟩ := end_at hc
  rw [← he]
  exact fst_lt (List.mem_filter.1 (show (cameR l)[j]! ∈ cameR l by rw [getElem!_pos _ j hj]; exact List.getElem_mem _)).1
theorem rest_none {w : World} {bb o n : Nat} {l : List Pr} {i : Nat} (hi : l.length ≤ i + 1) (hn : n = 0) : Peers w (.slice (some ⟨bb, o, none⟩) n 0) (l.drop (i + 1)) := by
  rw [List.drop_of_length_le hi, hn]
  exact Recs.void 10 encP w _ (fun h => by cases h)
abbrev SA (w w3 w5 : World) (EE : Endp) (p : Pr) (w' : World) : Prop := w'.cell? ⟨w3.heap.size, 0, none⟩ = some (.bool EE.a.v6) ∧ w'.cell? ⟨w3.heap.size, 1, none⟩ = some (.int .u64 EE.a.hi) ∧ w'.cell? ⟨w3.heap.size, 2, none⟩ = some (.int .u64 EE.a.lo) ∧ w'.cell? ⟨w3.heap.size, 3, none⟩ = some (.int .i64 EE.n) ∧ w'.cell? ⟨w.heap.size, 0, none⟩ = some (.bool p.e.a.v6) ∧ w'.cell? ⟨w.heap.size, 1, none⟩ = some (.int .u64 p.e.a.hi) ∧ w'.cell? ⟨w.heap.size, 2, none⟩ = some (.int .u64 p.e.a.lo) ∧ w'.cell? ⟨w.heap.size, 3, none⟩ = some (.int .i64 p.e.n) ∧ w'.cell? ⟨w.heap.size, 4, none⟩ = some (.bool true) ∧ w'.cell? ⟨w.heap.size, 5, none⟩ = some (.int .i64 p.t) ∧ w'.cell? ⟨w.heap.size, 6, none⟩ = some (.int .i64 p.c.p) ∧ w'.cell? ⟨w.heap.size, 7, none⟩ = some (.int .i64 p.c.a) ∧ w'.cell? ⟨w.heap.size, 8, none⟩ = some (.int .i64 p.g) ∧ w'.cell? ⟨w.heap.size, 9, none⟩ = some (.int .i64 p.k) ∧ Bt (w.heap.size + 2) w5 w'
set_option maxHeartbeats 8000000 in
/-- What becomes of peers when one comes. -/
theorem arrive_any (v : Value) (l : List Pr) (p : Pr) (S : Sit) (w : World) (h : Peers w v l) (hok : ∀ x ∈ l, x.ok) (hl : l.length ≤ 800000) (hs : S.s < 18446744073709551616) :
    Calls Try.prog 9 #[v, .agg #[.bool p.e.a.v6, .int .u64 p.e.a.hi, .int .u64 p.e.a.lo, .int .i64 p.e.n, .bool p.i, .int .i64 p.t, .int .i64 p.c.p, .int .i64 p.c.a, .int .i64 p.g, .int .i64 p.k], .agg #[.int .i64 S.m, .int .i64 S.q.g, .int .i64 S.q.p, .int .i64 S.q.w, .int .i64 S.q.t, .int .u64 (S.s : Nat)]] w fun e w' => ∃ u, e = .returned (.tuple #[u, .agg #[.bool (arrE l p S).a.v6, .int .u64 (arrE l p S).a.hi, .int .u64 (arrE l p S).a.lo, .int .i64 (arrE l p S).n], .int .i64 (arrC l p S)]) ∧ OwnP w.heap.size w' u (arrL l p S) ∧ Below w.heap.size w w' := by
  have L3 : Hid (Lows w (((w.alloc (.cells #[.bool p.e.a.v6, .int .u64 p.e.a.hi, .int .u64 p.e.a.lo, .int .i64 p.e.n, .bool p.i, .int .i64 p.t, .int .i64 p.c.p, .int .i64 p.c.a, .int .i64 p.g, .int .i64 p.k] 41)).alloc (.cells #[.int .i64 S.m, .int .i64 S.q.g, .int .i64 S.q.p, .int .i64 S.q.w, .int .i64 S.q.t, .int .u64 (S.s : Nat)] 27)).alloc (.cells #[.bool false, .int .u64 0, .int .u64 0, .int .i64 0] 34))) := Lib.hid (Lows.alloc (Lows.alloc (Lows.alloc (Lows.self w) _) _) _)
  have OP := Lib.hid (((Blk.new w #[.bool p.e.a.v6, .int .u64 p.e.a.hi, .int .u64 p.e.a.lo, .int .i64 p.e.n, .bool p.i, .int .i64 p.t, .int .i64 p.c.p, .int .i64 p.c.a, .int .i64 p.g, .int .i64 p.k] 41).alloc (.cells #[.int .i64 S.m, .int .i64 S.q.g, .int .i64 S.q.p, .int .i64 S.q.w, .int .i64 S.q.t, .int .u64 (S.s : Nat)] 27)).alloc (.cells #[.bool false, .int .u64 0, .int .u64 0, .int .i64 0] 34))
  have OS := Lib.hid ((Blk.two w (.cells #[.bool p.e.a.v6, .int .u64 p.e.a.hi, .int .u64 p.e.a.lo, .int .i64 p.e.n, .bool p.i, .int .i64 p.t, .int .i64 p.c.p, .int .i64 p.c.a, .int .i64 p.g, .int .i64 p.k] 41) #[.int .i64 S.m, .int .i64 S.q.g, .int .i64 S.q.p, .int .i64 S.q.w, .int .i64 S.q.t, .int .u64 (S.s : Nat)] 27).alloc (.cells #[.bool false, .int .u64 0, .int .u64 0, .int .i64 0] 34))
  have OE := Lib.hid (Blk.three w (.cells #[.bool p.e.a.v6, .int .u64 p.e.a.hi, .int .u64 p.e.a.lo, .int .i64 p.e.n, .bool p.i, .int .i64 p.t, .int .i64 p.c.p, .int .i64 p.c.a, .int .i64 p.g, .int .i64 p.k] 41) (.cells #[.int .i64 S.m, .int .i64 S.q.g, .int .i64 S.q.p, .int .i64 S.q.w, .int .i64 S.q.t, .int .u64 (S.s : Nat)] 27) #[.bool false, .int .u64 0, .int .u64 0, .int .i64 0] 34)
  have KP := Lib.hid (placeOf_any v l p.e (((w.alloc (.cells #[.bool p.e.a.v6, .int .u64 p.e.a.hi, .int .u64 p.e.a.lo, .int .i64 p.e.n, .bool p.i, .int .i64 p.t, .int .i64 p.c.p, .int .i64 p.c.a, .int .i64 p.g, .int .i64 p.k] 41)).alloc (.cells #[.int .i64 S.m, .int .i64 S.q.g, .int .i64 S.q.p, .int .i64 S.q.w, .int .i64 S.q.t, .int .u64 (S.s : Nat)] 27)).alloc (.cells #[.bool false, .int .u64 0, .int .u64 0, .int .i64 0] 34)) (h.below L3.out) (by omega))
  have PW : Hid (∀ W, Below w.heap.size w W → Peers W v l) := Lib.hid fun W hW => h.below hW
  have KB : Hid (∀ W0, Below w.heap.size w W0 → ∀ W, Lows W0 W → Calls Try.prog 26 #[v] W fun e w' => e = .returned (.int .i64 (cameR l).length) ∧ Lows W0 w') := Lib.hid fun W0 h0 W hW => (siegeIn_any v l W (h.below (low_trans h0 hW)) (by omega)).mono fun e w' hh => ⟨hh.1, low_trans hW hh.2⟩
  have KX : Hid (∀ W, Below w.heap.size w W → Calls Try.prog 25 #[v] W fun e w' => ∃ u, e = .returned u ∧ OwnP W.heap.size w' u l ∧ Below W.heap.size W w') := Lib.hid fun W hW => clone_any v l W (h.below hW) (by omega)
  have KH : Hid (∀ W, Below w.heap.size w W → Calls Try.prog 27 #[v, .agg #[.int .i64 S.q.g, .int .i64 S.q.p, .int .i64 S.q.w, .int .i64 S.q.t], .int .u64 (S.s : Nat)] W fun e w' => e = .returned (.tuple #[.agg #[.bool (exitR (candR l S.q S.s)).a.v6, .int .u64 (exitR (candR l S.q S.s)).a.hi, .int .u64 (exitR (candR l S.q S.s)).a.lo, .int .i64 (exitR (candR l S.q S.s)).n], .bool (decide (0 < (candR l S.q S.s).length))]) ∧ Below W.heap.size W w') := Lib.hid fun W hW => choose_any v l S.q S.s W (h.below hW) hok (by omega) hs
  have KO : Hid (∀ W, Below w.heap.size w W → Calls Try.prog 24 #[v, .agg #[.bool (exitR (candR l S.q S.s)).a.v6, .int .u64 (exitR (candR l S.q S.s)).a.hi, .int .u64 (exitR (candR l S.q S.s)).a.lo, .int .i64 (exitR (candR l S.q S.s)).n]] W fun e w' => e = .returned (.int .i64 (ixE l (exitR (candR l S.q S.s)))) ∧ Below W.heap.size W w') := Lib.hid fun W hW => placeOf_any v l _ W (h.below hW) (by omega)
  obtain ⟨A, c, rfl, hc, hnil, hcell⟩ := h
  have HC := Lib.hid hcell
  have hix : Hid (ixE l p.e = if fstN l p.e < l.length then (fstN l p.e : Int) else -1) := Lib.hid rfl
  have HLL : Hid (arrL l p S = if fstN l p.e < l.length then l else if ((cameR l).length : Int) < S.m then l ++ [setI p] else if (candR l S.q S.s).length = 0 then l else goneR l (fstN l (exitR (candR l S.q S.s))) ++ [setI p]) := Lib.hid rfl
  have HEE : Hid (arrE l p S = if fstN l p.e < l.length then zeroE else if ((cameR l).length : Int) < S.m then zeroE else exitR (candR l S.q S.s)) := Lib.hid rfl
  have HCC : Hid (arrC l p S = if fstN l p.e < l.length then 7 else if ((cameR l).length : Int) < S.m then 0 else if (candR l S.q S.s).length = 0 then 5 else 0) := Lib.hid rfl
  generalize ixE l p.e = ix at KP hix
  generalize arrL l p S = LL at HLL ⊢
  generalize arrE l p S = EE at HEE ⊢
  generalize arrC l p S = CC at HCC ⊢
  clear hcell hok
  go_enter Try.func9, Try.ntmps9
  go_wp2_with fail
  refine KP.out.mono ?_; rintro e9 w1 ⟨rfl, hb1⟩
  have Lw1 := Lib.hid (low_trans L3.out hb1)
  have OPw1 := Lib.hid (OP.out.on hb1)
  have OSw1 := Lib.hid (OS.out.on hb1)
  have OEw1 := Lib.hid (OE.out.on hb1)
  clear hb1 KP L3 OP OS OE
  by_cases ht : fstN l p.e < l.length
  · have e1 := hix.out
    have e2 := HLL.out
    have e3 := HEE.out
    have e4 := HCC.out
    rw [if_pos ht] at e1 e2 e3 e4
    generalize fstN l p.e = k at e1
    have e2 := e2.symm
    subst e1 e2 e3 e4
    have hkz : (0 : Int) ≤ (k : Int) := by omega
    clear ht hix HLL HEE HCC KB KH KO HC hnil
    have KX1 := Lib.hid (KX.out w1 Lw1.out)
    go_wp2_with fail
    refine KX1.out.mono ?_; rintro e9 w8 ⟨u, rfl, hU, hb8⟩
    have hgB : w.heap.size + 2 < w1.heap.size := by have := OEw1.out.lt; omega
    have HR : Hid (∀ W', Bt (w.heap.size + 2) w8 W' → OwnP w.heap.size W' u l ∧ Below w.heap.size w W') := Lib.hid fun W' hW => ⟨own_mono (own_but hU hW hgB) (by omega), Bt.below (low_trans Lw1.out hb8) hW (by omega) (by have := (low_trans Lw1.out hb8).size; omega)⟩
    have OE8 := OEw1.out.on hb8
    have s0 := OE8.cell (j := 0) rfl
    have f0 := OE8.free 0
    have s1 := OE8.cell (j := 1) rfl
    have f1 := OE8.free 1
    have s2 := OE8.cell (j := 2) rfl
    have f2 := OE8.free 2
    have s3 := OE8.cell (j := 3) rfl
    have f3 := OE8.free 3
    clear OE8 hU hb8 KX1
    go_wp2_with fail
    exact bodyPost_ret (v := .tuple #[u, .agg #[.bool false, .int .u64 0, .int .u64 0, .int .i64 0], .int .i64 7]) (by simp [results, Try.results9, go_sem, s0, s1, s2, s3]) rfl ⟨u, rfl, HR.out _ (by repeat (first | (with_reducible exact Bt.refl _ _) | (with_reducible refine Bt.trans ?_ (Bt.setCell _ _ _ _)) | (refine Bt.drewN ?_ _)))⟩
  · have e1 := hix.out
    have e2 := HLL.out
    have e3 := HEE.out
    have e4 := HCC.out
    rw [if_neg ht] at e1 e2 e3 e4
    subst e1
    have HLL := Lib.hid e2
    have HEE := Lib.hid e3
    have HCC := Lib.hid e4
    clear hix e2 e3 e4
    have c4 := OPw1.out.cell (j := 4) rfl
    have k4 := OPw1.out.free 4
    have OP2 : Hid (Blk (w1.setCell ⟨w.heap.size, 4, none⟩ (.bool true)) w.heap.size 41 [.bool p.e.a.v6, .int .u64 p.e.a.hi, .int .u64 p.e.a.lo, .int .i64 p.e.n, .bool true, .int .i64 p.t, .int .i64 p.c.p, .int .i64 p.c.a, .int .i64 p.g, .int .i64 p.k]) := Lib.hid (OPw1.out.set 4 (.bool true))
    have OS2 : Hid (Blk (w1.setCell ⟨w.heap.size, 4, none⟩ (.bool true)) (w.heap.size + 1) 27 [.int .i64 S.m, .int .i64 S.q.g, .int .i64 S.q.p, .int .i64 S.q.w, .int .i64 S.q.t, .int .u64 (S.s : Nat)]) := Lib.hid (OSw1.out.but (Bt.setCell _ _ _ _) (by omega))
    have OE2 : Hid (Blk (w1.setCell ⟨w.heap.size, 4, none⟩ (.bool true)) (w.heap.size + 2) 34 [.bool false, .int .u64 0, .int .u64 0, .int .i64 0]) := Lib.hid (OEw1.out.but (Bt.setCell _ _ _ _) (by omega))
    have L2 : Hid (Below w.heap.size w (w1.setCell ⟨w.heap.size, 4, none⟩ (.bool true))) := Lib.hid (Below.setCell Lw1.out (by first | exact Nat.le_refl _ | simp) _)
    clear OPw1 OSw1 OEw1 Lw1
    go_upto_region 4 with fail
    generalize w1.setCell ⟨w.heap.size, 4, none⟩ (.bool true) = w2 at OP2 OS2 OE2 L2 ⊢
    clear c4 k4
    have hne : Nonempty (Cls (Lows w2)) := ⟨⟨_, Lows.self _⟩⟩
    have f0 : ∀ nq : Cls (Lows w2), nq.w.cell? ⟨w.heap.size + 1, 0, none⟩ = some (.int .i64 S.m) := fun nq => (OS2.out.on nq.h).cell (j := 0) rfl
    have KB2 := Lib.hid (KB.out w2 L2.out)
    obtain ⟨n, hn⟩ : ∃ n, n = (cameR l).length := ⟨_, rfl⟩
    rw [← hn] at KB2 HLL HEE HCC
    clear KB hn
    go_wp2_with fail
    refine Cls.region (Lows w2) (by kernel_rfl) (by kernel_rfl) (low_drewN (Below.refl _ _) 1) ?_
    (try dsimp only [List.append])
    repeat (go_big_quiet_step (first | fail | (with_reducible exact Cls.call (KB2.out _ (Cls.h _)))))
    refine wpQuiet_nil ?_
    intro n9
    have hk9 := n9.h
    generalize n9.w = w9 at hk9 ⊢
    clear hne n9 f0 KB2
    have L9 := Lib.hid (low_trans L2.out hk9)
    have OP9 := Lib.hid (OP2.out.on hk9)
    have OS9 := Lib.hid (OS2.out.on hk9)
    have OE9 := Lib.hid (OE2.out.on hk9)
    clear hk9 OP2 OS2 OE2 L2
    by_cases hm : (n : Int) < S.m
    · have e2 := HLL.out
      have e3 := HEE.out
      have e4 := HCC.out
      rw [if_pos hm] at e2 e3 e4
      subst e2 e3 e4
      have p0 := OP9.out.cell (j := 0) rfl
      have p1 := OP9.out.cell (j := 1) rfl
      have p2 := OP9.out.cell (j := 2) rfl
      have p3 := OP9.out.cell (j := 3) rfl
      have p4 := OP9.out.cell (j := 4) rfl
      have p5 := OP9.out.cell (j := 5) rfl
      have p6 := OP9.out.cell (j := 6) rfl
      have p7 := OP9.out.cell (j := 7) rfl
      have p8 := OP9.out.cell (j := 8) rfl
      have p9 := OP9.out.cell (j := 9) rfl
      have L10 : Hid (Below w.heap.size w ((w9.alloc (.cells #[.bool p.e.a.v6, .int .u64 p.e.a.hi, .int .u64 p.e.a.lo, .int .i64 p.e.n, .bool true, .int .i64 p.t, .int .i64 p.c.p, .int .i64 p.c.a, .int .i64 p.g, .int .i64 p.k] 41)).alloc (.cells #[.slice A l.length c, .slice (some ⟨w9.heap.size, 0, none⟩) 1 1] 22))) := Lib.hid (Lows.alloc (Lows.alloc L9.out _) _)
      have KC := Lib.hid (concat_any (w9.heap.size + 1) #[.slice A l.length c, .slice (some ⟨w9.heap.size, 0, none⟩) 1 1].toList [l, [setI p]] ((w9.alloc (.cells #[.bool p.e.a.v6, .int .u64 p.e.a.hi, .int .u64 p.e.a.lo, .int .i64 p.e.n, .bool true, .int .i64 p.t, .int .i64 p.c.p, .int .i64 p.c.a, .int .i64 p.g, .int .i64 p.k] 41)).alloc (.cells #[.slice A l.length c, .slice (some ⟨w9.heap.size, 0, none⟩) 1 1] 22)) (Blk.two w9 (.cells #[.bool p.e.a.v6, .int .u64 p.e.a.hi, .int .u64 p.e.a.lo, .int .i64 p.e.n, .bool true, .int .i64 p.t, .int .i64 p.c.p, .int .i64 p.c.a, .int .i64 p.g, .int .i64 p.k] 41) #[.slice A l.length c, .slice (some ⟨w9.heap.size, 0, none⟩) 1 1] 22) rfl (fun k hk => by
        obtain rfl | rfl : k = 0 ∨ k = 1 := by simp at hk; omega
        · exact PW.out _ L10.out
        · exact (Recs.lit encP_len w9 [setI p] #[.bool p.e.a.v6, .int .u64 p.e.a.hi, .int .u64 p.e.a.lo, .int .i64 p.e.n, .bool true, .int .i64 p.t, .int .i64 p.c.p, .int .i64 p.c.a, .int .i64 p.g, .int .i64 p.k] 41 (by rw [flat_one]; rfl)).below ((Below.refl _ _).alloc (Nat.le_refl _) _)) (by simp) (by simp; omega))
      have OE10 := Lib.hid (((OE9.out.alloc (.cells #[.bool p.e.a.v6, .int .u64 p.e.a.hi, .int .u64 p.e.a.lo, .int .i64 p.e.n, .bool true, .int .i64 p.t, .int .i64 p.c.p, .int .i64 p.c.a, .int .i64 p.g, .int .i64 p.k] 41)).alloc (.cells #[.slice A l.length c, .slice (some ⟨w9.heap.size, 0, none⟩) 1 1] 22)))
      have HSZ : Hid (((w9.alloc (.cells #[.bool p.e.a.v6, .int .u64 p.e.a.hi, .int .u64 p.e.a.lo, .int .i64 p.e.n, .bool true, .int .i64 p.t, .int .i64 p.c.p, .int .i64 p.c.a, .int .i64 p.g, .int .i64 p.k] 41)).alloc (.cells #[.slice A l.length c, .slice (some ⟨w9.heap.size, 0, none⟩) 1 1] 22)).heap.size = w9.heap.size + 2) := Lib.hid (by simp)
      have hgB : w.heap.size + 2 < w9.heap.size := by have := OE9.out.lt; omega
      clear HLL HEE HCC KH KO KX HC OS9 OE9 PW OP9 L9
      go_wp2_with fail
      refine KC.out.mono ?_; rintro e9 w11 ⟨u, rfl, hU, hb⟩
      rw [show [l, [setI p]].flatten = l ++ [setI p] by simp] at hU
      have HR : Hid (∀ W', Bt (w.heap.size + 2) w11 W' → OwnP w.heap.size W' u (l ++ [setI p]) ∧ Below w.heap.size w W') := Lib.hid fun W' hW => ⟨own_mono (own_but hU hW (by have := HSZ.out; omega)) (by have := HSZ.out; omega), Bt.below (low_trans L10.out hb) hW (by omega) (by have := (low_trans L10.out hb).size; omega)⟩
      have OE8 := OE10.out.on hb
      have s0 := OE8.cell (j := 0) rfl
      have f0 := OE8.free 0
      have s1 := OE8.cell (j := 1) rfl
      have f1 := OE8.free 1
      have s2 := OE8.cell (j := 2) rfl
      have f2 := OE8.free 2
      have s3 := OE8.cell (j := 3) rfl
      have f3 := OE8.free 3
      clear OE8 OE10 hU hb KC HSZ L10
      go_wp2_with fail
      exact bodyPost_ret (v := .tuple #[u, .agg #[.bool false, .int .u64 0, .int .u64 0, .int .i64 0], .int .i64 0]) (by simp [results, Try.results9, go_sem, s0, s1, s2, s3]) rfl ⟨u, rfl, HR.out _ (by repeat (first | (with_reducible exact Bt.refl _ _) | (with_reducible refine Bt.trans ?_ (Bt.setCell _ _ _ _)) | (refine Bt.drewN ?_ _)))⟩
    · have e2 := HLL.out
      have e3 := HEE.out
      have e4 := HCC.out
      rw [if_neg hm] at e2 e3 e4
      have HLL := Lib.hid e2
      have HCC := Lib.hid e4
      have hgl : Hid (0 < (candR l S.q S.s).length → fstN l (exitR (candR l S.q S.s)) < l.length) := Lib.hid gone_lt
      have hx0 : Hid ((candR l S.q S.s).length = 0 → exitR (candR l S.q S.s) = zeroE) := Lib.hid fun h => by unfold exitR; rw [if_pos h]
      have hix : Hid (ixE l (exitR (candR l S.q S.s)) = if fstN l (exitR (candR l S.q S.s)) < l.length then (fstN l (exitR (candR l S.q S.s)) : Int) else -1) := Lib.hid rfl
      clear e2 e4
      generalize exitR (candR l S.q S.s) = XX at *
      generalize (candR l S.q S.s).length = C at *
      subst e3
      have KH1 := Lib.hid (KH.out w9 L9.out)
      have q0 := OS9.out.cell (j := 0) rfl
      have q1 := OS9.out.cell (j := 1) rfl
      have q2 := OS9.out.cell (j := 2) rfl
      have q3 := OS9.out.cell (j := 3) rfl
      have q4 := OS9.out.cell (j := 4) rfl
      have q5 := OS9.out.cell (j := 5) rfl
      clear KH HEE
      go_wp2_with fail
      refine KH1.out.mono ?_; rintro e9 w3 ⟨rfl, hb3⟩
      have L3 := Lib.hid (low_trans L9.out hb3)
      have OP3 := Lib.hid (OP9.out.on hb3)
      have OE3 := Lib.hid (OE9.out.on hb3)
      clear hb3 L9 OP9 OS9 OE9 KH1 q0 q1 q2 q3 q4 q5
      have OA4 := Lib.hid (Blk.new w3 #[.bool EE.a.v6, .int .u64 EE.a.hi, .int .u64 EE.a.lo, .int .i64 EE.n] 34)
      have L4 : Hid (Below w.heap.size w (w3.alloc (.cells #[.bool EE.a.v6, .int .u64 EE.a.hi, .int .u64 EE.a.lo, .int .i64 EE.n] 34))) := Lib.hid (Lows.alloc L3.out _)
      have OP4 := Lib.hid (OP3.out.alloc (.cells #[.bool EE.a.v6, .int .u64 EE.a.hi, .int .u64 EE.a.lo, .int .i64 EE.n] 34))
      have OE4 := Lib.hid (OE3.out.alloc (.cells #[.bool EE.a.v6, .int .u64 EE.a.hi, .int .u64 EE.a.lo, .int .i64 EE.n] 34))
      have HSZ : Hid (w.heap.size + 2 < w3.heap.size) := Lib.hid (by have := OE3.out.lt; omega)
      clear L3 OP3 OE3
      by_cases h0 : C = 0
      · have e2 := HLL.out
        have e4 := HCC.out
        rw [if_pos h0] at e2 e4
        have e2 := e2.symm
        subst e2 e4
        have hd : decide (0 < C) = false := decide_eq_false (by omega)
        rw [hd]
        go_upto_region 8 with fail
        generalize w3.alloc (.cells #[.bool EE.a.v6, .int .u64 EE.a.hi, .int .u64 EE.a.lo, .int .i64 EE.n] 34) = w4 at OA4 L4 OP4 OE4 ⊢
        have Lw4 := L4
        have OEw4 := OE4
        clear HLL HCC KO OP4 OA4 L4 OE4 hgl hix HC
        have KX1 := Lib.hid (KX.out w4 Lw4.out)
        go_wp2_with fail
        refine KX1.out.mono ?_; rintro e9 w8 ⟨u, rfl, hU, hb8⟩
        have hgB : w.heap.size + 2 < w4.heap.size := by have := OEw4.out.lt; omega
        have HR : Hid (∀ W', Bt (w.heap.size + 2) w8 W' → OwnP w.heap.size W' u l ∧ Below w.heap.size w W') := Lib.hid fun W' hW => ⟨own_mono (own_but hU hW hgB) (by omega), Bt.below (low_trans Lw4.out hb8) hW (by omega) (by have := (low_trans Lw4.out hb8).size; omega)⟩
        have OE8 := OEw4.out.on hb8
        have s0 := OE8.cell (j := 0) rfl
        have f0 := OE8.free 0
        have s1 := OE8.cell (j := 1) rfl
        have f1 := OE8.free 1
        have s2 := OE8.cell (j := 2) rfl
        have f2 := OE8.free 2
        have s3 := OE8.cell (j := 3) rfl
        have f3 := OE8.free 3
        clear OE8 hU hb8 KX1
        go_wp2_with fail
        exact bodyPost_ret (v := .tuple #[u, .agg #[.bool false, .int .u64 0, .int .u64 0, .int .i64 0], .int .i64 5]) (by simp [results, Try.results9, go_sem, s0, s1, s2, s3]) rfl ⟨u, by rw [hx0.out h0]; rfl, HR.out _ (by repeat (first | (with_reducible exact Bt.refl _ _) | (with_reducible refine Bt.trans ?_ (Bt.setCell _ _ _ _)) | (refine Bt.drewN ?_ _)))⟩
      · have e2 := HLL.out
        have e4 := HCC.out
        rw [if_neg h0] at e2 e4
        have hgl2 := hgl.out (by omega)
        have hix2 := hix.out
        rw [if_pos hgl2] at hix2
        have KO1 := Lib.hid (KO.out (w3.alloc (.cells #[.bool EE.a.v6, .int .u64 EE.a.hi, .int .u64 EE.a.lo, .int .i64 EE.n] 34)) L4.out)
        rw [hix2] at KO1
        have hd : decide (0 < C) = true := decide_eq_true (by omega)
        rw [hd]
        generalize fstN l EE = i at hgl2 KO1 e2
        subst e2 e4
        obtain ⟨bb, o, rfl, _, _⟩ := HC.out (by omega)
        have z0 := OA4.out.cell (j := 0) rfl
        have z1 := OA4.out.cell (j := 1) rfl
        have z2 := OA4.out.cell (j := 2) rfl
        have z3 := OA4.out.cell (j := 3) rfl
        clear HLL HCC hgl hix hix2 hx0 KO KX HC hd
        go_wp2_with fail
        refine KO1.out.mono ?_; rintro e9 w5 ⟨rfl, hb5⟩
        have L5 := Lib.hid (low_trans L4.out hb5)
        have OP5 := Lib.hid (OP4.out.on hb5)
        have OE5 := Lib.hid (OE4.out.on hb5)
        have OA5 := Lib.hid (OA4.out.on hb5)
        clear hb5 L4 OP4 OE4 OA4 KO1 z0 z1 z2 z3
        have hi1 : (i : Int) ≤ (l.length : Int) := by omega
        have hi2 : (i : Int) ≤ (c : Int) := by omega
        have hi3 : (i : Int) + 1 ≤ (l.length : Int) := by omega
        have hi4 : (i : Int) + 1 ≤ (c : Int) := by omega
        have hw : IntKind.i64.wrap ((i : Int) + 1) = (i : Int) + 1 := by rw [IntKind.wrap_i64]; omega
        have hi5 : ((i : Int) + 1).toNat = i + 1 := by omega
        have hi6 : (0 : Int) ≤ (i : Int) + 1 := by omega
        have hi7 : ¬ c = i := by omega
        have hgz : w.heap.size + 2 ≠ w3.heap.size := by have := HSZ.out; omega
        have IN : Hid (∀ w', Bt (w.heap.size + 2) w5 w' → SA w w3 w5 EE p w') := Lib.hid fun w' h => ⟨(OA5.out.but h (Ne.symm hgz)).cell (j := 0) rfl, (OA5.out.but h (Ne.symm hgz)).cell (j := 1) rfl, (OA5.out.but h (Ne.symm hgz)).cell (j := 2) rfl, (OA5.out.but h (Ne.symm hgz)).cell (j := 3) rfl, (OP5.out.but h (by omega)).cell (j := 0) rfl, (OP5.out.but h (by omega)).cell (j := 1) rfl, (OP5.out.but h (by omega)).cell (j := 2) rfl, (OP5.out.but h (by omega)).cell (j := 3) rfl, (OP5.out.but h (by omega)).cell (j := 4) rfl, (OP5.out.but h (by omega)).cell (j := 5) rfl, (OP5.out.but h (by omega)).cell (j := 6) rfl, (OP5.out.but h (by omega)).cell (j := 7) rfl, (OP5.out.but h (by omega)).cell (j := 8) rfl, (OP5.out.but h (by omega)).cell (j := 9) rfl, h⟩
        have JD : Hid (∀ W, SA w w3 w5 EE p W → SA w w3 w5 EE p W.drew) := Lib.hid fun W h => IN.out _ (h.2.2.2.2.2.2.2.2.2.2.2.2.2.2.drewN 1)
        have JA : Hid (∀ W o, SA w w3 w5 EE p W → SA w w3 w5 EE p (W.alloc o)) := Lib.hid fun W o h => IN.out _ (h.2.2.2.2.2.2.2.2.2.2.2.2.2.2.alloc o)
        have JS : Hid (∀ W j u, SA w w3 w5 EE p W → SA w w3 w5 EE p (W.setCell ⟨w.heap.size + 2, j, none⟩ u)) := Lib.hid fun W j u h => IN.out _ (h.2.2.2.2.2.2.2.2.2.2.2.2.2.2.trans (Bt.setCell _ _ _ _))
        have KC : Hid (∀ RV, (∀ W, Below w.heap.size w W → Peers W RV (l.drop (i + 1))) → Calls Try.prog 17 #[.slice (some ⟨w5.heap.size + 1, 0, none⟩) 3 3] ((w5.alloc (.cells #[.bool p.e.a.v6, .int .u64 p.e.a.hi, .int .u64 p.e.a.lo, .int .i64 p.e.n, .bool true, .int .i64 p.t, .int .i64 p.c.p, .int .i64 p.c.a, .int .i64 p.g, .int .i64 p.k] 41)).alloc (.cells #[.slice (some ⟨bb, o, none⟩) i c, RV, .slice (some ⟨w5.heap.size, 0, none⟩) 1 1] 22)).drew fun e w' => ∃ u, e = .returned u ∧ OwnP w5.heap.size w' u (goneR l i ++ [setI p]) ∧ Below w5.heap.size w5 w' ∧ SA w w3 w5 EE p w') := Lib.hid fun RV hRV => by
          have LR : Below w5.heap.size w5 ((w5.alloc (.cells #[.bool p.e.a.v6, .int .u64 p.e.a.hi, .int .u64 p.e.a.lo, .int .i64 p.e.n, .bool true, .int .i64 p.t, .int .i64 p.c.p, .int .i64 p.c.a, .int .i64 p.g, .int .i64 p.k] 41)).alloc (.cells #[.slice (some ⟨bb, o, none⟩) i c, RV, .slice (some ⟨w5.heap.size, 0, none⟩) 1 1] 22)).drew := Lows.drew (Lows.alloc (Lows.alloc (Lows.self _) _) _)
          refine (concat_any (w5.heap.size + 1) #[.slice (some ⟨bb, o, none⟩) i c, RV, .slice (some ⟨w5.heap.size, 0, none⟩) 1 1].toList [l.take i, l.drop (i + 1), [setI p]] _ (Blk.drew (Blk.two w5 (.cells #[.bool p.e.a.v6, .int .u64 p.e.a.hi, .int .u64 p.e.a.lo, .int .i64 p.e.n, .bool true, .int .i64 p.t, .int .i64 p.c.p, .int .i64 p.c.a, .int .i64 p.g, .int .i64 p.k] 41) #[.slice (some ⟨bb, o, none⟩) i c, RV, .slice (some ⟨w5.heap.size, 0, none⟩) 1 1] 22)) rfl (fun k hk => ?_) (by simp) (by simp; omega)).mono ?_
          · obtain rfl | rfl | rfl : k = 0 ∨ k = 1 ∨ k = 2 := by simp at hk; omega
            · exact (PW.out _ (low_trans L5.out LR)).part (by omega)
            · exact hRV _ (low_trans L5.out LR)
            · exact (Recs.lit encP_len w5 [setI p] #[.bool p.e.a.v6, .int .u64 p.e.a.hi, .int .u64 p.e.a.lo, .int .i64 p.e.n, .bool true, .int .i64 p.t, .int .i64 p.c.p, .int .i64 p.c.a, .int .i64 p.g, .int .i64 p.k] 41 (by rw [flat_one]; rfl)).below (Lows.drew (Lows.alloc (Lows.self _) _))
          · rintro e w' ⟨u, h1, h2, h3⟩
            refine ⟨u, h1, ?_, LR.trans (h3.mono LR.size), IN.out _ (Bt.of (LR.trans (h3.mono LR.size)))⟩
            rw [show [l.take i, l.drop (i + 1), [setI p]].flatten = goneR l i ++ [setI p] by simp [goneR]] at h2
            exact own_mono h2 LR.size
        have hk0 : SA w w3 w5 EE p w5 := IN.out _ (Bt.refl _ _)
        have hkd : SA w w3 w5 EE p w5.drew := JD.out _ hk0
        obtain ⟨t0, t1, t2, t3, t4, t5, t6, t7, t8, t9, t10, t11, t12, t13, t14⟩ := id hk0
        clear IN
        by_cases hce : c = i + 1
        · have KC := Lib.hid (KC.out (.slice (some ⟨bb, o, none⟩) 0 0) fun W hW => rest_none (by omega) rfl)
          clear PW hnil
          subst hce
          have hi8 : (i : Int) ≤ (i : Int) + 1 := by omega
          have hi9 : (0 : Int) ≤ (i : Int) := by omega
          go_upto_region 10 with fail
          go_region_held3 (fun w' => w'.cell? ⟨w3.heap.size, 0, none⟩ = some (.bool EE.a.v6) ∧ w'.cell? ⟨w3.heap.size, 1, none⟩ = some (.int .u64 EE.a.hi) ∧ w'.cell? ⟨w3.heap.size, 2, none⟩ = some (.int .u64 EE.a.lo) ∧ w'.cell? ⟨w3.heap.size, 3, none⟩ = some (.int .i64 EE.n) ∧ w'.cell? ⟨w.heap.size, 0, none⟩ = some (.bool p.e.a.v6) ∧ w'.cell? ⟨w.heap.size, 1, none⟩ = some (.int .u64 p.e.a.hi) ∧ w'.cell? ⟨w.heap.size, 2, none⟩ = some (.int .u64 p.e.a.lo) ∧ w'.cell? ⟨w.heap.size, 3, none⟩ = some (.int .i64 p.e.n) ∧ w'.cell? ⟨w.heap.size, 4, none⟩ = some (.bool true) ∧ w'.cell? ⟨w.heap.size, 5, none⟩ = some (.int .i64 p.t) ∧ w'.cell? ⟨w.heap.size, 6, none⟩ = some (.int .i64 p.c.p) ∧ w'.cell? ⟨w.heap.size, 7, none⟩ = some (.int .i64 p.c.a) ∧ w'.cell? ⟨w.heap.size, 8, none⟩ = some (.int .i64 p.g) ∧ w'.cell? ⟨w.heap.size, 9, none⟩ = some (.int .i64 p.k) ∧ Bt (w.heap.size + 2) w5 w')
            (first | (with_reducible assumption) | (repeat (first | (with_reducible assumption) | (with_reducible refine JD.out _ ?_) | (with_reducible refine JA.out _ _ ?_) | (with_reducible refine JS.out _ _ _ ?_))))
            (first
              | (go_at_call 17; (refine KC.out.mono ?_); rintro e9 w11 ⟨u, rfl, hU, hb, hkw⟩
                 have OE8 := OE5.out.on hb
                 have s0 := OE8.cell (j := 0) rfl
                 have f0 := OE8.free 0
                 have s1 := OE8.cell (j := 1) rfl
                 have f1 := OE8.free 1
                 have s2 := OE8.cell (j := 2) rfl
                 have f2 := OE8.free 2
                 have s3 := OE8.cell (j := 3) rfl
                 have f3 := OE8.free 3
                 clear OE8))
          all_goals
            have HR : Hid (∀ W', Bt (w.heap.size + 2) w11 W' → OwnP w.heap.size W' u (goneR l i ++ [setI p]) ∧ Below w.heap.size w W') := Lib.hid fun W' hW => ⟨own_mono (own_but hU hW (by have := OE5.out.lt; omega)) (by have := OE5.out.lt; omega), Bt.below (low_trans L5.out hb) hW (by omega) (by have := (low_trans L5.out hb).size; omega)⟩
            clear KC OP5 OA5 L5 hU hb
            go_wp2_with fail
            exact bodyPost_ret (v := .tuple #[u, .agg #[.bool EE.a.v6, .int .u64 EE.a.hi, .int .u64 EE.a.lo, .int .i64 EE.n], .int .i64 0]) (by simp [results, Try.results9, go_sem, s0, s1, s2, s3]) rfl ⟨u, rfl, HR.out _ (by repeat (first | (with_reducible exact Bt.refl _ _) | (with_reducible refine Bt.trans ?_ (Bt.setCell _ _ _ _)) | (refine Bt.drewN ?_ _)))⟩
        · have KC := Lib.hid (KC.out (.slice (some ⟨bb, o + (i + 1) * 10, none⟩) (l.length - (i + 1)) (c - (i + 1))) fun W hW => (PW.out W hW).rest (by omega))
          clear PW
          go_upto_region 10 with fail
          go_region_held3 (fun w' => w'.cell? ⟨w3.heap.size, 0, none⟩ = some (.bool EE.a.v6) ∧ w'.cell? ⟨w3.heap.size, 1, none⟩ = some (.int .u64 EE.a.hi) ∧ w'.cell? ⟨w3.heap.size, 2, none⟩ = some (.int .u64 EE.a.lo) ∧ w'.cell? ⟨w3.heap.size, 3, none⟩ = some (.int .i64 EE.n) ∧ w'.cell? ⟨w.heap.size, 0, none⟩ = some (.bool p.e.a.v6) ∧ w'.cell? ⟨w.heap.size, 1, none⟩ = some (.int .u64 p.e.a.hi) ∧ w'.cell? ⟨w.heap.size, 2, none⟩ = some (.int .u64 p.e.a.lo) ∧ w'.cell? ⟨w.heap.size, 3, none⟩ = some (.int .i64 p.e.n) ∧ w'.cell? ⟨w.heap.size, 4, none⟩ = some (.bool true) ∧ w'.cell? ⟨w.heap.size, 5, none⟩ = some (.int .i64 p.t) ∧ w'.cell? ⟨w.heap.size, 6, none⟩ = some (.int .i64 p.c.p) ∧ w'.cell? ⟨w.heap.size, 7, none⟩ = some (.int .i64 p.c.a) ∧ w'.cell? ⟨w.heap.size, 8, none⟩ = some (.int .i64 p.g) ∧ w'.cell? ⟨w.heap.size, 9, none⟩ = some (.int .i64 p.k) ∧ Bt (w.heap.size + 2) w5 w')
            (first | (with_reducible assumption) | (repeat (first | (with_reducible assumption) | (with_reducible refine JD.out _ ?_) | (with_reducible refine JA.out _ _ ?_) | (with_reducible refine JS.out _ _ _ ?_))))
            (first
              | (go_at_call 17; (refine KC.out.mono ?_); rintro e9 w11 ⟨u, rfl, hU, hb, hkw⟩
                 have OE8 := OE5.out.on hb
                 have s0 := OE8.cell (j := 0) rfl
                 have f0 := OE8.free 0
                 have s1 := OE8.cell (j := 1) rfl
                 have f1 := OE8.free 1
                 have s2 := OE8.cell (j := 2) rfl
                 have f2 := OE8.free 2
                 have s3 := OE8.cell (j := 3) rfl
                 have f3 := OE8.free 3
                 clear OE8))
          all_goals
            have HR : Hid (∀ W', Bt (w.heap.size + 2) w11 W' → OwnP w.heap.size W' u (goneR l i ++ [setI p]) ∧ Below w.heap.size w W') := Lib.hid fun W' hW => ⟨own_mono (own_but hU hW (by have := OE5.out.lt; omega)) (by have := OE5.out.lt; omega), Bt.below (low_trans L5.out hb) hW (by omega) (by have := (low_trans L5.out hb).size; omega)⟩
            clear KC OP5 OA5 L5 hU hb
            go_wp2_with fail
            exact bodyPost_ret (v := .tuple #[u, .agg #[.bool EE.a.v6, .int .u64 EE.a.hi, .int .u64 EE.a.lo, .int .i64 EE.n], .int .i64 0]) (by simp [results, Try.results9, go_sem, s0, s1, s2, s3]) rfl ⟨u, rfl, HR.out _ (by repeat (first | (with_reducible exact Bt.refl _ _) | (with_reducible refine Bt.trans ?_ (Bt.setCell _ _ _ _)) | (refine Bt.drewN ?_ _)))⟩
end Go.Proofs.Ythmcggbmeabpmaa.Si
