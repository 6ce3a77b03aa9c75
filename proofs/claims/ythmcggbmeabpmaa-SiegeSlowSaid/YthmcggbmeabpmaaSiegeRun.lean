/- siege.Run. -/
import Derived.Test.YthmcggbmeabpmaaSiegeArr
namespace Go.Proofs.Ythmcggbmeabpmaa.Si
set_option maxRecDepth 100000
open Go.ChangeShapes Go.WideShapes Go.ChangeAt Go.RowKit
open Dec Words V4 V6 Ad Ci En Sat Ha Pe Stb Gr Mi Ra Sh Cw Ev Go.Deep
set_option linter.unusedVariables false
set_option maxHeartbeats 8000000 in
/-- What becomes of peers when some come, one behind the other. -/
theorem run_any (v1 v2 : Value) (l news : List Pr) (S : Sit) (w : World) (h1 : Peers w v1 l) (h2 : Peers w v2 news) (hok : ∀ x ∈ l, x.ok) (hok2 : ∀ x ∈ news, x.ok) (hl : l.length + news.length ≤ 800000) (hs : S.s < 18446744073709551616) :
    Calls Try.prog 12 #[v1, v2, .agg #[.int .i64 S.m, .int .i64 S.q.g, .int .i64 S.q.p, .int .i64 S.q.w, .int .i64 S.q.t, .int .u64 (S.s : Nat)]] w fun e w' => ∃ u, e = .returned u ∧ Peers w' u (runR S l news) ∧ Below w.heap.size w w' := by
  have L0 : Hid (Lows w (w.alloc (.cells #[.int .i64 S.m, .int .i64 S.q.g, .int .i64 S.q.p, .int .i64 S.q.w, .int .i64 S.q.t, .int .u64 (S.s : Nat)] 27))) := Lib.hid (Lows.alloc (Lows.self w) _)
  have OS := Lib.hid (Blk.new w #[.int .i64 S.m, .int .i64 S.q.g, .int .i64 S.q.p, .int .i64 S.q.w, .int .i64 S.q.t, .int .u64 (S.s : Nat)] 27)
  have KX := Lib.hid (clone_any v1 l (w.alloc (.cells #[.int .i64 S.m, .int .i64 S.q.g, .int .i64 S.q.p, .int .i64 S.q.w, .int .i64 S.q.t, .int .u64 (S.s : Nat)] 27)) (h1.below L0.out) (by omega))
  have KA : Hid (∀ W u L p, Peers W u L → (∀ x ∈ L, x.ok) → L.length ≤ 800000 → Calls Try.prog 9 #[u, .agg #[.bool p.e.a.v6, .int .u64 p.e.a.hi, .int .u64 p.e.a.lo, .int .i64 p.e.n, .bool p.i, .int .i64 p.t, .int .i64 p.c.p, .int .i64 p.c.a, .int .i64 p.g, .int .i64 p.k], .agg #[.int .i64 S.m, .int .i64 S.q.g, .int .i64 S.q.p, .int .i64 S.q.w, .int .i64 S.q.t, .int .u64 (S.s : Nat)]] W fun e w' => ∃ u2, e = .returned (.tuple #[u2, .agg #[.bool (arrE L p S).a.v6, .int .u64 (arrE L p S).a.hi, .int .u64 (arrE L p S).a.lo, .int .i64 (arrE L p S).n], .int .i64 (arrC L p S)]) ∧ Peers w' u2 (arrL L p S) ∧ Below W.heap.size W w') := Lib.hid fun W u L p hu hk hl => (arrive_any u L p S W hu hk hl hs).mono fun e w' ⟨u2, h1, h2, h3⟩ => ⟨u2, h1, ownP_peers h2, h3⟩
  have HOK : Hid (∀ k, (∀ x ∈ runR S l (news.take k), x.ok) ∧ (runR S l (news.take k)).length ≤ 800000) := Lib.hid fun k => ⟨run_ok S _ _ hok (take_ok hok2 k), by
    have := run_length S (news.take k) l
    rw [List.length_take] at this
    omega⟩
  have HNX : Hid (∀ k, k < news.length → runR S l (news.take (k + 1)) = arrL (runR S l (news.take k)) news[k]! S) := Lib.hid fun k hk => run_next S l hk
  have HZ : Hid (runR S l (news.take 0) = l) := Lib.hid rfl
  have HE : Hid (∀ k, news.length ≤ k → runR S l (news.take k) = runR S l news) := Lib.hid fun k hk => by rw [List.take_of_length_le hk]
  obtain ⟨A, c, rfl, hc, _, hcell⟩ := h2
  have HC := Lib.hid hcell
  have hln : news.length ≤ 800000 := by omega
  generalize hRN : runR S l news = RN at HE
  clear hcell h1 hok hok2 hl
  go_enter Try.func12, Try.ntmps12
  go_wp2_with fail
  refine KX.out.mono ?_; rintro e9 w1 ⟨u, rfl, hU, hb1⟩
  have L1 := Lib.hid (low_trans L0.out hb1)
  have OS1 := Lib.hid (OS.out.on hb1)
  have HP1 : Hid (Peers w1 u (runR S l (news.take 0))) := Lib.hid (by rw [HZ.out]; exact ownP_peers hU)
  clear hU hb1 KX L0 OS HZ
  go_wp2_with fail
  go_loopw [0, 13] (fun vl vi wr => ∃ k : Nat, vi = .int .i64 k ∧ k ≤ news.length ∧ Hid (Peers wr vl (runR S l (news.take k))) ∧ Hid (Below w.heap.size w wr) ∧ Hid (Lows w1 wr)) (fun _ vi _ => news.length - (intOf vi).toNat)
  case atStart => exact ⟨0, rfl, Nat.zero_le _, HP1, L1, Lib.hid (Lows.self _)⟩
  case round =>
    obtain ⟨k, rfl, hk, HP, HL, HL1⟩ := hrel
    by_cases hkn : k < news.length
    · have hknz : (k : Int) < (news.length : Int) := by omega
      obtain ⟨bb, o, rfl, hb, hcc⟩ := HC.out (by omega)
      obtain ⟨p, hx⟩ : ∃ x, x = news[k]! := ⟨_, rfl⟩
      have c0 : wr.cell? ⟨bb, o + k * 10, none⟩ = some (.bool p.e.a.v6) := peer_at HL.out hb hcc hkn (j := 0) (by rw [← hx]; rfl)
      have c1 : wr.cell? ⟨bb, o + k * 10 + 1, none⟩ = some (.int .u64 p.e.a.hi) := peer_at HL.out hb hcc hkn (j := 1) (by rw [← hx]; rfl)
      have c2 : wr.cell? ⟨bb, o + k * 10 + 2, none⟩ = some (.int .u64 p.e.a.lo) := peer_at HL.out hb hcc hkn (j := 2) (by rw [← hx]; rfl)
      have c3 : wr.cell? ⟨bb, o + k * 10 + 3, none⟩ = some (.int .i64 p.e.n) := peer_at HL.out hb hcc hkn (j := 3) (by rw [← hx]; rfl)
      have c4 : wr.cell? ⟨bb, o + k * 10 + 4, none⟩ = some (.bool p.i) := peer_at HL.out hb hcc hkn (j := 4) (by rw [← hx]; rfl)
      have c5 : wr.cell? ⟨bb, o + k * 10 + 5, none⟩ = some (.int .i64 p.t) := peer_at HL.out hb hcc hkn (j := 5) (by rw [← hx]; rfl)
      have c6 : wr.cell? ⟨bb, o + k * 10 + 6, none⟩ = some (.int .i64 p.c.p) := peer_at HL.out hb hcc hkn (j := 6) (by rw [← hx]; rfl)
      have c7 : wr.cell? ⟨bb, o + k * 10 + 7, none⟩ = some (.int .i64 p.c.a) := peer_at HL.out hb hcc hkn (j := 7) (by rw [← hx]; rfl)
      have c8 : wr.cell? ⟨bb, o + k * 10 + 8, none⟩ = some (.int .i64 p.g) := peer_at HL.out hb hcc hkn (j := 8) (by rw [← hx]; rfl)
      have c9 : wr.cell? ⟨bb, o + k * 10 + 9, none⟩ = some (.int .i64 p.k) := peer_at HL.out hb hcc hkn (j := 9) (by rw [← hx]; rfl)
      have KA1 := Lib.hid (KA.out (wr.alloc (.cells #[.bool p.e.a.v6, .int .u64 p.e.a.hi, .int .u64 p.e.a.lo, .int .i64 p.e.n, .bool p.i, .int .i64 p.t, .int .i64 p.c.p, .int .i64 p.c.a, .int .i64 p.g, .int .i64 p.k] 41)) _ (runR S l (news.take k)) p (HP.out.below (Lows.alloc (Lows.self _) _)) (HOK.out k).1 (HOK.out k).2)
      have HX : Hid (arrL (runR S l (news.take k)) p S = runR S l (news.take (k + 1))) := Lib.hid (by rw [HNX.out k hkn, hx])
      have OS2 := OS1.out.on (Lows.alloc HL1.out (.cells #[.bool p.e.a.v6, .int .u64 p.e.a.hi, .int .u64 p.e.a.lo, .int .i64 p.e.n, .bool p.i, .int .i64 p.t, .int .i64 p.c.p, .int .i64 p.c.a, .int .i64 p.g, .int .i64 p.k] 41))
      have q0 := OS2.cell (j := 0) rfl
      have q1 := OS2.cell (j := 1) rfl
      have q2 := OS2.cell (j := 2) rfl
      have q3 := OS2.cell (j := 3) rfl
      have q4 := OS2.cell (j := 4) rfl
      have q5 := OS2.cell (j := 5) rfl
      generalize arrE (runR S l (news.take k)) p S = EE at KA1
      generalize arrC (runR S l (news.take k)) p S = CC at KA1
      generalize arrL (runR S l (news.take k)) p S = LL at KA1 HX
      clear hx hcc hb OS2
      go_wp2_with fail
      refine KA1.out.mono ?_; rintro e9 w2 ⟨u2, rfl, hU, hb2⟩
      have HP2 : Hid (Peers w2 u2 (runR S l (news.take (k + 1)))) := Lib.hid (by rw [← HX.out]; exact hU)
      have HL2 := Lib.hid (low_trans (Lows.alloc HL.out (.cells #[.bool p.e.a.v6, .int .u64 p.e.a.hi, .int .u64 p.e.a.lo, .int .i64 p.e.n, .bool p.i, .int .i64 p.t, .int .i64 p.c.p, .int .i64 p.c.a, .int .i64 p.g, .int .i64 p.k] 41)) hb2)
      have HL3 := Lib.hid (low_trans (Lows.alloc HL1.out (.cells #[.bool p.e.a.v6, .int .u64 p.e.a.hi, .int .u64 p.e.a.lo, .int .i64 p.e.n, .bool p.i, .int .i64 p.t, .int .i64 p.c.p, .int .i64 p.c.a, .int .i64 p.g, .int .i64 p.k] 41)) hb2)
      clear hU hb2 KA1 HX c0 c1 c2 c3 c4 c5 c6 c7 c8 c9 q0 q1 q2 q3 q4 q5
      go_wp2_with fail
      go_roundw
      case rel => exact ⟨k + 1, by go_num, by omega, HP2, HL2, HL3⟩
      case measure => simp [intOf]; omega
    · have hknz : ¬ (k : Int) < (news.length : Int) := by omega
      have hE := HE.out k (by omega)
      have HPE := HP.out
      rw [hE] at HPE
      have HPE := Lib.hid HPE
      clear hE
      clear HP
      go_wp2_with fail
      go_ret
      exact ⟨_, rfl, HPE.out, HL.out⟩
end Go.Proofs.Ythmcggbmeabpmaa.Si
