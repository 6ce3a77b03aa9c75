/- The last statement of layer 22, proved: whoever has the least latencies stays, however many slower ones come, from wherever; for all lists of peers and all sites. -/
import Derived.Test.YthmcggbmeabpmaaLaw22
namespace Go.Proofs.Ythmcggbmeabpmaa
set_option maxRecDepth 100000
open Go.ChangeShapes Go.WideShapes Go.ChangeAt Go.RowKit
open Dec Words V4 V6 Ad Ci En Sat Ha Pe Stb Gr Mi Ra Sh Cw Ev Si Go.Deep
set_option linter.unusedVariables false
set_option linter.unusedSimpArgs false
abbrev S25 (w : World) (S : Sit) (wr w' : World) : Prop := w'.cell? ⟨w.heap.size, 0, none⟩ = some (.int .i64 S.m) ∧ Lows wr w'
set_option maxHeartbeats 24000000 in
theorem siegeSlow_walk (w : World) (v1 : Value) (l : List Pr) (h1 : Peers w v1 l) (hok1 : ∀ x ∈ l, x.ok) (v2 : Value) (news : List Pr) (h2 : Peers w v2 news) (hok2 : ∀ x ∈ news, x.ok) (S : Sit) (hS : S.ok) :
    Calls Try.prog 5 #[v1, v2, .agg #[.int .i64 S.m, .int .i64 S.q.g, .int .i64 S.q.p, .int .i64 S.q.w, .int .i64 S.q.t, .int .u64 (S.s : Nat)]] w fun e w' => e = .returned (.bool true) ∧ Below w.heap.size w w' := by
  have AW := Lib.hid (fun W => awake22_any W)
  have L0 : Hid (Lows w (w.alloc (.cells #[.int .i64 S.m, .int .i64 S.q.g, .int .i64 S.q.p, .int .i64 S.q.w, .int .i64 S.q.t, .int .u64 (S.s : Nat)] 27))) := Lib.hid (Lows.alloc (Lows.self w) _)
  have OS : Hid (Blk (w.alloc (.cells #[.int .i64 S.m, .int .i64 S.q.g, .int .i64 S.q.p, .int .i64 S.q.w, .int .i64 S.q.t, .int .u64 (S.s : Nat)] 27)) w.heap.size 27 [.int .i64 S.m, .int .i64 S.q.g, .int .i64 S.q.p, .int .i64 S.q.w, .int .i64 S.q.t, .int .u64 (S.s : Nat)]) := Lib.hid (Blk.new w #[.int .i64 S.m, .int .i64 S.q.g, .int .i64 S.q.p, .int .i64 S.q.w, .int .i64 S.q.t, .int .u64 (S.s : Nat)] 27)
  obtain ⟨A, cap1, rfl, hc, hn1, hcell⟩ := h1
  obtain ⟨A2, cap2, rfl, hc2, hn2, hcell2⟩ := h2
  have HC1 := Lib.hid hcell
  have HC2 := Lib.hid hcell2
  clear hcell hcell2 hc hc2 hn1 hn2
  by_cases h20 : 10 < l.length
  · have h20z : (10 : Int) < (l.length : Int) := by omega
    clear HC1 HC2 hok1 hok2 hS OS
    go_enter Try.func5, Try.ntmps5
    go_wp2_with fail
    refine (AW.out _).mono ?_; rintro e w1 ⟨rfl, hb1⟩
    go_wp2_with fail
    go_ret
    exact ⟨rfl, low_trans L0.out hb1⟩
  · have h20z : ¬ (10 : Int) < (l.length : Int) := by omega
    by_cases h30 : 30 < news.length
    · have h30z : (30 : Int) < (news.length : Int) := by omega
      clear HC1 HC2 hok1 hok2 hS OS
      go_enter Try.func5, Try.ntmps5
      go_wp2_with fail
      refine (AW.out _).mono ?_; rintro e w1 ⟨rfl, hb1⟩
      go_wp2_with fail
      go_ret
      exact ⟨rfl, low_trans L0.out hb1⟩
    · have h30z : ¬ (30 : Int) < (news.length : Int) := by omega
      have u2 := OS.out.cell (j := 2) rfl
      by_cases hq : S.q.p < (l.length : Int)
      · clear HC1 HC2 hok1 hok2 hS OS
        go_enter Try.func5, Try.ntmps5
        go_wp2_with fail
        refine (AW.out _).mono ?_; rintro e w1 ⟨rfl, hb1⟩
        go_wp2_with fail
        go_ret
        exact ⟨rfl, low_trans L0.out hb1⟩
      · have hqz : (l.length : Int) ≤ S.q.p := by omega
        go_enter Try.func5, Try.ntmps5
        go_wp2_with fail
        clear u2
        obtain ⟨W0, hW0⟩ : ∃ W0, W0 = (w.alloc (.cells #[.int .i64 S.m, .int .i64 S.q.g, .int .i64 S.q.p, .int .i64 S.q.w, .int .i64 S.q.t, .int .u64 (S.s : Nat)] 27)) := ⟨_, rfl⟩
        rw [← hW0] at L0 OS ⊢
        clear hW0
        go_loopw [7, 8] (fun vr vi wr => ∃ i : Nat, vi = .int .i64 i ∧ i ≤ l.length ∧ Hid (OwnP W0.heap.size wr vr (quickR l i)) ∧ Hid (Lows W0 wr)) (fun _ vi _ => l.length - (intOf vi).toNat)
        case atStart => exact ⟨0, rfl, Nat.zero_le _, Lib.hid ⟨rfl, Or.inl ⟨rfl, rfl⟩⟩, Lib.hid (Lows.self _)⟩
        case round =>
          obtain ⟨i, rfl, hi, HO, HL⟩ := hrel
          by_cases hli : i < l.length
          · have hliz : (i : Int) < (l.length : Int) := by omega
            have Lwr : Hid (Below w.heap.size w wr) := Lib.hid (low_trans L0.out HL.out)
            obtain ⟨bb, o, rfl, hb, hcc⟩ := HC1.out (by omega)
            obtain ⟨x, hx⟩ : ∃ x, x = l[i]! := ⟨_, rfl⟩
            have c0 : wr.cell? ⟨bb, o + i * 10, none⟩ = some (.bool x.e.a.v6) := peer_at Lwr.out hb hcc hli (j := 0) (by rw [← hx]; rfl)
            have c1 : wr.cell? ⟨bb, o + i * 10 + 1, none⟩ = some (.int .u64 x.e.a.hi) := peer_at Lwr.out hb hcc hli (j := 1) (by rw [← hx]; rfl)
            have c2 : wr.cell? ⟨bb, o + i * 10 + 2, none⟩ = some (.int .u64 x.e.a.lo) := peer_at Lwr.out hb hcc hli (j := 2) (by rw [← hx]; rfl)
            have c3 : wr.cell? ⟨bb, o + i * 10 + 3, none⟩ = some (.int .i64 x.e.n) := peer_at Lwr.out hb hcc hli (j := 3) (by rw [← hx]; rfl)
            have c4 : wr.cell? ⟨bb, o + i * 10 + 4, none⟩ = some (.bool x.i) := peer_at Lwr.out hb hcc hli (j := 4) (by rw [← hx]; rfl)
            have c5 : wr.cell? ⟨bb, o + i * 10 + 5, none⟩ = some (.int .i64 x.t) := peer_at Lwr.out hb hcc hli (j := 5) (by rw [← hx]; rfl)
            have c6 : wr.cell? ⟨bb, o + i * 10 + 6, none⟩ = some (.int .i64 x.c.p) := peer_at Lwr.out hb hcc hli (j := 6) (by rw [← hx]; rfl)
            have c7 : wr.cell? ⟨bb, o + i * 10 + 7, none⟩ = some (.int .i64 x.c.a) := peer_at Lwr.out hb hcc hli (j := 7) (by rw [← hx]; rfl)
            have c8 : wr.cell? ⟨bb, o + i * 10 + 8, none⟩ = some (.int .i64 x.g) := peer_at Lwr.out hb hcc hli (j := 8) (by rw [← hx]; rfl)
            have c9 : wr.cell? ⟨bb, o + i * 10 + 9, none⟩ = some (.int .i64 x.k) := peer_at Lwr.out hb hcc hli (j := 9) (by rw [← hx]; rfl)
            have hwa : IntKind.i64.wrap (1 + (i : Int)) = 1 + (i : Int) := by rw [IntKind.wrap_i64]; omega
            have hwb : IntKind.i64.wrap (100 + (i : Int)) = 100 + (i : Int) := by rw [IntKind.wrap_i64]; omega
            have hwc : IntKind.i64.wrap (1000 + (i : Int)) = 1000 + (i : Int) := by rw [IntKind.wrap_i64]; omega
            obtain ⟨v', w', RR, HO2, hb5⟩ := append_peer (B := W0.heap.size) (HO.out.alloc (.cells #[.bool x.e.a.v6, .int .u64 x.e.a.hi, .int .u64 x.e.a.lo, .int .i64 (1 + (i : Int)), .bool true, .int .i64 x.t, .int .i64 x.c.p, .int .i64 x.c.a, .int .i64 (1 + (i : Int)), .int .i64 x.k] 41)) (quickP x i) (by rw [quick_length]; omega) (Nat.le_trans HL.out.size (by simp))
            have R1 : Hid ((Builtin.append_ #[22, 22] 22 #[_, .slice (some ⟨wr.heap.size + 1, 0, none⟩) 1 1]).run Try.prog ((wr.alloc (.cells #[.bool x.e.a.v6, .int .u64 x.e.a.hi, .int .u64 x.e.a.lo, .int .i64 (1 + (i : Int)), .bool true, .int .i64 x.t, .int .i64 x.c.p, .int .i64 x.c.a, .int .i64 (1 + (i : Int)), .int .i64 x.k] 41)).alloc (.cells #[.bool x.e.a.v6, .int .u64 x.e.a.hi, .int .u64 x.e.a.lo, .int .i64 (1 + (i : Int)), .bool true, .int .i64 x.t, .int .i64 x.c.p, .int .i64 x.c.a, .int .i64 (1 + (i : Int)), .int .i64 x.k] 41)) = .ok v' w') := Lib.hid (by
              rw [show (wr.alloc (.cells #[.bool x.e.a.v6, .int .u64 x.e.a.hi, .int .u64 x.e.a.lo, .int .i64 (1 + (i : Int)), .bool true, .int .i64 x.t, .int .i64 x.c.p, .int .i64 x.c.a, .int .i64 (1 + (i : Int)), .int .i64 x.k] 41)).heap.size = wr.heap.size + 1 by simp] at RR
              exact RR)
            have HO3 : Hid (OwnP W0.heap.size w' v' (quickR l (i + 1))) := Lib.hid (by rw [quick_next, ← hx]; exact HO2)
            have HL3 : Hid (Lows W0 w') := Lib.hid ((Lows.alloc HL.out _).trans hb5)
            clear RR HO2 hb5 HO HL hcc hb hx
            go_wp2_with (first
              | (at_builtin; refine wpList_append_run rfl (.tmp 51) (.tmp 53) _ _ rfl rfl _ _ _ _ rfl rfl R1.out ?_)
              | fail)
            go_roundw
            case rel => exact ⟨i + 1, by go_num, by omega, HO3, HL3⟩
            case measure => simp [intOf]; omega
          · have hliz : ¬ (i : Int) < (l.length : Int) := by omega
            obtain ⟨W1, hW1⟩ : ∃ W1, W1 = wr := ⟨_, rfl⟩
            have heq : i = l.length := by omega
            subst heq
            have HPQ := Lib.hid (ownP_peers HO.out)
            have HL1 := HL
            rw [← hW1] at HPQ HL1 ⊢
            clear hW1 HO HL
            have L1 : Hid (Below w.heap.size w W1) := Lib.hid (low_trans L0.out HL1.out)
            go_wp2_with fail
            go_loopw [10, 11] (fun vr vi wr => ∃ i : Nat, vi = .int .i64 i ∧ i ≤ news.length ∧ Hid (OwnP W1.heap.size wr vr (slowR news i)) ∧ Hid (Lows W1 wr)) (fun _ vi _ => news.length - (intOf vi).toNat)
            case atStart => exact ⟨0, rfl, Nat.zero_le _, Lib.hid ⟨rfl, Or.inl ⟨rfl, rfl⟩⟩, Lib.hid (Lows.self _)⟩
            case round =>
              obtain ⟨i, rfl, hi, HO, HL⟩ := hrel
              by_cases hli : i < news.length
              · have hliz : (i : Int) < (news.length : Int) := by omega
                have Lwr : Hid (Below w.heap.size w wr) := Lib.hid (low_trans L1.out HL.out)
                obtain ⟨bb, o, rfl, hb, hcc⟩ := HC2.out (by omega)
                obtain ⟨x, hx⟩ : ∃ x, x = news[i]! := ⟨_, rfl⟩
                have c0 : wr.cell? ⟨bb, o + i * 10, none⟩ = some (.bool x.e.a.v6) := peer_at Lwr.out hb hcc hli (j := 0) (by rw [← hx]; rfl)
                have c1 : wr.cell? ⟨bb, o + i * 10 + 1, none⟩ = some (.int .u64 x.e.a.hi) := peer_at Lwr.out hb hcc hli (j := 1) (by rw [← hx]; rfl)
                have c2 : wr.cell? ⟨bb, o + i * 10 + 2, none⟩ = some (.int .u64 x.e.a.lo) := peer_at Lwr.out hb hcc hli (j := 2) (by rw [← hx]; rfl)
                have c3 : wr.cell? ⟨bb, o + i * 10 + 3, none⟩ = some (.int .i64 x.e.n) := peer_at Lwr.out hb hcc hli (j := 3) (by rw [← hx]; rfl)
                have c4 : wr.cell? ⟨bb, o + i * 10 + 4, none⟩ = some (.bool x.i) := peer_at Lwr.out hb hcc hli (j := 4) (by rw [← hx]; rfl)
                have c5 : wr.cell? ⟨bb, o + i * 10 + 5, none⟩ = some (.int .i64 x.t) := peer_at Lwr.out hb hcc hli (j := 5) (by rw [← hx]; rfl)
                have c6 : wr.cell? ⟨bb, o + i * 10 + 6, none⟩ = some (.int .i64 x.c.p) := peer_at Lwr.out hb hcc hli (j := 6) (by rw [← hx]; rfl)
                have c7 : wr.cell? ⟨bb, o + i * 10 + 7, none⟩ = some (.int .i64 x.c.a) := peer_at Lwr.out hb hcc hli (j := 7) (by rw [← hx]; rfl)
                have c8 : wr.cell? ⟨bb, o + i * 10 + 8, none⟩ = some (.int .i64 x.g) := peer_at Lwr.out hb hcc hli (j := 8) (by rw [← hx]; rfl)
                have c9 : wr.cell? ⟨bb, o + i * 10 + 9, none⟩ = some (.int .i64 x.k) := peer_at Lwr.out hb hcc hli (j := 9) (by rw [← hx]; rfl)
                have hwa : IntKind.i64.wrap (1 + (i : Int)) = 1 + (i : Int) := by rw [IntKind.wrap_i64]; omega
                have hwb : IntKind.i64.wrap (100 + (i : Int)) = 100 + (i : Int) := by rw [IntKind.wrap_i64]; omega
                have hwc : IntKind.i64.wrap (1000 + (i : Int)) = 1000 + (i : Int) := by rw [IntKind.wrap_i64]; omega
                obtain ⟨v', w', RR, HO2, hb5⟩ := append_peer (B := W1.heap.size) (HO.out.alloc (.cells #[.bool x.e.a.v6, .int .u64 x.e.a.hi, .int .u64 x.e.a.lo, .int .i64 (1000 + (i : Int)), .bool x.i, .int .i64 x.t, .int .i64 x.c.p, .int .i64 x.c.a, .int .i64 (100 + (i : Int)), .int .i64 x.k] 41)) (slowP x i) (by rw [slow_length]; omega) (Nat.le_trans HL.out.size (by simp))
                have R1 : Hid ((Builtin.append_ #[22, 22] 22 #[_, .slice (some ⟨wr.heap.size + 1, 0, none⟩) 1 1]).run Try.prog ((wr.alloc (.cells #[.bool x.e.a.v6, .int .u64 x.e.a.hi, .int .u64 x.e.a.lo, .int .i64 (1000 + (i : Int)), .bool x.i, .int .i64 x.t, .int .i64 x.c.p, .int .i64 x.c.a, .int .i64 (100 + (i : Int)), .int .i64 x.k] 41)).alloc (.cells #[.bool x.e.a.v6, .int .u64 x.e.a.hi, .int .u64 x.e.a.lo, .int .i64 (1000 + (i : Int)), .bool x.i, .int .i64 x.t, .int .i64 x.c.p, .int .i64 x.c.a, .int .i64 (100 + (i : Int)), .int .i64 x.k] 41)) = .ok v' w') := Lib.hid (by
                  rw [show (wr.alloc (.cells #[.bool x.e.a.v6, .int .u64 x.e.a.hi, .int .u64 x.e.a.lo, .int .i64 (1000 + (i : Int)), .bool x.i, .int .i64 x.t, .int .i64 x.c.p, .int .i64 x.c.a, .int .i64 (100 + (i : Int)), .int .i64 x.k] 41)).heap.size = wr.heap.size + 1 by simp] at RR
                  exact RR)
                have HO3 : Hid (OwnP W1.heap.size w' v' (slowR news (i + 1))) := Lib.hid (by rw [slow_next, ← hx]; exact HO2)
                have HL3 : Hid (Lows W1 w') := Lib.hid ((Lows.alloc HL.out _).trans hb5)
                clear RR HO2 hb5 HO HL hcc hb hx
                go_wp2_with (first
                  | (at_builtin; refine wpList_append_run rfl (.tmp 72) (.tmp 74) _ _ rfl rfl _ _ _ _ rfl rfl R1.out ?_)
                  | fail)
                go_roundw
                case rel => exact ⟨i + 1, by go_num, by omega, HO3, HL3⟩
                case measure => simp [intOf]; omega
              · have hliz : ¬ (i : Int) < (news.length : Int) := by omega
                obtain ⟨W2, hW2⟩ : ∃ W2, W2 = wr := ⟨_, rfl⟩
                have HO := HO
                have HL := HL
                have heq : i = news.length := by omega
                subst heq
                have HPS := Lib.hid (ownP_peers HO.out)
                rw [← hW2] at HPS HL ⊢
                clear hW2 HO
                have L2 : Hid (Below w.heap.size w W2) := Lib.hid (low_trans L1.out HL.out)
                have OS2 := Lib.hid ((OS.out.on HL1.out).on HL.out)
                have HPQ2 := Lib.hid (HPQ.out.below HL.out)
                have hql : (quickR l l.length).length = l.length := quick_length _ _
                have hsl : (slowR news news.length).length = news.length := slow_length _ _
                have KU := Lib.hid (run_any _ _ (quickR l l.length) (slowR news news.length) S W2 HPQ2.out HPS.out (quick_ok hok1 (Nat.le_refl _) (by omega)) (slow_ok hok2 (Nat.le_refl _) (by omega)) (by rw [hql, hsl]; omega) hS.2.2)
                have HST : Hid (∀ i, i < l.length → fstN (runR S (quickR l l.length) (slowR news news.length)) ((quickR l l.length)[i]!).e < (runR S (quickR l l.length) (slowR news news.length)).length ∧ (runR S (quickR l l.length) (slowR news news.length))[fstN (runR S (quickR l l.length) (slowR news news.length)) ((quickR l l.length)[i]!).e]! = (quickR l l.length)[i]!) := Lib.hid fun i hi => safe_stays (quick_unlike l l.length) (by rw [hql]; exact hi) (quick_safe hi (by omega) hqz)
                have hrl : (runR S (quickR l l.length) (slowR news news.length)).length ≤ 40 := by
                  have := run_length S (slowR news news.length) (quickR l l.length)
                  rw [hql, hsl] at this
                  omega
                have HN : Hid ((quickR l l.length).length = l.length) := Lib.hid hql
                have hq10 : (quickR l l.length).length ≤ 10 := by rw [hql]; omega
                generalize runR S (quickR l l.length) (slowR news news.length) = RN at KU HST hrl
                generalize quickR l l.length = QR at *
                have hc7 := HPQ2.out
                obtain ⟨A7, cap7, rfl, _, _, hcell7⟩ := hc7
                have HC7a := Lib.hid hcell7
                clear hcell7
                have q0 := OS2.out.cell (j := 0) rfl
                have q1 := OS2.out.cell (j := 1) rfl
                have q2 := OS2.out.cell (j := 2) rfl
                have q3 := OS2.out.cell (j := 3) rfl
                have q4 := OS2.out.cell (j := 4) rfl
                have q5 := OS2.out.cell (j := 5) rfl
                clear hql hsl HPS HPQ HPQ2
                go_wp2_with fail
                refine KU.out.mono ?_; rintro e9 W3 ⟨u, rfl, hU, hb3⟩
                have L3 := Lib.hid (low_trans L2.out hb3)
                have HU := Lib.hid hU
                obtain ⟨A4, cap4, rfl, _, _, hcell4⟩ := hU
                have HC4 := Lib.hid hcell4
                have HC7 : Hid (0 < QR.length → ∃ b o, A7 = some ⟨b, o, none⟩ ∧ b < W3.heap.size ∧ ∀ i (h : i < QR.length) j u, (encP QR[i])[j]? = some u → W3.cell? ⟨b, o + i * 10 + j, none⟩ = some u) := Lib.hid fun h => by
                  obtain ⟨b, o, h1, h2, h3⟩ := HC7a.out h
                  exact ⟨b, o, h1, Nat.lt_of_lt_of_le h2 hb3.size, fun i h j u hu => (hb3.cell (p := ⟨b, o + i * 10 + j, none⟩) h2).trans (h3 i h j u hu)⟩
                clear hb3 KU hcell4 HC7a q0 q1 q2 q3 q4 q5 OS2 OS L2 L1 HL1 HL
                go_wp2_with fail
                go_loopw [14] (fun vi wr => ∃ i : Nat, vi = .int .i64 i ∧ i ≤ QR.length ∧ Hid (Lows W3 wr)) (fun vi _ => QR.length - (intOf vi).toNat)
                case atStart => exact ⟨0, rfl, Nat.zero_le _, Lib.hid (Lows.self _)⟩
                case round =>
                  obtain ⟨i, rfl, hi, HL⟩ := hrel
                  by_cases hin : i < QR.length
                  · have hinz : (i : Int) < (QR.length : Int) := by omega
                    have hli := hin
                    obtain ⟨b7, o7, rfl, hb7, hcc7⟩ := HC7.out (by omega)
                    obtain ⟨x, hx⟩ : ∃ x, x = QR[i]! := ⟨_, rfl⟩
                    have d0 : wr.cell? ⟨b7, o7 + i * 10, none⟩ = some (.bool x.e.a.v6) := peer_at HL.out hb7 hcc7 hli (j := 0) (by rw [← hx]; rfl)
                    have d1 : wr.cell? ⟨b7, o7 + i * 10 + 1, none⟩ = some (.int .u64 x.e.a.hi) := peer_at HL.out hb7 hcc7 hli (j := 1) (by rw [← hx]; rfl)
                    have d2 : wr.cell? ⟨b7, o7 + i * 10 + 2, none⟩ = some (.int .u64 x.e.a.lo) := peer_at HL.out hb7 hcc7 hli (j := 2) (by rw [← hx]; rfl)
                    have d3 : wr.cell? ⟨b7, o7 + i * 10 + 3, none⟩ = some (.int .i64 x.e.n) := peer_at HL.out hb7 hcc7 hli (j := 3) (by rw [← hx]; rfl)
                    obtain ⟨hat, hxx⟩ := HST.out i (by have := HN.out; omega)
                    rw [← hx] at hat hxx
                    have hixe : ixE RN x.e = (fstN RN x.e : Int) := by unfold ixE; rw [if_pos hat]
                    have KI := Lib.hid (rindex_any _ RN x.e wr (HU.out.below HL.out) (by omega))
                    rw [hixe] at KI
                    generalize fstN RN x.e = m at KI hat hxx
                    obtain ⟨b4, o4, rfl, hb4, hcc4⟩ := HC4.out (by omega)
                    clear hixe
                    have HX := Lib.hid hx
                    have HXX := Lib.hid hxx
                    have HAT := Lib.hid hat
                    clear hx hxx hat
                    go_wp2_with fail
                    refine KI.out.mono ?_; rintro e9 w3 ⟨rfl, hb3⟩
                    have HL3 : Hid (Below W3.heap.size W3 w3) := Lib.hid (low_trans HL.out hb3)
                    have hx := HX.out
                    have hxx := HXX.out
                    have hat := HAT.out
                    have hne : Nonempty (Cls (Lows w3)) := ⟨⟨_, Lows.self _⟩⟩
                    have hm0 : ¬ (m : Int) < 0 := by omega
                    have hmz : (m : Int) < (RN.length : Int) := by omega
                    have hm1 : decide ((m : Int) < 0) = false := decide_eq_false hm0
                    clear hb3 KI d0 d1 d2 d3
                    have f0 : ∀ nq : Cls (Lows w3), nq.w.cell? ⟨b7, o7 + i * 10, none⟩ = some (.bool x.e.a.v6) := fun nq => peer_at (low_trans'' HL3.out nq.h) hb7 hcc7 hli (j := 0) (by rw [← hx]; rfl)
                    have f1 : ∀ nq : Cls (Lows w3), nq.w.cell? ⟨b7, o7 + i * 10 + 1, none⟩ = some (.int .u64 x.e.a.hi) := fun nq => peer_at (low_trans'' HL3.out nq.h) hb7 hcc7 hli (j := 1) (by rw [← hx]; rfl)
                    have f2 : ∀ nq : Cls (Lows w3), nq.w.cell? ⟨b7, o7 + i * 10 + 2, none⟩ = some (.int .u64 x.e.a.lo) := fun nq => peer_at (low_trans'' HL3.out nq.h) hb7 hcc7 hli (j := 2) (by rw [← hx]; rfl)
                    have f3 : ∀ nq : Cls (Lows w3), nq.w.cell? ⟨b7, o7 + i * 10 + 3, none⟩ = some (.int .i64 x.e.n) := fun nq => peer_at (low_trans'' HL3.out nq.h) hb7 hcc7 hli (j := 3) (by rw [← hx]; rfl)
                    have f4 : ∀ nq : Cls (Lows w3), nq.w.cell? ⟨b7, o7 + i * 10 + 4, none⟩ = some (.bool x.i) := fun nq => peer_at (low_trans'' HL3.out nq.h) hb7 hcc7 hli (j := 4) (by rw [← hx]; rfl)
                    have f5 : ∀ nq : Cls (Lows w3), nq.w.cell? ⟨b7, o7 + i * 10 + 5, none⟩ = some (.int .i64 x.t) := fun nq => peer_at (low_trans'' HL3.out nq.h) hb7 hcc7 hli (j := 5) (by rw [← hx]; rfl)
                    have f6 : ∀ nq : Cls (Lows w3), nq.w.cell? ⟨b7, o7 + i * 10 + 6, none⟩ = some (.int .i64 x.c.p) := fun nq => peer_at (low_trans'' HL3.out nq.h) hb7 hcc7 hli (j := 6) (by rw [← hx]; rfl)
                    have f7 : ∀ nq : Cls (Lows w3), nq.w.cell? ⟨b7, o7 + i * 10 + 7, none⟩ = some (.int .i64 x.c.a) := fun nq => peer_at (low_trans'' HL3.out nq.h) hb7 hcc7 hli (j := 7) (by rw [← hx]; rfl)
                    have f8 : ∀ nq : Cls (Lows w3), nq.w.cell? ⟨b7, o7 + i * 10 + 8, none⟩ = some (.int .i64 x.g) := fun nq => peer_at (low_trans'' HL3.out nq.h) hb7 hcc7 hli (j := 8) (by rw [← hx]; rfl)
                    have f9 : ∀ nq : Cls (Lows w3), nq.w.cell? ⟨b7, o7 + i * 10 + 9, none⟩ = some (.int .i64 x.k) := fun nq => peer_at (low_trans'' HL3.out nq.h) hb7 hcc7 hli (j := 9) (by rw [← hx]; rfl)
                    have g0 : ∀ nq : Cls (Lows w3), nq.w.cell? ⟨b4, o4 + m * 10, none⟩ = some (.bool x.e.a.v6) := fun nq => peer_at (low_trans'' HL3.out nq.h) hb4 hcc4 hat (j := 0) (by rw [hxx]; rfl)
                    have g1 : ∀ nq : Cls (Lows w3), nq.w.cell? ⟨b4, o4 + m * 10 + 1, none⟩ = some (.int .u64 x.e.a.hi) := fun nq => peer_at (low_trans'' HL3.out nq.h) hb4 hcc4 hat (j := 1) (by rw [hxx]; rfl)
                    have g2 : ∀ nq : Cls (Lows w3), nq.w.cell? ⟨b4, o4 + m * 10 + 2, none⟩ = some (.int .u64 x.e.a.lo) := fun nq => peer_at (low_trans'' HL3.out nq.h) hb4 hcc4 hat (j := 2) (by rw [hxx]; rfl)
                    have g3 : ∀ nq : Cls (Lows w3), nq.w.cell? ⟨b4, o4 + m * 10 + 3, none⟩ = some (.int .i64 x.e.n) := fun nq => peer_at (low_trans'' HL3.out nq.h) hb4 hcc4 hat (j := 3) (by rw [hxx]; rfl)
                    have g4 : ∀ nq : Cls (Lows w3), nq.w.cell? ⟨b4, o4 + m * 10 + 4, none⟩ = some (.bool x.i) := fun nq => peer_at (low_trans'' HL3.out nq.h) hb4 hcc4 hat (j := 4) (by rw [hxx]; rfl)
                    have g5 : ∀ nq : Cls (Lows w3), nq.w.cell? ⟨b4, o4 + m * 10 + 5, none⟩ = some (.int .i64 x.t) := fun nq => peer_at (low_trans'' HL3.out nq.h) hb4 hcc4 hat (j := 5) (by rw [hxx]; rfl)
                    have g6 : ∀ nq : Cls (Lows w3), nq.w.cell? ⟨b4, o4 + m * 10 + 6, none⟩ = some (.int .i64 x.c.p) := fun nq => peer_at (low_trans'' HL3.out nq.h) hb4 hcc4 hat (j := 6) (by rw [hxx]; rfl)
                    have g7 : ∀ nq : Cls (Lows w3), nq.w.cell? ⟨b4, o4 + m * 10 + 7, none⟩ = some (.int .i64 x.c.a) := fun nq => peer_at (low_trans'' HL3.out nq.h) hb4 hcc4 hat (j := 7) (by rw [hxx]; rfl)
                    have g8 : ∀ nq : Cls (Lows w3), nq.w.cell? ⟨b4, o4 + m * 10 + 8, none⟩ = some (.int .i64 x.g) := fun nq => peer_at (low_trans'' HL3.out nq.h) hb4 hcc4 hat (j := 8) (by rw [hxx]; rfl)
                    have g9 : ∀ nq : Cls (Lows w3), nq.w.cell? ⟨b4, o4 + m * 10 + 9, none⟩ = some (.int .i64 x.k) := fun nq => peer_at (low_trans'' HL3.out nq.h) hb4 hcc4 hat (j := 9) (by rw [hxx]; rfl)
                    have NQ : ∀ W, (binOp .neq 41 (.agg #[.bool x.e.a.v6, .int .u64 x.e.a.hi, .int .u64 x.e.a.lo, .int .i64 x.e.n, .bool x.i, .int .i64 x.t, .int .i64 x.c.p, .int .i64 x.c.a, .int .i64 x.g, .int .i64 x.k]) (.agg #[.bool x.e.a.v6, .int .u64 x.e.a.hi, .int .u64 x.e.a.lo, .int .i64 x.e.n, .bool x.i, .int .i64 x.t, .int .i64 x.c.p, .int .i64 x.c.a, .int .i64 x.g, .int .i64 x.k])).run Try.prog W = .ok (.bool false) W := fun W => neqPeer_self x W
                    clear hcc4 hb4 hcc7 hb7 hx hxx hat HX HXX HAT
                    go_wp2_with fail
                    refine Cls.region (Lows w3) (by kernel_rfl) (by kernel_rfl) (low_drewN (Below.refl _ _) 1) ?_
                    (try dsimp only [List.append])
                    repeat (go_big_quiet_step (first | fail))
                    refine wpQuiet_nil ?_
                    intro n9
                    have hk9 := n9.h
                    generalize n9.w = w9 at hk9 ⊢
                    clear hne n9 f0 f1 f2 f3 f4 f5 f6 f7 f8 f9 g0 g1 g2 g3 g4 g5 g6 g7 g8 g9 NQ
                    have HL9 : Hid (Lows W3 w9) := Lib.hid (low_trans HL3.out hk9)
                    go_wp2_with fail
                    go_roundw
                    case rel => exact ⟨i + 1, by go_num, by omega, HL9⟩
                    case measure => simp [intOf]; omega
                  · have hinz : ¬ (i : Int) < (QR.length : Int) := by omega
                    have LF := Lib.hid (low_trans L3.out HL.out)
                    clear HL
                    go_wp2_with fail
                    refine (AW.out _).mono ?_; rintro e9 w4 ⟨rfl, hb4⟩
                    go_wp2_with fail
                    go_ret
                    exact ⟨rfl, low_trans LF.out hb4⟩
namespace siegeSlow
theorem contract (H : Type) (enc : TypeId × Value → H) (W : World) (base : Nat) (args : Array Value) (ds gs : List (DataW H)) (before : List MemPlace)
    (hval0 : ∀ (j : Nat) t v, Try.f5.params[j]? = some t → args[j]? = some v → Value.okWide Try.prog W .any base t v)
    (hW : DataW.Whole enc Try.prog Try.f5.params.toList Rows.siegeSlowSpec.vars false W args.toList ds gs before) (hSh : W.ShapedOpen Try.prog) :
    Calls Try.prog 5 args W fun e W' => ∃ v, e = .returned v ∧ Rows.siegeSlowSpec.post enc Try.prog Try.f5 false true false false W args v W' := by
  have hval : ∀ (j : Nat) t v, Try.f5.params[j]? = some t → args[j]? = some v → Value.okWide Try.prog W .any base t v := hval0
  have hW' := hW
  obtain ⟨p, q, hA0, hV, _, _, _⟩ := hW
  have hA : DataW.TrodAll enc Try.prog W 0 (fun _ => true) true Try.f5.params.toList args.toList ds p := hA0
  rw [Try.params5] at hA hval
  obtain ⟨v0, vs0, d0, ds0, p0, q0, hargs, rfl, rfl, h0, r0⟩ := trodAll_cons hA
  obtain ⟨v1, vs1, d1, ds1, p1, q1, rfl, rfl, rfl, h1, r1⟩ := trodAll_cons r0
  obtain ⟨v2, vs2, d2, ds2, p2, q2, rfl, rfl, rfl, h2, r2⟩ := trodAll_cons r1
  obtain ⟨rfl, rfl, rfl⟩ := trodAll_nil r2
  obtain rfl : args = #[v0, v1, v2] := by cases args; simp_all
  obtain ⟨rfl, rfl⟩ := trodVars_none hV
  obtain ⟨l0, t0, n0, s0⟩ := open_peers (hval 0 22 v0 rfl rfl) h0
  obtain ⟨l1, t1, n1, s1⟩ := open_peers (hval 1 22 v1 rfl rfl) h1
  obtain ⟨a2, z2, rfl⟩ := open_site (hval 2 27 v2 rfl rfl) h2
  clear hA0 hval0
  refine (siegeSlow_walk W v0 l0 t0 s0 v1 l1 t1 s1 a2 z2).mono fun e W' ⟨he, hg⟩ => ?_
  subst he
  exact ⟨_, rfl, post_law laidOut (by kernel_rfl) (by kernel_rfl) Try.underlying4 rfl hW' rfl rfl rfl hg⟩
set_option maxRecDepth 100000 in
theorem lifted (os : Os) (started : os.Started) (H : Type) (enc : TypeId × Value → H) (F : Stop.Interp) :
    ReturnsInHanded {} Try.checked os 5 .any ((OpenSpec.ofChange Rows.siegeSlowSpec).preRow enc Try.prog Try.f5 Rows.siegeSlowRow.domain false Rows.siegeSlowRow.laid) (((OpenSpec.ofChange Rows.siegeSlowSpec).at F).post enc Try.prog Try.f5 false true false false) := by
  refine returnsInHanded_of_row (C := Try.checked) (s := OpenSpec.ofChange Rows.siegeSlowSpec) own started (by kernel_rfl) Try.func5
    (witness_laid (enc := enc) (C := Try.checked) (s := OpenSpec.ofChange Rows.siegeSlowSpec) (laid := Rows.siegeSlowRow.laid) #[.slice none 0 0, .slice none 0 0, .agg #[.int .i64 0, .int .i64 0, .int .i64 0, .int .i64 0, .int .i64 0, .int .u64 0]] (World.shaped_of_ZipB (by kernel_rfl) (by kernel_rfl)) (by kernel_rfl)
      (OpenSpec.preRow_of_cond 8 (x := ([.nil, .nil, .agg [.lit (.int .i64 0), .agg [.lit (.int .i64 0), .lit (.int .i64 0), .lit (.int .i64 0), .lit (.int .i64 0)], .lit (.int .u64 0)]], [], [])) (by kernel_rfl) (by kernel_rfl) (fun k hk => by cases hk) (by kernel_rfl)
        (by rw [MakeChecks.laidMetH_plain _ _ _ (by kernel_rfl)]; exact laidMet_laidAll _ (by kernel_rfl) (by kernel_rfl)))) ?_
  intro W base args ds gs before hval hW _ hcond _ _ hsh _
  exact contract H enc W base args ds gs before hval hW hsh
theorem over : Rows.siegeSlowRow.holds Try.pinned (OpenSpec.ofChange Rows.siegeSlowSpec) :=
  OpenClaim.holds_of_cond 5 Try.f5 rfl rfl rfl rfl rfl rfl rfl ⟨rfl, rfl, rfl, rfl, rfl⟩ rfl rfl rfl rfl rfl (by kernel_rfl) Try.func5 (by kernel_rfl)
    (of_decide_eq_true (by kernel_rfl)) (by unfold Func.isWrapper; first | (rw [if_pos (by decide +kernel)]; kernel_rfl) | (rw [if_neg (by decide +kernel)]; exact ⟨rfl, rfl⟩))
    (fun os started H enc _ F => by rw [OpenClaim.pre_eq_preRow]; exact lifted os started H enc F)
/-- ████ THE STATEMENT ████ -/
theorem proved : Rows.SiegeSlowSaid := over
end siegeSlow
end Go.Proofs.Ythmcggbmeabpmaa
