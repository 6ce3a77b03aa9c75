/- The third statement of layer 21, proved: of peers with unlike ends one and the same goes, however they are turned, and their neighbours exchanged; for all lists of peers, all quotas and all secrets. -/
import Derived.Test.YtklmlgoeiaigkaaLaw21
namespace Go.Proofs.Ytklmlgoeiaigkaa
set_option maxRecDepth 100000
open Go.ChangeShapes Go.WideShapes Go.ChangeAt Go.RowKit
open Dec Words V4 V6 Ad Ci En Sat Ha Pe Stb Gr Mi Ra Sh Cw Ev Go.Deep
set_option linter.unusedVariables false
/-- A row that a call made, as a block. -/
theorem ownP_blk {B : Nat} {w : World} {v : Value} {l : List Pr} (h : OwnP B w v l) (h0 : 0 < l.length) : ∃ g cap Z, v = .slice (some ⟨g, 0, none⟩) l.length cap ∧ B ≤ g ∧ l.length ≤ cap ∧ Blk w g 43 (flat encP l ++ Z) := by
  obtain ⟨h1, h2⟩ := h
  rcases h2 with ⟨_, h3⟩ | ⟨g, cap, cur, rfl, hB, hg, hn, _, _, ht⟩
  · omega
  · refine ⟨g, cap, cur.toList.drop (l.length * 10), rfl, hB, hn, ?_⟩
    unfold Blk
    rw [hg, ← ht, List.take_append_drop]
theorem splice_tail {α : Type} (A Z vs : List α) (o : Nat) (h : o + vs.length ≤ A.length) : splice (A ++ Z) o vs = splice A o vs ++ Z := by
  unfold splice
  rw [List.take_append_of_le_length (by omega), List.drop_append_of_le_length h]
  simp only [List.append_assoc]
theorem put_peerZ {w : World} {g : Nat} {t : TypeId} {D : List Pr} {Z : List Value} (h : Blk w g t (flat encP D ++ Z)) {i : Nat} (hi : i < D.length) (x : Pr) :
    Blk (((((((((((w).setCell ⟨g, i * 10, none⟩ (.bool x.e.a.v6)).setCell ⟨g, i * 10 + 1, none⟩ (.int .u64 x.e.a.hi)).setCell ⟨g, i * 10 + 2, none⟩ (.int .u64 x.e.a.lo)).setCell ⟨g, i * 10 + 3, none⟩ (.int .i64 x.e.n)).setCell ⟨g, i * 10 + 4, none⟩ (.bool x.i)).setCell ⟨g, i * 10 + 5, none⟩ (.int .i64 x.t)).setCell ⟨g, i * 10 + 6, none⟩ (.int .i64 x.c.p)).setCell ⟨g, i * 10 + 7, none⟩ (.int .i64 x.c.a)).setCell ⟨g, i * 10 + 8, none⟩ (.int .i64 x.g)).setCell ⟨g, i * 10 + 9, none⟩ (.int .i64 x.k)) g t (flat encP (D.set i x) ++ Z) ∧ Bt g w (((((((((((w).setCell ⟨g, i * 10, none⟩ (.bool x.e.a.v6)).setCell ⟨g, i * 10 + 1, none⟩ (.int .u64 x.e.a.hi)).setCell ⟨g, i * 10 + 2, none⟩ (.int .u64 x.e.a.lo)).setCell ⟨g, i * 10 + 3, none⟩ (.int .i64 x.e.n)).setCell ⟨g, i * 10 + 4, none⟩ (.bool x.i)).setCell ⟨g, i * 10 + 5, none⟩ (.int .i64 x.t)).setCell ⟨g, i * 10 + 6, none⟩ (.int .i64 x.c.p)).setCell ⟨g, i * 10 + 7, none⟩ (.int .i64 x.c.a)).setCell ⟨g, i * 10 + 8, none⟩ (.int .i64 x.g)).setCell ⟨g, i * 10 + 9, none⟩ (.int .i64 x.k)) := by
  have k := setCells_blk g t (encP x) (i * 10) w _ h (by rw [encP_len, List.length_append, flat_len encP_len]; omega)
  rw [splice_tail _ _ _ _ (by rw [encP_len, flat_len encP_len]; omega), ← flat_one encP x, flat_splice encP_len, splice_one _ _ _ hi, flat_one] at k
  exact k
theorem cellZ {w : World} {g : Nat} {t : TypeId} {D : List Pr} {Z : List Value} (h : Blk w g t (flat encP D ++ Z)) {i j : Nat} {u : Value} (hi : i < D.length) (hu : (encP D[i]!)[j]? = some u) : w.cell? ⟨g, i * 10 + j, none⟩ = some u := by
  have hj : j < 10 := by have := (List.getElem?_eq_some_iff.1 hu).1; rwa [encP_len] at this
  refine h.cell ?_
  rw [List.getElem?_append_left (by rw [flat_len encP_len]; omega), flat_at encP_len D i j hi hj, ← hu, getElem!_pos D i hi]
theorem readsZ {w : World} {g cap : Nat} {t : TypeId} {D : List Pr} {Z : List Value} (h : Blk w g t (flat encP D ++ Z)) (hc : D.length ≤ cap) : Peers w (.slice (some ⟨g, 0, none⟩) D.length cap) D :=
  Blk.reads (m := D.length) encP_len h (by rw [List.take_left' (flat_len encP_len D)]) rfl hc
set_option maxHeartbeats 24000000 in
theorem evictTurned_walk (w : World) (v : Value) (l : List Pr) (h : Peers w v l) (hok : ∀ x ∈ l, x.ok) (q : Qt) (hq : q.ok) (a b : Int) (ha : (-9223372036854775808 ≤ a ∧ a ≤ 9223372036854775807)) (hb : (-9223372036854775808 ≤ b ∧ b ≤ 9223372036854775807)) :
    Calls Try.prog 5 #[v, .agg #[.int .i64 q.g, .int .i64 q.p, .int .i64 q.w, .int .i64 q.t], .agg #[.int .i64 a, .int .i64 b]] w fun e w' => e = .returned (.bool true) ∧ Below w.heap.size w w' := by
  have AW := Lib.hid (fun W => awake21_any W)
  have OB : Hid (Blk ((w.alloc (.cells #[.int .i64 q.g, .int .i64 q.p, .int .i64 q.w, .int .i64 q.t] 24)).alloc (.cells #[.int .i64 a, .int .i64 b] 45)) w.heap.size 24 [.int .i64 q.g, .int .i64 q.p, .int .i64 q.w, .int .i64 q.t]) := Lib.hid ((Blk.new w #[.int .i64 q.g, .int .i64 q.p, .int .i64 q.w, .int .i64 q.t] 24).alloc _)
  have OK : Hid (Blk ((w.alloc (.cells #[.int .i64 q.g, .int .i64 q.p, .int .i64 q.w, .int .i64 q.t] 24)).alloc (.cells #[.int .i64 a, .int .i64 b] 45)) (w.heap.size + 1) 45 [.int .i64 a, .int .i64 b]) := Lib.hid (Blk.two w (.cells #[.int .i64 q.g, .int .i64 q.p, .int .i64 q.w, .int .i64 q.t] 24) #[.int .i64 a, .int .i64 b] 45)
  have L0 : Hid (Lows w ((w.alloc (.cells #[.int .i64 q.g, .int .i64 q.p, .int .i64 q.w, .int .i64 q.t] 24)).alloc (.cells #[.int .i64 a, .int .i64 b] 45))) := Lib.hid (Lows.alloc (Lows.alloc (Lows.self w) _) _)
  by_cases h30 : 30 < l.length
  · have h30z : (30 : Int) < (l.length : Int) := by omega
    obtain ⟨A, c, rfl, hc, _, hcell⟩ := h
    clear hcell hok hq ha hb
    go_enter Try.func5, Try.ntmps5
    go_wp2_with fail
    refine (AW.out _).mono ?_; rintro e w1 ⟨rfl, hb1⟩
    go_wp2_with fail
    go_ret
    exact ⟨rfl, low_trans L0.out hb1⟩
  · have h30z : ¬ (30 : Int) < (l.length : Int) := by omega
    have hl9 : l.length ≤ 900000 := by omega
    by_cases hl0 : l.length = 0
    · have h0z : ((l.length : Int) == 0) = true := by rw [beq_iff_eq]; omega
      have h0y : (l.length : Int) = 0 := by omega
      obtain ⟨A, c, rfl, hc, _, hcell⟩ := h
      clear hl0 hcell hok hq ha hb
      go_enter Try.func5, Try.ntmps5
      go_wp2_with fail
      refine (AW.out _).mono ?_; rintro e w1 ⟨rfl, hb1⟩
      go_wp2_with fail
      go_ret
      exact ⟨rfl, low_trans L0.out hb1⟩
    · have h0z : ((l.length : Int) == 0) = false := by rw [beq_eq_false_iff_ne]; omega
      have h0y : ¬ (l.length : Int) = 0 := by omega
      have hl2 : 1 ≤ l.length := by omega
      have KU := Lib.hid (unlike_any v l ((w.alloc (.cells #[.int .i64 q.g, .int .i64 q.p, .int .i64 q.w, .int .i64 q.t] 24)).alloc (.cells #[.int .i64 a, .int .i64 b] 45)) (h.below L0.out) (by omega))
      by_cases hu : Unlike l
      · rw [unlikeB_yes hu] at KU
        obtain ⟨s, hs, hsw⟩ : ∃ s : Nat, s < 18446744073709551616 ∧ IntKind.u64.wrap b = (s : Int) := ⟨(IntKind.u64.wrap b).toNat, by rw [IntKind.wrap_u64]; omega, by rw [IntKind.wrap_u64]; omega⟩
        have HS := Lib.hid hs
        have HA := Lib.hid ha
        have K1 : Hid (∀ W, Lows ((w.alloc (.cells #[.int .i64 q.g, .int .i64 q.p, .int .i64 q.w, .int .i64 q.t] 24)).alloc (.cells #[.int .i64 a, .int .i64 b] 45)) W → Calls Try.prog 7 #[v, .agg #[.int .i64 q.g, .int .i64 q.p, .int .i64 q.w, .int .i64 q.t], .int .u64 (s : Nat)] W fun e w' => e = .returned (.tuple #[.agg #[.bool (exitR (candR l q s)).a.v6, .int .u64 (exitR (candR l q s)).a.hi, .int .u64 (exitR (candR l q s)).a.lo, .int .i64 (exitR (candR l q s)).n], .bool (decide (0 < (candR l q s).length))]) ∧ Below W.heap.size W w') := Lib.hid fun W hW => choose_any v l q s W (h.below (low_trans L0.out hW)) hok hl9 hs
        have KT : Hid (∀ (W : World) (x : Value) (T : List Pr), Peers W x T → T.Perm l → Calls Try.prog 7 #[x, .agg #[.int .i64 q.g, .int .i64 q.p, .int .i64 q.w, .int .i64 q.t], .int .u64 (s : Nat)] W fun e w' => e = .returned (.tuple #[.agg #[.bool (exitR (candR l q s)).a.v6, .int .u64 (exitR (candR l q s)).a.hi, .int .u64 (exitR (candR l q s)).a.lo, .int .i64 (exitR (candR l q s)).n], .bool (decide (0 < (candR l q s).length))]) ∧ Below W.heap.size W w') := Lib.hid fun W x T hx hp => by
          have k := choose_any x T q s W hx (fun y hy => hok y (hp.mem_iff.1 hy)) (by rw [hp.length_eq]; exact hl9) hs
          rwa [end_one hp hu, length_one hp hu] at k
        generalize exitR (candR l q s) = E at *
        generalize decide (0 < (candR l q s).length) = gg at *
        have zg : (gg == gg) = true := by simp
        have EQ := fun W => eqEnd E E W
        rw [show sameE E E = true from (sameE_iff _ _).2 rfl] at EQ
        have PN : Hid (∀ W, Lows ((w.alloc (.cells #[.int .i64 q.g, .int .i64 q.p, .int .i64 q.w, .int .i64 q.t] 24)).alloc (.cells #[.int .i64 a, .int .i64 b] 45)) W → Peers W v l) := Lib.hid fun W hW => h.below (low_trans L0.out hW)
        obtain ⟨A, c, rfl, hc, _, hcell⟩ := h
        obtain ⟨bb, o, rfl, hb9, hcc⟩ := hcell (by omega)
        clear hcell hok hq ha hb hs hl0 hu hb9 hcc
        go_enter Try.func5, Try.ntmps5
        go_wp2_with fail
        refine KU.out.mono ?_; rintro e w9 ⟨rfl, hb9⟩
        have L9 : Hid (Lows ((w.alloc (.cells #[.int .i64 q.g, .int .i64 q.p, .int .i64 q.w, .int .i64 q.t] 24)).alloc (.cells #[.int .i64 a, .int .i64 b] 45)) w9) := Lib.hid hb9
        have kc0 := Blk.in OK hb9 (j := 0) rfl
        have KB := Lib.hid (fun W => around_any a l.length W hl2 (by omega) HA.out)
        clear hb9 KU
        go_wp2_with fail
        refine (KB.out _).mono ?_; rintro e w1 ⟨k, rfl, hkl, rfl⟩
        clear KB kc0
        have hkz : (k : Int) ≤ (l.length : Int) := by omega
        have hkc : (k : Int) ≤ (c : Int) := by omega
        have hkne : ¬ (c = k) := by omega
        have hkne2 : ¬ (k = c) := by omega
        have hw1 : ((w.alloc (.cells #[.int .i64 q.g, .int .i64 q.p, .int .i64 q.w, .int .i64 q.t] 24)).alloc (.cells #[.int .i64 a, .int .i64 b] 45)).heap.size ≤ w9.heap.size := L9.out.size
        have HA1 : Hid (∀ W g, OwnP ((w.alloc (.cells #[.int .i64 q.g, .int .i64 q.p, .int .i64 q.w, .int .i64 q.t] 24)).alloc (.cells #[.int .i64 a, .int .i64 b] 45)).heap.size W (.slice (some ⟨g, 0, none⟩) 0 0) [] → Lows ((w.alloc (.cells #[.int .i64 q.g, .int .i64 q.p, .int .i64 q.w, .int .i64 q.t] 24)).alloc (.cells #[.int .i64 a, .int .i64 b] 45)) W → ∃ v1 w1, (Builtin.append_ #[22, 22] 22 #[.slice (some ⟨g, 0, none⟩) 0 0, .slice (some ⟨bb, o + k * 10, none⟩) (l.length - k) (c - k)]).run Try.prog W = .ok v1 w1 ∧ (OwnP ((w.alloc (.cells #[.int .i64 q.g, .int .i64 q.p, .int .i64 q.w, .int .i64 q.t] 24)).alloc (.cells #[.int .i64 a, .int .i64 b] 45)).heap.size w1 v1 (l.drop k) ∧ Lows ((w.alloc (.cells #[.int .i64 q.g, .int .i64 q.p, .int .i64 q.w, .int .i64 q.t] 24)).alloc (.cells #[.int .i64 a, .int .i64 b] 45)) w1)) := Lib.hid fun W g ho hW => by
          obtain ⟨v1, w1, h1, h2, h3⟩ := append_peers ho ((PN.out W hW).rest (i := k) (by omega)) (by simp; omega) hW.size
          exact ⟨v1, w1, h1, h2, hW.trans h3⟩
        have HA2 : Hid (∀ W v, OwnP ((w.alloc (.cells #[.int .i64 q.g, .int .i64 q.p, .int .i64 q.w, .int .i64 q.t] 24)).alloc (.cells #[.int .i64 a, .int .i64 b] 45)).heap.size W v (l.drop k) → Lows ((w.alloc (.cells #[.int .i64 q.g, .int .i64 q.p, .int .i64 q.w, .int .i64 q.t] 24)).alloc (.cells #[.int .i64 a, .int .i64 b] 45)) W → ∃ v1 w1, (Builtin.append_ #[22, 22] 22 #[v, .slice (some ⟨bb, o, none⟩) k c]).run Try.prog W = .ok v1 w1 ∧ (OwnP ((w.alloc (.cells #[.int .i64 q.g, .int .i64 q.p, .int .i64 q.w, .int .i64 q.t] 24)).alloc (.cells #[.int .i64 a, .int .i64 b] 45)).heap.size w1 v1 (turnR l k) ∧ Lows ((w.alloc (.cells #[.int .i64 q.g, .int .i64 q.p, .int .i64 q.w, .int .i64 q.t] 24)).alloc (.cells #[.int .i64 a, .int .i64 b] 45)) w1)) := Lib.hid fun W v ho hW => by
          obtain ⟨v1, w1, h1, h2, h3⟩ := append_peers ho ((PN.out W hW).part (i := k) (by omega)) (by simp; omega) hW.size
          exact ⟨v1, w1, h1, h2, hW.trans h3⟩
        have HTP : Hid ((turnR l k).Perm l) := Lib.hid (turn_perm l k)
        go_wp2_with fail
        go_region_law (first
          | (refine step_append_ex rfl (.tmp 34) (.tmp 37) _ _ rfl rfl _ _ (by simp [Act.eval]) (by first | (simp [Act.eval]; done) | (simp [Act.eval]; omega)) (HA1.out _ _ (World.ownsRow.drew (ownP_lit w9 hw1)) (low_drewN (Below.alloc L9.out hw1 _) 1)) ?_; rintro v1 w2 ⟨ho1, hl1'⟩)
          | (refine step_append_ex rfl (.tmp 38) (.tmp 41) _ _ rfl rfl _ _ (by simp [Act.eval]) (by first | (simp [Act.eval]; done) | (simp [Act.eval]; omega)) (HA2.out _ _ ho1 hl1') ?_; rintro v2 w3 ⟨ho2, hl2'⟩))
        have L3 := Lib.hid hl2'
        clear ho1 hl1' hl2' L9 HA1 HA2 hkz hkc hkne hkne2 hw1
        generalize turnR l k = T at *
        obtain ⟨g, cap, Z, rfl, hBg, hcap, hbk⟩ := ownP_blk ho2 (by rw [HTP.out.length_eq]; omega)
        have HB0 := Lib.hid hbk
        have HBG := Lib.hid hBg
        obtain ⟨n, hn⟩ : ∃ n, n = l.length := ⟨_, rfl⟩
        have HN := Lib.hid hn
        rw [HTP.out.length_eq, ← hn] at hcap ⊢
        have HCAP := Lib.hid hcap
        rw [← hn] at h30z h0z h0y hl2 hl9 hkl
        clear hbk hBg hcap hn ho2 hkl
        (try simp [Act.put])
        go_wp2_with fail
        go_loopw [9] (fun vi wr => ∃ (i : Nat) (D : List Pr), vi = .int .i64 i ∧ i ≤ n + 1 ∧ Hid (D.Perm l) ∧ Hid (Blk wr g 43 (flat encP D ++ Z)) ∧ Hid (Lows ((w.alloc (.cells #[.int .i64 q.g, .int .i64 q.p, .int .i64 q.w, .int .i64 q.t] 24)).alloc (.cells #[.int .i64 a, .int .i64 b] 45)) wr)) (fun vi _ => n + 2 - (intOf vi).toNat)
        case atStart => exact ⟨0, T, rfl, Nat.zero_le _, HTP, HB0, L3⟩
        case round =>
          obtain ⟨i, D, rfl, hi, HP, HB, HL⟩ := hrel
          clear HB0 HTP L3
          obtain ⟨k, hk⟩ : ∃ k : Nat, k = i + 1 := ⟨_, rfl⟩
          have eq : (i : Int) + 1 = (k : Int) := by omega
          have hw : IntKind.i64.wrap ((i : Int) + 1) = (k : Int) := by rw [IntKind.wrap_i64]; omega
          by_cases hkn : k < n
          · have hknz : (k : Int) < (n : Int) := by omega
            have hin : i < n := by omega
            have hinz : (i : Int) < (n : Int) := by omega
            have hDl : D.length = l.length := HP.out.length_eq
            have hiD : i < D.length := by have := HN.out; omega
            have hkD : k < D.length := by have := HN.out; omega
            have HD2 : Hid ((swR2 D i).Perm l) := Lib.hid ((sw_perm D i (by omega)).trans HP.out)
            obtain ⟨x, hx⟩ : ∃ x, x = D[i]! := ⟨_, rfl⟩
            obtain ⟨y, hy⟩ : ∃ y, y = D[k]! := ⟨_, rfl⟩
            have HS2 : Hid (swR2 D i = (D.set i y).set k x) := Lib.hid (by unfold swR2; rw [hx, hy, hk])
            have hgw : g < wr.heap.size := HB.out.lt
            have hgn : ¬ (g = wr.heap.size) := by omega
            have hgn2 : ¬ (wr.heap.size = g) := by omega
            have c0 : wr.cell? ⟨g, i * 10, none⟩ = some (.bool x.e.a.v6) := cellZ HB.out hiD (j := 0) (by rw [← hx]; rfl)
            have c1 : wr.cell? ⟨g, i * 10 + 1, none⟩ = some (.int .u64 x.e.a.hi) := cellZ HB.out hiD (j := 1) (by rw [← hx]; rfl)
            have c2 : wr.cell? ⟨g, i * 10 + 2, none⟩ = some (.int .u64 x.e.a.lo) := cellZ HB.out hiD (j := 2) (by rw [← hx]; rfl)
            have c3 : wr.cell? ⟨g, i * 10 + 3, none⟩ = some (.int .i64 x.e.n) := cellZ HB.out hiD (j := 3) (by rw [← hx]; rfl)
            have c4 : wr.cell? ⟨g, i * 10 + 4, none⟩ = some (.bool x.i) := cellZ HB.out hiD (j := 4) (by rw [← hx]; rfl)
            have c5 : wr.cell? ⟨g, i * 10 + 5, none⟩ = some (.int .i64 x.t) := cellZ HB.out hiD (j := 5) (by rw [← hx]; rfl)
            have c6 : wr.cell? ⟨g, i * 10 + 6, none⟩ = some (.int .i64 x.c.p) := cellZ HB.out hiD (j := 6) (by rw [← hx]; rfl)
            have c7 : wr.cell? ⟨g, i * 10 + 7, none⟩ = some (.int .i64 x.c.a) := cellZ HB.out hiD (j := 7) (by rw [← hx]; rfl)
            have c8 : wr.cell? ⟨g, i * 10 + 8, none⟩ = some (.int .i64 x.g) := cellZ HB.out hiD (j := 8) (by rw [← hx]; rfl)
            have c9 : wr.cell? ⟨g, i * 10 + 9, none⟩ = some (.int .i64 x.k) := cellZ HB.out hiD (j := 9) (by rw [← hx]; rfl)
            have HN0 := Lib.hid (HB.out.alloc (.cells #[.bool x.e.a.v6, .int .u64 x.e.a.hi, .int .u64 x.e.a.lo, .int .i64 x.e.n, .bool x.i, .int .i64 x.t, .int .i64 x.c.p, .int .i64 x.c.a, .int .i64 x.g, .int .i64 x.k] 43))
            have HBX := Lib.hid (Blk.new wr #[.bool x.e.a.v6, .int .u64 x.e.a.hi, .int .u64 x.e.a.lo, .int .i64 x.e.n, .bool x.i, .int .i64 x.t, .int .i64 x.c.p, .int .i64 x.c.a, .int .i64 x.g, .int .i64 x.k] 43)
            have HL0 : Hid (Lows wr (wr.alloc (.cells #[.bool x.e.a.v6, .int .u64 x.e.a.hi, .int .u64 x.e.a.lo, .int .i64 x.e.n, .bool x.i, .int .i64 x.t, .int .i64 x.c.p, .int .i64 x.c.a, .int .i64 x.g, .int .i64 x.k] 43))) := Lib.hid (Lows.alloc (Lows.self wr) _)
            have hi2 : IntKind.i64.wrap ((i : Int) + 2) = ((i + 2 : Nat) : Int) := by rw [IntKind.wrap_i64]; omega
            have HGN := Lib.hid hgn2
            have HID := Lib.hid hiD
            have HKD := Lib.hid hkD
            have HY := Lib.hid hy
            have HX := Lib.hid hx
            clear hDl hiD hkD hx hy hgw hk hgn hgn2
            go_upto_region 9 with fail
            generalize wr.alloc (.cells #[.bool x.e.a.v6, .int .u64 x.e.a.hi, .int .u64 x.e.a.lo, .int .i64 x.e.n, .bool x.i, .int .i64 x.t, .int .i64 x.c.p, .int .i64 x.c.a, .int .i64 x.g, .int .i64 x.k] 43) = W1 at HN0 HBX HL0 ⊢
            have hx := HX.out
            have hy := HY.out
            have hiD := HID.out
            have hkD := HKD.out
            have e0 : W1.cell? ⟨g, i * 10, none⟩ = some (.bool x.e.a.v6) := cellZ HN0.out hiD (j := 0) (by rw [← hx]; rfl)
            have e1 : W1.cell? ⟨g, i * 10 + 1, none⟩ = some (.int .u64 x.e.a.hi) := cellZ HN0.out hiD (j := 1) (by rw [← hx]; rfl)
            have e2 : W1.cell? ⟨g, i * 10 + 2, none⟩ = some (.int .u64 x.e.a.lo) := cellZ HN0.out hiD (j := 2) (by rw [← hx]; rfl)
            have e3 : W1.cell? ⟨g, i * 10 + 3, none⟩ = some (.int .i64 x.e.n) := cellZ HN0.out hiD (j := 3) (by rw [← hx]; rfl)
            have e4 : W1.cell? ⟨g, i * 10 + 4, none⟩ = some (.bool x.i) := cellZ HN0.out hiD (j := 4) (by rw [← hx]; rfl)
            have e5 : W1.cell? ⟨g, i * 10 + 5, none⟩ = some (.int .i64 x.t) := cellZ HN0.out hiD (j := 5) (by rw [← hx]; rfl)
            have e6 : W1.cell? ⟨g, i * 10 + 6, none⟩ = some (.int .i64 x.c.p) := cellZ HN0.out hiD (j := 6) (by rw [← hx]; rfl)
            have e7 : W1.cell? ⟨g, i * 10 + 7, none⟩ = some (.int .i64 x.c.a) := cellZ HN0.out hiD (j := 7) (by rw [← hx]; rfl)
            have e8 : W1.cell? ⟨g, i * 10 + 8, none⟩ = some (.int .i64 x.g) := cellZ HN0.out hiD (j := 8) (by rw [← hx]; rfl)
            have e9 : W1.cell? ⟨g, i * 10 + 9, none⟩ = some (.int .i64 x.k) := cellZ HN0.out hiD (j := 9) (by rw [← hx]; rfl)
            have d0 : W1.cell? ⟨g, k * 10, none⟩ = some (.bool y.e.a.v6) := cellZ HN0.out hkD (j := 0) (by rw [← hy]; rfl)
            have d1 : W1.cell? ⟨g, k * 10 + 1, none⟩ = some (.int .u64 y.e.a.hi) := cellZ HN0.out hkD (j := 1) (by rw [← hy]; rfl)
            have d2 : W1.cell? ⟨g, k * 10 + 2, none⟩ = some (.int .u64 y.e.a.lo) := cellZ HN0.out hkD (j := 2) (by rw [← hy]; rfl)
            have d3 : W1.cell? ⟨g, k * 10 + 3, none⟩ = some (.int .i64 y.e.n) := cellZ HN0.out hkD (j := 3) (by rw [← hy]; rfl)
            have d4 : W1.cell? ⟨g, k * 10 + 4, none⟩ = some (.bool y.i) := cellZ HN0.out hkD (j := 4) (by rw [← hy]; rfl)
            have d5 : W1.cell? ⟨g, k * 10 + 5, none⟩ = some (.int .i64 y.t) := cellZ HN0.out hkD (j := 5) (by rw [← hy]; rfl)
            have d6 : W1.cell? ⟨g, k * 10 + 6, none⟩ = some (.int .i64 y.c.p) := cellZ HN0.out hkD (j := 6) (by rw [← hy]; rfl)
            have d7 : W1.cell? ⟨g, k * 10 + 7, none⟩ = some (.int .i64 y.c.a) := cellZ HN0.out hkD (j := 7) (by rw [← hy]; rfl)
            have d8 : W1.cell? ⟨g, k * 10 + 8, none⟩ = some (.int .i64 y.g) := cellZ HN0.out hkD (j := 8) (by rw [← hy]; rfl)
            have d9 : W1.cell? ⟨g, k * 10 + 9, none⟩ = some (.int .i64 y.k) := cellZ HN0.out hkD (j := 9) (by rw [← hy]; rfl)
            have p0 := HN0.out.free (i * 10)
            have p1 := HN0.out.free (i * 10 + 1)
            have p2 := HN0.out.free (i * 10 + 2)
            have p3 := HN0.out.free (i * 10 + 3)
            have p4 := HN0.out.free (i * 10 + 4)
            have p5 := HN0.out.free (i * 10 + 5)
            have p6 := HN0.out.free (i * 10 + 6)
            have p7 := HN0.out.free (i * 10 + 7)
            have p8 := HN0.out.free (i * 10 + 8)
            have p9 := HN0.out.free (i * 10 + 9)
            have HN1 := Lib.hid (put_peerZ HN0.out hiD y)
            have HBX1 := Lib.hid (HBX.out.but HN1.out.2 HGN.out)
            clear hx hy hiD hkD c0 c1 c2 c3 c4 c5 c6 c7 c8 c9
            go_upto_region 10 with fail
            generalize ((((((((((W1).setCell ⟨g, i * 10, none⟩ (.bool y.e.a.v6)).setCell ⟨g, i * 10 + 1, none⟩ (.int .u64 y.e.a.hi)).setCell ⟨g, i * 10 + 2, none⟩ (.int .u64 y.e.a.lo)).setCell ⟨g, i * 10 + 3, none⟩ (.int .i64 y.e.n)).setCell ⟨g, i * 10 + 4, none⟩ (.bool y.i)).setCell ⟨g, i * 10 + 5, none⟩ (.int .i64 y.t)).setCell ⟨g, i * 10 + 6, none⟩ (.int .i64 y.c.p)).setCell ⟨g, i * 10 + 7, none⟩ (.int .i64 y.c.a)).setCell ⟨g, i * 10 + 8, none⟩ (.int .i64 y.g)).setCell ⟨g, i * 10 + 9, none⟩ (.int .i64 y.k) = W2 at HN1 HBX1 ⊢
            have hx := HX.out
            have hy := HY.out
            have hiD := HID.out
            have hkD : k < (D.set i y).length := by rw [List.length_set]; exact HKD.out
            have b0 := HBX1.out.cell (j := 0) rfl
            have b1 := HBX1.out.cell (j := 1) rfl
            have b2 := HBX1.out.cell (j := 2) rfl
            have b3 := HBX1.out.cell (j := 3) rfl
            have b4 := HBX1.out.cell (j := 4) rfl
            have b5 := HBX1.out.cell (j := 5) rfl
            have b6 := HBX1.out.cell (j := 6) rfl
            have b7 := HBX1.out.cell (j := 7) rfl
            have b8 := HBX1.out.cell (j := 8) rfl
            have b9 := HBX1.out.cell (j := 9) rfl
            have t0 : W2.cell? ⟨g, k * 10, none⟩ = some (.bool y.e.a.v6) := cellZ HN1.out.1 hkD (j := 0) (by rw [getElem!_pos _ k hkD, List.getElem_set_ne (by omega), ← getElem!_pos D k HKD.out, ← hy]; rfl)
            have t1 : W2.cell? ⟨g, k * 10 + 1, none⟩ = some (.int .u64 y.e.a.hi) := cellZ HN1.out.1 hkD (j := 1) (by rw [getElem!_pos _ k hkD, List.getElem_set_ne (by omega), ← getElem!_pos D k HKD.out, ← hy]; rfl)
            have t2 : W2.cell? ⟨g, k * 10 + 2, none⟩ = some (.int .u64 y.e.a.lo) := cellZ HN1.out.1 hkD (j := 2) (by rw [getElem!_pos _ k hkD, List.getElem_set_ne (by omega), ← getElem!_pos D k HKD.out, ← hy]; rfl)
            have t3 : W2.cell? ⟨g, k * 10 + 3, none⟩ = some (.int .i64 y.e.n) := cellZ HN1.out.1 hkD (j := 3) (by rw [getElem!_pos _ k hkD, List.getElem_set_ne (by omega), ← getElem!_pos D k HKD.out, ← hy]; rfl)
            have t4 : W2.cell? ⟨g, k * 10 + 4, none⟩ = some (.bool y.i) := cellZ HN1.out.1 hkD (j := 4) (by rw [getElem!_pos _ k hkD, List.getElem_set_ne (by omega), ← getElem!_pos D k HKD.out, ← hy]; rfl)
            have t5 : W2.cell? ⟨g, k * 10 + 5, none⟩ = some (.int .i64 y.t) := cellZ HN1.out.1 hkD (j := 5) (by rw [getElem!_pos _ k hkD, List.getElem_set_ne (by omega), ← getElem!_pos D k HKD.out, ← hy]; rfl)
            have t6 : W2.cell? ⟨g, k * 10 + 6, none⟩ = some (.int .i64 y.c.p) := cellZ HN1.out.1 hkD (j := 6) (by rw [getElem!_pos _ k hkD, List.getElem_set_ne (by omega), ← getElem!_pos D k HKD.out, ← hy]; rfl)
            have t7 : W2.cell? ⟨g, k * 10 + 7, none⟩ = some (.int .i64 y.c.a) := cellZ HN1.out.1 hkD (j := 7) (by rw [getElem!_pos _ k hkD, List.getElem_set_ne (by omega), ← getElem!_pos D k HKD.out, ← hy]; rfl)
            have t8 : W2.cell? ⟨g, k * 10 + 8, none⟩ = some (.int .i64 y.g) := cellZ HN1.out.1 hkD (j := 8) (by rw [getElem!_pos _ k hkD, List.getElem_set_ne (by omega), ← getElem!_pos D k HKD.out, ← hy]; rfl)
            have t9 : W2.cell? ⟨g, k * 10 + 9, none⟩ = some (.int .i64 y.k) := cellZ HN1.out.1 hkD (j := 9) (by rw [getElem!_pos _ k hkD, List.getElem_set_ne (by omega), ← getElem!_pos D k HKD.out, ← hy]; rfl)
            have r0 := HN1.out.1.free (k * 10)
            have r1 := HN1.out.1.free (k * 10 + 1)
            have r2 := HN1.out.1.free (k * 10 + 2)
            have r3 := HN1.out.1.free (k * 10 + 3)
            have r4 := HN1.out.1.free (k * 10 + 4)
            have r5 := HN1.out.1.free (k * 10 + 5)
            have r6 := HN1.out.1.free (k * 10 + 6)
            have r7 := HN1.out.1.free (k * 10 + 7)
            have r8 := HN1.out.1.free (k * 10 + 8)
            have r9 := HN1.out.1.free (k * 10 + 9)
            have HN2 := Lib.hid (put_peerZ HN1.out.1 (i := k) hkD x)
            clear hx hy hiD hkD
            go_wp2_with fail
            go_roundw
            case rel => exact ⟨i + 2, swR2 D i, by go_num, by omega, HD2, Lib.hid (by rw [HS2.out]; exact HN2.out.1), Lib.hid ((low_trans HL.out HL0.out).trans ((HN1.out.2.trans HN2.out.2).low HBG.out (low_trans HL.out HL0.out).size))⟩
            case measure => simp [intOf]; omega
          · have hknz : ¬ (k : Int) < (n : Int) := by omega
            have hDl : D.length = n := by have := HP.out.length_eq; have := HN.out; omega
            have HPD := Lib.hid (readsZ HB.out (cap := cap) (by rw [hDl]; exact HCAP.out))
            rw [hDl] at HPD
            have KC := Lib.hid (fun (W : World) (hW : Lows wr W) => KT.out W _ D (HPD.out.below hW) HP.out)
            have qc0 := Blk.in OB HL.out (j := 0) rfl
            have qc1 := Blk.in OB HL.out (j := 1) rfl
            have qc2 := Blk.in OB HL.out (j := 2) rfl
            have qc3 := Blk.in OB HL.out (j := 3) rfl
            have kc1 := Blk.in OK HL.out (j := 1) rfl
            clear hDl hk HCAP KT HB
            go_wp2_with fail
            have hK1 := K1.out _ HL.out
            rw [← HN.out] at hK1
            refine hK1.mono ?_; rintro e w4 ⟨rfl, hb4⟩
            have L4 : Hid (Lows ((w.alloc (.cells #[.int .i64 q.g, .int .i64 q.p, .int .i64 q.w, .int .i64 q.t] 24)).alloc (.cells #[.int .i64 a, .int .i64 b] 45)) (w4.alloc (.cells #[.bool E.a.v6, .int .u64 E.a.hi, .int .u64 E.a.lo, .int .i64 E.n] 30))) := Lib.hid (Lows.alloc (low_trans HL.out hb4) _)
            have LR : Hid (Lows wr (w4.alloc (.cells #[.bool E.a.v6, .int .u64 E.a.hi, .int .u64 E.a.lo, .int .i64 E.n] 30))) := Lib.hid (Lows.alloc hb4 _)
            have OE := Lib.hid (Blk.new w4 #[.bool E.a.v6, .int .u64 E.a.hi, .int .u64 E.a.lo, .int .i64 E.n] 30)
            clear hb4 qc0 qc1 qc2 qc3 kc1 hK1 K1
            have qc0 := Blk.in OB L4.out (j := 0) rfl
            have qc1 := Blk.in OB L4.out (j := 1) rfl
            have qc2 := Blk.in OB L4.out (j := 2) rfl
            have qc3 := Blk.in OB L4.out (j := 3) rfl
            have kc1 := Blk.in OK L4.out (j := 1) rfl
            go_wp2_with fail
            refine (KC.out _ LR.out).mono ?_; rintro e w5 ⟨rfl, hb5⟩
            have L5 : Hid (Lows ((w.alloc (.cells #[.int .i64 q.g, .int .i64 q.p, .int .i64 q.w, .int .i64 q.t] 24)).alloc (.cells #[.int .i64 a, .int .i64 b] 45)) (w5.alloc (.cells #[.bool E.a.v6, .int .u64 E.a.hi, .int .u64 E.a.lo, .int .i64 E.n] 30))) := Lib.hid (Lows.alloc (low_trans L4.out hb5) _)
            have LE : Hid (Lows (w4.alloc (.cells #[.bool E.a.v6, .int .u64 E.a.hi, .int .u64 E.a.lo, .int .i64 E.n] 30)) (w5.alloc (.cells #[.bool E.a.v6, .int .u64 E.a.hi, .int .u64 E.a.lo, .int .i64 E.n] 30))) := Lib.hid (Lows.alloc hb5 _)
            have OF := Lib.hid (Blk.new w5 #[.bool E.a.v6, .int .u64 E.a.hi, .int .u64 E.a.lo, .int .i64 E.n] 30)
            clear hb5 qc0 qc1 qc2 qc3 kc1 KC
            have k0 := Blk.in OE LE.out (j := 0) rfl
            have k1 := Blk.in OE LE.out (j := 1) rfl
            have k2 := Blk.in OE LE.out (j := 2) rfl
            have k3 := Blk.in OE LE.out (j := 3) rfl
            have f0 := OF.out.cell (j := 0) rfl
            have f1 := OF.out.cell (j := 1) rfl
            have f2 := OF.out.cell (j := 2) rfl
            have f3 := OF.out.cell (j := 3) rfl
            go_wp2_with fail
            refine (AW.out _).mono ?_; rintro e w10 ⟨rfl, hb10⟩
            go_wp2_with fail
            go_ret
            exact ⟨rfl, low_trans L0.out (low_trans L5.out hb10)⟩
      · rw [unlikeB_no hu] at KU
        obtain ⟨A, c, rfl, hc, _, hcell⟩ := h
        clear hcell hok hq hu ha hb
        go_enter Try.func5, Try.ntmps5
        go_wp2_with fail
        refine KU.out.mono ?_; rintro e w9 ⟨rfl, hb9⟩
        have L9 := Lib.hid (low_trans L0.out hb9)
        clear hb9
        go_wp2_with fail
        refine (AW.out _).mono ?_; rintro e w1 ⟨rfl, hb1⟩
        go_wp2_with fail
        go_ret
        exact ⟨rfl, low_trans L9.out hb1⟩
namespace evictTurned
theorem contract (H : Type) (enc : TypeId × Value → H) (W : World) (base : Nat) (args : Array Value) (ds gs : List (DataW H)) (before : List MemPlace)
    (hval0 : ∀ (j : Nat) t v, Try.f5.params[j]? = some t → args[j]? = some v → Value.okWide Try.prog W .any base t v)
    (hW : DataW.Whole enc Try.prog Try.f5.params.toList Rows.evictTurnedSpec.vars false W args.toList ds gs before) (hSh : W.ShapedOpen Try.prog) :
    Calls Try.prog 5 args W fun e W' => ∃ v, e = .returned v ∧ Rows.evictTurnedSpec.post enc Try.prog Try.f5 false true false false W args v W' := by
  have hval : ∀ (j : Nat) t v, Try.f5.params[j]? = some t → args[j]? = some v → Value.okWide Try.prog W .any base t v := hval0
  have hW' := hW
  obtain ⟨p, q, hA0, hV, _, _, _⟩ := hW
  have hA : DataW.TrodAll enc Try.prog W 0 (fun _ => true) true Try.f5.params.toList args.toList ds p := hA0
  rw [Try.params5] at hA hval
  obtain ⟨v0, vs0, d0, ds0, p0, q0, hargs, rfl, rfl, h0, r0⟩ := trodAll_cons hA
  obtain ⟨v1, vs1, d1, ds1, p1, q1, rfl, rfl, rfl, h1, r1⟩ := trodAll_cons r0
  obtain ⟨v2, vs2, d2, ds2, p2, q2, rfl, rfl, rfl, h2, r2⟩ := trodAll_cons r1
  obtain ⟨rfl, rfl, rfl⟩ := trodAll_nil r2
  obtain rfl : args = #[v0, v1, v2] := by cases args; simp_all
  obtain ⟨rfl, rfl⟩ := trodVars_none hV
  obtain ⟨l0, t0, n0, s0⟩ := open_peers (hval 0 22 v0 rfl rfl) h0
  obtain ⟨a1, z1, rfl⟩ := open_quota (hval 1 24 v1 rfl rfl) h1
  obtain ⟨i2, j2, y2, z2, rfl⟩ := open_two (hval 2 45 v2 rfl rfl) h2
  clear hA0 hval0
  refine (evictTurned_walk W v0 l0 t0 s0 a1 z1 i2 j2 y2 z2).mono fun e W' ⟨he, hg⟩ => ?_
  subst he
  exact ⟨_, rfl, post_law laidOut (by kernel_rfl) (by kernel_rfl) Try.underlying4 rfl hW' rfl rfl rfl hg⟩
set_option maxRecDepth 100000 in
theorem lifted (os : Os) (started : os.Started) (H : Type) (enc : TypeId × Value → H) (F : Stop.Interp) :
    ReturnsInHanded {} Try.checked os 5 .any ((OpenSpec.ofChange Rows.evictTurnedSpec).preRow enc Try.prog Try.f5 Rows.evictTurnedRow.domain false Rows.evictTurnedRow.laid) (((OpenSpec.ofChange Rows.evictTurnedSpec).at F).post enc Try.prog Try.f5 false true false false) := by
  refine returnsInHanded_of_row (C := Try.checked) (s := OpenSpec.ofChange Rows.evictTurnedSpec) own started (by kernel_rfl) Try.func5
    (witness_laid (enc := enc) (C := Try.checked) (s := OpenSpec.ofChange Rows.evictTurnedSpec) (laid := Rows.evictTurnedRow.laid) #[.slice none 0 0, .agg #[.int .i64 0, .int .i64 0, .int .i64 0, .int .i64 0], .agg #[.int .i64 0, .int .i64 0]] (World.shaped_of_ZipB (by kernel_rfl) (by kernel_rfl)) (by kernel_rfl)
      (OpenSpec.preRow_of_cond 8 (x := ([.nil, .agg [.lit (.int .i64 0), .lit (.int .i64 0), .lit (.int .i64 0), .lit (.int .i64 0)], .agg [.lit (.int .i64 0), .lit (.int .i64 0)]], [], [])) (by kernel_rfl) (by kernel_rfl) (fun k hk => by cases hk) (by kernel_rfl)
        (by rw [MakeChecks.laidMetH_plain _ _ _ (by kernel_rfl)]; exact laidMet_laidAll _ (by kernel_rfl) (by kernel_rfl)))) ?_
  intro W base args ds gs before hval hW _ hcond _ _ hsh _
  exact contract H enc W base args ds gs before hval hW hsh
theorem over : Rows.evictTurnedRow.holds Try.pinned (OpenSpec.ofChange Rows.evictTurnedSpec) :=
  OpenClaim.holds_of_cond 5 Try.f5 rfl rfl rfl rfl rfl rfl rfl ⟨rfl, rfl, rfl, rfl, rfl⟩ rfl rfl rfl rfl rfl (by kernel_rfl) Try.func5 (by kernel_rfl)
    (of_decide_eq_true (by kernel_rfl)) (by unfold Func.isWrapper; first | (rw [if_pos (by decide +kernel)]; kernel_rfl) | (rw [if_neg (by decide +kernel)]; exact ⟨rfl, rfl⟩))
    (fun os started H enc _ F => by rw [OpenClaim.pre_eq_preRow]; exact lifted os started H enc F)
/-- ████ THE STATEMENT ████ -/
theorem proved : Rows.EvictTurnedSaid := over
end evictTurned
end Go.Proofs.Ytklmlgoeiaigkaa
