/- Contracts of the document's answers for layer 13 (lists of bans): lists, where a subnet stands, what is swept, the longest ban. -/
import Derived.Test.YtcjdfgpkcafpdaaBansKit
import Derived.Test.YtcjdfgpkcafpdaaRef12
import Derived.Test.YtcjdfgpkcafpdaaCls
import Derived.Lib.MinMax
import Derived.Deep.RegionHeld3
import Derived.Deep.RegionWith
namespace Go.Proofs.Ytcjdfgpkcafpdaa.Ba
set_option maxRecDepth 100000
open Go.ChangeShapes Go.WideShapes Go.ChangeAt Go.RowKit
open Dec Words V4 V6 Ad Ci
set_option linter.unusedVariables false
set_option maxHeartbeats 4000000 in
theorem rindex_any (v : Value) (l : List Ban) (n : Net) (w : World) (h : Bans w v l) (hl : l.length ≤ 1000000) :
    Calls Try.prog 25 #[v, .agg #[.bool n.a.v6, .int .u64 n.a.hi, .int .u64 n.a.lo, .int .i64 n.n]] w fun e w' => e = .returned (.int .i64 (ixI l n)) ∧ Below w.heap.size w w' := by
  obtain ⟨A, c, rfl, hc, _, hcell⟩ := h
  have HC := Lib.hid hcell
  have EQ := fun (k : Nat) (hk : k < l.length) W => eqNet l[k].n n W
  clear hcell
  go_enter Try.func25, Try.ntmps25
  go_wp2_with fail
  go_loopw [5] (fun i wr => ∃ k : Nat, k ≤ l.length ∧ i = .int .i64 k ∧ Hid (∀ i (h : i < l.length), i < k → sameN l[i].n n = false) ∧ Stays (w.alloc (.cells #[.bool n.a.v6, .int .u64 n.a.hi, .int .u64 n.a.lo, .int .i64 n.n] 27)) wr) (fun i _ => l.length - (intOf i).toNat)
  case atStart => exact ⟨0, Nat.zero_le _, rfl, Lib.hid (fun _ _ h => absurd h (Nat.not_lt_zero _)), Below.refl _ _⟩
  case round =>
    obtain ⟨k, hk, rfl, HN, hs⟩ := hrel
    by_cases hlt : k < l.length
    · obtain ⟨b, o, rfl, hb, hcc⟩ := HC.out (by omega)
      have hlow : Below w.heap.size w wr := ((Below.refl _ _).alloc (Nat.le_refl _) _).trans (hs.mono (by simp))
      obtain ⟨c0, c1, c2, c3, c4⟩ := bans_at (fun i h j u hu => (hlow.cell (p := ⟨b, o + i * 5 + j, none⟩) hb).trans (hcc i h j u hu)) hlt
      obtain ⟨d0, d1, d2, d3, _⟩ := ST.of hs
      have E1 := EQ k hlt
      have HIX := fun h1 h2 => @ix_at l n k hlt h1 h2
      clear hcc
      cases hsame : sameN l[k].n n
      · have HN2 : Hid (∀ i (h : i < l.length), i < k + 1 → sameN l[i].n n = false) := Lib.hid fun i h hi => by
          rcases Nat.lt_succ_iff_lt_or_eq.1 hi with h2 | rfl
          · exact HN.out i h h2
          · exact hsame
        rw [hsame] at E1
        clear hsame HIX EQ
        go_wp2
        go_quiet (fail)
        go_wp2
        go_roundw
        case rel => exact ⟨k + 1, by omega, by go_num, HN2, low_drewN hs _⟩
        case measure => simp [intOf]; omega
      · have E : Hid (ixI l n = k) := Lib.hid (by unfold ixI; rw [HIX HN.out hsame, if_pos hlt])
        have HB : Hid (Below w.heap.size w (wr.drewN 1)) := Lib.hid (low_drewN hlow 1)
        rw [hsame] at E1
        clear hsame HIX EQ
        go_wp2
        go_quiet (fail)
        go_wp2
        go_ret
        exact ⟨ret_i E.out.symm, low_drewN hlow _⟩
    · have E : Hid (ixI l n = -1) := Lib.hid (by unfold ixI; rw [ix_none fun i h => HN.out i h (by omega), if_neg (by omega)])
      have HB : Hid (Below w.heap.size w wr) := Lib.hid (((Below.refl _ _).alloc (Nat.le_refl _) _).trans (hs.mono (by simp)))
      clear EQ
      go_wp2
      go_ret
      exact ⟨ret_i E.out.symm, HB.out⟩
set_option maxHeartbeats 4000000 in
theorem rsweep_any (v : Value) (l : List Ban) (now : Int) (w : World) (h : Bans w v l) (hl : l.length ≤ 900000) :
    Calls Try.prog 12 #[v, .int .i64 now] w fun e w' => ∃ u, e = .returned (.tuple #[u, .int .i64 ((l.length : Int) - ((sweepL l now).length : Int))]) ∧ Bans w' u (sweepL l now) ∧ Below w.heap.size w w' := by
  obtain ⟨A, c, rfl, hc, _, hcell⟩ := h
  have HC := Lib.hid hcell
  have hsl := sweep_le l now
  clear hcell
  go_enter Try.func12, Try.ntmps12
  go_wp2_with fail
  go_loopw [6, 7] (fun out i wr => ∃ k : Nat, k ≤ l.length ∧ i = .int .i64 k ∧ Hid (OwnB w.heap.size wr out (sweepL (l.take k) now)) ∧ Below w.heap.size w wr) (fun _ i _ => l.length - (intOf i).toNat)
  case atStart => exact ⟨0, Nat.zero_le _, rfl, Lib.hid (ownB_empty _ _ (by simp)), (Below.refl _ _).alloc (Nat.le_refl _) _⟩
  case round =>
    obtain ⟨k, hk, rfl, HO, hlow⟩ := hrel
    by_cases hlt : k < l.length
    · obtain ⟨b, o, rfl, hb, hcc⟩ := HC.out (by omega)
      obtain ⟨c0, c1, c2, c3, c4⟩ := bans_at (fun i h j u hu => (hlow.cell (p := ⟨b, o + i * 5 + j, none⟩) hb).trans (hcc i h j u hu)) hlt
      have HS := Lib.hid (sweep_snoc l now k hlt)
      clear hcc
      by_cases hn : now < l[k].t
      · obtain ⟨v', w', R, HO2, hb2⟩ := append_one HO.out l[k] (Nat.le_trans (sweep_take l now k) hl) hlow.size
        have R1 := Lib.hid R
        have HE : Hid (OwnB w.heap.size w' v' (sweepL (l.take (k + 1)) now)) := by rw [HS.out, if_pos hn]; exact Lib.hid HO2
        have HB : Hid (Below w.heap.size w w') := Lib.hid (hlow.trans hb2)
        clear R HO2 hb2
        go_wp2_with (first
          | (at_builtin; refine wpList_append_run rfl (.tmp 22) (.tmp 27) _ _ rfl rfl _ _ _ _ rfl rfl R1.out ?_)
          | fail)
        go_roundw
        case rel => exact ⟨k + 1, by omega, by go_num, HE, HB.out⟩
        case measure => simp [intOf]; omega
      · have HE : Hid (OwnB w.heap.size wr u6 (sweepL (l.take (k + 1)) now)) := by rw [HS.out, if_neg hn]; exact HO
        go_wp2
        go_roundw
        case rel => exact ⟨k + 1, by omega, by go_num, HE, hlow⟩
        case measure => simp [intOf]; omega
    · have HE : Hid (∃ B c, u6 = .slice B (sweepL l now).length c ∧ Bans wr u6 (sweepL l now)) := by
        have := HO.out
        rw [List.take_of_length_le (by omega)] at this
        have hr := ownB_recs this
        obtain ⟨B, c, e, _⟩ := id hr
        exact Lib.hid ⟨B, c, e, hr⟩
      obtain ⟨B, c2, rfl, hr⟩ := HE.out
      have HR := Lib.hid hr
      clear hr HE HO
      generalize hm : (sweepL l now).length = m at *
      go_wp2
      exact bodyPost_ret (v := .tuple #[.slice B m c2, .int .i64 ((l.length : Int) - (m : Int))]) (by simp [results, Try.results12, go_sem]) rfl ⟨_, by rw [hm], HR.out, hlow⟩
set_option maxHeartbeats 8000000 in
theorem runtil_any (v : Value) (l : List Ban) (a : Adr) (now : Int) (w : World) (h : Bans w v l) (hl : l.length ≤ 900000) (hok : ∀ x ∈ l, x.ok) (ha : a.ok) :
    Calls Try.prog 17 #[v, .agg #[.bool a.v6, .int .u64 a.hi, .int .u64 a.lo], .int .i64 now] w fun e w' => e = .returned (.int .i64 (untilL l a now)) ∧ Below w.heap.size w w' := by
  obtain ⟨A, c, rfl, hc, _, hcell⟩ := h
  have HC := Lib.hid hcell
  clear hcell
  go_enter Try.func17, Try.ntmps17
  go_wp2_with fail
  go_loopw [7, 8, 9] (fun m t i wr => ∃ (k : Nat) (sm : Int) (st : Bool), k ≤ l.length ∧ i = .int .i64 k ∧ m = .int .i64 sm ∧ t = .bool st ∧ Hid (untilS (l.take k) a now = (sm, st)) ∧ Stays (w.alloc (.cells #[.bool a.v6, .int .u64 a.hi, .int .u64 a.lo] 25)) wr) (fun _ _ i _ => l.length - (intOf i).toNat)
  case atStart => exact ⟨0, 0, false, Nat.zero_le _, rfl, rfl, rfl, Lib.hid rfl, Below.refl _ _⟩
  case round =>
    obtain ⟨k, sm, st, hk, rfl, rfl, rfl, HU, hs⟩ := hrel
    have hlow : Below w.heap.size w wr := ((Below.refl _ _).alloc (Nat.le_refl _) _).trans (hs.mono (by simp))
    by_cases hlt : k < l.length
    · obtain ⟨b, o, rfl, hb, hcc⟩ := HC.out (by omega)
      obtain ⟨c0, c1, c2, c3, c4⟩ := bans_at (fun i h j u hu => (hlow.cell (p := ⟨b, o + i * 5 + j, none⟩) hb).trans (hcc i h j u hu)) hlt
      have d0 := cells_left hs (cell_at _ _ _ 0 _ rfl)
      have d1 := cells_left hs (cell_at _ _ _ 1 _ rfl)
      have d2 := cells_left hs (cell_at _ _ _ 2 _ rfl)
      have hxo : (l[k]).ok := hok (l[k]) (List.getElem_mem hlt)
      have HS := Lib.hid (until_snoc l a now k hlt)
      clear hcc
      have KC : Hid (∀ W0, Stays (wr) W0 → Calls Try.prog 33 #[.agg #[.bool l[k].n.a.v6, .int .u64 l[k].n.a.hi, .int .u64 l[k].n.a.lo, .int .i64 l[k].n.n, .int .i64 l[k].t], .agg #[.bool a.v6, .int .u64 a.hi, .int .u64 a.lo], .int .i64 now] W0 fun e w' => e = .returned (.bool (hitsB l[k] a now)) ∧ Stays (wr) w') := Lib.hid (Tr.keep_call fun W0 => rhitsB_any l[k] a now W0 hxo ha)
      clear hxo
      cases hh : hitsB l[k] a now
      · cases st
        · have HS2 : Hid (untilS (l.take (k + 1)) a now = (sm, false)) := Lib.hid (by rw [HS.out, HU.out]; unfold longest; simp [hh])
          rw [hh] at KC
          clear hh HS
          go_wp2_with fail
          have hne : Nonempty (Cls (Stays (wr))) := ⟨⟨_, Below.refl _ _⟩⟩
          have f0 : ∀ q : Cls (Stays (wr)), q.w.cell? ⟨b, o + k * 5, none⟩ = some (.bool l[k].n.a.v6) := fun q => cells_left q.h (c0)
          have f1 : ∀ q : Cls (Stays (wr)), q.w.cell? ⟨b, o + k * 5 + 1, none⟩ = some (.int .u64 l[k].n.a.hi) := fun q => cells_left q.h (c1)
          have f2 : ∀ q : Cls (Stays (wr)), q.w.cell? ⟨b, o + k * 5 + 2, none⟩ = some (.int .u64 l[k].n.a.lo) := fun q => cells_left q.h (c2)
          have f3 : ∀ q : Cls (Stays (wr)), q.w.cell? ⟨b, o + k * 5 + 3, none⟩ = some (.int .i64 l[k].n.n) := fun q => cells_left q.h (c3)
          have f4 : ∀ q : Cls (Stays (wr)), q.w.cell? ⟨b, o + k * 5 + 4, none⟩ = some (.int .i64 l[k].t) := fun q => cells_left q.h (c4)
          have f5 : ∀ q : Cls (Stays (wr)), q.w.cell? ⟨w.heap.size, 0, none⟩ = some (.bool a.v6) := fun q => cells_left q.h (d0)
          have f6 : ∀ q : Cls (Stays (wr)), q.w.cell? ⟨w.heap.size, 1, none⟩ = some (.int .u64 a.hi) := fun q => cells_left q.h (d1)
          have f7 : ∀ q : Cls (Stays (wr)), q.w.cell? ⟨w.heap.size, 2, none⟩ = some (.int .u64 a.lo) := fun q => cells_left q.h (d2)
          refine Cls.region (Stays (wr)) (by kernel_rfl) (by kernel_rfl) (low_drewN (Below.refl _ _) 1) ?_
          repeat (go_big_quiet_step (first | fail | (with_reducible exact Cls.call (KC.out _ (Cls.h _)))))
          refine wpQuiet_nil ?_
          intro n9
          have hs9 := n9.h
          generalize n9.w = w9 at hs9 ⊢
          clear hne n9 f0 f1 f2 f3 f4 f5 f6 f7
          have hs2 : Stays (w.alloc (.cells #[.bool a.v6, .int .u64 a.hi, .int .u64 a.lo] 25)) w9 := low_trans hs hs9
          clear KC c0 c1 c2 c3 c4 d0 d1 d2
          go_wp2_with fail
          go_roundw
          case rel => exact ⟨k + 1, _, _, by omega, by go_num, rfl, rfl, HS2, hs2⟩
          case measure => simp [intOf]; omega
        · have HS2 : Hid (untilS (l.take (k + 1)) a now = (sm, true)) := Lib.hid (by rw [HS.out, HU.out]; unfold longest; simp [hh])
          rw [hh] at KC
          clear hh HS
          go_wp2_with fail
          have hne : Nonempty (Cls (Stays (wr))) := ⟨⟨_, Below.refl _ _⟩⟩
          have f0 : ∀ q : Cls (Stays (wr)), q.w.cell? ⟨b, o + k * 5, none⟩ = some (.bool l[k].n.a.v6) := fun q => cells_left q.h (c0)
          have f1 : ∀ q : Cls (Stays (wr)), q.w.cell? ⟨b, o + k * 5 + 1, none⟩ = some (.int .u64 l[k].n.a.hi) := fun q => cells_left q.h (c1)
          have f2 : ∀ q : Cls (Stays (wr)), q.w.cell? ⟨b, o + k * 5 + 2, none⟩ = some (.int .u64 l[k].n.a.lo) := fun q => cells_left q.h (c2)
          have f3 : ∀ q : Cls (Stays (wr)), q.w.cell? ⟨b, o + k * 5 + 3, none⟩ = some (.int .i64 l[k].n.n) := fun q => cells_left q.h (c3)
          have f4 : ∀ q : Cls (Stays (wr)), q.w.cell? ⟨b, o + k * 5 + 4, none⟩ = some (.int .i64 l[k].t) := fun q => cells_left q.h (c4)
          have f5 : ∀ q : Cls (Stays (wr)), q.w.cell? ⟨w.heap.size, 0, none⟩ = some (.bool a.v6) := fun q => cells_left q.h (d0)
          have f6 : ∀ q : Cls (Stays (wr)), q.w.cell? ⟨w.heap.size, 1, none⟩ = some (.int .u64 a.hi) := fun q => cells_left q.h (d1)
          have f7 : ∀ q : Cls (Stays (wr)), q.w.cell? ⟨w.heap.size, 2, none⟩ = some (.int .u64 a.lo) := fun q => cells_left q.h (d2)
          refine Cls.region (Stays (wr)) (by kernel_rfl) (by kernel_rfl) (low_drewN (Below.refl _ _) 1) ?_
          repeat (go_big_quiet_step (first | fail | (with_reducible exact Cls.call (KC.out _ (Cls.h _)))))
          refine wpQuiet_nil ?_
          intro n9
          have hs9 := n9.h
          generalize n9.w = w9 at hs9 ⊢
          clear hne n9 f0 f1 f2 f3 f4 f5 f6 f7
          have hs2 : Stays (w.alloc (.cells #[.bool a.v6, .int .u64 a.hi, .int .u64 a.lo] 25)) w9 := low_trans hs hs9
          clear KC c0 c1 c2 c3 c4 d0 d1 d2
          go_wp2_with fail
          go_roundw
          case rel => exact ⟨k + 1, _, _, by omega, by go_num, rfl, rfl, HS2, hs2⟩
          case measure => simp [intOf]; omega
      · cases st
        · have HS2 : Hid (untilS (l.take (k + 1)) a now = (l[k].t, true)) := Lib.hid (by rw [HS.out, HU.out]; unfold longest; simp [hh])
          rw [hh] at KC
          clear hh HS
          go_wp2_with fail
          have hne : Nonempty (Cls (Stays (wr))) := ⟨⟨_, Below.refl _ _⟩⟩
          have f0 : ∀ q : Cls (Stays (wr)), q.w.cell? ⟨b, o + k * 5, none⟩ = some (.bool l[k].n.a.v6) := fun q => cells_left q.h (c0)
          have f1 : ∀ q : Cls (Stays (wr)), q.w.cell? ⟨b, o + k * 5 + 1, none⟩ = some (.int .u64 l[k].n.a.hi) := fun q => cells_left q.h (c1)
          have f2 : ∀ q : Cls (Stays (wr)), q.w.cell? ⟨b, o + k * 5 + 2, none⟩ = some (.int .u64 l[k].n.a.lo) := fun q => cells_left q.h (c2)
          have f3 : ∀ q : Cls (Stays (wr)), q.w.cell? ⟨b, o + k * 5 + 3, none⟩ = some (.int .i64 l[k].n.n) := fun q => cells_left q.h (c3)
          have f4 : ∀ q : Cls (Stays (wr)), q.w.cell? ⟨b, o + k * 5 + 4, none⟩ = some (.int .i64 l[k].t) := fun q => cells_left q.h (c4)
          have f5 : ∀ q : Cls (Stays (wr)), q.w.cell? ⟨w.heap.size, 0, none⟩ = some (.bool a.v6) := fun q => cells_left q.h (d0)
          have f6 : ∀ q : Cls (Stays (wr)), q.w.cell? ⟨w.heap.size, 1, none⟩ = some (.int .u64 a.hi) := fun q => cells_left q.h (d1)
          have f7 : ∀ q : Cls (Stays (wr)), q.w.cell? ⟨w.heap.size, 2, none⟩ = some (.int .u64 a.lo) := fun q => cells_left q.h (d2)
          refine Cls.region (Stays (wr)) (by kernel_rfl) (by kernel_rfl) (low_drewN (Below.refl _ _) 1) ?_
          repeat (go_big_quiet_step (first | fail | (with_reducible exact Cls.call (KC.out _ (Cls.h _)))))
          refine wpQuiet_nil ?_
          intro n9
          have hs9 := n9.h
          generalize n9.w = w9 at hs9 ⊢
          clear hne n9 f0 f1 f2 f3 f4 f5 f6 f7
          have g4 := cells_left hs9 c4
          have hs2 : Stays (w.alloc (.cells #[.bool a.v6, .int .u64 a.hi, .int .u64 a.lo] 25)) w9 := low_trans hs hs9
          clear KC c0 c1 c2 c3 c4 d0 d1 d2
          go_wp2_with fail
          go_roundw
          case rel => exact ⟨k + 1, _, _, by omega, by go_num, rfl, rfl, HS2, hs2⟩
          case measure => simp [intOf]; omega
        · by_cases hg : sm < l[k].t
          · have HS2 : Hid (untilS (l.take (k + 1)) a now = (l[k].t, true)) := Lib.hid (by rw [HS.out, HU.out]; unfold longest; simp [hh, hg])
            rw [hh] at KC
            clear hh HS
            go_wp2_with fail
            have hne : Nonempty (Cls (Stays (wr))) := ⟨⟨_, Below.refl _ _⟩⟩
            have f0 : ∀ q : Cls (Stays (wr)), q.w.cell? ⟨b, o + k * 5, none⟩ = some (.bool l[k].n.a.v6) := fun q => cells_left q.h (c0)
            have f1 : ∀ q : Cls (Stays (wr)), q.w.cell? ⟨b, o + k * 5 + 1, none⟩ = some (.int .u64 l[k].n.a.hi) := fun q => cells_left q.h (c1)
            have f2 : ∀ q : Cls (Stays (wr)), q.w.cell? ⟨b, o + k * 5 + 2, none⟩ = some (.int .u64 l[k].n.a.lo) := fun q => cells_left q.h (c2)
            have f3 : ∀ q : Cls (Stays (wr)), q.w.cell? ⟨b, o + k * 5 + 3, none⟩ = some (.int .i64 l[k].n.n) := fun q => cells_left q.h (c3)
            have f4 : ∀ q : Cls (Stays (wr)), q.w.cell? ⟨b, o + k * 5 + 4, none⟩ = some (.int .i64 l[k].t) := fun q => cells_left q.h (c4)
            have f5 : ∀ q : Cls (Stays (wr)), q.w.cell? ⟨w.heap.size, 0, none⟩ = some (.bool a.v6) := fun q => cells_left q.h (d0)
            have f6 : ∀ q : Cls (Stays (wr)), q.w.cell? ⟨w.heap.size, 1, none⟩ = some (.int .u64 a.hi) := fun q => cells_left q.h (d1)
            have f7 : ∀ q : Cls (Stays (wr)), q.w.cell? ⟨w.heap.size, 2, none⟩ = some (.int .u64 a.lo) := fun q => cells_left q.h (d2)
            refine Cls.region (Stays (wr)) (by kernel_rfl) (by kernel_rfl) (low_drewN (Below.refl _ _) 1) ?_
            repeat (go_big_quiet_step (first | fail | (with_reducible exact Cls.call (KC.out _ (Cls.h _)))))
            refine wpQuiet_nil ?_
            intro n9
            have hs9 := n9.h
            generalize n9.w = w9 at hs9 ⊢
            clear hne n9 f0 f1 f2 f3 f4 f5 f6 f7
            have g4 := cells_left hs9 c4
            have hs2 : Stays (w.alloc (.cells #[.bool a.v6, .int .u64 a.hi, .int .u64 a.lo] 25)) w9 := low_trans hs hs9
            clear KC c0 c1 c2 c3 c4 d0 d1 d2
            go_wp2_with fail
            go_roundw
            case rel => exact ⟨k + 1, _, _, by omega, by go_num, rfl, rfl, HS2, hs2⟩
            case measure => simp [intOf]; omega
          · have HS2 : Hid (untilS (l.take (k + 1)) a now = (sm, true)) := Lib.hid (by rw [HS.out, HU.out]; unfold longest; simp [hh, hg])
            rw [hh] at KC
            clear hh HS
            go_wp2_with fail
            have hne : Nonempty (Cls (Stays (wr))) := ⟨⟨_, Below.refl _ _⟩⟩
            have f0 : ∀ q : Cls (Stays (wr)), q.w.cell? ⟨b, o + k * 5, none⟩ = some (.bool l[k].n.a.v6) := fun q => cells_left q.h (c0)
            have f1 : ∀ q : Cls (Stays (wr)), q.w.cell? ⟨b, o + k * 5 + 1, none⟩ = some (.int .u64 l[k].n.a.hi) := fun q => cells_left q.h (c1)
            have f2 : ∀ q : Cls (Stays (wr)), q.w.cell? ⟨b, o + k * 5 + 2, none⟩ = some (.int .u64 l[k].n.a.lo) := fun q => cells_left q.h (c2)
            have f3 : ∀ q : Cls (Stays (wr)), q.w.cell? ⟨b, o + k * 5 + 3, none⟩ = some (.int .i64 l[k].n.n) := fun q => cells_left q.h (c3)
            have f4 : ∀ q : Cls (Stays (wr)), q.w.cell? ⟨b, o + k * 5 + 4, none⟩ = some (.int .i64 l[k].t) := fun q => cells_left q.h (c4)
            have f5 : ∀ q : Cls (Stays (wr)), q.w.cell? ⟨w.heap.size, 0, none⟩ = some (.bool a.v6) := fun q => cells_left q.h (d0)
            have f6 : ∀ q : Cls (Stays (wr)), q.w.cell? ⟨w.heap.size, 1, none⟩ = some (.int .u64 a.hi) := fun q => cells_left q.h (d1)
            have f7 : ∀ q : Cls (Stays (wr)), q.w.cell? ⟨w.heap.size, 2, none⟩ = some (.int .u64 a.lo) := fun q => cells_left q.h (d2)
            refine Cls.region (Stays (wr)) (by kernel_rfl) (by kernel_rfl) (low_drewN (Below.refl _ _) 1) ?_
            repeat (go_big_quiet_step (first | fail | (with_reducible exact Cls.call (KC.out _ (Cls.h _)))))
            refine wpQuiet_nil ?_
            intro n9
            have hs9 := n9.h
            generalize n9.w = w9 at hs9 ⊢
            clear hne n9 f0 f1 f2 f3 f4 f5 f6 f7
            have hs2 : Stays (w.alloc (.cells #[.bool a.v6, .int .u64 a.hi, .int .u64 a.lo] 25)) w9 := low_trans hs hs9
            clear KC c0 c1 c2 c3 c4 d0 d1 d2
            go_wp2_with fail
            go_roundw
            case rel => exact ⟨k + 1, _, _, by omega, by go_num, rfl, rfl, HS2, hs2⟩
            case measure => simp [intOf]; omega
    · have E : Hid (untilL l a now = sm) := Lib.hid (by
        have := HU.out
        rw [List.take_of_length_le (by omega)] at this
        unfold untilL; rw [this])
      have HB := Lib.hid hlow
      go_wp2
      go_ret
      exact ⟨ret_i E.out.symm, HB.out⟩
end Go.Proofs.Ytcjdfgpkcafpdaa.Ba
