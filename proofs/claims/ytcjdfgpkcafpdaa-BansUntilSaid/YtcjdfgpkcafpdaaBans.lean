/- Contracts of package bans, third part: Until, Sweep, Drop, Add, Right. -/
import Derived.Test.YtcjdfgpkcafpdaaBansSl
namespace Go.Proofs.Ytcjdfgpkcafpdaa.Ba
set_option maxRecDepth 100000
open Go.ChangeShapes Go.WideShapes Go.ChangeAt Go.RowKit
open Dec Words V4 V6 Ad Ci
set_option linter.unusedVariables false
set_option maxHeartbeats 8000000 in
theorem until_any (v : Value) (l : List Ban) (a : Adr) (now : Int) (w : World) (h : Bans w v l) (hl : l.length ≤ 900000) (hok : ∀ x ∈ l, x.ok) (ha : a.ok) :
    Calls Try.prog 16 #[v, .agg #[.bool a.v6, .int .u64 a.hi, .int .u64 a.lo], .int .i64 now] w fun e w' => e = .returned (.int .i64 (untilL l a now)) ∧ Below w.heap.size w w' := by
  obtain ⟨A, c, rfl, hc, _, hcell⟩ := h
  have HC := Lib.hid hcell
  clear hcell
  go_enter Try.func16, Try.ntmps16
  go_wp2_with fail
  go_loopw [7, 9, 13] (fun se _ i wr => ∃ (k : Nat) (e : Int), k ≤ l.length ∧ i = .int .i64 k ∧ se = .int .i64 e ∧ Hid (endsL (l.take k) a now = e) ∧ Stays (w.alloc (.cells #[.bool a.v6, .int .u64 a.hi, .int .u64 a.lo] 25)) wr) (fun _ _ i _ => l.length - (intOf i).toNat)
  case atStart => exact ⟨0, now, Nat.zero_le _, rfl, rfl, Lib.hid rfl, Below.refl _ _⟩
  case round =>
    obtain ⟨k, en, hk, rfl, rfl, HU, hs⟩ := hrel
    have hlow : Below w.heap.size w wr := ((Below.refl _ _).alloc (Nat.le_refl _) _).trans (hs.mono (by simp))
    by_cases hlt : k < l.length
    · obtain ⟨b, o, rfl, hb, hcc⟩ := HC.out (by omega)
      obtain ⟨c0, c1, c2, c3, c4⟩ := bans_at (fun i h j u hu => (hlow.cell (p := ⟨b, o + i * 5 + j, none⟩) hb).trans (hcc i h j u hu)) hlt
      have hxo : (l[k]).ok := hok (l[k]) (List.getElem_mem hlt)
      have HS := Lib.hid (ends_snoc l a now k hlt)
      clear hcc
      generalize l[k] = x at c0 c1 c2 c3 c4 hxo HS
      have d0 := cells_left hs (cell_at _ _ _ 0 _ rfl)
      have d1 := cells_left hs (cell_at _ _ _ 1 _ rfl)
      have d2 := cells_left hs (cell_at _ _ _ 2 _ rfl)
      have s1 : Stays wr (wr.alloc (.cells #[.bool x.n.a.v6, .int .u64 x.n.a.hi, .int .u64 x.n.a.lo, .int .i64 x.n.n, .int .i64 x.t] 29)) := (Below.refl _ _).alloc (Nat.le_refl _) _
      have e0 := cells_left s1 d0
      have e1 := cells_left s1 d1
      have e2 := cells_left s1 d2
      have KC := Lib.hid (hitsB_any x a en (wr.alloc (.cells #[.bool x.n.a.v6, .int .u64 x.n.a.hi, .int .u64 x.n.a.lo, .int .i64 x.n.n, .int .i64 x.t] 29)) hxo ha)
      clear s1 d0 d1 d2
      have HB := Lib.hid hs
      clear hxo
      cases hh : hitsB x a en
      · have E : Hid (endsL (l.take (k + 1)) a now = en) := Lib.hid (by rw [HS.out, HU.out]; unfold ends; rw [hh]; rfl)
        rw [hh] at KC
        clear hh HS
        go_wp2_with fail
        refine KC.out.mono ?_
        rintro e w9 ⟨rfl, hb9⟩
        have HL : Hid (Stays (w.alloc (.cells #[.bool a.v6, .int .u64 a.hi, .int .u64 a.lo] 25)) w9) := Lib.hid (low_trans HB.out (low_trans ((Below.refl _ _).alloc (Nat.le_refl _) _) hb9))
        clear hb9
        go_wp2_with fail
        go_roundw
        case rel => exact ⟨k + 1, _, by omega, by go_num, rfl, E, HL.out⟩
        case measure => simp [intOf]; omega
      · have E : Hid (endsL (l.take (k + 1)) a now = x.t) := Lib.hid (by rw [HS.out, HU.out]; unfold ends; rw [hh]; rfl)
        rw [hh] at KC
        clear hh HS
        go_wp2_with fail
        refine KC.out.mono ?_
        rintro e w9 ⟨rfl, hb9⟩
        have k4 : w9.cell? ⟨wr.heap.size, 4, none⟩ = some (.int .i64 x.t) := cells_left hb9 (cell_at _ _ _ 4 _ rfl)
        have HL : Hid (Stays (w.alloc (.cells #[.bool a.v6, .int .u64 a.hi, .int .u64 a.lo] 25)) w9) := Lib.hid (low_trans HB.out (low_trans ((Below.refl _ _).alloc (Nat.le_refl _) _) hb9))
        clear hb9
        go_wp2_with fail
        go_roundw
        case rel => exact ⟨k + 1, _, by omega, by go_num, rfl, E, HL.out⟩
        case measure => simp [intOf]; omega
    · have E : Hid (untilL l a now = if en = now then 0 else en) := Lib.hid (by
        have := HU.out
        rw [List.take_of_length_le (by omega)] at this
        rw [ends_until, this])
      have HB := Lib.hid hlow
      by_cases hn : en = now
      · have E2 : Hid (untilL l a now = 0) := Lib.hid (by rw [E.out, if_pos hn])
        go_wp2
        go_ret
        exact ⟨ret_i E2.out.symm, HB.out⟩
      · have E2 : Hid (untilL l a now = en) := Lib.hid (by rw [E.out, if_neg hn])
        go_wp2
        go_ret
        exact ⟨ret_i E2.out.symm, HB.out⟩
theorem sweep_filter (l : List Ban) (now : Int) : (l.filter fun x => !(!decide (now < x.t))) = sweepL l now := by
  unfold sweepL; simp
set_option maxHeartbeats 4000000 in
theorem sweep_any (v : Value) (l : List Ban) (now : Int) (w : World) (h : Bans w v l) (hl : l.length ≤ 900000) (hok : ∀ x ∈ l, x.ok) :
    Calls Try.prog 11 #[v, .int .i64 now] w fun e w' => ∃ u, e = .returned (.tuple #[u, .int .i64 ((l.length : Int) - ((sweepL l now).length : Int))]) ∧ Bans w' u (sweepL l now) ∧ Below w.heap.size w w' := by
  have LOW : Below w.heap.size w (w.alloc (.cells #[.int .i64 now] 3)) := (Below.refl _ _).alloc (Nat.le_refl _) _
  have KC := Lib.hid (copied_any v l (w.alloc (.cells #[.int .i64 now] 3)) (h.below LOW) hl)
  have hsz : (w.alloc (.cells #[.int .i64 now] 3)).heap.size = w.heap.size + 1 := by simp
  have HD := Lib.hid (fun (W : World) (hB : Blk W (w.heap.size + 1) 29 (flat encB (l ++ [zeroB]))) (hb : Below (w.heap.size + 1) (w.alloc (.cells #[.int .i64 now] 3)) W) => deleteFunc_any 29 #[.pointer (some ⟨w.heap.size, 0, none⟩)] (fun x => !decide (now < x.t)) (enters_of Try.func29 (by kernel_rfl) rfl) (w.heap.size + 1) (w.heap.size + 1) l W hB hl hok
    (fun W2 x hx hb2 hB2 => by
      have h1 := hb.trans hb2
      exact sweep1_any x now w.heap.size W2 (by omega) ((h1.cell (p := ⟨w.heap.size, 0, none⟩) (by simp)).trans (cell_at _ _ _ 0 _ rfl))) (Nat.le_refl _) (by have := hb.size; omega))
  simp only [sweep_filter] at HD
  have hsl := sweep_le l now
  obtain ⟨A, c, rfl, -, -, -⟩ := h
  generalize hm : sweepL l now = m at *
  generalize hn : l.length = n at *
  go_enter Try.func11, Try.ntmps11
  go_wp2_with fail
  refine KC.out.mono ?_
  rintro e w1 ⟨rfl, hB1, hb1⟩
  have hb1' := LOW.trans (hb1.mono (by simp))
  have KD := Lib.hid (HD.out w1 (by rw [← hsz]; exact hB1) (by rw [← hsz]; exact hb1))
  clear hB1 hb1
  go_wp2_with fail
  refine KD.out.mono ?_
  rintro e w2 ⟨rfl, hR2, ht2⟩
  have HL : Hid (Below w.heap.size w w2) := Lib.hid (Bt.below hb1' ht2 (by omega) hb1'.size)
  have HR := Lib.hid hR2
  clear hR2 ht2 hb1'
  go_wp2_with fail
  exact bodyPost_ret (v := .tuple #[.slice (some ⟨w.heap.size + 1, 0, none⟩) m.length (n + 1), .int .i64 ((n : Int) - (m.length : Int))]) (by simp [results, Try.results11, go_sem]) rfl ⟨_, rfl, HR.out, HL.out⟩
set_option maxHeartbeats 4000000 in
theorem drop_any (v : Value) (l : List Ban) (n : Net) (w : World) (h : Bans w v l) (hl : l.length ≤ 900000) (hok : ∀ x ∈ l, x.ok) :
    Calls Try.prog 9 #[v, .agg #[.bool n.a.v6, .int .u64 n.a.hi, .int .u64 n.a.lo, .int .i64 n.n]] w fun e w' => ∃ u, e = .returned (.tuple #[u, .int .i64 (dropL l n).2]) ∧ Bans w' u (dropL l n).1 ∧ Below w.heap.size w w' := by
  have LOW : Below w.heap.size w (w.alloc (.cells #[.bool n.a.v6, .int .u64 n.a.hi, .int .u64 n.a.lo, .int .i64 n.n] 27)) := (Below.refl _ _).alloc (Nat.le_refl _) _
  have KF := Lib.hid (find_any v l n (w.alloc (.cells #[.bool n.a.v6, .int .u64 n.a.hi, .int .u64 n.a.lo, .int .i64 n.n] 27)) (h.below LOW) (by omega) hok)
  have k0 : (w.alloc (.cells #[.bool n.a.v6, .int .u64 n.a.hi, .int .u64 n.a.lo, .int .i64 n.n] 27)).cell? ⟨w.heap.size, 0, none⟩ = some (.bool n.a.v6) := cell_at _ _ _ 0 _ rfl
  have k1 : (w.alloc (.cells #[.bool n.a.v6, .int .u64 n.a.hi, .int .u64 n.a.lo, .int .i64 n.n] 27)).cell? ⟨w.heap.size, 1, none⟩ = some (.int .u64 n.a.hi) := cell_at _ _ _ 1 _ rfl
  have k2 : (w.alloc (.cells #[.bool n.a.v6, .int .u64 n.a.hi, .int .u64 n.a.lo, .int .i64 n.n] 27)).cell? ⟨w.heap.size, 2, none⟩ = some (.int .u64 n.a.lo) := cell_at _ _ _ 2 _ rfl
  have k3 : (w.alloc (.cells #[.bool n.a.v6, .int .u64 n.a.hi, .int .u64 n.a.lo, .int .i64 n.n] 27)).cell? ⟨w.heap.size, 3, none⟩ = some (.int .i64 n.n) := cell_at _ _ _ 3 _ rfl
  have h9 := h
  obtain ⟨A, c, rfl, -, -, -⟩ := h
  by_cases hi : ix l n < l.length
  · have E : Hid (dropL l n = (l.take (ix l n) ++ l.drop (ix l n + 1), 0)) := Lib.hid (by unfold dropL; rw [if_pos hi])
    have E2 : ixI l n = (ix l n : Int) := by unfold ixI; rw [if_pos hi]
    rw [E2] at KF
    clear E2
    generalize ix l n = i at *
    have hne : ((i : Int) == -1) = false := by rw [beq_eq_false_iff_ne]; omega
    have HV := Lib.hid h9
    clear h9
    go_enter Try.func9, Try.ntmps9
    go_wp2_with fail
    refine KF.out.mono ?_
    rintro e w1 ⟨rfl, hb1⟩
    have hb1' := LOW.trans (hb1.mono (by simp))
    have KC := Lib.hid (copied_any _ l w1 (HV.out.below hb1') hl)
    clear hb1 k0 k1 k2 k3
    go_wp2_with fail
    refine KC.out.mono ?_
    rintro e w2 ⟨rfl, hB2, hb2⟩
    have hw1 := hb1'.size
    have KD := Lib.hid (delete_any w1.heap.size i l w2 hB2 hl hi)
    have hb2' := hb1'.trans (hb2.mono hw1)
    clear hB2 hb2 hb1'
    go_wp2_with fail
    refine KD.out.mono ?_
    rintro e w3 ⟨rfl, hR3, ht3⟩
    have HL : Hid (Below w.heap.size w w3) := Lib.hid (Bt.below hb2' ht3 hw1 hb2'.size)
    have HR := Lib.hid hR3
    clear hR3 ht3 hb2'
    go_wp2_with fail
    exact bodyPost_ret (v := .tuple #[.slice (some ⟨w1.heap.size, 0, none⟩) (l.length - 1) (l.length + 1), .int .i64 0]) (by simp [results, Try.results9, go_sem]) rfl ⟨_, by rw [E.out], by rw [E.out]; exact HR.out, HL.out⟩
  · have E : Hid (dropL l n = ([], 6)) := Lib.hid (by unfold dropL; rw [if_neg hi])
    have E2 : ixI l n = -1 := by unfold ixI; rw [if_neg hi]
    rw [E2] at KF
    clear E2 h9
    go_enter Try.func9, Try.ntmps9
    go_wp2_with fail
    refine KF.out.mono ?_
    rintro e w1 ⟨rfl, hb1⟩
    have HL : Hid (Below w.heap.size w w1) := Lib.hid (LOW.trans (hb1.mono (by simp)))
    clear hb1
    go_wp2_with fail
    exact bodyPost_ret (v := .tuple #[.slice none 0 0, .int .i64 6]) (by simp [results, Try.results9, go_sem]) rfl ⟨_, by rw [E.out], by rw [E.out]; exact Recs.nil _ _ _, HL.out⟩
abbrev SAdd (b : Ban) (w w2 : World) (w' : World) : Prop := w'.cell? ⟨w.heap.size, 0, none⟩ = some (.bool b.n.a.v6) ∧ w'.cell? ⟨w.heap.size, 1, none⟩ = some (.int .u64 b.n.a.hi) ∧ w'.cell? ⟨w.heap.size, 2, none⟩ = some (.int .u64 b.n.a.lo) ∧ w'.cell? ⟨w.heap.size, 3, none⟩ = some (.int .i64 b.n.n) ∧ w'.cell? ⟨w.heap.size, 4, none⟩ = some (.int .i64 b.t) ∧ Stays (w2) w'
theorem takes_set (l : List Ban) (i : Nat) (x : Ban) : ((l ++ [zeroB]).set i x).take l.length = l.set i x := by
  rw [List.take_set, List.take_left]
set_option maxHeartbeats 8000000 in
theorem add_any (v : Value) (l : List Ban) (b : Ban) (most : Int) (w : World) (h : Bans w v l) (hl : l.length ≤ 900000) (hok : ∀ x ∈ l, x.ok) (hbo : b.ok) :
    Calls Try.prog 7 #[v, .agg #[.bool b.n.a.v6, .int .u64 b.n.a.hi, .int .u64 b.n.a.lo, .int .i64 b.n.n, .int .i64 b.t], .int .i64 most] w fun e w' => ∃ u, e = .returned (.tuple #[u, .int .i64 (addL l b most).2]) ∧ Bans w' u (addL l b most).1 ∧ Below w.heap.size w w' := by
  have LOW : Below w.heap.size w (w.alloc (.cells #[.bool b.n.a.v6, .int .u64 b.n.a.hi, .int .u64 b.n.a.lo, .int .i64 b.n.n, .int .i64 b.t] 29)) := (Below.refl _ _).alloc (Nat.le_refl _) _
  have K1 := Lib.hid (rightB_any b (w.alloc (.cells #[.bool b.n.a.v6, .int .u64 b.n.a.hi, .int .u64 b.n.a.lo, .int .i64 b.n.n, .int .i64 b.t] 29)) hbo)
  have b0 : (w.alloc (.cells #[.bool b.n.a.v6, .int .u64 b.n.a.hi, .int .u64 b.n.a.lo, .int .i64 b.n.n, .int .i64 b.t] 29)).cell? ⟨w.heap.size, 0, none⟩ = some (.bool b.n.a.v6) := cell_at _ _ _ 0 _ rfl
  have b1 : (w.alloc (.cells #[.bool b.n.a.v6, .int .u64 b.n.a.hi, .int .u64 b.n.a.lo, .int .i64 b.n.n, .int .i64 b.t] 29)).cell? ⟨w.heap.size, 1, none⟩ = some (.int .u64 b.n.a.hi) := cell_at _ _ _ 1 _ rfl
  have b2 : (w.alloc (.cells #[.bool b.n.a.v6, .int .u64 b.n.a.hi, .int .u64 b.n.a.lo, .int .i64 b.n.n, .int .i64 b.t] 29)).cell? ⟨w.heap.size, 2, none⟩ = some (.int .u64 b.n.a.lo) := cell_at _ _ _ 2 _ rfl
  have b3 : (w.alloc (.cells #[.bool b.n.a.v6, .int .u64 b.n.a.hi, .int .u64 b.n.a.lo, .int .i64 b.n.n, .int .i64 b.t] 29)).cell? ⟨w.heap.size, 3, none⟩ = some (.int .i64 b.n.n) := cell_at _ _ _ 3 _ rfl
  have b4 : (w.alloc (.cells #[.bool b.n.a.v6, .int .u64 b.n.a.hi, .int .u64 b.n.a.lo, .int .i64 b.n.n, .int .i64 b.t] 29)).cell? ⟨w.heap.size, 4, none⟩ = some (.int .i64 b.t) := cell_at _ _ _ 4 _ rfl
  have HV := Lib.hid h
  obtain ⟨A, c, rfl, -, -, -⟩ := h
  cases hr : rightB b
  · have E : Hid (addL l b most = ([], 1)) := Lib.hid (addL_wrong hr)
    rw [hr] at K1
    go_enter Try.func7, Try.ntmps7
    go_wp2_with fail
    refine K1.out.mono ?_
    rintro e w1 ⟨rfl, hb1⟩
    have HL : Hid (Below w.heap.size w w1) := Lib.hid (LOW.trans (hb1.mono (by simp)))
    clear hb1
    go_wp2_with fail
    exact bodyPost_ret (v := .tuple #[.slice none 0 0, .int .i64 1]) (by simp [results, Try.results7, go_sem]) rfl ⟨_, by rw [E.out], by rw [E.out]; exact Recs.nil _ _ _, HL.out⟩
  · rw [hr] at K1
    have KF := Lib.hid (fun w1 (hb1 : Below (w.alloc (.cells #[.bool b.n.a.v6, .int .u64 b.n.a.hi, .int .u64 b.n.a.lo, .int .i64 b.n.n, .int .i64 b.t] 29)).heap.size (w.alloc (.cells #[.bool b.n.a.v6, .int .u64 b.n.a.hi, .int .u64 b.n.a.lo, .int .i64 b.n.n, .int .i64 b.t] 29)) w1) => find_any _ l b.n w1 (HV.out.below (LOW.trans (hb1.mono (by simp)))) (by omega) hok)
    by_cases hi : ix l b.n < l.length
    · have E : Hid (addL l b most = (l.set (ix l b.n) (joinB l[ix l b.n] b), 0)) := Lib.hid (addL_join hr hi)
      have E2 : ixI l b.n = (ix l b.n : Int) := by unfold ixI; rw [if_pos hi]
      rw [E2] at KF
      clear E2 hr
      generalize ix l b.n = i at *
      have hne : ((i : Int) != -1) = true := by simp
      go_enter Try.func7, Try.ntmps7
      go_wp2_with fail
      refine K1.out.mono ?_
      rintro e w1 ⟨rfl, hb1⟩
      have q0 := cells_left hb1 b0
      have q1 := cells_left hb1 b1
      have q2 := cells_left hb1 b2
      have q3 := cells_left hb1 b3
      have q4 := cells_left hb1 b4
      clear b0 b1 b2 b3 b4
      have KF1 := Lib.hid (KF.out w1 hb1)
      go_wp2_with fail
      refine KF1.out.mono ?_
      rintro e w2 ⟨rfl, hb2⟩
      have p0 := cells_left hb2 q0
      have p1 := cells_left hb2 q1
      have p2 := cells_left hb2 q2
      have p3 := cells_left hb2 q3
      have p4 := cells_left hb2 q4
      clear q0 q1 q2 q3 q4
      have hb2' := low_trans hb1 hb2
      have hlow := LOW.trans (hb2'.mono (by simp))
      have KC := Lib.hid (copied_any _ l w2 (HV.out.below hlow) hl)
      clear hb1 hb2
      go_wp2_with fail
      refine KC.out.mono ?_
      rintro e w3 ⟨rfl, hB3, hb3⟩
      have b0 := cells_left hb3 p0
      have b1 := cells_left hb3 p1
      have b2 := cells_left hb3 p2
      have b3 := cells_left hb3 p3
      have b4 := cells_left hb3 p4
      clear p0 p1 p2 p3 p4
      have hw2 := hlow.size
      have hl3 := Lib.hid (hlow.trans (hb3.mono hw2))
      obtain ⟨g, hg⟩ : ∃ g, g = w2.heap.size := ⟨_, rfl⟩
      rw [← hg] at hB3 ⊢
      have hgw := Lib.hid (show w.heap.size ≤ g by omega)
      have HB3 := Lib.hid hB3
      have KJ : Hid (∀ W, Stays w3 W → Calls Try.prog 21 #[.agg #[.bool l[i].n.a.v6, .int .u64 l[i].n.a.hi, .int .u64 l[i].n.a.lo, .int .i64 l[i].n.n, .int .i64 l[i].t], .agg #[.bool b.n.a.v6, .int .u64 b.n.a.hi, .int .u64 b.n.a.lo, .int .i64 b.n.n, .int .i64 b.t]] W fun e w' => e = .returned (.agg #[.bool (joinB l[i] b).n.a.v6, .int .u64 (joinB l[i] b).n.a.hi, .int .u64 (joinB l[i] b).n.a.lo, .int .i64 (joinB l[i] b).n.n, .int .i64 (joinB l[i] b).t]) ∧ Stays w3 w') := Lib.hid (Tr.keep_call fun W0 => joinB_any l[i] b W0)
      have hat : ∀ jj v, (encB l[i])[jj]? = some v → w3.cell? ⟨g, i * 5 + jj, none⟩ = some v := fun jj v hv => hB3.at (D := l ++ [zeroB]) encB_len (i := i) (j := jj) (by simp; omega) (by rw [List.getElem_append_left hi]; exact hv)
      generalize l[i] = x at KJ hat E
      have c0 : w3.cell? ⟨g, i * 5, none⟩ = some (.bool x.n.a.v6) := hat 0 _ rfl
      have f0 : w3.frozen? ⟨g, i * 5, none⟩ = false := hB3.free _
      have c1 : w3.cell? ⟨g, i * 5 + 1, none⟩ = some (.int .u64 x.n.a.hi) := hat 1 _ rfl
      have f1 : w3.frozen? ⟨g, i * 5 + 1, none⟩ = false := hB3.free _
      have c2 : w3.cell? ⟨g, i * 5 + 2, none⟩ = some (.int .u64 x.n.a.lo) := hat 2 _ rfl
      have f2 : w3.frozen? ⟨g, i * 5 + 2, none⟩ = false := hB3.free _
      have c3 : w3.cell? ⟨g, i * 5 + 3, none⟩ = some (.int .i64 x.n.n) := hat 3 _ rfl
      have f3 : w3.frozen? ⟨g, i * 5 + 3, none⟩ = false := hB3.free _
      have c4 : w3.cell? ⟨g, i * 5 + 4, none⟩ = some (.int .i64 x.t) := hat 4 _ rfl
      have f4 : w3.frozen? ⟨g, i * 5 + 4, none⟩ = false := hB3.free _
      clear hat hB3 hb3 hlow hb2' hw2 hg
      generalize joinB x b = y at KJ E
      have hlt : (i : Int) < (l.length : Int) := by omega
      go_wp2_with fail
      go_region_with (first
        | (go_at_call 21; (refine (KJ.out _ (by first | exact Below.refl _ _ | exact low_drewN (Below.refl _ _) _)).mono ?_); rintro e w9 ⟨rfl, hk9⟩
           have c0' : w9.cell? ⟨g, i * 5, none⟩ = some (.bool x.n.a.v6) := cells_left hk9 c0
           have f0' : w9.frozen? ⟨g, i * 5, none⟩ = false := (HB3.out.on hk9).free _
           have c1' : w9.cell? ⟨g, i * 5 + 1, none⟩ = some (.int .u64 x.n.a.hi) := cells_left hk9 c1
           have f1' : w9.frozen? ⟨g, i * 5 + 1, none⟩ = false := (HB3.out.on hk9).free _
           have c2' : w9.cell? ⟨g, i * 5 + 2, none⟩ = some (.int .u64 x.n.a.lo) := cells_left hk9 c2
           have f2' : w9.frozen? ⟨g, i * 5 + 2, none⟩ = false := (HB3.out.on hk9).free _
           have c3' : w9.cell? ⟨g, i * 5 + 3, none⟩ = some (.int .i64 x.n.n) := cells_left hk9 c3
           have f3' : w9.frozen? ⟨g, i * 5 + 3, none⟩ = false := (HB3.out.on hk9).free _
           have c4' : w9.cell? ⟨g, i * 5 + 4, none⟩ = some (.int .i64 x.t) := cells_left hk9 c4
           have f4' : w9.frozen? ⟨g, i * 5 + 4, none⟩ = false := (HB3.out.on hk9).free _           ))
      all_goals
        go_wp2_with fail
        exact bodyPost_ret (v := .tuple #[.slice (some ⟨g, 0, none⟩) l.length (l.length + 1), .int .i64 0]) (by simp [results, Try.results7, go_sem]) rfl ⟨_, by rw [E.out], by
          rw [E.out]
          have h1 := (HB3.out.on hk9).put5 (i := i) (by simp; omega) y
          exact h1.reads encB_len (by rw [flat_take encB_len, takes_set]) (by simp) (by omega), ((Bt.refl g w9).put5 i y).below (hl3.out.trans (hk9.mono (by have := hl3.out.size; omega))) hgw.out (by have := hl3.out.size; have := hk9.size; omega)⟩
    · have E2 : ixI l b.n = -1 := by unfold ixI; rw [if_neg hi]
      rw [E2] at KF
      clear E2
      by_cases hm : most ≤ (l.length : Int)
      · have E : Hid (addL l b most = ([], 5)) := Lib.hid (addL_full hr hi hm)
        clear hr hi
        go_enter Try.func7, Try.ntmps7
        go_wp2_with fail
        refine K1.out.mono ?_
        rintro e w1 ⟨rfl, hb1⟩
        have q0 := cells_left hb1 b0
        have q1 := cells_left hb1 b1
        have q2 := cells_left hb1 b2
        have q3 := cells_left hb1 b3
        have q4 := cells_left hb1 b4
        clear b0 b1 b2 b3 b4
        have KF1 := Lib.hid (KF.out w1 hb1)
        go_wp2_with fail
        refine KF1.out.mono ?_
        rintro e w2 ⟨rfl, hb2⟩
        have HL : Hid (Below w.heap.size w w2) := Lib.hid (LOW.trans ((low_trans hb1 hb2).mono (by simp)))
        clear hb1 hb2
        go_wp2_with fail
        exact bodyPost_ret (v := .tuple #[.slice none 0 0, .int .i64 5]) (by simp [results, Try.results7, go_sem]) rfl ⟨_, by rw [E.out], by rw [E.out]; exact Recs.nil _ _ _, HL.out⟩
      · have E : Hid (addL l b most = (putB l b, 0)) := Lib.hid (addL_put hr hi hm)
        have hsp := spot_le l b.n
        clear hr hi
        go_enter Try.func7, Try.ntmps7
        go_wp2_with fail
        refine K1.out.mono ?_
        rintro e w1 ⟨rfl, hb1⟩
        have q0 := cells_left hb1 b0
        have q1 := cells_left hb1 b1
        have q2 := cells_left hb1 b2
        have q3 := cells_left hb1 b3
        have q4 := cells_left hb1 b4
        clear b0 b1 b2 b3 b4
        have KF1 := Lib.hid (KF.out w1 hb1)
        go_wp2_with fail
        refine KF1.out.mono ?_
        rintro e w2 ⟨rfl, hb2⟩
        have p0 := cells_left hb2 q0
        have p1 := cells_left hb2 q1
        have p2 := cells_left hb2 q2
        have p3 := cells_left hb2 q3
        have p4 := cells_left hb2 q4
        clear q0 q1 q2 q3 q4
        have hb2' := low_trans hb1 hb2
        have hlow := LOW.trans (hb2'.mono (by simp))
        have HL := Lib.hid hlow
        have IN : ∀ W, Stays w2 W → SAdd b w w2 W := fun W h => ⟨cells_left h p0, cells_left h p1, cells_left h p2, cells_left h p3, cells_left h p4, h⟩
        have KC : Hid (∀ W, SAdd b w w2 W → Calls Try.prog 20 #[.slice A l.length c] W fun e w' => e = .returned (.slice (some ⟨W.heap.size, 0, none⟩) l.length (l.length + 1)) ∧ Blk w' W.heap.size 29 (flat encB (l ++ [zeroB])) ∧ Below W.heap.size W w' ∧ SAdd b w w2 w') := Lib.hid fun W h => by
          have hW : Stays w2 W := h.2.2.2.2.2
          exact (copied_any _ l W (HV.out.below (hlow.trans (hW.mono hlow.size))) hl).mono fun e w' ⟨he, h1, h2⟩ => ⟨he, h1, h2, IN _ (low_trans hW h2)⟩
        have KP : Hid (∀ W, SAdd b w w2 W → Calls Try.prog 23 #[.slice A l.length c, .agg #[.bool b.n.a.v6, .int .u64 b.n.a.hi, .int .u64 b.n.a.lo, .int .i64 b.n.n]] W fun e w' => e = .returned (.int .i64 (spot l b.n : Nat)) ∧ Below W.heap.size W w' ∧ SAdd b w w2 w') := Lib.hid fun W h => by
          have hW : Stays w2 W := h.2.2.2.2.2
          exact (place_any _ l b.n W (HV.out.below (hlow.trans (hW.mono hlow.size))) (by omega) hok hbo.1).mono fun e w' ⟨he, h2⟩ => ⟨he, h2, IN _ (low_trans hW h2)⟩
        have JD : Hid (∀ W, SAdd b w w2 W → SAdd b w w2 W.drew) := Lib.hid fun W h => IN _ (low_drewN h.2.2.2.2.2 1)
        have JA : Hid (∀ W o, SAdd b w w2 W → SAdd b w w2 (W.alloc o)) := Lib.hid fun W o h => IN _ (Below.alloc h.2.2.2.2.2 (Below.size h.2.2.2.2.2) o)
        have KN : Hid (∀ W g vb, Blk W g 29 (flat encB (l ++ [zeroB])) → Blk W vb 29 (encB b) → vb ≠ g → w2.heap.size ≤ g → SAdd b w w2 W → Calls Try.prog 22 #[.slice (some ⟨g, 0, none⟩) l.length (l.length + 1), .int .i64 (spot l b.n : Nat), .slice (some ⟨vb, 0, none⟩) 1 1] W fun e w' => ∃ u, e = .returned u ∧ (∃ B c, u = .slice B (putB l b).length c) ∧ Bans w' u (putB l b) ∧ SAdd b w w2 w') := Lib.hid fun W g vb h1 h2 h3 h4 h5' => by
          have h5 : Stays w2 W := h5'.2.2.2.2.2
          have hf : ∀ (e : Ending) (w' : World), (e = .returned (.slice (some ⟨g, 0, none⟩) (l.length + 1) (l.length + 1)) ∧ Blk w' g 29 (flat encB (putB l b)) ∧ Bt g W w') → ∃ u, e = .returned u ∧ (∃ B c, u = .slice B (putB l b).length c) ∧ Bans w' u (putB l b) ∧ SAdd b w w2 w' := fun e w' ⟨he, hb, ht⟩ =>
            ⟨_, he, ⟨_, _, by rw [put_len]⟩, hb.reads encB_len (by rw [← put_len l b, flat_take encB_len, List.take_of_length_le (Nat.le_refl _)]) (put_len l b) (by omega), IN _ (ht.below h5 h4 h5.size)⟩
          rcases Nat.lt_or_ge (spot l b.n) l.length with hlt | hge
          · exact (insert_mid g (spot l b.n) vb l b W h1 h2 h3 hlt hl).mono hf
          · have hs : spot l b.n = l.length := by omega
            have hp : l.take l.length ++ b :: l.drop l.length = putB l b := by unfold putB; rw [hs]
            have hc := insert_end g vb l b W h1 h2 h3 hl
            rw [hp] at hc
            rw [hs]
            exact hc.mono hf
        have hk2 : SAdd b w w2 w2 := IN _ (Below.refl _ _)
        clear hb1 hb2 hb2' hlow IN
        generalize spot l b.n = s at KP KN
        go_wp2_with fail
        go_region_held3 (fun w' => w'.cell? ⟨w.heap.size, 0, none⟩ = some (.bool b.n.a.v6) ∧ w'.cell? ⟨w.heap.size, 1, none⟩ = some (.int .u64 b.n.a.hi) ∧ w'.cell? ⟨w.heap.size, 2, none⟩ = some (.int .u64 b.n.a.lo) ∧ w'.cell? ⟨w.heap.size, 3, none⟩ = some (.int .i64 b.n.n) ∧ w'.cell? ⟨w.heap.size, 4, none⟩ = some (.int .i64 b.t) ∧ Stays (w2) w')
          (first | assumption | exact JD.out _ ‹_› | exact JA.out _ _ ‹_›)
          (first
          | (go_at_call 20; (refine (KC.out _ ‹_›).mono ?_); rintro e wc ⟨rfl, hBc, hbc, hkc⟩)
          | (go_at_call 23; (refine (KP.out _ ‹_›).mono ?_); rintro e wp ⟨rfl, hbp, hkp⟩)
          | (go_at_call 22; (refine (KN.out _ _ _ (by first | exact hBc.on hbp | exact (hBc.on hbp).alloc _ | exact (hBc.alloc _).on hbp | (simpa using hBc.on hbp) | (simpa using (hBc.alloc _).on hbp)) (by first | exact Blk.new _ _ _ | exact (Blk.new _ _ _).on hbp | exact ((Blk.new _ _ _).on hbc).on hbp | exact (Blk.new _ _ _).drew.on hbp | exact ((Blk.new _ _ _).drew.on hbc).on hbp) (by have h1 := hBc.lt; have h2 := hbp.size; first | omega | (simp at h1 h2 ⊢; omega) | (simp at h1 ⊢; omega) | (simp at h2 ⊢; omega) | (simp; omega)) (by first | omega | (simp; done) | (simp; omega)) ‹_›).mono ?_); rintro e w9 ⟨u, rfl, ⟨B9, c9, rfl⟩, hR9, hk9⟩))
        all_goals
          have hL9 : Below w.heap.size w w9 := HL.out.trans (hk9.2.2.2.2.2.mono HL.out.size)
          clear KC KP KN JD JA
          go_wp2_with fail
          exact bodyPost_ret (v := .tuple #[.slice B9 (putB l b).length c9, .int .i64 0]) (by simp [results, Try.results7, go_sem]) rfl ⟨_, by rw [E.out], by rw [E.out]; exact hR9, hL9⟩
/-- What is known of the front of a list that may be so far. -/
def Far (l : List Ban) (k : Nat) : Prop := ∀ i (h : i < l.length), i < k → rightB l[i] = true ∧ (0 < i → 0 < cmpN l[i].n (l[i - 1]'(by omega)).n)
theorem far_all {l : List Ban} (h : Far l l.length) : rightL l = true := by
  rw [right_iff]
  refine ⟨fun x hx => ?_, sorted_steps fun i hi h0 => (h i hi hi).2 h0⟩
  obtain ⟨i, hi, rfl⟩ := List.getElem_of_mem hx
  exact (h i hi hi).1
theorem far_snoc {l : List Ban} {k : Nat} (h : Far l k) (hk : k < l.length) (hr : rightB l[k] = true) (hs : 0 < k → 0 < cmpN l[k].n (l[k - 1]'(by omega)).n) : Far l (k + 1) := fun i hi hik => by
  rcases Nat.lt_succ_iff_lt_or_eq.1 hik with h2 | rfl
  · exact h i hi h2
  · exact ⟨hr, hs⟩
theorem far_wrong {l : List Ban} {k : Nat} (hk : k < l.length) (hr : rightB l[k] = false) : rightL l = false := right_not fun h => by
  have := h.1 _ (List.getElem_mem hk)
  rw [hr] at this; cases this
theorem far_back {l : List Ban} {m : Nat} (hk : m + 1 < l.length) (hs : ¬ 0 < cmpN l[m + 1].n l[m].n) : rightL l = false := right_not fun h => hs (steps_sorted h.2 (m + 1) hk (by omega))
set_option maxHeartbeats 8000000 in
theorem right_any (v : Value) (l : List Ban) (w : World) (h : Bans w v l) (hl : l.length ≤ 900000) (hok : ∀ x ∈ l, x.ok) :
    Calls Try.prog 13 #[v] w fun e w' => e = .returned (.bool (rightL l)) ∧ Below w.heap.size w w' := by
  obtain ⟨A, c, rfl, hc, -, hcell⟩ := h
  have HC := Lib.hid hcell
  have HK := Lib.hid hok
  clear hcell hok
  go_enter Try.func13, Try.ntmps13
  go_wp2_with fail
  go_loopw [3, 4, 7] (fun _ _ i wr => ∃ k : Nat, k ≤ l.length ∧ i = .int .i64 k ∧ Hid (Far l k) ∧ Below w.heap.size w wr) (fun _ _ i _ => l.length - (intOf i).toNat)
  case atStart => exact ⟨0, Nat.zero_le _, rfl, Lib.hid (fun _ _ h => absurd h (Nat.not_lt_zero _)), Below.refl _ _⟩
  case round =>
    obtain ⟨k, hk, rfl, HN, hlow⟩ := hrel
    by_cases hlt : k < l.length
    · obtain ⟨b, o, rfl, hb, hcc⟩ := HC.out (by omega)
      have HB : Hid (∀ w9, Stays (wr.alloc (.cells #[.bool l[k].n.a.v6, .int .u64 l[k].n.a.hi, .int .u64 l[k].n.a.lo, .int .i64 l[k].n.n, .int .i64 l[k].t] 29)) w9 → Below w.heap.size w w9) := Lib.hid fun w9 h => (hlow.trans ((Below.refl wr.heap.size wr).alloc (Nat.le_refl _) _ |>.mono hlow.size)).trans (h.mono (by have := hlow.size; simp; omega))
      have hbr : b < wr.heap.size := Nat.lt_of_lt_of_le hb hlow.size
      have hcr : ∀ i (h : i < l.length) j u, (encB l[i])[j]? = some u → wr.cell? ⟨b, o + i * 5 + j, none⟩ = some u := fun i h j u hu => (hlow.cell (p := ⟨b, o + i * 5 + j, none⟩) hb).trans (hcc i h j u hu)
      obtain ⟨c0, c1, c2, c3, c4⟩ := bans_at hcr hlt
      have hxo := HK.out _ (List.getElem_mem hlt)
      clear hcc hlow
      cases hr : rightB l[k]
      · have E : Hid (rightL l = false) := Lib.hid (far_wrong hlt hr)
        generalize l[k] = x at *
        have KR : Hid (∀ W0, Stays (wr.alloc (.cells #[.bool x.n.a.v6, .int .u64 x.n.a.hi, .int .u64 x.n.a.lo, .int .i64 x.n.n, .int .i64 x.t] 29)) W0 → Calls Try.prog 18 #[.agg #[.bool x.n.a.v6, .int .u64 x.n.a.hi, .int .u64 x.n.a.lo, .int .i64 x.n.n, .int .i64 x.t]] W0 fun e w' => e = .returned (.bool false) ∧ Stays (wr.alloc (.cells #[.bool x.n.a.v6, .int .u64 x.n.a.hi, .int .u64 x.n.a.lo, .int .i64 x.n.n, .int .i64 x.t] 29)) w') := Lib.hid (Tr.keep_call fun W0 => hr ▸ rightB_any x W0 hxo)
        have m0 : (wr.alloc (.cells #[.bool x.n.a.v6, .int .u64 x.n.a.hi, .int .u64 x.n.a.lo, .int .i64 x.n.n, .int .i64 x.t] 29)).cell? ⟨wr.heap.size, 0, none⟩ = some (.bool x.n.a.v6) := cell_at _ _ _ 0 _ rfl
        have m1 : (wr.alloc (.cells #[.bool x.n.a.v6, .int .u64 x.n.a.hi, .int .u64 x.n.a.lo, .int .i64 x.n.n, .int .i64 x.t] 29)).cell? ⟨wr.heap.size, 1, none⟩ = some (.int .u64 x.n.a.hi) := cell_at _ _ _ 1 _ rfl
        have m2 : (wr.alloc (.cells #[.bool x.n.a.v6, .int .u64 x.n.a.hi, .int .u64 x.n.a.lo, .int .i64 x.n.n, .int .i64 x.t] 29)).cell? ⟨wr.heap.size, 2, none⟩ = some (.int .u64 x.n.a.lo) := cell_at _ _ _ 2 _ rfl
        have m3 : (wr.alloc (.cells #[.bool x.n.a.v6, .int .u64 x.n.a.hi, .int .u64 x.n.a.lo, .int .i64 x.n.n, .int .i64 x.t] 29)).cell? ⟨wr.heap.size, 3, none⟩ = some (.int .i64 x.n.n) := cell_at _ _ _ 3 _ rfl
        have m4 : (wr.alloc (.cells #[.bool x.n.a.v6, .int .u64 x.n.a.hi, .int .u64 x.n.a.lo, .int .i64 x.n.n, .int .i64 x.t] 29)).cell? ⟨wr.heap.size, 4, none⟩ = some (.int .i64 x.t) := cell_at _ _ _ 4 _ rfl
        clear hr hxo hcr
        go_wp2_with fail
        have hne : Nonempty (Cls (Stays (wr.alloc (.cells #[.bool x.n.a.v6, .int .u64 x.n.a.hi, .int .u64 x.n.a.lo, .int .i64 x.n.n, .int .i64 x.t] 29)))) := ⟨⟨_, Below.refl _ _⟩⟩
        have f0 : ∀ q : Cls (Stays (wr.alloc (.cells #[.bool x.n.a.v6, .int .u64 x.n.a.hi, .int .u64 x.n.a.lo, .int .i64 x.n.n, .int .i64 x.t] 29))), q.w.cell? ⟨wr.heap.size, 0, none⟩ = some (.bool x.n.a.v6) := fun q => cells_left q.h (m0)
        have f1 : ∀ q : Cls (Stays (wr.alloc (.cells #[.bool x.n.a.v6, .int .u64 x.n.a.hi, .int .u64 x.n.a.lo, .int .i64 x.n.n, .int .i64 x.t] 29))), q.w.cell? ⟨wr.heap.size, 1, none⟩ = some (.int .u64 x.n.a.hi) := fun q => cells_left q.h (m1)
        have f2 : ∀ q : Cls (Stays (wr.alloc (.cells #[.bool x.n.a.v6, .int .u64 x.n.a.hi, .int .u64 x.n.a.lo, .int .i64 x.n.n, .int .i64 x.t] 29))), q.w.cell? ⟨wr.heap.size, 2, none⟩ = some (.int .u64 x.n.a.lo) := fun q => cells_left q.h (m2)
        have f3 : ∀ q : Cls (Stays (wr.alloc (.cells #[.bool x.n.a.v6, .int .u64 x.n.a.hi, .int .u64 x.n.a.lo, .int .i64 x.n.n, .int .i64 x.t] 29))), q.w.cell? ⟨wr.heap.size, 3, none⟩ = some (.int .i64 x.n.n) := fun q => cells_left q.h (m3)
        have f4 : ∀ q : Cls (Stays (wr.alloc (.cells #[.bool x.n.a.v6, .int .u64 x.n.a.hi, .int .u64 x.n.a.lo, .int .i64 x.n.n, .int .i64 x.t] 29))), q.w.cell? ⟨wr.heap.size, 4, none⟩ = some (.int .i64 x.t) := fun q => cells_left q.h (m4)
        refine Cls.region (Stays (wr.alloc (.cells #[.bool x.n.a.v6, .int .u64 x.n.a.hi, .int .u64 x.n.a.lo, .int .i64 x.n.n, .int .i64 x.t] 29))) (by kernel_rfl) (by kernel_rfl) (low_drewN (Below.refl _ _) 1) ?_
        repeat (go_big_quiet_step (first | fail | (with_reducible exact Cls.call (KR.out _ (Cls.h _)))))
        refine wpQuiet_nil ?_
        intro n9
        have hs9 := n9.h
        generalize n9.w = w9 at hs9 ⊢
        clear hne n9 f0 f1 f2 f3 f4
        clear KR m0 m1 m2 m3 m4 c0 c1 c2 c3 c4
        go_wp2_with fail
        go_ret
        exact ⟨ret_b E.out.symm, HB.out _ hs9⟩
      · rcases Nat.eq_zero_or_pos k with rfl | hp
        · have HN2 : Hid (Far l (0 + 1)) := Lib.hid (far_snoc HN.out hlt hr (fun h => absurd h (Nat.lt_irrefl _)))
          generalize l[0] = x at *
          simp only [Nat.zero_mul, Nat.add_zero] at c0 c1 c2 c3 c4
          have KR : Hid (∀ W0, Stays (wr.alloc (.cells #[.bool x.n.a.v6, .int .u64 x.n.a.hi, .int .u64 x.n.a.lo, .int .i64 x.n.n, .int .i64 x.t] 29)) W0 → Calls Try.prog 18 #[.agg #[.bool x.n.a.v6, .int .u64 x.n.a.hi, .int .u64 x.n.a.lo, .int .i64 x.n.n, .int .i64 x.t]] W0 fun e w' => e = .returned (.bool true) ∧ Stays (wr.alloc (.cells #[.bool x.n.a.v6, .int .u64 x.n.a.hi, .int .u64 x.n.a.lo, .int .i64 x.n.n, .int .i64 x.t] 29)) w') := Lib.hid (Tr.keep_call fun W0 => hr ▸ rightB_any x W0 hxo)
          have m0 : (wr.alloc (.cells #[.bool x.n.a.v6, .int .u64 x.n.a.hi, .int .u64 x.n.a.lo, .int .i64 x.n.n, .int .i64 x.t] 29)).cell? ⟨wr.heap.size, 0, none⟩ = some (.bool x.n.a.v6) := cell_at _ _ _ 0 _ rfl
          have m1 : (wr.alloc (.cells #[.bool x.n.a.v6, .int .u64 x.n.a.hi, .int .u64 x.n.a.lo, .int .i64 x.n.n, .int .i64 x.t] 29)).cell? ⟨wr.heap.size, 1, none⟩ = some (.int .u64 x.n.a.hi) := cell_at _ _ _ 1 _ rfl
          have m2 : (wr.alloc (.cells #[.bool x.n.a.v6, .int .u64 x.n.a.hi, .int .u64 x.n.a.lo, .int .i64 x.n.n, .int .i64 x.t] 29)).cell? ⟨wr.heap.size, 2, none⟩ = some (.int .u64 x.n.a.lo) := cell_at _ _ _ 2 _ rfl
          have m3 : (wr.alloc (.cells #[.bool x.n.a.v6, .int .u64 x.n.a.hi, .int .u64 x.n.a.lo, .int .i64 x.n.n, .int .i64 x.t] 29)).cell? ⟨wr.heap.size, 3, none⟩ = some (.int .i64 x.n.n) := cell_at _ _ _ 3 _ rfl
          have m4 : (wr.alloc (.cells #[.bool x.n.a.v6, .int .u64 x.n.a.hi, .int .u64 x.n.a.lo, .int .i64 x.n.n, .int .i64 x.t] 29)).cell? ⟨wr.heap.size, 4, none⟩ = some (.int .i64 x.t) := cell_at _ _ _ 4 _ rfl
          clear hr hxo hcr
          go_wp2_with fail
          have hne : Nonempty (Cls (Stays (wr.alloc (.cells #[.bool x.n.a.v6, .int .u64 x.n.a.hi, .int .u64 x.n.a.lo, .int .i64 x.n.n, .int .i64 x.t] 29)))) := ⟨⟨_, Below.refl _ _⟩⟩
          have f0 : ∀ q : Cls (Stays (wr.alloc (.cells #[.bool x.n.a.v6, .int .u64 x.n.a.hi, .int .u64 x.n.a.lo, .int .i64 x.n.n, .int .i64 x.t] 29))), q.w.cell? ⟨wr.heap.size, 0, none⟩ = some (.bool x.n.a.v6) := fun q => cells_left q.h (m0)
          have f1 : ∀ q : Cls (Stays (wr.alloc (.cells #[.bool x.n.a.v6, .int .u64 x.n.a.hi, .int .u64 x.n.a.lo, .int .i64 x.n.n, .int .i64 x.t] 29))), q.w.cell? ⟨wr.heap.size, 1, none⟩ = some (.int .u64 x.n.a.hi) := fun q => cells_left q.h (m1)
          have f2 : ∀ q : Cls (Stays (wr.alloc (.cells #[.bool x.n.a.v6, .int .u64 x.n.a.hi, .int .u64 x.n.a.lo, .int .i64 x.n.n, .int .i64 x.t] 29))), q.w.cell? ⟨wr.heap.size, 2, none⟩ = some (.int .u64 x.n.a.lo) := fun q => cells_left q.h (m2)
          have f3 : ∀ q : Cls (Stays (wr.alloc (.cells #[.bool x.n.a.v6, .int .u64 x.n.a.hi, .int .u64 x.n.a.lo, .int .i64 x.n.n, .int .i64 x.t] 29))), q.w.cell? ⟨wr.heap.size, 3, none⟩ = some (.int .i64 x.n.n) := fun q => cells_left q.h (m3)
          have f4 : ∀ q : Cls (Stays (wr.alloc (.cells #[.bool x.n.a.v6, .int .u64 x.n.a.hi, .int .u64 x.n.a.lo, .int .i64 x.n.n, .int .i64 x.t] 29))), q.w.cell? ⟨wr.heap.size, 4, none⟩ = some (.int .i64 x.t) := fun q => cells_left q.h (m4)
          refine Cls.region (Stays (wr.alloc (.cells #[.bool x.n.a.v6, .int .u64 x.n.a.hi, .int .u64 x.n.a.lo, .int .i64 x.n.n, .int .i64 x.t] 29))) (by kernel_rfl) (by kernel_rfl) (low_drewN (Below.refl _ _) 1) ?_
          repeat (go_big_quiet_step (first | fail | (with_reducible exact Cls.call (KR.out _ (Cls.h _)))))
          refine wpQuiet_nil ?_
          intro n9
          have hs9 := n9.h
          generalize n9.w = w9 at hs9 ⊢
          clear hne n9 f0 f1 f2 f3 f4
          clear KR m0 m1 m2 m3 m4 c0 c1 c2 c3 c4
          go_wp2_with fail
          go_roundw
          case rel => exact ⟨0 + 1, by omega, by go_num, HN2, HB.out _ hs9⟩
          case measure => simp [intOf]; omega
        · obtain ⟨m, rfl⟩ : ∃ m, k = m + 1 := ⟨k - 1, by omega⟩
          obtain ⟨g0, g1, g2, g3, g4⟩ := bans_at hcr (k := m) (by omega)
          have hyo := HK.out _ (List.getElem_mem (show m < l.length by omega))
          by_cases hf : 0 < cmpN l[m + 1].n l[m].n
          · have HN2 : Hid (Far l (m + 1 + 1)) := Lib.hid (far_snoc HN.out hlt hr (fun _ => hf))
            generalize l[m + 1] = x at *
            generalize l[m] = y at *
            have KR : Hid (∀ W0, Stays (wr.alloc (.cells #[.bool x.n.a.v6, .int .u64 x.n.a.hi, .int .u64 x.n.a.lo, .int .i64 x.n.n, .int .i64 x.t] 29)) W0 → Calls Try.prog 18 #[.agg #[.bool x.n.a.v6, .int .u64 x.n.a.hi, .int .u64 x.n.a.lo, .int .i64 x.n.n, .int .i64 x.t]] W0 fun e w' => e = .returned (.bool true) ∧ Stays (wr.alloc (.cells #[.bool x.n.a.v6, .int .u64 x.n.a.hi, .int .u64 x.n.a.lo, .int .i64 x.n.n, .int .i64 x.t] 29)) w') := Lib.hid (Tr.keep_call fun W0 => hr ▸ rightB_any x W0 hxo)
            have KF : Hid (∀ W0, Stays (wr.alloc (.cells #[.bool x.n.a.v6, .int .u64 x.n.a.hi, .int .u64 x.n.a.lo, .int .i64 x.n.n, .int .i64 x.t] 29)) W0 → Calls Try.prog 31 #[.agg #[.bool x.n.a.v6, .int .u64 x.n.a.hi, .int .u64 x.n.a.lo, .int .i64 x.n.n, .int .i64 x.t], .agg #[.bool y.n.a.v6, .int .u64 y.n.a.hi, .int .u64 y.n.a.lo, .int .i64 y.n.n]] W0 fun e w' => e = .returned (.bool true) ∧ Stays (wr.alloc (.cells #[.bool x.n.a.v6, .int .u64 x.n.a.hi, .int .u64 x.n.a.lo, .int .i64 x.n.n, .int .i64 x.t] 29)) w') := Lib.hid (Tr.keep_call fun W0 => (decide_eq_true hf : decide (0 < cmpN x.n y.n) = _) ▸ follows_any x y.n W0 hxo hyo.1)
            have m0 : (wr.alloc (.cells #[.bool x.n.a.v6, .int .u64 x.n.a.hi, .int .u64 x.n.a.lo, .int .i64 x.n.n, .int .i64 x.t] 29)).cell? ⟨wr.heap.size, 0, none⟩ = some (.bool x.n.a.v6) := cell_at _ _ _ 0 _ rfl
            have m1 : (wr.alloc (.cells #[.bool x.n.a.v6, .int .u64 x.n.a.hi, .int .u64 x.n.a.lo, .int .i64 x.n.n, .int .i64 x.t] 29)).cell? ⟨wr.heap.size, 1, none⟩ = some (.int .u64 x.n.a.hi) := cell_at _ _ _ 1 _ rfl
            have m2 : (wr.alloc (.cells #[.bool x.n.a.v6, .int .u64 x.n.a.hi, .int .u64 x.n.a.lo, .int .i64 x.n.n, .int .i64 x.t] 29)).cell? ⟨wr.heap.size, 2, none⟩ = some (.int .u64 x.n.a.lo) := cell_at _ _ _ 2 _ rfl
            have m3 : (wr.alloc (.cells #[.bool x.n.a.v6, .int .u64 x.n.a.hi, .int .u64 x.n.a.lo, .int .i64 x.n.n, .int .i64 x.t] 29)).cell? ⟨wr.heap.size, 3, none⟩ = some (.int .i64 x.n.n) := cell_at _ _ _ 3 _ rfl
            have m4 : (wr.alloc (.cells #[.bool x.n.a.v6, .int .u64 x.n.a.hi, .int .u64 x.n.a.lo, .int .i64 x.n.n, .int .i64 x.t] 29)).cell? ⟨wr.heap.size, 4, none⟩ = some (.int .i64 x.t) := cell_at _ _ _ 4 _ rfl
            have e0 : (wr.alloc (.cells #[.bool x.n.a.v6, .int .u64 x.n.a.hi, .int .u64 x.n.a.lo, .int .i64 x.n.n, .int .i64 x.t] 29)).cell? ⟨b, o + m * 5, none⟩ = some (.bool y.n.a.v6) := cells_left ((Below.refl _ _).alloc (Nat.le_refl _) _) g0
            have e1 : (wr.alloc (.cells #[.bool x.n.a.v6, .int .u64 x.n.a.hi, .int .u64 x.n.a.lo, .int .i64 x.n.n, .int .i64 x.t] 29)).cell? ⟨b, o + m * 5 + 1, none⟩ = some (.int .u64 y.n.a.hi) := cells_left ((Below.refl _ _).alloc (Nat.le_refl _) _) g1
            have e2 : (wr.alloc (.cells #[.bool x.n.a.v6, .int .u64 x.n.a.hi, .int .u64 x.n.a.lo, .int .i64 x.n.n, .int .i64 x.t] 29)).cell? ⟨b, o + m * 5 + 2, none⟩ = some (.int .u64 y.n.a.lo) := cells_left ((Below.refl _ _).alloc (Nat.le_refl _) _) g2
            have e3 : (wr.alloc (.cells #[.bool x.n.a.v6, .int .u64 x.n.a.hi, .int .u64 x.n.a.lo, .int .i64 x.n.n, .int .i64 x.t] 29)).cell? ⟨b, o + m * 5 + 3, none⟩ = some (.int .i64 y.n.n) := cells_left ((Below.refl _ _).alloc (Nat.le_refl _) _) g3
            clear hr hxo hcr hf hyo g0 g1 g2 g3 g4
            go_wp2_with fail
            have hne : Nonempty (Cls (Stays (wr.alloc (.cells #[.bool x.n.a.v6, .int .u64 x.n.a.hi, .int .u64 x.n.a.lo, .int .i64 x.n.n, .int .i64 x.t] 29)))) := ⟨⟨_, Below.refl _ _⟩⟩
            have f0 : ∀ q : Cls (Stays (wr.alloc (.cells #[.bool x.n.a.v6, .int .u64 x.n.a.hi, .int .u64 x.n.a.lo, .int .i64 x.n.n, .int .i64 x.t] 29))), q.w.cell? ⟨wr.heap.size, 0, none⟩ = some (.bool x.n.a.v6) := fun q => cells_left q.h (m0)
            have f1 : ∀ q : Cls (Stays (wr.alloc (.cells #[.bool x.n.a.v6, .int .u64 x.n.a.hi, .int .u64 x.n.a.lo, .int .i64 x.n.n, .int .i64 x.t] 29))), q.w.cell? ⟨wr.heap.size, 1, none⟩ = some (.int .u64 x.n.a.hi) := fun q => cells_left q.h (m1)
            have f2 : ∀ q : Cls (Stays (wr.alloc (.cells #[.bool x.n.a.v6, .int .u64 x.n.a.hi, .int .u64 x.n.a.lo, .int .i64 x.n.n, .int .i64 x.t] 29))), q.w.cell? ⟨wr.heap.size, 2, none⟩ = some (.int .u64 x.n.a.lo) := fun q => cells_left q.h (m2)
            have f3 : ∀ q : Cls (Stays (wr.alloc (.cells #[.bool x.n.a.v6, .int .u64 x.n.a.hi, .int .u64 x.n.a.lo, .int .i64 x.n.n, .int .i64 x.t] 29))), q.w.cell? ⟨wr.heap.size, 3, none⟩ = some (.int .i64 x.n.n) := fun q => cells_left q.h (m3)
            have f4 : ∀ q : Cls (Stays (wr.alloc (.cells #[.bool x.n.a.v6, .int .u64 x.n.a.hi, .int .u64 x.n.a.lo, .int .i64 x.n.n, .int .i64 x.t] 29))), q.w.cell? ⟨wr.heap.size, 4, none⟩ = some (.int .i64 x.t) := fun q => cells_left q.h (m4)
            have f5 : ∀ q : Cls (Stays (wr.alloc (.cells #[.bool x.n.a.v6, .int .u64 x.n.a.hi, .int .u64 x.n.a.lo, .int .i64 x.n.n, .int .i64 x.t] 29))), q.w.cell? ⟨b, o + m * 5, none⟩ = some (.bool y.n.a.v6) := fun q => cells_left q.h (e0)
            have f6 : ∀ q : Cls (Stays (wr.alloc (.cells #[.bool x.n.a.v6, .int .u64 x.n.a.hi, .int .u64 x.n.a.lo, .int .i64 x.n.n, .int .i64 x.t] 29))), q.w.cell? ⟨b, o + m * 5 + 1, none⟩ = some (.int .u64 y.n.a.hi) := fun q => cells_left q.h (e1)
            have f7 : ∀ q : Cls (Stays (wr.alloc (.cells #[.bool x.n.a.v6, .int .u64 x.n.a.hi, .int .u64 x.n.a.lo, .int .i64 x.n.n, .int .i64 x.t] 29))), q.w.cell? ⟨b, o + m * 5 + 2, none⟩ = some (.int .u64 y.n.a.lo) := fun q => cells_left q.h (e2)
            have f8 : ∀ q : Cls (Stays (wr.alloc (.cells #[.bool x.n.a.v6, .int .u64 x.n.a.hi, .int .u64 x.n.a.lo, .int .i64 x.n.n, .int .i64 x.t] 29))), q.w.cell? ⟨b, o + m * 5 + 3, none⟩ = some (.int .i64 y.n.n) := fun q => cells_left q.h (e3)
            refine Cls.region (Stays (wr.alloc (.cells #[.bool x.n.a.v6, .int .u64 x.n.a.hi, .int .u64 x.n.a.lo, .int .i64 x.n.n, .int .i64 x.t] 29))) (by kernel_rfl) (by kernel_rfl) (low_drewN (Below.refl _ _) 1) ?_
            repeat (go_big_quiet_step (first | fail | (with_reducible exact Cls.call (KR.out _ (Cls.h _))) | (with_reducible exact Cls.call (KF.out _ (Cls.h _)))))
            refine wpQuiet_nil ?_
            intro n9
            have hs9 := n9.h
            generalize n9.w = w9 at hs9 ⊢
            clear hne n9 f0 f1 f2 f3 f4 f5 f6 f7 f8
            clear KR KF m0 m1 m2 m3 m4 c0 c1 c2 c3 c4 e0 e1 e2 e3
            go_wp2_with fail
            go_roundw
            case rel => exact ⟨m + 1 + 1, by omega, by go_num, HN2, HB.out _ hs9⟩
            case measure => simp [intOf]; omega
          · have E : Hid (rightL l = false) := Lib.hid (far_back hlt hf)
            generalize l[m + 1] = x at *
            generalize l[m] = y at *
            have KR : Hid (∀ W0, Stays (wr.alloc (.cells #[.bool x.n.a.v6, .int .u64 x.n.a.hi, .int .u64 x.n.a.lo, .int .i64 x.n.n, .int .i64 x.t] 29)) W0 → Calls Try.prog 18 #[.agg #[.bool x.n.a.v6, .int .u64 x.n.a.hi, .int .u64 x.n.a.lo, .int .i64 x.n.n, .int .i64 x.t]] W0 fun e w' => e = .returned (.bool true) ∧ Stays (wr.alloc (.cells #[.bool x.n.a.v6, .int .u64 x.n.a.hi, .int .u64 x.n.a.lo, .int .i64 x.n.n, .int .i64 x.t] 29)) w') := Lib.hid (Tr.keep_call fun W0 => hr ▸ rightB_any x W0 hxo)
            have KF : Hid (∀ W0, Stays (wr.alloc (.cells #[.bool x.n.a.v6, .int .u64 x.n.a.hi, .int .u64 x.n.a.lo, .int .i64 x.n.n, .int .i64 x.t] 29)) W0 → Calls Try.prog 31 #[.agg #[.bool x.n.a.v6, .int .u64 x.n.a.hi, .int .u64 x.n.a.lo, .int .i64 x.n.n, .int .i64 x.t], .agg #[.bool y.n.a.v6, .int .u64 y.n.a.hi, .int .u64 y.n.a.lo, .int .i64 y.n.n]] W0 fun e w' => e = .returned (.bool false) ∧ Stays (wr.alloc (.cells #[.bool x.n.a.v6, .int .u64 x.n.a.hi, .int .u64 x.n.a.lo, .int .i64 x.n.n, .int .i64 x.t] 29)) w') := Lib.hid (Tr.keep_call fun W0 => (decide_eq_false hf : decide (0 < cmpN x.n y.n) = _) ▸ follows_any x y.n W0 hxo hyo.1)
            have m0 : (wr.alloc (.cells #[.bool x.n.a.v6, .int .u64 x.n.a.hi, .int .u64 x.n.a.lo, .int .i64 x.n.n, .int .i64 x.t] 29)).cell? ⟨wr.heap.size, 0, none⟩ = some (.bool x.n.a.v6) := cell_at _ _ _ 0 _ rfl
            have m1 : (wr.alloc (.cells #[.bool x.n.a.v6, .int .u64 x.n.a.hi, .int .u64 x.n.a.lo, .int .i64 x.n.n, .int .i64 x.t] 29)).cell? ⟨wr.heap.size, 1, none⟩ = some (.int .u64 x.n.a.hi) := cell_at _ _ _ 1 _ rfl
            have m2 : (wr.alloc (.cells #[.bool x.n.a.v6, .int .u64 x.n.a.hi, .int .u64 x.n.a.lo, .int .i64 x.n.n, .int .i64 x.t] 29)).cell? ⟨wr.heap.size, 2, none⟩ = some (.int .u64 x.n.a.lo) := cell_at _ _ _ 2 _ rfl
            have m3 : (wr.alloc (.cells #[.bool x.n.a.v6, .int .u64 x.n.a.hi, .int .u64 x.n.a.lo, .int .i64 x.n.n, .int .i64 x.t] 29)).cell? ⟨wr.heap.size, 3, none⟩ = some (.int .i64 x.n.n) := cell_at _ _ _ 3 _ rfl
            have m4 : (wr.alloc (.cells #[.bool x.n.a.v6, .int .u64 x.n.a.hi, .int .u64 x.n.a.lo, .int .i64 x.n.n, .int .i64 x.t] 29)).cell? ⟨wr.heap.size, 4, none⟩ = some (.int .i64 x.t) := cell_at _ _ _ 4 _ rfl
            have e0 : (wr.alloc (.cells #[.bool x.n.a.v6, .int .u64 x.n.a.hi, .int .u64 x.n.a.lo, .int .i64 x.n.n, .int .i64 x.t] 29)).cell? ⟨b, o + m * 5, none⟩ = some (.bool y.n.a.v6) := cells_left ((Below.refl _ _).alloc (Nat.le_refl _) _) g0
            have e1 : (wr.alloc (.cells #[.bool x.n.a.v6, .int .u64 x.n.a.hi, .int .u64 x.n.a.lo, .int .i64 x.n.n, .int .i64 x.t] 29)).cell? ⟨b, o + m * 5 + 1, none⟩ = some (.int .u64 y.n.a.hi) := cells_left ((Below.refl _ _).alloc (Nat.le_refl _) _) g1
            have e2 : (wr.alloc (.cells #[.bool x.n.a.v6, .int .u64 x.n.a.hi, .int .u64 x.n.a.lo, .int .i64 x.n.n, .int .i64 x.t] 29)).cell? ⟨b, o + m * 5 + 2, none⟩ = some (.int .u64 y.n.a.lo) := cells_left ((Below.refl _ _).alloc (Nat.le_refl _) _) g2
            have e3 : (wr.alloc (.cells #[.bool x.n.a.v6, .int .u64 x.n.a.hi, .int .u64 x.n.a.lo, .int .i64 x.n.n, .int .i64 x.t] 29)).cell? ⟨b, o + m * 5 + 3, none⟩ = some (.int .i64 y.n.n) := cells_left ((Below.refl _ _).alloc (Nat.le_refl _) _) g3
            clear hr hxo hcr hf hyo g0 g1 g2 g3 g4
            go_wp2_with fail
            have hne : Nonempty (Cls (Stays (wr.alloc (.cells #[.bool x.n.a.v6, .int .u64 x.n.a.hi, .int .u64 x.n.a.lo, .int .i64 x.n.n, .int .i64 x.t] 29)))) := ⟨⟨_, Below.refl _ _⟩⟩
            have f0 : ∀ q : Cls (Stays (wr.alloc (.cells #[.bool x.n.a.v6, .int .u64 x.n.a.hi, .int .u64 x.n.a.lo, .int .i64 x.n.n, .int .i64 x.t] 29))), q.w.cell? ⟨wr.heap.size, 0, none⟩ = some (.bool x.n.a.v6) := fun q => cells_left q.h (m0)
            have f1 : ∀ q : Cls (Stays (wr.alloc (.cells #[.bool x.n.a.v6, .int .u64 x.n.a.hi, .int .u64 x.n.a.lo, .int .i64 x.n.n, .int .i64 x.t] 29))), q.w.cell? ⟨wr.heap.size, 1, none⟩ = some (.int .u64 x.n.a.hi) := fun q => cells_left q.h (m1)
            have f2 : ∀ q : Cls (Stays (wr.alloc (.cells #[.bool x.n.a.v6, .int .u64 x.n.a.hi, .int .u64 x.n.a.lo, .int .i64 x.n.n, .int .i64 x.t] 29))), q.w.cell? ⟨wr.heap.size, 2, none⟩ = some (.int .u64 x.n.a.lo) := fun q => cells_left q.h (m2)
            have f3 : ∀ q : Cls (Stays (wr.alloc (.cells #[.bool x.n.a.v6, .int .u64 x.n.a.hi, .int .u64 x.n.a.lo, .int .i64 x.n.n, .int .i64 x.t] 29))), q.w.cell? ⟨wr.heap.size, 3, none⟩ = some (.int .i64 x.n.n) := fun q => cells_left q.h (m3)
            have f4 : ∀ q : Cls (Stays (wr.alloc (.cells #[.bool x.n.a.v6, .int .u64 x.n.a.hi, .int .u64 x.n.a.lo, .int .i64 x.n.n, .int .i64 x.t] 29))), q.w.cell? ⟨wr.heap.size, 4, none⟩ = some (.int .i64 x.t) := fun q => cells_left q.h (m4)
            have f5 : ∀ q : Cls (Stays (wr.alloc (.cells #[.bool x.n.a.v6, .int .u64 x.n.a.hi, .int .u64 x.n.a.lo, .int .i64 x.n.n, .int .i64 x.t] 29))), q.w.cell? ⟨b, o + m * 5, none⟩ = some (.bool y.n.a.v6) := fun q => cells_left q.h (e0)
            have f6 : ∀ q : Cls (Stays (wr.alloc (.cells #[.bool x.n.a.v6, .int .u64 x.n.a.hi, .int .u64 x.n.a.lo, .int .i64 x.n.n, .int .i64 x.t] 29))), q.w.cell? ⟨b, o + m * 5 + 1, none⟩ = some (.int .u64 y.n.a.hi) := fun q => cells_left q.h (e1)
            have f7 : ∀ q : Cls (Stays (wr.alloc (.cells #[.bool x.n.a.v6, .int .u64 x.n.a.hi, .int .u64 x.n.a.lo, .int .i64 x.n.n, .int .i64 x.t] 29))), q.w.cell? ⟨b, o + m * 5 + 2, none⟩ = some (.int .u64 y.n.a.lo) := fun q => cells_left q.h (e2)
            have f8 : ∀ q : Cls (Stays (wr.alloc (.cells #[.bool x.n.a.v6, .int .u64 x.n.a.hi, .int .u64 x.n.a.lo, .int .i64 x.n.n, .int .i64 x.t] 29))), q.w.cell? ⟨b, o + m * 5 + 3, none⟩ = some (.int .i64 y.n.n) := fun q => cells_left q.h (e3)
            refine Cls.region (Stays (wr.alloc (.cells #[.bool x.n.a.v6, .int .u64 x.n.a.hi, .int .u64 x.n.a.lo, .int .i64 x.n.n, .int .i64 x.t] 29))) (by kernel_rfl) (by kernel_rfl) (low_drewN (Below.refl _ _) 1) ?_
            repeat (go_big_quiet_step (first | fail | (with_reducible exact Cls.call (KR.out _ (Cls.h _))) | (with_reducible exact Cls.call (KF.out _ (Cls.h _)))))
            refine wpQuiet_nil ?_
            intro n9
            have hs9 := n9.h
            generalize n9.w = w9 at hs9 ⊢
            clear hne n9 f0 f1 f2 f3 f4 f5 f6 f7 f8
            clear KR KF m0 m1 m2 m3 m4 c0 c1 c2 c3 c4 e0 e1 e2 e3
            go_wp2_with fail
            go_ret
            exact ⟨ret_b E.out.symm, HB.out _ hs9⟩
    · have E : Hid (rightL l = true) := Lib.hid (far_all (by rw [show l.length = k by omega]; exact HN.out))
      have HB := Lib.hid hlow
      go_wp2_with fail
      go_ret
      exact ⟨ret_b E.out.symm, HB.out⟩
end Go.Proofs.Ytcjdfgpkcafpdaa.Ba
