/- Contracts of the document's answers for layer 13 (lists of bans): lists, where a subnet stands, what is swept, the longest ban. -/
import Derived.Test.YtefkolkagebffaaGreatDoorBansKit
import Derived.Test.YtefkolkagebffaaGreatDoorRef12
import Derived.Test.YtefkolkagebffaaGreatDoorCls
import Derived.Lib.MinMax
import Derived.Deep.RegionHeld3
import Derived.Deep.RegionWith
namespace Go.Proofs.YtefkolkagebffaaGreatDoor.Ba
set_option maxRecDepth 100000
open Go.ChangeShapes Go.WideShapes Go.ChangeAt Go.RowKit
open Dec Words V4 V6 Ad Ci
set_option linter.unusedVariables false
set_option maxHeartbeats 4000000 in
theorem rindex_any (v : Value) (l : List Ban) (n : Net) (w : World) (h : Bans w v l) (hl : l.length ≤ 1000000) :
    Calls Tryz.prog 17 #[v, .agg #[.bool n.a.v6, .int .u64 n.a.hi, .int .u64 n.a.lo, .int .i64 n.n]] w fun e w' => e = .returned (.int .i64 (ixI l n)) ∧ Below w.heap.size w w' := by
  obtain ⟨A, c, rfl, hc, _, hcell⟩ := h
  have HC := Lib.hid hcell
  have EQ := fun (k : Nat) (hk : k < l.length) W => eqNet l[k].n n W
  clear hcell
  go_enter Tryz.func17, Tryz.ntmps17
  go_wp2_with fail
  go_loopw [5] (fun i wr => ∃ k : Nat, k ≤ l.length ∧ i = .int .i64 k ∧ Hid (∀ i (h : i < l.length), i < k → sameN l[i].n n = false) ∧ Stays (w.alloc (.cells #[.bool n.a.v6, .int .u64 n.a.hi, .int .u64 n.a.lo, .int .i64 n.n] 38)) wr) (fun i _ => l.length - (intOf i).toNat)
  case atStart => exact ⟨0, Nat.zero_le _, rfl, Lib.hid (fun _ _ h => absurd h (Nat.not_lt_zero _)), Below.refl _ _⟩
  case round =>
    obtain ⟨k, hk, rfl, HN, hs⟩ := hrel
    by_cases hlt : k < l.length
    · obtain ⟨b, o, rfl, hb, hcc⟩ := HC.out (by omega)
      have hlow : Below w.heap.size w wr := ((Below.refl _ _).alloc (Nat.le_refl _) _).trans (hs.mono (by simp))
      obtain ⟨c0, c1, c2, c3, c4⟩ := bans_at (fun i h j u hu => (hlow.cell (p := ⟨b, o + i * 5 + j, none⟩) hb).trans (hcc i h j u hu)) hlt
      obtain ⟨d0, d1, d2, d3, _⟩ := ST.of hs
      have E1 := EQ k hlt
      have HIX := fun h1 h2 => @ix_at l n k hlt h1 h2
      clear hcc
      cases hsame : sameN l[k].n n
      · have HN2 : Hid (∀ i (h : i < l.length), i < k + 1 → sameN l[i].n n = false) := Lib.hid fun i h hi => by
          rcases Nat.lt_succ_iff_lt_or_eq.1 hi with h2 | rfl
          · exact HN.out i h h2
          · exact hsame
        rw [hsame] at E1
        clear hsame HIX EQ
        go_wp2
        go_quiet (fail)
        go_wp2
        go_roundw
        case rel => exact ⟨k + 1, by omega, by go_num, HN2, low_drewN hs _⟩
        case measure => simp [intOf]; omega
      · have E : Hid (ixI l n = k) := Lib.hid (by unfold ixI; rw [HIX HN.out hsame, if_pos hlt])
        have HB : Hid (Below w.heap.size w (wr.drewN 1)) := Lib.hid (low_drewN hlow 1)
        rw [hsame] at E1
        clear hsame HIX EQ
        go_wp2
        go_quiet (fail)
        go_wp2
        go_ret
        exact ⟨ret_i E.out.symm, low_drewN hlow _⟩
    · have E : Hid (ixI l n = -1) := Lib.hid (by unfold ixI; rw [ix_none fun i h => HN.out i h (by omega), if_neg (by omega)])
      have HB : Hid (Below w.heap.size w wr) := Lib.hid (((Below.refl _ _).alloc (Nat.le_refl _) _).trans (hs.mono (by simp)))
      clear EQ
      go_wp2
      go_ret
      exact ⟨ret_i E.out.symm, HB.out⟩
end Go.Proofs.YtefkolkagebffaaGreatDoor.Ba
/- Contracts of the document's answers for layer 13, second part: Drop, Add, Right; lists compared. -/
namespace Go.Proofs.YtefkolkagebffaaGreatDoor.Ba
set_option maxRecDepth 100000
open Go.ChangeShapes Go.WideShapes Go.ChangeAt Go.RowKit
open Dec Words V4 V6 Ad Ci
set_option linter.unusedVariables false
theorem own_lit {B : Nat} (W : World) (h : B ≤ W.heap.size) : OwnB B (W.alloc (.cells #[] 40)) (.slice (some ⟨W.heap.size, 0, none⟩) 0 0) [] := World.ownsRow_made W #[] 0 h (by simp [maxLen]) rfl
theorem ban_lit (W : World) (b : Ban) : Bans (W.alloc (.cells #[.bool b.n.a.v6, .int .u64 b.n.a.hi, .int .u64 b.n.a.lo, .int .i64 b.n.n, .int .i64 b.t] 40)) (.slice (some ⟨W.heap.size, 0, none⟩) 1 1) [b] := Recs.lit encB_len W [b] #[.bool b.n.a.v6, .int .u64 b.n.a.hi, .int .u64 b.n.a.lo, .int .i64 b.n.n, .int .i64 b.t] 40 (by rw [flat_one]; rfl)
theorem own_lit1 {B : Nat} (W : World) (o : Obj) (h : B ≤ W.heap.size) : OwnB B ((W.alloc o).alloc (.cells #[] 40)) (.slice (some ⟨W.heap.size + 1, 0, none⟩) 0 0) [] := by
  have := own_lit (B := B) (W.alloc o) (by simp; omega)
  simpa using this
theorem ban_lit1 (W : World) (o : Obj) (b : Ban) : Bans ((W.alloc o).alloc (.cells #[.bool b.n.a.v6, .int .u64 b.n.a.hi, .int .u64 b.n.a.lo, .int .i64 b.n.n, .int .i64 b.t] 40)) (.slice (some ⟨W.heap.size + 1, 0, none⟩) 1 1) [b] := by
  have := ban_lit (W.alloc o) b
  simpa using this
theorem bans_drew {W : World} {v : Value} {l : List Ban} (h : Bans W v l) : Bans W.drew v l := h.below (low_drewN (Below.refl _ _) 1)
/-- Bans put behind bans: what has turned. -/
theorem append_bans2 {B : Nat} {W : World} {v x : Value} {xs ys : List Ban} (hown : OwnB B W v xs) (hy : Bans W x ys) (hlen : xs.length + ys.length ≤ 1000000) (hB : B ≤ W.heap.size) :
    ∃ v1 w1, (Builtin.append_ #[22, 22] 22 #[v, x]).run Tryz.prog W = .ok v1 w1 ∧ OwnB B w1 v1 (xs ++ ys) ∧ Below B W w1 ∧ W.grownBy w1 v.ownBlock := by
  obtain ⟨i, hi, hz0, hz1, hz2⟩ := info_parts (show (Tryz.prog.info? 40).map (fun i => (i.zero, i.size, i.bytes)) = some (some (.agg #[.bool false, .int .u64 0, .int .u64 0, .int .i64 0, .int .i64 0]), 5, 40) by kernel_rfl)
  obtain ⟨A, c, rfl, hc, hnil, hcell⟩ := hy
  cases A with
  | none =>
    obtain rfl := hnil rfl
    obtain rfl : ys = [] := List.eq_nil_of_length_eq_zero (by omega)
    refine ⟨v, W, run_append_owned_none (P := Tryz.prog) (w := W) B 22 22 40 i 5 Tryz.underlying22 hi v xs.length (flat encB xs) hown, ?_, Below.refl _ _, World.grownBy.refl _ _⟩
    rw [List.append_nil]; exact hown
  | some a =>
    obtain ⟨v', w', hr, h2, h3, _⟩ := run_append_own (P := Tryz.prog) W B 22 22 40 i _ 5 40 Tryz.underlying22 hi hz0 hz1 hz2 rfl (by decide) v xs.length (flat encB xs) hown
      a ys.length c (flat encB ys) (flat_len encB_len ys) (fun j u hj => by
        have hlt : j < ys.length * 5 := by have := (List.getElem?_eq_some_iff.1 hj).1; rwa [flat_len encB_len] at this
        have hq : j / 5 < ys.length := by omega
        have hjm : j = j / 5 * 5 + j % 5 := by omega
        rw [hjm, flat_at encB_len _ _ _ hq (Nat.mod_lt _ (by decide))] at hj
        obtain ⟨b, o, e, _, hcc⟩ := hcell (by omega)
        obtain rfl : a = ⟨b, o, none⟩ := Option.some.inj e
        rw [add_plain, hjm, ← Nat.add_assoc]
        exact hcc _ hq _ _ hj) (fun u hu => by
        obtain ⟨y, _, hu2⟩ := List.mem_flatMap.1 hu
        exact encB_one y u hu2) (by simp only [maxLen]; omega) (by omega) hB
    refine ⟨v', w', hr, ?_, (Below.refl B W).grown h3 hB (fun k hk => (hown.lt k hk).1), h3⟩
    unfold OwnB
    rw [List.length_append, flat_append]
    exact h2
/-- A list of the call's own, as a block. -/
theorem ownB_blk {B : Nat} {w : World} {v : Value} {l : List Ban} (h : OwnB B w v l) (h0 : 0 < l.length) : ∃ g cap R, v = .slice (some ⟨g, 0, none⟩) l.length cap ∧ B ≤ g ∧ l.length ≤ cap ∧ Blk w g 40 (flat encB l ++ R) := by
  rcases h.2 with ⟨_, h1⟩ | ⟨g, cap, cur, rfl, h1, h2, h3, h4, h5, h6⟩
  · omega
  · refine ⟨g, cap, cur.toList.drop (l.length * 5), rfl, h1, h3, ?_⟩
    rw [← h6, List.take_append_drop]
    unfold Blk
    rw [h2, Array.toArray_toList]
abbrev SRA (b : Ban) (w w9 w' : World) : Prop := w'.cell? ⟨w.heap.size, 0, none⟩ = some (.bool b.n.a.v6) ∧ w'.cell? ⟨w.heap.size, 1, none⟩ = some (.int .u64 b.n.a.hi) ∧ w'.cell? ⟨w.heap.size, 2, none⟩ = some (.int .u64 b.n.a.lo) ∧ w'.cell? ⟨w.heap.size, 3, none⟩ = some (.int .i64 b.n.n) ∧ w'.cell? ⟨w.heap.size, 4, none⟩ = some (.int .i64 b.t) ∧ Below (w.heap.size + 1) w9 w'
theorem flat_set1 (t : Int) : ∀ (D : List Ban) (i : Nat) (h : i < D.length), (flat encB D).set (i * 5 + 4) (.int .i64 t) = flat encB (D.set i ⟨D[i].n, t⟩)
  | [], i, h => by simp at h
  | d :: D, 0, _ => rfl
  | d :: D, i + 1, h => by
    have e : ∀ (d : Ban) (D : List Ban), flat encB (d :: D) = encB d ++ flat encB D := fun d D => by unfold flat; rw [List.flatMap_cons]
    have ih := flat_set1 t D i (by simpa using h)
    rw [List.set_cons_succ, e, e, show (i + 1) * 5 + 4 = 5 + (i * 5 + 4) by omega, List.set_append_right _ _ (by rw [encB_len]; omega), encB_len, Nat.add_sub_cancel_left, ih]
    simp
set_option maxHeartbeats 8000000 in
theorem radd_any (v : Value) (l : List Ban) (b : Ban) (most : Int) (w : World) (h : Bans w v l) (hl : l.length ≤ 400000) (hok : ∀ x ∈ l, x.ok) (hbo : b.ok) :
    Calls Tryz.prog 18 #[v, .agg #[.bool b.n.a.v6, .int .u64 b.n.a.hi, .int .u64 b.n.a.lo, .int .i64 b.n.n, .int .i64 b.t], .int .i64 most] w fun e w' => ∃ u, e = .returned (.tuple #[u, .int .i64 (addL l b most).2]) ∧ Bans w' u (addL l b most).1 ∧ Below w.heap.size w w' := by
  have LOW : Below w.heap.size w (w.alloc (.cells #[.bool b.n.a.v6, .int .u64 b.n.a.hi, .int .u64 b.n.a.lo, .int .i64 b.n.n, .int .i64 b.t] 40)) := (Below.refl _ _).alloc (Nat.le_refl _) _
  have K1 := Lib.hid (rrightB_any b (w.alloc (.cells #[.bool b.n.a.v6, .int .u64 b.n.a.hi, .int .u64 b.n.a.lo, .int .i64 b.n.n, .int .i64 b.t] 40)) hbo)
  have b0 : (w.alloc (.cells #[.bool b.n.a.v6, .int .u64 b.n.a.hi, .int .u64 b.n.a.lo, .int .i64 b.n.n, .int .i64 b.t] 40)).cell? ⟨w.heap.size, 0, none⟩ = some (.bool b.n.a.v6) := cell_at _ _ _ 0 _ rfl
  have b1 : (w.alloc (.cells #[.bool b.n.a.v6, .int .u64 b.n.a.hi, .int .u64 b.n.a.lo, .int .i64 b.n.n, .int .i64 b.t] 40)).cell? ⟨w.heap.size, 1, none⟩ = some (.int .u64 b.n.a.hi) := cell_at _ _ _ 1 _ rfl
  have b2 : (w.alloc (.cells #[.bool b.n.a.v6, .int .u64 b.n.a.hi, .int .u64 b.n.a.lo, .int .i64 b.n.n, .int .i64 b.t] 40)).cell? ⟨w.heap.size, 2, none⟩ = some (.int .u64 b.n.a.lo) := cell_at _ _ _ 2 _ rfl
  have b3 : (w.alloc (.cells #[.bool b.n.a.v6, .int .u64 b.n.a.hi, .int .u64 b.n.a.lo, .int .i64 b.n.n, .int .i64 b.t] 40)).cell? ⟨w.heap.size, 3, none⟩ = some (.int .i64 b.n.n) := cell_at _ _ _ 3 _ rfl
  have b4 : (w.alloc (.cells #[.bool b.n.a.v6, .int .u64 b.n.a.hi, .int .u64 b.n.a.lo, .int .i64 b.n.n, .int .i64 b.t] 40)).cell? ⟨w.heap.size, 4, none⟩ = some (.int .i64 b.t) := cell_at _ _ _ 4 _ rfl
  have HV := Lib.hid h
  obtain ⟨A, c, rfl, hc, hnil, hcell⟩ := h
  cases hr : rightB b
  · have E : Hid (addL l b most = ([], 1)) := Lib.hid (addL_wrong hr)
    rw [hr] at K1
    clear hcell hnil
    go_enter Tryz.func18, Tryz.ntmps18
    go_wp2_with fail
    refine K1.out.mono ?_
    rintro e w1 ⟨rfl, hb1⟩
    have HL : Hid (Below w.heap.size w w1) := Lib.hid (LOW.trans (hb1.mono (by simp)))
    clear hb1
    go_wp2_with fail
    exact bodyPost_ret (v := .tuple #[.slice none 0 0, .int .i64 1]) (by simp [results, Tryz.results18, go_sem]) rfl ⟨_, by rw [E.out], by rw [E.out]; exact Recs.nil _ _ _, HL.out⟩
  · rw [hr] at K1
    have KF := Lib.hid (fun w1 (hb1 : Below (w.alloc (.cells #[.bool b.n.a.v6, .int .u64 b.n.a.hi, .int .u64 b.n.a.lo, .int .i64 b.n.n, .int .i64 b.t] 40)).heap.size (w.alloc (.cells #[.bool b.n.a.v6, .int .u64 b.n.a.hi, .int .u64 b.n.a.lo, .int .i64 b.n.n, .int .i64 b.t] 40)) w1) => rindex_any _ l b.n w1 (HV.out.below (LOW.trans (hb1.mono (by simp)))) (by omega))
    by_cases hi : ix l b.n < l.length
    · have E : Hid (addL l b most = (l.set (ix l b.n) (joinB l[ix l b.n] b), 0)) := Lib.hid (addL_join hr hi)
      have hsame := ix_same hi
      have E2 : ixI l b.n = (ix l b.n : Int) := by unfold ixI; rw [if_pos hi]
      rw [E2] at KF
      clear E2 hr hcell hnil
      generalize ix l b.n = i at *
      go_enter Tryz.func18, Tryz.ntmps18
      go_wp2_with fail
      refine K1.out.mono ?_
      rintro e w1 ⟨rfl, hb1⟩
      have q0 := cells_left hb1 b0
      have q1 := cells_left hb1 b1
      have q2 := cells_left hb1 b2
      have q3 := cells_left hb1 b3
      have q4 := cells_left hb1 b4
      clear b0 b1 b2 b3 b4
      have KF1 := Lib.hid (KF.out w1 hb1)
      go_wp2_with fail
      refine KF1.out.mono ?_
      rintro e w2 ⟨rfl, hb2⟩
      have p0 := cells_left hb2 q0
      have p1 := cells_left hb2 q1
      have p2 := cells_left hb2 q2
      have p3 := cells_left hb2 q3
      have p4 := cells_left hb2 q4
      clear q0 q1 q2 q3 q4
      have hb2' := low_trans hb1 hb2
      have hlow := LOW.trans (hb2'.mono (by simp))
      have hsz2 : w.heap.size + 1 ≤ w2.heap.size := by have := hb2'.size; simpa using this
      have HL := Lib.hid hlow
      have KA : Hid (∃ v1 w1, (Builtin.append_ #[22, 22] 22 #[.slice (some ⟨w2.heap.size, 0, none⟩) 0 0, .slice A l.length c]).run Tryz.prog (w2.alloc (.cells #[] 40)) = .ok v1 w1 ∧ (OwnB (w.heap.size + 1) w1 v1 l ∧ Below (w.heap.size + 1) w2 w1)) := Lib.hid (by
        have hlw := (Below.refl w2.heap.size w2).alloc (Nat.le_refl _) (.cells #[] 40)
        obtain ⟨v1, w1, h1, h2, h3, _⟩ := append_bans2 (own_lit w2 hsz2) (HV.out.below (hlow.trans (hlw.mono hlow.size))) (by simp; omega) (Nat.le_trans hsz2 hlw.size)
        exact ⟨v1, w1, h1, h2, (hlw.mono hsz2).trans h3⟩)
      clear hb1 hb2 hb2' hlow
      go_wp2_with (first
        | (at_builtin; refine wpList_append_ex rfl (.tmp 21) (.tmp 22) _ _ rfl rfl _ _ rfl rfl KA.out ?_; rintro v1 w3 ⟨ho3, hb3⟩
           obtain ⟨g, cap, R, rfl, hgB, hcap, hB3⟩ := ownB_blk ho3 (by omega)
           have HB3 := Lib.hid hB3
           have HL3 : Hid (Below (w.heap.size + 1) w2 w3) := Lib.hid hb3
           have e0 : w3.cell? ⟨w.heap.size, 4, none⟩ = some (.int .i64 b.t) := (Below.cell (p := ⟨w.heap.size, 4, none⟩) hb3 (by simp)).trans p4
           have e1 : w3.cell? ⟨g, i * 5 + 4, none⟩ = some (.int .i64 l[i].t) := hB3.cell (by rw [List.getElem?_append_left (by rw [flat_len encB_len]; omega), flat_at encB_len _ _ _ hi (by decide)]; rfl)
           have hlt : (i : Int) < (l.length : Int) := by omega
           clear hb3 hB3 ho3 p0 p1 p2 p3 p4)
        | fail)
      by_cases hbt : l[i].t < b.t
      · have EJ : Hid (joinB l[i] b = ⟨l[i].n, b.t⟩) := Lib.hid (by rw [joinB_max, if_pos ((sameN_iff _ _).2 hsame)]; exact ban_eq rfl (by simp only; omega))
        have hne : Nonempty (Cls (Stays (w3))) := ⟨⟨_, Below.refl _ _⟩⟩
        have f0 : ∀ q : Cls (Stays (w3)), q.w.cell? ⟨w.heap.size, 4, none⟩ = some (.int .i64 b.t) := fun q => cells_left q.h (e0)
        have f1 : ∀ q : Cls (Stays (w3)), q.w.cell? ⟨g, i * 5 + 4, none⟩ = some (.int .i64 l[i].t) := fun q => cells_left q.h (e1)
        refine Cls.region (Stays (w3)) (by kernel_rfl) (by kernel_rfl) (low_drewN (Below.refl _ _) 1) ?_
        repeat (go_big_quiet_step (first | fail))
        refine wpQuiet_nil ?_
        intro n9
        have hs9 := n9.h
        generalize n9.w = w9 at hs9 ⊢
        clear hne n9 f0 f1
        have HB9 : Hid (Blk w9 g 40 (flat encB l ++ R)) := Lib.hid (HB3.out.on hs9)
        have HL9 : Hid (Below (w.heap.size + 1) w2 w9) := Lib.hid (HL3.out.trans (hs9.mono (Nat.le_trans hsz2 HL3.out.size)))
        have m0 := cells_left hs9 e0
        have m1 := cells_left hs9 e1
        have m2 : w9.frozen? ⟨g, i * 5 + 4, none⟩ = false := HB9.out.free _
        clear e0 e1 hs9
        go_wp2_with fail
        exact bodyPost_ret (v := .tuple #[.slice (some ⟨g, 0, none⟩) l.length cap, .int .i64 0]) (by simp [results, Tryz.results18, go_sem]) rfl ⟨_, by rw [E.out], by
          rw [E.out, EJ.out]
          have h1 := HB9.out.set (i * 5 + 4) (.int .i64 b.t)
          rw [List.set_append_left _ _ (by rw [flat_len encB_len]; omega), flat_set1 b.t l i hi] at h1
          exact h1.reads encB_len (by rw [List.take_append_of_le_length (by rw [flat_len encB_len]; simp), List.take_of_length_le (by rw [flat_len encB_len]; simp)]) (by simp) hcap, HL.out.trans (((Bt.setCell w9 g (i * 5 + 4) _).below HL9.out hgB (Nat.le_trans hsz2 HL9.out.size)).mono (by omega))⟩
      · have EJ : Hid (joinB l[i] b = l[i]) := Lib.hid (by rw [joinB_max, if_pos ((sameN_iff _ _).2 hsame)]; exact ban_eq rfl (by simp only; omega))
        have hne : Nonempty (Cls (Stays (w3))) := ⟨⟨_, Below.refl _ _⟩⟩
        have f0 : ∀ q : Cls (Stays (w3)), q.w.cell? ⟨w.heap.size, 4, none⟩ = some (.int .i64 b.t) := fun q => cells_left q.h (e0)
        have f1 : ∀ q : Cls (Stays (w3)), q.w.cell? ⟨g, i * 5 + 4, none⟩ = some (.int .i64 l[i].t) := fun q => cells_left q.h (e1)
        refine Cls.region (Stays (w3)) (by kernel_rfl) (by kernel_rfl) (low_drewN (Below.refl _ _) 1) ?_
        repeat (go_big_quiet_step (first | fail))
        refine wpQuiet_nil ?_
        intro n9
        have hs9 := n9.h
        generalize n9.w = w9 at hs9 ⊢
        clear hne n9 f0 f1
        have HB9 : Hid (Blk w9 g 40 (flat encB l ++ R)) := Lib.hid (HB3.out.on hs9)
        have HL9 : Hid (Below (w.heap.size + 1) w2 w9) := Lib.hid (HL3.out.trans (hs9.mono (Nat.le_trans hsz2 HL3.out.size)))
        clear e0 e1 hs9
        go_wp2_with fail
        exact bodyPost_ret (v := .tuple #[.slice (some ⟨g, 0, none⟩) l.length cap, .int .i64 0]) (by simp [results, Tryz.results18, go_sem]) rfl ⟨_, by rw [E.out], by
          rw [E.out, EJ.out, List.set_getElem_self]
          exact HB9.out.reads encB_len (by rw [List.take_append_of_le_length (by rw [flat_len encB_len]; omega), List.take_of_length_le (by rw [flat_len encB_len]; omega)]) rfl hcap, HL.out.trans (HL9.out.mono (by omega))⟩
    · have E2 : ixI l b.n = -1 := by unfold ixI; rw [if_neg hi]
      rw [E2] at KF
      clear E2
      by_cases hm : most ≤ (l.length : Int)
      · have E : Hid (addL l b most = ([], 5)) := Lib.hid (addL_full hr hi hm)
        clear hr hi hcell hnil
        go_enter Tryz.func18, Tryz.ntmps18
        go_wp2_with fail
        refine K1.out.mono ?_
        rintro e w1 ⟨rfl, hb1⟩
        have q0 := cells_left hb1 b0
        have q1 := cells_left hb1 b1
        have q2 := cells_left hb1 b2
        have q3 := cells_left hb1 b3
        have q4 := cells_left hb1 b4
        clear b0 b1 b2 b3 b4
        have KF1 := Lib.hid (KF.out w1 hb1)
        go_wp2_with fail
        refine KF1.out.mono ?_
        rintro e w2 ⟨rfl, hb2⟩
        have HL : Hid (Below w.heap.size w w2) := Lib.hid (LOW.trans ((low_trans hb1 hb2).mono (by simp)))
        clear hb1 hb2
        go_wp2_with fail
        exact bodyPost_ret (v := .tuple #[.slice none 0 0, .int .i64 5]) (by simp [results, Tryz.results18, go_sem]) rfl ⟨_, by rw [E.out], by rw [E.out]; exact Recs.nil _ _ _, HL.out⟩
      · have E : Hid (addL l b most = (putB l b, 0)) := Lib.hid (addL_put hr hi hm)
        have HC := Lib.hid hcell
        have HN := Lib.hid hnil
        clear hr hi hcell hnil
        go_enter Tryz.func18, Tryz.ntmps18
        go_wp2_with fail
        refine K1.out.mono ?_
        rintro e w1 ⟨rfl, hb1⟩
        have q0 := cells_left hb1 b0
        have q1 := cells_left hb1 b1
        have q2 := cells_left hb1 b2
        have q3 := cells_left hb1 b3
        have q4 := cells_left hb1 b4
        clear b0 b1 b2 b3 b4
        have KF1 := Lib.hid (KF.out w1 hb1)
        go_wp2_with fail
        refine KF1.out.mono ?_
        rintro e w2 ⟨rfl, hb2⟩
        have p0 := cells_left hb2 q0
        have p1 := cells_left hb2 q1
        have p2 := cells_left hb2 q2
        have p3 := cells_left hb2 q3
        have p4 := cells_left hb2 q4
        clear q0 q1 q2 q3 q4
        have hb2' := low_trans hb1 hb2
        have hlow := LOW.trans (hb2'.mono (by simp))
        have hsz2 : w.heap.size + 1 ≤ w2.heap.size := by have := hb2'.size; simpa using this
        have HL := Lib.hid hlow
        clear hb1 hb2 hb2' hlow
        go_wp2_with fail
        go_loopw [10] (fun ai wr => ∃ k : Nat, k ≤ l.length ∧ ai = .int .i64 k ∧ Hid (∀ i (h : i < l.length), i < k → cmpN l[i].n b.n ≤ 0) ∧ Stays w2 wr) (fun ai _ => l.length - (intOf ai).toNat)
        case atStart => exact ⟨0, Nat.zero_le _, rfl, Lib.hid (fun _ _ h => absurd h (Nat.not_lt_zero _)), Below.refl _ _⟩
        case round =>
          obtain ⟨k, hk, rfl, HM, hs⟩ := hrel
          by_cases hlt : k < l.length
          · obtain ⟨b', o, rfl, hb, hcc⟩ := HC.out (by omega)
            have hlow : Below w.heap.size w wr := HL.out.trans (hs.mono HL.out.size)
            obtain ⟨c0, c1, c2, c3, _⟩ := bans_at (fun i h j u hu => (hlow.cell (p := ⟨b', o + i * 5 + j, none⟩) hb).trans (hcc i h j u hu)) hlt
            have hxo := hok _ (List.getElem_mem hlt)
            have s0 := cells_left hs p0
            have s1 := cells_left hs p1
            have s2 := cells_left hs p2
            have s3 := cells_left hs p3
            have s4 := cells_left hs p4
            have hd : decide ((k : Int) < (l.length : Int)) = true := decide_eq_true (by omega)
            clear hcc hlow
            by_cases hcmp : cmpN l[k].n b.n ≤ 0
            · have hcd := decide_eq_true hcmp
              have HM2 : Hid (∀ i (h : i < l.length), i < k + 1 → cmpN l[i].n b.n ≤ 0) := Lib.hid fun i h hi => by
                rcases Nat.lt_succ_iff_lt_or_eq.1 hi with h2 | rfl
                · exact HM.out i h h2
                · exact hcmp
              clear hcmp
              generalize l[k] = x at *
              have KC : Hid (∀ W0, Stays (wr) W0 → Calls Tryz.prog 26 #[.agg #[.bool x.n.a.v6, .int .u64 x.n.a.hi, .int .u64 x.n.a.lo, .int .i64 x.n.n], .agg #[.bool b.n.a.v6, .int .u64 b.n.a.hi, .int .u64 b.n.a.lo, .int .i64 b.n.n]] W0 fun e w' => e = .returned (.int .i64 (cmpN x.n b.n)) ∧ Stays (wr) w') := Lib.hid (Tr.keep_call fun W0 => rcompareN_any x.n b.n W0 hxo.1 hbo.1)
              clear hxo
              go_wp2_with fail
              have hne : Nonempty (Cls (Stays (wr))) := ⟨⟨_, Below.refl _ _⟩⟩
              have f0 : ∀ q : Cls (Stays (wr)), q.w.cell? ⟨b', o + k * 5, none⟩ = some (.bool x.n.a.v6) := fun q => cells_left q.h (c0)
              have f1 : ∀ q : Cls (Stays (wr)), q.w.cell? ⟨b', o + k * 5 + 1, none⟩ = some (.int .u64 x.n.a.hi) := fun q => cells_left q.h (c1)
              have f2 : ∀ q : Cls (Stays (wr)), q.w.cell? ⟨b', o + k * 5 + 2, none⟩ = some (.int .u64 x.n.a.lo) := fun q => cells_left q.h (c2)
              have f3 : ∀ q : Cls (Stays (wr)), q.w.cell? ⟨b', o + k * 5 + 3, none⟩ = some (.int .i64 x.n.n) := fun q => cells_left q.h (c3)
              have f4 : ∀ q : Cls (Stays (wr)), q.w.cell? ⟨w.heap.size, 0, none⟩ = some (.bool b.n.a.v6) := fun q => cells_left q.h (s0)
              have f5 : ∀ q : Cls (Stays (wr)), q.w.cell? ⟨w.heap.size, 1, none⟩ = some (.int .u64 b.n.a.hi) := fun q => cells_left q.h (s1)
              have f6 : ∀ q : Cls (Stays (wr)), q.w.cell? ⟨w.heap.size, 2, none⟩ = some (.int .u64 b.n.a.lo) := fun q => cells_left q.h (s2)
              have f7 : ∀ q : Cls (Stays (wr)), q.w.cell? ⟨w.heap.size, 3, none⟩ = some (.int .i64 b.n.n) := fun q => cells_left q.h (s3)
              refine Cls.region (Stays (wr)) (by kernel_rfl) (by kernel_rfl) (low_drewN (Below.refl _ _) 1) ?_
              repeat (go_big_quiet_step (first | fail | (with_reducible exact Cls.call (KC.out _ (Cls.h _)))))
              refine wpQuiet_nil ?_
              intro n9
              have hs9 := n9.h
              generalize n9.w = w9 at hs9 ⊢
              clear hne n9 f0 f1 f2 f3 f4 f5 f6 f7
              have HS2 := Lib.hid (low_trans hs hs9)
              clear hs9 hs c0 c1 c2 c3 s0 s1 s2 s3 s4 KC
              go_wp2_with fail
              go_roundw
              case rel => exact ⟨k + 1, by omega, by go_num, HM2, HS2.out⟩
              case measure => simp [intOf]; omega
            · have hcd := decide_eq_false hcmp
              have hspot : spot l b.n = k := spot_at hk HM.out (fun _ => by omega)
              clear hcmp
              generalize hx : l[k] = x at *
              clear hx
              have KC : Hid (∀ W0, Stays (wr) W0 → Calls Tryz.prog 26 #[.agg #[.bool x.n.a.v6, .int .u64 x.n.a.hi, .int .u64 x.n.a.lo, .int .i64 x.n.n], .agg #[.bool b.n.a.v6, .int .u64 b.n.a.hi, .int .u64 b.n.a.lo, .int .i64 b.n.n]] W0 fun e w' => e = .returned (.int .i64 (cmpN x.n b.n)) ∧ Stays (wr) w') := Lib.hid (Tr.keep_call fun W0 => rcompareN_any x.n b.n W0 hxo.1 hbo.1)
              clear hxo
              go_wp2_with fail
              have hne : Nonempty (Cls (Stays (wr))) := ⟨⟨_, Below.refl _ _⟩⟩
              have f0 : ∀ q : Cls (Stays (wr)), q.w.cell? ⟨b', o + k * 5, none⟩ = some (.bool x.n.a.v6) := fun q => cells_left q.h (c0)
              have f1 : ∀ q : Cls (Stays (wr)), q.w.cell? ⟨b', o + k * 5 + 1, none⟩ = some (.int .u64 x.n.a.hi) := fun q => cells_left q.h (c1)
              have f2 : ∀ q : Cls (Stays (wr)), q.w.cell? ⟨b', o + k * 5 + 2, none⟩ = some (.int .u64 x.n.a.lo) := fun q => cells_left q.h (c2)
              have f3 : ∀ q : Cls (Stays (wr)), q.w.cell? ⟨b', o + k * 5 + 3, none⟩ = some (.int .i64 x.n.n) := fun q => cells_left q.h (c3)
              have f4 : ∀ q : Cls (Stays (wr)), q.w.cell? ⟨w.heap.size, 0, none⟩ = some (.bool b.n.a.v6) := fun q => cells_left q.h (s0)
              have f5 : ∀ q : Cls (Stays (wr)), q.w.cell? ⟨w.heap.size, 1, none⟩ = some (.int .u64 b.n.a.hi) := fun q => cells_left q.h (s1)
              have f6 : ∀ q : Cls (Stays (wr)), q.w.cell? ⟨w.heap.size, 2, none⟩ = some (.int .u64 b.n.a.lo) := fun q => cells_left q.h (s2)
              have f7 : ∀ q : Cls (Stays (wr)), q.w.cell? ⟨w.heap.size, 3, none⟩ = some (.int .i64 b.n.n) := fun q => cells_left q.h (s3)
              refine Cls.region (Stays (wr)) (by kernel_rfl) (by kernel_rfl) (low_drewN (Below.refl _ _) 1) ?_
              repeat (go_big_quiet_step (first | fail | (with_reducible exact Cls.call (KC.out _ (Cls.h _)))))
              refine wpQuiet_nil ?_
              intro n9
              have hs9 := n9.h
              generalize n9.w = w9 at hs9 ⊢
              clear hne n9 f0 f1 f2 f3 f4 f5 f6 f7
              have HS9 := Lib.hid (low_trans hs hs9)
              clear hs9 hs c0 c1 c2 c3 s0 s1 s2 s3 s4 KC hd hcd
              by_cases hce : c = k
              · omega
              · have HR9 : Hid (∀ W, Bans W (.slice (some ⟨b', o, none⟩) l.length c) l → Bans W (.slice (some ⟨b', o + k * 5, none⟩) (l.length - k) (c - k)) (l.drop k)) := Lib.hid fun W hW => hW.rest (by omega)
                have g1 : ¬ (c = k) := hce
                have g2 : (k : Int) ≤ (c : Int) := by omega
                have g3 : (k : Int) ≤ (l.length : Int) := by omega
                have HL9 : Hid (Below w.heap.size w w9) := Lib.hid (HL.out.trans (HS9.out.mono HL.out.size))
                have hsz9 : w.heap.size + 1 ≤ w9.heap.size := Nat.le_trans hsz2 HS9.out.size
                have r0 := cells_left HS9.out p0
                have r1 := cells_left HS9.out p1
                have r2 := cells_left HS9.out p2
                have r3 := cells_left HS9.out p3
                have r4 := cells_left HS9.out p4
                have IN : ∀ W, Below (w.heap.size + 1) w9 W → SRA b w w9 W := fun W h => ⟨Below.cell (p := ⟨w.heap.size, 0, none⟩) h (by simp) |>.trans r0, Below.cell (p := ⟨w.heap.size, 1, none⟩) h (by simp) |>.trans r1, Below.cell (p := ⟨w.heap.size, 2, none⟩) h (by simp) |>.trans r2, Below.cell (p := ⟨w.heap.size, 3, none⟩) h (by simp) |>.trans r3, Below.cell (p := ⟨w.heap.size, 4, none⟩) h (by simp) |>.trans r4, h⟩
                have HV9 : Hid (∀ W, Below (w.heap.size + 1) w9 W → Bans W (.slice (some ⟨b', o, none⟩) l.length c) l) := Lib.hid fun W h => HV.out.below (HL9.out.trans (h.mono (by omega)))
                have JD : Hid (∀ W, SRA b w w9 W → SRA b w w9 W.drew) := Lib.hid fun W h => IN _ (low_drewN h.2.2.2.2.2 1)
                have JA : Hid (∀ W o, SRA b w w9 W → SRA b w w9 (W.alloc o)) := Lib.hid fun W o h => IN _ (Below.alloc h.2.2.2.2.2 (Nat.le_trans hsz9 (Below.size h.2.2.2.2.2)) o)
                have KA1 : Hid (∀ W g, SRA b w w9 W → OwnB (w.heap.size + 1) W (.slice (some ⟨g, 0, none⟩) 0 0) [] → ∃ v1 w1, (Builtin.append_ #[22, 22] 22 #[.slice (some ⟨g, 0, none⟩) 0 0, .slice (some ⟨b', o, none⟩) k c]).run Tryz.prog W = .ok v1 w1 ∧ (OwnB (w.heap.size + 1) w1 v1 (l.take k) ∧ W.grownBy w1 (some g) ∧ SRA b w w9 w1)) := Lib.hid fun W g h ho => by
                  obtain ⟨v1, w1, h1, h2, h3, h4⟩ := append_bans2 ho ((HV9.out W h.2.2.2.2.2).part (i := k) (by omega)) (by first | (simp; done) | (simp; omega)) (Nat.le_trans hsz9 (Below.size h.2.2.2.2.2))
                  exact ⟨v1, w1, h1, h2, h4, IN _ (h.2.2.2.2.2.trans h3)⟩
                have KA2 : Hid (∀ W v vb, SRA b w w9 W → OwnB (w.heap.size + 1) W v (l.take k) → Bans W (.slice (some ⟨vb, 0, none⟩) 1 1) [b] → ∃ v1 w1, (Builtin.append_ #[22, 22] 22 #[v, .slice (some ⟨vb, 0, none⟩) 1 1]).run Tryz.prog W = .ok v1 w1 ∧ (OwnB (w.heap.size + 1) w1 v1 (l.take k ++ [b]) ∧ SRA b w w9 w1)) := Lib.hid fun W v vb h ho hb => by
                  obtain ⟨v1, w1, h1, h2, h3, _⟩ := append_bans2 ho hb (by first | (simp; done) | (simp; omega)) (Nat.le_trans hsz9 (Below.size h.2.2.2.2.2))
                  exact ⟨v1, w1, h1, h2, IN _ (h.2.2.2.2.2.trans h3)⟩
                have KA3 : Hid (∀ W v, SRA b w w9 W → OwnB (w.heap.size + 1) W v (l.take k ++ [b]) → ∃ v1 w1, (Builtin.append_ #[22, 22] 22 #[v, .slice (some ⟨b', o + k * 5, none⟩) (l.length - k) (c - k)]).run Tryz.prog W = .ok v1 w1 ∧ (Bans w1 v1 (l.take k ++ [b] ++ l.drop k) ∧ SRA b w w9 w1)) := Lib.hid fun W v h ho => by
                  obtain ⟨v1, w1, h1, h2, h3, _⟩ := append_bans2 ho (HR9.out W (HV9.out W h.2.2.2.2.2)) (by first | (simp; done) | (simp; omega)) (Nat.le_trans hsz9 (Below.size h.2.2.2.2.2))
                  exact ⟨v1, w1, h1, ownB_recs h2, IN _ (h.2.2.2.2.2.trans h3)⟩
                have hk9 : SRA b w w9 w9 := IN _ (Below.refl _ _)
                have HP : Hid (putB l b = l.take k ++ [b] ++ l.drop k) := Lib.hid (by unfold putB; rw [hspot, List.append_assoc]; rfl)
                clear IN p0 p1 p2 p3 p4 hspot
                have hsz1 : w.heap.size < w9.heap.size := by omega
                go_wp2_with fail
                go_region_held3 (fun w' => w'.cell? ⟨w.heap.size, 0, none⟩ = some (.bool b.n.a.v6) ∧ w'.cell? ⟨w.heap.size, 1, none⟩ = some (.int .u64 b.n.a.hi) ∧ w'.cell? ⟨w.heap.size, 2, none⟩ = some (.int .u64 b.n.a.lo) ∧ w'.cell? ⟨w.heap.size, 3, none⟩ = some (.int .i64 b.n.n) ∧ w'.cell? ⟨w.heap.size, 4, none⟩ = some (.int .i64 b.t) ∧ Below (w.heap.size + 1) w9 w')
                  (first | assumption | exact JD.out _ ‹_› | exact JA.out _ _ ‹_›)
                  (first
                  | (refine step_append_ex rfl (.tmp 60) (.tmp 63) _ _ rfl rfl _ _ (by first | (simp [Act.eval]; done) | (simp [Act.eval]; rfl)) (by first | (simp [Act.eval]; done) | (simp [Act.eval]; rfl)) (KA1.out _ _ ‹_› (by first | exact World.ownsRow.drew (own_lit w9 hsz9) | exact World.ownsRow.drew ((own_lit w9 hsz9).alloc _) | exact World.ownsRow.drew (own_lit1 w9 _ hsz9))) ?_; rintro v1 w3 ⟨ho1, hg1, hk1⟩)
                  | (refine step_append_ex rfl (.tmp 64) (.tmp 66) _ _ rfl rfl _ _ (by first | (simp [Act.eval]; done) | (simp [Act.eval]; rfl)) (by first | (simp [Act.eval]; done) | (simp [Act.eval]; rfl)) (KA2.out _ _ _ ‹_› (by first | exact ho1 | exact ho1.alloc _) (by first | exact ban_lit _ b | (exact Recs.grown (bans_drew (ban_lit1 w9 _ b)) hg1 (by simp)) | (exact Recs.grown (bans_drew ((ban_lit w9 b).below ((Below.refl _ _).alloc (Nat.le_refl _) _))) hg1 (by simp)))) ?_; rintro v2 w4 ⟨ho2, hk4⟩))
                all_goals
                  go_wp2_with (first
                    | (at_builtin; refine wpList_append_ex rfl (.tmp 68) (.tmp 71) _ _ rfl rfl _ _ rfl rfl (KA3.out _ _ ‹_› ho2) ?_; rintro v3 w5 ⟨hR5, hk5⟩)
                    | fail)
                  exact bodyPost_ret (v := .tuple #[v3, .int .i64 0]) (by simp [results, Tryz.results18, go_sem]) rfl ⟨_, by rw [E.out], by rw [E.out, HP.out]; exact hR5, HL9.out.trans (hk5.2.2.2.2.2.mono (by omega))⟩
          · have HS0 : Hid (∀ i (h : i < l.length), i < k → cmpN l[i].n b.n ≤ 0) := HM
            have hd : decide ((k : Int) < (l.length : Int)) = false := decide_eq_false (by omega)
            have s0 := cells_left hs p0
            have s1 := cells_left hs p1
            have s2 := cells_left hs p2
            have s3 := cells_left hs p3
            have s4 := cells_left hs p4
            by_cases h0 : 0 < l.length
            · obtain ⟨b', o, rfl, -, -⟩ := HC.out h0
              obtain rfl : k = l.length := by omega
              have hspot : spot l b.n = l.length := spot_at (Nat.le_refl _) (fun i h _ => HS0.out i h h) (fun h => absurd h (Nat.lt_irrefl _))
              go_wp2_with fail
              have hne : Nonempty (Cls (Stays (wr))) := ⟨⟨_, Below.refl _ _⟩⟩
              refine Cls.region (Stays (wr)) (by kernel_rfl) (by kernel_rfl) (low_drewN (Below.refl _ _) 1) ?_
              repeat (go_big_quiet_step (first | fail))
              refine wpQuiet_nil ?_
              intro n9
              have hs9 := n9.h
              generalize n9.w = w9 at hs9 ⊢
              clear hne n9
              have HS9 := Lib.hid (low_trans hs hs9)
              clear hs9 hs s0 s1 s2 s3 s4 hd
              by_cases hce : c = l.length
              · subst hce
                have HR9 : Hid (∀ W, Bans W (.slice (some ⟨b', o, none⟩) l.length l.length) l → Bans W (.slice (some ⟨b', o, none⟩) 0 0) (l.drop l.length)) := Lib.hid fun W _ => by
                  rw [show l.drop l.length = [] from List.drop_of_length_le (by omega)]
                  exact Recs.void 5 encB W _ (fun h => by cases h)
                have HL9 : Hid (Below w.heap.size w w9) := Lib.hid (HL.out.trans (HS9.out.mono HL.out.size))
                have hsz9 : w.heap.size + 1 ≤ w9.heap.size := Nat.le_trans hsz2 HS9.out.size
                have r0 := cells_left HS9.out p0
                have r1 := cells_left HS9.out p1
                have r2 := cells_left HS9.out p2
                have r3 := cells_left HS9.out p3
                have r4 := cells_left HS9.out p4
                have IN : ∀ W, Below (w.heap.size + 1) w9 W → SRA b w w9 W := fun W h => ⟨Below.cell (p := ⟨w.heap.size, 0, none⟩) h (by simp) |>.trans r0, Below.cell (p := ⟨w.heap.size, 1, none⟩) h (by simp) |>.trans r1, Below.cell (p := ⟨w.heap.size, 2, none⟩) h (by simp) |>.trans r2, Below.cell (p := ⟨w.heap.size, 3, none⟩) h (by simp) |>.trans r3, Below.cell (p := ⟨w.heap.size, 4, none⟩) h (by simp) |>.trans r4, h⟩
                have HV9 : Hid (∀ W, Below (w.heap.size + 1) w9 W → Bans W (.slice (some ⟨b', o, none⟩) l.length l.length) l) := Lib.hid fun W h => HV.out.below (HL9.out.trans (h.mono (by omega)))
                have JD : Hid (∀ W, SRA b w w9 W → SRA b w w9 W.drew) := Lib.hid fun W h => IN _ (low_drewN h.2.2.2.2.2 1)
                have JA : Hid (∀ W o, SRA b w w9 W → SRA b w w9 (W.alloc o)) := Lib.hid fun W o h => IN _ (Below.alloc h.2.2.2.2.2 (Nat.le_trans hsz9 (Below.size h.2.2.2.2.2)) o)
                have KA1 : Hid (∀ W g, SRA b w w9 W → OwnB (w.heap.size + 1) W (.slice (some ⟨g, 0, none⟩) 0 0) [] → ∃ v1 w1, (Builtin.append_ #[22, 22] 22 #[.slice (some ⟨g, 0, none⟩) 0 0, .slice (some ⟨b', o, none⟩) l.length l.length]).run Tryz.prog W = .ok v1 w1 ∧ (OwnB (w.heap.size + 1) w1 v1 (l.take l.length) ∧ W.grownBy w1 (some g) ∧ SRA b w w9 w1)) := Lib.hid fun W g h ho => by
                  obtain ⟨v1, w1, h1, h2, h3, h4⟩ := append_bans2 ho ((HV9.out W h.2.2.2.2.2).part (i := l.length) (by omega)) (by first | (simp; done) | (simp; omega)) (Nat.le_trans hsz9 (Below.size h.2.2.2.2.2))
                  exact ⟨v1, w1, h1, h2, h4, IN _ (h.2.2.2.2.2.trans h3)⟩
                have KA2 : Hid (∀ W v vb, SRA b w w9 W → OwnB (w.heap.size + 1) W v (l.take l.length) → Bans W (.slice (some ⟨vb, 0, none⟩) 1 1) [b] → ∃ v1 w1, (Builtin.append_ #[22, 22] 22 #[v, .slice (some ⟨vb, 0, none⟩) 1 1]).run Tryz.prog W = .ok v1 w1 ∧ (OwnB (w.heap.size + 1) w1 v1 (l.take l.length ++ [b]) ∧ SRA b w w9 w1)) := Lib.hid fun W v vb h ho hb => by
                  obtain ⟨v1, w1, h1, h2, h3, _⟩ := append_bans2 ho hb (by first | (simp; done) | (simp; omega)) (Nat.le_trans hsz9 (Below.size h.2.2.2.2.2))
                  exact ⟨v1, w1, h1, h2, IN _ (h.2.2.2.2.2.trans h3)⟩
                have KA3 : Hid (∀ W v, SRA b w w9 W → OwnB (w.heap.size + 1) W v (l.take l.length ++ [b]) → ∃ v1 w1, (Builtin.append_ #[22, 22] 22 #[v, .slice (some ⟨b', o, none⟩) 0 0]).run Tryz.prog W = .ok v1 w1 ∧ (Bans w1 v1 (l.take l.length ++ [b] ++ l.drop l.length) ∧ SRA b w w9 w1)) := Lib.hid fun W v h ho => by
                  obtain ⟨v1, w1, h1, h2, h3, _⟩ := append_bans2 ho (HR9.out W (HV9.out W h.2.2.2.2.2)) (by first | (simp; done) | (simp; omega)) (Nat.le_trans hsz9 (Below.size h.2.2.2.2.2))
                  exact ⟨v1, w1, h1, ownB_recs h2, IN _ (h.2.2.2.2.2.trans h3)⟩
                have hk9 : SRA b w w9 w9 := IN _ (Below.refl _ _)
                have HP : Hid (putB l b = l.take l.length ++ [b] ++ l.drop l.length) := Lib.hid (by unfold putB; rw [hspot, List.append_assoc]; rfl)
                clear IN p0 p1 p2 p3 p4 hspot
                have hsz1 : w.heap.size < w9.heap.size := by omega
                go_wp2_with fail
                go_region_held3 (fun w' => w'.cell? ⟨w.heap.size, 0, none⟩ = some (.bool b.n.a.v6) ∧ w'.cell? ⟨w.heap.size, 1, none⟩ = some (.int .u64 b.n.a.hi) ∧ w'.cell? ⟨w.heap.size, 2, none⟩ = some (.int .u64 b.n.a.lo) ∧ w'.cell? ⟨w.heap.size, 3, none⟩ = some (.int .i64 b.n.n) ∧ w'.cell? ⟨w.heap.size, 4, none⟩ = some (.int .i64 b.t) ∧ Below (w.heap.size + 1) w9 w')
                  (first | assumption | exact JD.out _ ‹_› | exact JA.out _ _ ‹_›)
                  (first
                  | (refine step_append_ex rfl (.tmp 60) (.tmp 63) _ _ rfl rfl _ _ (by first | (simp [Act.eval]; done) | (simp [Act.eval]; rfl)) (by first | (simp [Act.eval]; done) | (simp [Act.eval]; rfl)) (KA1.out _ _ ‹_› (by first | exact World.ownsRow.drew (own_lit w9 hsz9) | exact World.ownsRow.drew ((own_lit w9 hsz9).alloc _) | exact World.ownsRow.drew (own_lit1 w9 _ hsz9))) ?_; rintro v1 w3 ⟨ho1, hg1, hk1⟩)
                  | (refine step_append_ex rfl (.tmp 64) (.tmp 66) _ _ rfl rfl _ _ (by first | (simp [Act.eval]; done) | (simp [Act.eval]; rfl)) (by first | (simp [Act.eval]; done) | (simp [Act.eval]; rfl)) (KA2.out _ _ _ ‹_› (by first | exact ho1 | exact ho1.alloc _) (by first | exact ban_lit _ b | (exact Recs.grown (bans_drew (ban_lit1 w9 _ b)) hg1 (by simp)) | (exact Recs.grown (bans_drew ((ban_lit w9 b).below ((Below.refl _ _).alloc (Nat.le_refl _) _))) hg1 (by simp)))) ?_; rintro v2 w4 ⟨ho2, hk4⟩))
                all_goals
                  go_wp2_with (first
                    | (at_builtin; refine wpList_append_ex rfl (.tmp 68) (.tmp 71) _ _ rfl rfl _ _ rfl rfl (KA3.out _ _ ‹_› ho2) ?_; rintro v3 w5 ⟨hR5, hk5⟩)
                    | fail)
                  exact bodyPost_ret (v := .tuple #[v3, .int .i64 0]) (by simp [results, Tryz.results18, go_sem]) rfl ⟨_, by rw [E.out], by rw [E.out, HP.out]; exact hR5, HL9.out.trans (hk5.2.2.2.2.2.mono (by omega))⟩
              · have HR9 : Hid (∀ W, Bans W (.slice (some ⟨b', o, none⟩) l.length c) l → Bans W (.slice (some ⟨b', o + l.length * 5, none⟩) 0 (c - l.length)) (l.drop l.length)) := Lib.hid fun W _ => by
                  rw [show l.drop l.length = [] from List.drop_of_length_le (by omega)]
                  exact Recs.void 5 encB W _ (fun h => by cases h)
                have g1 : ¬ (c = l.length) := hce
                have g2 : (l.length : Int) ≤ (c : Int) := by omega
                have HL9 : Hid (Below w.heap.size w w9) := Lib.hid (HL.out.trans (HS9.out.mono HL.out.size))
                have hsz9 : w.heap.size + 1 ≤ w9.heap.size := Nat.le_trans hsz2 HS9.out.size
                have r0 := cells_left HS9.out p0
                have r1 := cells_left HS9.out p1
                have r2 := cells_left HS9.out p2
                have r3 := cells_left HS9.out p3
                have r4 := cells_left HS9.out p4
                have IN : ∀ W, Below (w.heap.size + 1) w9 W → SRA b w w9 W := fun W h => ⟨Below.cell (p := ⟨w.heap.size, 0, none⟩) h (by simp) |>.trans r0, Below.cell (p := ⟨w.heap.size, 1, none⟩) h (by simp) |>.trans r1, Below.cell (p := ⟨w.heap.size, 2, none⟩) h (by simp) |>.trans r2, Below.cell (p := ⟨w.heap.size, 3, none⟩) h (by simp) |>.trans r3, Below.cell (p := ⟨w.heap.size, 4, none⟩) h (by simp) |>.trans r4, h⟩
                have HV9 : Hid (∀ W, Below (w.heap.size + 1) w9 W → Bans W (.slice (some ⟨b', o, none⟩) l.length c) l) := Lib.hid fun W h => HV.out.below (HL9.out.trans (h.mono (by omega)))
                have JD : Hid (∀ W, SRA b w w9 W → SRA b w w9 W.drew) := Lib.hid fun W h => IN _ (low_drewN h.2.2.2.2.2 1)
                have JA : Hid (∀ W o, SRA b w w9 W → SRA b w w9 (W.alloc o)) := Lib.hid fun W o h => IN _ (Below.alloc h.2.2.2.2.2 (Nat.le_trans hsz9 (Below.size h.2.2.2.2.2)) o)
                have KA1 : Hid (∀ W g, SRA b w w9 W → OwnB (w.heap.size + 1) W (.slice (some ⟨g, 0, none⟩) 0 0) [] → ∃ v1 w1, (Builtin.append_ #[22, 22] 22 #[.slice (some ⟨g, 0, none⟩) 0 0, .slice (some ⟨b', o, none⟩) l.length c]).run Tryz.prog W = .ok v1 w1 ∧ (OwnB (w.heap.size + 1) w1 v1 (l.take l.length) ∧ W.grownBy w1 (some g) ∧ SRA b w w9 w1)) := Lib.hid fun W g h ho => by
                  obtain ⟨v1, w1, h1, h2, h3, h4⟩ := append_bans2 ho ((HV9.out W h.2.2.2.2.2).part (i := l.length) (by omega)) (by first | (simp; done) | (simp; omega)) (Nat.le_trans hsz9 (Below.size h.2.2.2.2.2))
                  exact ⟨v1, w1, h1, h2, h4, IN _ (h.2.2.2.2.2.trans h3)⟩
                have KA2 : Hid (∀ W v vb, SRA b w w9 W → OwnB (w.heap.size + 1) W v (l.take l.length) → Bans W (.slice (some ⟨vb, 0, none⟩) 1 1) [b] → ∃ v1 w1, (Builtin.append_ #[22, 22] 22 #[v, .slice (some ⟨vb, 0, none⟩) 1 1]).run Tryz.prog W = .ok v1 w1 ∧ (OwnB (w.heap.size + 1) w1 v1 (l.take l.length ++ [b]) ∧ SRA b w w9 w1)) := Lib.hid fun W v vb h ho hb => by
                  obtain ⟨v1, w1, h1, h2, h3, _⟩ := append_bans2 ho hb (by first | (simp; done) | (simp; omega)) (Nat.le_trans hsz9 (Below.size h.2.2.2.2.2))
                  exact ⟨v1, w1, h1, h2, IN _ (h.2.2.2.2.2.trans h3)⟩
                have KA3 : Hid (∀ W v, SRA b w w9 W → OwnB (w.heap.size + 1) W v (l.take l.length ++ [b]) → ∃ v1 w1, (Builtin.append_ #[22, 22] 22 #[v, .slice (some ⟨b', o + l.length * 5, none⟩) 0 (c - l.length)]).run Tryz.prog W = .ok v1 w1 ∧ (Bans w1 v1 (l.take l.length ++ [b] ++ l.drop l.length) ∧ SRA b w w9 w1)) := Lib.hid fun W v h ho => by
                  obtain ⟨v1, w1, h1, h2, h3, _⟩ := append_bans2 ho (HR9.out W (HV9.out W h.2.2.2.2.2)) (by first | (simp; done) | (simp; omega)) (Nat.le_trans hsz9 (Below.size h.2.2.2.2.2))
                  exact ⟨v1, w1, h1, ownB_recs h2, IN _ (h.2.2.2.2.2.trans h3)⟩
                have hk9 : SRA b w w9 w9 := IN _ (Below.refl _ _)
                have HP : Hid (putB l b = l.take l.length ++ [b] ++ l.drop l.length) := Lib.hid (by unfold putB; rw [hspot, List.append_assoc]; rfl)
                clear IN p0 p1 p2 p3 p4 hspot
                have hsz1 : w.heap.size < w9.heap.size := by omega
                go_wp2_with fail
                go_region_held3 (fun w' => w'.cell? ⟨w.heap.size, 0, none⟩ = some (.bool b.n.a.v6) ∧ w'.cell? ⟨w.heap.size, 1, none⟩ = some (.int .u64 b.n.a.hi) ∧ w'.cell? ⟨w.heap.size, 2, none⟩ = some (.int .u64 b.n.a.lo) ∧ w'.cell? ⟨w.heap.size, 3, none⟩ = some (.int .i64 b.n.n) ∧ w'.cell? ⟨w.heap.size, 4, none⟩ = some (.int .i64 b.t) ∧ Below (w.heap.size + 1) w9 w')
                  (first | assumption | exact JD.out _ ‹_› | exact JA.out _ _ ‹_›)
                  (first
                  | (refine step_append_ex rfl (.tmp 60) (.tmp 63) _ _ rfl rfl _ _ (by first | (simp [Act.eval]; done) | (simp [Act.eval]; rfl)) (by first | (simp [Act.eval]; done) | (simp [Act.eval]; rfl)) (KA1.out _ _ ‹_› (by first | exact World.ownsRow.drew (own_lit w9 hsz9) | exact World.ownsRow.drew ((own_lit w9 hsz9).alloc _) | exact World.ownsRow.drew (own_lit1 w9 _ hsz9))) ?_; rintro v1 w3 ⟨ho1, hg1, hk1⟩)
                  | (refine step_append_ex rfl (.tmp 64) (.tmp 66) _ _ rfl rfl _ _ (by first | (simp [Act.eval]; done) | (simp [Act.eval]; rfl)) (by first | (simp [Act.eval]; done) | (simp [Act.eval]; rfl)) (KA2.out _ _ _ ‹_› (by first | exact ho1 | exact ho1.alloc _) (by first | exact ban_lit _ b | (exact Recs.grown (bans_drew (ban_lit1 w9 _ b)) hg1 (by simp)) | (exact Recs.grown (bans_drew ((ban_lit w9 b).below ((Below.refl _ _).alloc (Nat.le_refl _) _))) hg1 (by simp)))) ?_; rintro v2 w4 ⟨ho2, hk4⟩))
                all_goals
                  go_wp2_with (first
                    | (at_builtin; refine wpList_append_ex rfl (.tmp 68) (.tmp 71) _ _ rfl rfl _ _ rfl rfl (KA3.out _ _ ‹_› ho2) ?_; rintro v3 w5 ⟨hR5, hk5⟩)
                    | fail)
                  exact bodyPost_ret (v := .tuple #[v3, .int .i64 0]) (by simp [results, Tryz.results18, go_sem]) rfl ⟨_, by rw [E.out], by rw [E.out, HP.out]; exact hR5, HL9.out.trans (hk5.2.2.2.2.2.mono (by omega))⟩
            · have hz : l.length = 0 := by omega
              obtain rfl : k = 0 := by omega
              have hspot : spot l b.n = 0 := by have := spot_le l b.n; omega
              rw [hz] at HV
              cases A with
              | none =>
                obtain rfl := HN.out rfl
                clear HC HN
                go_wp2_with fail
                have hne : Nonempty (Cls (Stays (wr))) := ⟨⟨_, Below.refl _ _⟩⟩
                refine Cls.region (Stays (wr)) (by kernel_rfl) (by kernel_rfl) (low_drewN (Below.refl _ _) 1) ?_
                repeat (go_big_quiet_step (first | fail))
                refine wpQuiet_nil ?_
                intro n9
                have hs9 := n9.h
                generalize n9.w = w9 at hs9 ⊢
                clear hne n9
                have HS9 := Lib.hid (low_trans hs hs9)
                clear hs9 hs s0 s1 s2 s3 s4 hd
                have HR9 : Hid (∀ W, Bans W (.slice none 0 0) l → Bans W (.slice none 0 0) (l.drop 0)) := Lib.hid fun W _ => by
                  rw [show l.drop 0 = [] from List.drop_of_length_le (by omega)]
                  exact Recs.void 5 encB W _ (fun _ => rfl)
                have HL9 : Hid (Below w.heap.size w w9) := Lib.hid (HL.out.trans (HS9.out.mono HL.out.size))
                have hsz9 : w.heap.size + 1 ≤ w9.heap.size := Nat.le_trans hsz2 HS9.out.size
                have r0 := cells_left HS9.out p0
                have r1 := cells_left HS9.out p1
                have r2 := cells_left HS9.out p2
                have r3 := cells_left HS9.out p3
                have r4 := cells_left HS9.out p4
                have IN : ∀ W, Below (w.heap.size + 1) w9 W → SRA b w w9 W := fun W h => ⟨Below.cell (p := ⟨w.heap.size, 0, none⟩) h (by simp) |>.trans r0, Below.cell (p := ⟨w.heap.size, 1, none⟩) h (by simp) |>.trans r1, Below.cell (p := ⟨w.heap.size, 2, none⟩) h (by simp) |>.trans r2, Below.cell (p := ⟨w.heap.size, 3, none⟩) h (by simp) |>.trans r3, Below.cell (p := ⟨w.heap.size, 4, none⟩) h (by simp) |>.trans r4, h⟩
                have HV9 : Hid (∀ W, Below (w.heap.size + 1) w9 W → Bans W (.slice none 0 0) l) := Lib.hid fun W h => HV.out.below (HL9.out.trans (h.mono (by omega)))
                have JD : Hid (∀ W, SRA b w w9 W → SRA b w w9 W.drew) := Lib.hid fun W h => IN _ (low_drewN h.2.2.2.2.2 1)
                have JA : Hid (∀ W o, SRA b w w9 W → SRA b w w9 (W.alloc o)) := Lib.hid fun W o h => IN _ (Below.alloc h.2.2.2.2.2 (Nat.le_trans hsz9 (Below.size h.2.2.2.2.2)) o)
                have KA1 : Hid (∀ W g, SRA b w w9 W → OwnB (w.heap.size + 1) W (.slice (some ⟨g, 0, none⟩) 0 0) [] → ∃ v1 w1, (Builtin.append_ #[22, 22] 22 #[.slice (some ⟨g, 0, none⟩) 0 0, .slice none 0 0]).run Tryz.prog W = .ok v1 w1 ∧ (OwnB (w.heap.size + 1) w1 v1 (l.take 0) ∧ W.grownBy w1 (some g) ∧ SRA b w w9 w1)) := Lib.hid fun W g h ho => by
                  obtain ⟨v1, w1, h1, h2, h3, h4⟩ := append_bans2 ho ((HV9.out W h.2.2.2.2.2).part (i := 0) (by omega)) (by first | (simp; done) | (simp; omega)) (Nat.le_trans hsz9 (Below.size h.2.2.2.2.2))
                  exact ⟨v1, w1, h1, h2, h4, IN _ (h.2.2.2.2.2.trans h3)⟩
                have KA2 : Hid (∀ W v vb, SRA b w w9 W → OwnB (w.heap.size + 1) W v (l.take 0) → Bans W (.slice (some ⟨vb, 0, none⟩) 1 1) [b] → ∃ v1 w1, (Builtin.append_ #[22, 22] 22 #[v, .slice (some ⟨vb, 0, none⟩) 1 1]).run Tryz.prog W = .ok v1 w1 ∧ (OwnB (w.heap.size + 1) w1 v1 (l.take 0 ++ [b]) ∧ SRA b w w9 w1)) := Lib.hid fun W v vb h ho hb => by
                  obtain ⟨v1, w1, h1, h2, h3, _⟩ := append_bans2 ho hb (by first | (simp; done) | (simp; omega)) (Nat.le_trans hsz9 (Below.size h.2.2.2.2.2))
                  exact ⟨v1, w1, h1, h2, IN _ (h.2.2.2.2.2.trans h3)⟩
                have KA3 : Hid (∀ W v, SRA b w w9 W → OwnB (w.heap.size + 1) W v (l.take 0 ++ [b]) → ∃ v1 w1, (Builtin.append_ #[22, 22] 22 #[v, .slice none 0 0]).run Tryz.prog W = .ok v1 w1 ∧ (Bans w1 v1 (l.take 0 ++ [b] ++ l.drop 0) ∧ SRA b w w9 w1)) := Lib.hid fun W v h ho => by
                  obtain ⟨v1, w1, h1, h2, h3, _⟩ := append_bans2 ho (HR9.out W (HV9.out W h.2.2.2.2.2)) (by first | (simp; done) | (simp; omega)) (Nat.le_trans hsz9 (Below.size h.2.2.2.2.2))
                  exact ⟨v1, w1, h1, ownB_recs h2, IN _ (h.2.2.2.2.2.trans h3)⟩
                have hk9 : SRA b w w9 w9 := IN _ (Below.refl _ _)
                have HP : Hid (putB l b = l.take 0 ++ [b] ++ l.drop 0) := Lib.hid (by unfold putB; rw [hspot, List.append_assoc]; rfl)
                clear IN p0 p1 p2 p3 p4 hspot
                have hsz1 : w.heap.size < w9.heap.size := by omega
                go_wp2_with fail
                go_region_held3 (fun w' => w'.cell? ⟨w.heap.size, 0, none⟩ = some (.bool b.n.a.v6) ∧ w'.cell? ⟨w.heap.size, 1, none⟩ = some (.int .u64 b.n.a.hi) ∧ w'.cell? ⟨w.heap.size, 2, none⟩ = some (.int .u64 b.n.a.lo) ∧ w'.cell? ⟨w.heap.size, 3, none⟩ = some (.int .i64 b.n.n) ∧ w'.cell? ⟨w.heap.size, 4, none⟩ = some (.int .i64 b.t) ∧ Below (w.heap.size + 1) w9 w')
                  (first | assumption | exact JD.out _ ‹_› | exact JA.out _ _ ‹_›)
                  (first
                  | (refine step_append_ex rfl (.tmp 60) (.tmp 63) _ _ rfl rfl _ _ (by first | (simp [Act.eval]; done) | (simp [Act.eval]; rfl)) (by first | (simp [Act.eval]; done) | (simp [Act.eval]; rfl)) (KA1.out _ _ ‹_› (by first | exact World.ownsRow.drew (own_lit w9 hsz9) | exact World.ownsRow.drew ((own_lit w9 hsz9).alloc _) | exact World.ownsRow.drew (own_lit1 w9 _ hsz9))) ?_; rintro v1 w3 ⟨ho1, hg1, hk1⟩)
                  | (refine step_append_ex rfl (.tmp 64) (.tmp 66) _ _ rfl rfl _ _ (by first | (simp [Act.eval]; done) | (simp [Act.eval]; rfl)) (by first | (simp [Act.eval]; done) | (simp [Act.eval]; rfl)) (KA2.out _ _ _ ‹_› (by first | exact ho1 | exact ho1.alloc _) (by first | exact ban_lit _ b | (exact Recs.grown (bans_drew (ban_lit1 w9 _ b)) hg1 (by simp)) | (exact Recs.grown (bans_drew ((ban_lit w9 b).below ((Below.refl _ _).alloc (Nat.le_refl _) _))) hg1 (by simp)))) ?_; rintro v2 w4 ⟨ho2, hk4⟩))
                all_goals
                  go_wp2_with (first
                    | (at_builtin; refine wpList_append_ex rfl (.tmp 68) (.tmp 71) _ _ rfl rfl _ _ rfl rfl (KA3.out _ _ ‹_› ho2) ?_; rintro v3 w5 ⟨hR5, hk5⟩)
                    | fail)
                  exact bodyPost_ret (v := .tuple #[v3, .int .i64 0]) (by simp [results, Tryz.results18, go_sem]) rfl ⟨_, by rw [E.out], by rw [E.out, HP.out]; exact hR5, HL9.out.trans (hk5.2.2.2.2.2.mono (by omega))⟩
              | some a =>
                clear HC HN
                go_wp2_with fail
                have hne : Nonempty (Cls (Stays (wr))) := ⟨⟨_, Below.refl _ _⟩⟩
                refine Cls.region (Stays (wr)) (by kernel_rfl) (by kernel_rfl) (low_drewN (Below.refl _ _) 1) ?_
                repeat (go_big_quiet_step (first | fail))
                refine wpQuiet_nil ?_
                intro n9
                have hs9 := n9.h
                generalize n9.w = w9 at hs9 ⊢
                clear hne n9
                have HS9 := Lib.hid (low_trans hs hs9)
                clear hs9 hs s0 s1 s2 s3 s4 hd
                by_cases hce : c = 0
                · subst hce
                  have HR9 : Hid (∀ W, Bans W (.slice (some a) 0 0) l → Bans W (.slice (some a) 0 0) (l.drop 0)) := Lib.hid fun W _ => by
                    rw [show l.drop 0 = [] from List.drop_of_length_le (by omega)]
                    exact Recs.void 5 encB W _ (fun h => by cases h)
                  have HL9 : Hid (Below w.heap.size w w9) := Lib.hid (HL.out.trans (HS9.out.mono HL.out.size))
                  have hsz9 : w.heap.size + 1 ≤ w9.heap.size := Nat.le_trans hsz2 HS9.out.size
                  have r0 := cells_left HS9.out p0
                  have r1 := cells_left HS9.out p1
                  have r2 := cells_left HS9.out p2
                  have r3 := cells_left HS9.out p3
                  have r4 := cells_left HS9.out p4
                  have IN : ∀ W, Below (w.heap.size + 1) w9 W → SRA b w w9 W := fun W h => ⟨Below.cell (p := ⟨w.heap.size, 0, none⟩) h (by simp) |>.trans r0, Below.cell (p := ⟨w.heap.size, 1, none⟩) h (by simp) |>.trans r1, Below.cell (p := ⟨w.heap.size, 2, none⟩) h (by simp) |>.trans r2, Below.cell (p := ⟨w.heap.size, 3, none⟩) h (by simp) |>.trans r3, Below.cell (p := ⟨w.heap.size, 4, none⟩) h (by simp) |>.trans r4, h⟩
                  have HV9 : Hid (∀ W, Below (w.heap.size + 1) w9 W → Bans W (.slice (some a) 0 0) l) := Lib.hid fun W h => HV.out.below (HL9.out.trans (h.mono (by omega)))
                  have JD : Hid (∀ W, SRA b w w9 W → SRA b w w9 W.drew) := Lib.hid fun W h => IN _ (low_drewN h.2.2.2.2.2 1)
                  have JA : Hid (∀ W o, SRA b w w9 W → SRA b w w9 (W.alloc o)) := Lib.hid fun W o h => IN _ (Below.alloc h.2.2.2.2.2 (Nat.le_trans hsz9 (Below.size h.2.2.2.2.2)) o)
                  have KA1 : Hid (∀ W g, SRA b w w9 W → OwnB (w.heap.size + 1) W (.slice (some ⟨g, 0, none⟩) 0 0) [] → ∃ v1 w1, (Builtin.append_ #[22, 22] 22 #[.slice (some ⟨g, 0, none⟩) 0 0, .slice (some a) 0 0]).run Tryz.prog W = .ok v1 w1 ∧ (OwnB (w.heap.size + 1) w1 v1 (l.take 0) ∧ W.grownBy w1 (some g) ∧ SRA b w w9 w1)) := Lib.hid fun W g h ho => by
                    obtain ⟨v1, w1, h1, h2, h3, h4⟩ := append_bans2 ho ((HV9.out W h.2.2.2.2.2).part (i := 0) (by omega)) (by first | (simp; done) | (simp; omega)) (Nat.le_trans hsz9 (Below.size h.2.2.2.2.2))
                    exact ⟨v1, w1, h1, h2, h4, IN _ (h.2.2.2.2.2.trans h3)⟩
                  have KA2 : Hid (∀ W v vb, SRA b w w9 W → OwnB (w.heap.size + 1) W v (l.take 0) → Bans W (.slice (some ⟨vb, 0, none⟩) 1 1) [b] → ∃ v1 w1, (Builtin.append_ #[22, 22] 22 #[v, .slice (some ⟨vb, 0, none⟩) 1 1]).run Tryz.prog W = .ok v1 w1 ∧ (OwnB (w.heap.size + 1) w1 v1 (l.take 0 ++ [b]) ∧ SRA b w w9 w1)) := Lib.hid fun W v vb h ho hb => by
                    obtain ⟨v1, w1, h1, h2, h3, _⟩ := append_bans2 ho hb (by first | (simp; done) | (simp; omega)) (Nat.le_trans hsz9 (Below.size h.2.2.2.2.2))
                    exact ⟨v1, w1, h1, h2, IN _ (h.2.2.2.2.2.trans h3)⟩
                  have KA3 : Hid (∀ W v, SRA b w w9 W → OwnB (w.heap.size + 1) W v (l.take 0 ++ [b]) → ∃ v1 w1, (Builtin.append_ #[22, 22] 22 #[v, .slice (some a) 0 0]).run Tryz.prog W = .ok v1 w1 ∧ (Bans w1 v1 (l.take 0 ++ [b] ++ l.drop 0) ∧ SRA b w w9 w1)) := Lib.hid fun W v h ho => by
                    obtain ⟨v1, w1, h1, h2, h3, _⟩ := append_bans2 ho (HR9.out W (HV9.out W h.2.2.2.2.2)) (by first | (simp; done) | (simp; omega)) (Nat.le_trans hsz9 (Below.size h.2.2.2.2.2))
                    exact ⟨v1, w1, h1, ownB_recs h2, IN _ (h.2.2.2.2.2.trans h3)⟩
                  have hk9 : SRA b w w9 w9 := IN _ (Below.refl _ _)
                  have HP : Hid (putB l b = l.take 0 ++ [b] ++ l.drop 0) := Lib.hid (by unfold putB; rw [hspot, List.append_assoc]; rfl)
                  clear IN p0 p1 p2 p3 p4 hspot
                  have hsz1 : w.heap.size < w9.heap.size := by omega
                  go_wp2_with fail
                  go_region_held3 (fun w' => w'.cell? ⟨w.heap.size, 0, none⟩ = some (.bool b.n.a.v6) ∧ w'.cell? ⟨w.heap.size, 1, none⟩ = some (.int .u64 b.n.a.hi) ∧ w'.cell? ⟨w.heap.size, 2, none⟩ = some (.int .u64 b.n.a.lo) ∧ w'.cell? ⟨w.heap.size, 3, none⟩ = some (.int .i64 b.n.n) ∧ w'.cell? ⟨w.heap.size, 4, none⟩ = some (.int .i64 b.t) ∧ Below (w.heap.size + 1) w9 w')
                    (first | assumption | exact JD.out _ ‹_› | exact JA.out _ _ ‹_›)
                    (first
                    | (refine step_append_ex rfl (.tmp 60) (.tmp 63) _ _ rfl rfl _ _ (by first | (simp [Act.eval]; done) | (simp [Act.eval]; rfl)) (by first | (simp [Act.eval]; done) | (simp [Act.eval]; rfl)) (KA1.out _ _ ‹_› (by first | exact World.ownsRow.drew (own_lit w9 hsz9) | exact World.ownsRow.drew ((own_lit w9 hsz9).alloc _) | exact World.ownsRow.drew (own_lit1 w9 _ hsz9))) ?_; rintro v1 w3 ⟨ho1, hg1, hk1⟩)
                    | (refine step_append_ex rfl (.tmp 64) (.tmp 66) _ _ rfl rfl _ _ (by first | (simp [Act.eval]; done) | (simp [Act.eval]; rfl)) (by first | (simp [Act.eval]; done) | (simp [Act.eval]; rfl)) (KA2.out _ _ _ ‹_› (by first | exact ho1 | exact ho1.alloc _) (by first | exact ban_lit _ b | (exact Recs.grown (bans_drew (ban_lit1 w9 _ b)) hg1 (by simp)) | (exact Recs.grown (bans_drew ((ban_lit w9 b).below ((Below.refl _ _).alloc (Nat.le_refl _) _))) hg1 (by simp)))) ?_; rintro v2 w4 ⟨ho2, hk4⟩))
                  all_goals
                    go_wp2_with (first
                      | (at_builtin; refine wpList_append_ex rfl (.tmp 68) (.tmp 71) _ _ rfl rfl _ _ rfl rfl (KA3.out _ _ ‹_› ho2) ?_; rintro v3 w5 ⟨hR5, hk5⟩)
                      | fail)
                    exact bodyPost_ret (v := .tuple #[v3, .int .i64 0]) (by simp [results, Tryz.results18, go_sem]) rfl ⟨_, by rw [E.out], by rw [E.out, HP.out]; exact hR5, HL9.out.trans (hk5.2.2.2.2.2.mono (by omega))⟩
                · have HR9 : Hid (∀ W, Bans W (.slice (some a) 0 c) l → Bans W (.slice (some a) 0 c) (l.drop 0)) := Lib.hid fun W _ => by
                    rw [show l.drop 0 = [] from List.drop_of_length_le (by omega)]
                    exact Recs.void 5 encB W _ (fun h => by cases h)
                  have g1 : ¬ (c = 0) := hce
                  have HL9 : Hid (Below w.heap.size w w9) := Lib.hid (HL.out.trans (HS9.out.mono HL.out.size))
                  have hsz9 : w.heap.size + 1 ≤ w9.heap.size := Nat.le_trans hsz2 HS9.out.size
                  have r0 := cells_left HS9.out p0
                  have r1 := cells_left HS9.out p1
                  have r2 := cells_left HS9.out p2
                  have r3 := cells_left HS9.out p3
                  have r4 := cells_left HS9.out p4
                  have IN : ∀ W, Below (w.heap.size + 1) w9 W → SRA b w w9 W := fun W h => ⟨Below.cell (p := ⟨w.heap.size, 0, none⟩) h (by simp) |>.trans r0, Below.cell (p := ⟨w.heap.size, 1, none⟩) h (by simp) |>.trans r1, Below.cell (p := ⟨w.heap.size, 2, none⟩) h (by simp) |>.trans r2, Below.cell (p := ⟨w.heap.size, 3, none⟩) h (by simp) |>.trans r3, Below.cell (p := ⟨w.heap.size, 4, none⟩) h (by simp) |>.trans r4, h⟩
                  have HV9 : Hid (∀ W, Below (w.heap.size + 1) w9 W → Bans W (.slice (some a) 0 c) l) := Lib.hid fun W h => HV.out.below (HL9.out.trans (h.mono (by omega)))
                  have JD : Hid (∀ W, SRA b w w9 W → SRA b w w9 W.drew) := Lib.hid fun W h => IN _ (low_drewN h.2.2.2.2.2 1)
                  have JA : Hid (∀ W o, SRA b w w9 W → SRA b w w9 (W.alloc o)) := Lib.hid fun W o h => IN _ (Below.alloc h.2.2.2.2.2 (Nat.le_trans hsz9 (Below.size h.2.2.2.2.2)) o)
                  have KA1 : Hid (∀ W g, SRA b w w9 W → OwnB (w.heap.size + 1) W (.slice (some ⟨g, 0, none⟩) 0 0) [] → ∃ v1 w1, (Builtin.append_ #[22, 22] 22 #[.slice (some ⟨g, 0, none⟩) 0 0, .slice (some a) 0 c]).run Tryz.prog W = .ok v1 w1 ∧ (OwnB (w.heap.size + 1) w1 v1 (l.take 0) ∧ W.grownBy w1 (some g) ∧ SRA b w w9 w1)) := Lib.hid fun W g h ho => by
                    obtain ⟨v1, w1, h1, h2, h3, h4⟩ := append_bans2 ho ((HV9.out W h.2.2.2.2.2).part (i := 0) (by omega)) (by first | (simp; done) | (simp; omega)) (Nat.le_trans hsz9 (Below.size h.2.2.2.2.2))
                    exact ⟨v1, w1, h1, h2, h4, IN _ (h.2.2.2.2.2.trans h3)⟩
                  have KA2 : Hid (∀ W v vb, SRA b w w9 W → OwnB (w.heap.size + 1) W v (l.take 0) → Bans W (.slice (some ⟨vb, 0, none⟩) 1 1) [b] → ∃ v1 w1, (Builtin.append_ #[22, 22] 22 #[v, .slice (some ⟨vb, 0, none⟩) 1 1]).run Tryz.prog W = .ok v1 w1 ∧ (OwnB (w.heap.size + 1) w1 v1 (l.take 0 ++ [b]) ∧ SRA b w w9 w1)) := Lib.hid fun W v vb h ho hb => by
                    obtain ⟨v1, w1, h1, h2, h3, _⟩ := append_bans2 ho hb (by first | (simp; done) | (simp; omega)) (Nat.le_trans hsz9 (Below.size h.2.2.2.2.2))
                    exact ⟨v1, w1, h1, h2, IN _ (h.2.2.2.2.2.trans h3)⟩
                  have KA3 : Hid (∀ W v, SRA b w w9 W → OwnB (w.heap.size + 1) W v (l.take 0 ++ [b]) → ∃ v1 w1, (Builtin.append_ #[22, 22] 22 #[v, .slice (some a) 0 c]).run Tryz.prog W = .ok v1 w1 ∧ (Bans w1 v1 (l.take 0 ++ [b] ++ l.drop 0) ∧ SRA b w w9 w1)) := Lib.hid fun W v h ho => by
                    obtain ⟨v1, w1, h1, h2, h3, _⟩ := append_bans2 ho (HR9.out W (HV9.out W h.2.2.2.2.2)) (by first | (simp; done) | (simp; omega)) (Nat.le_trans hsz9 (Below.size h.2.2.2.2.2))
                    exact ⟨v1, w1, h1, ownB_recs h2, IN _ (h.2.2.2.2.2.trans h3)⟩
                  have hk9 : SRA b w w9 w9 := IN _ (Below.refl _ _)
                  have HP : Hid (putB l b = l.take 0 ++ [b] ++ l.drop 0) := Lib.hid (by unfold putB; rw [hspot, List.append_assoc]; rfl)
                  clear IN p0 p1 p2 p3 p4 hspot
                  have hsz1 : w.heap.size < w9.heap.size := by omega
                  go_wp2_with fail
                  go_region_held3 (fun w' => w'.cell? ⟨w.heap.size, 0, none⟩ = some (.bool b.n.a.v6) ∧ w'.cell? ⟨w.heap.size, 1, none⟩ = some (.int .u64 b.n.a.hi) ∧ w'.cell? ⟨w.heap.size, 2, none⟩ = some (.int .u64 b.n.a.lo) ∧ w'.cell? ⟨w.heap.size, 3, none⟩ = some (.int .i64 b.n.n) ∧ w'.cell? ⟨w.heap.size, 4, none⟩ = some (.int .i64 b.t) ∧ Below (w.heap.size + 1) w9 w')
                    (first | assumption | exact JD.out _ ‹_› | exact JA.out _ _ ‹_›)
                    (first
                    | (refine step_append_ex rfl (.tmp 60) (.tmp 63) _ _ rfl rfl _ _ (by first | (simp [Act.eval]; done) | (simp [Act.eval]; rfl)) (by first | (simp [Act.eval]; done) | (simp [Act.eval]; rfl)) (KA1.out _ _ ‹_› (by first | exact World.ownsRow.drew (own_lit w9 hsz9) | exact World.ownsRow.drew ((own_lit w9 hsz9).alloc _) | exact World.ownsRow.drew (own_lit1 w9 _ hsz9))) ?_; rintro v1 w3 ⟨ho1, hg1, hk1⟩)
                    | (refine step_append_ex rfl (.tmp 64) (.tmp 66) _ _ rfl rfl _ _ (by first | (simp [Act.eval]; done) | (simp [Act.eval]; rfl)) (by first | (simp [Act.eval]; done) | (simp [Act.eval]; rfl)) (KA2.out _ _ _ ‹_› (by first | exact ho1 | exact ho1.alloc _) (by first | exact ban_lit _ b | (exact Recs.grown (bans_drew (ban_lit1 w9 _ b)) hg1 (by simp)) | (exact Recs.grown (bans_drew ((ban_lit w9 b).below ((Below.refl _ _).alloc (Nat.le_refl _) _))) hg1 (by simp)))) ?_; rintro v2 w4 ⟨ho2, hk4⟩))
                  all_goals
                    go_wp2_with (first
                      | (at_builtin; refine wpList_append_ex rfl (.tmp 68) (.tmp 71) _ _ rfl rfl _ _ rfl rfl (KA3.out _ _ ‹_› ho2) ?_; rintro v3 w5 ⟨hR5, hk5⟩)
                      | fail)
                    exact bodyPost_ret (v := .tuple #[v3, .int .i64 0]) (by simp [results, Tryz.results18, go_sem]) rfl ⟨_, by rw [E.out], by rw [E.out, HP.out]; exact hR5, HL9.out.trans (hk5.2.2.2.2.2.mono (by omega))⟩
end Go.Proofs.YtefkolkagebffaaGreatDoor.Ba
/- The document's Right for layer 13; lists of bans compared. -/
namespace Go.Proofs.YtefkolkagebffaaGreatDoor.Ba
set_option maxRecDepth 100000
open Go.ChangeShapes Go.WideShapes Go.ChangeAt Go.RowKit
open Dec Words V4 V6 Ad Ci
set_option linter.unusedVariables false
/-- What is known of a front, each against each. -/
def FarR (l : List Ban) (i : Nat) : Prop := ∀ a (h : a < l.length), a < i → rightB l[a] = true ∧ ∀ c (h2 : c < a), cmpN (l[c]'(by omega)).n l[a].n < 0
theorem farR_all {l : List Ban} (h : FarR l l.length) : rightL l = true := by
  rw [right_iff]
  refine ⟨fun x hx => ?_, sorted_at.2 fun k i hk hi hki => (h i hi hi).2 k hki⟩
  obtain ⟨i, hi, rfl⟩ := List.getElem_of_mem hx
  exact (h i hi hi).1
theorem farR_wrong {l : List Ban} {i : Nat} (hi : i < l.length) (hr : rightB l[i] = false) : rightL l = false := right_not fun h => by
  have := h.1 _ (List.getElem_mem hi)
  rw [hr] at this; cases this
theorem farR_not {l : List Ban} {k i : Nat} (hi : i < l.length) (hk : k < i) (h : ¬ cmpN (l[k]'(by omega)).n l[i].n < 0) : rightL l = false := right_not fun hr => h (sorted_at.1 hr.2 k i (by omega) hi hk)
theorem farR_snoc {l : List Ban} {i : Nat} (h : FarR l i) (hi : i < l.length) (hr : rightB l[i] = true) (hs : ∀ c (h2 : c < i), cmpN (l[c]'(by omega)).n l[i].n < 0) : FarR l (i + 1) := fun a ha hai => by
  rcases Nat.lt_succ_iff_lt_or_eq.1 hai with h2 | rfl
  · exact h a ha h2
  · exact ⟨hr, hs⟩
set_option maxHeartbeats 8000000 in
theorem rright_any (v : Value) (l : List Ban) (w : World) (h : Bans w v l) (hl : l.length ≤ 900000) (hok : ∀ x ∈ l, x.ok) :
    Calls Tryz.prog 11 #[v] w fun e w' => e = .returned (.bool (rightL l)) ∧ Below w.heap.size w w' := by
  obtain ⟨A, c, rfl, hc, -, hcell⟩ := h
  have HC := Lib.hid hcell
  have HK := Lib.hid hok
  clear hcell hok
  go_enter Tryz.func11, Tryz.ntmps11
  go_wp2_with fail
  go_loopw [3, 4] (fun ii _ wr => ∃ i : Nat, i ≤ l.length ∧ ii = .int .i64 i ∧ Hid (FarR l i) ∧ Below w.heap.size w wr) (fun ii _ _ => l.length - (intOf ii).toNat)
  case atStart => exact ⟨0, Nat.zero_le _, rfl, Lib.hid (fun _ _ h => absurd h (Nat.not_lt_zero _)), Below.refl _ _⟩
  case round =>
    obtain ⟨i, hi, rfl, HN, hlow⟩ := hrel
    obtain ⟨W, hW⟩ : ∃ W, W = wr := ⟨_, rfl⟩
    subst hW
    by_cases hlt : i < l.length
    · obtain ⟨b, o, rfl, hb, hcc⟩ := HC.out (by omega)
      obtain ⟨e0, e1, e2, e3, e4⟩ := bans_at (fun i h j u hu => (hlow.cell (p := ⟨b, o + i * 5 + j, none⟩) hb).trans (hcc i h j u hu)) hlt
      have hxo := HK.out _ (List.getElem_mem hlt)
      have HL := Lib.hid hlow
      have HCC := Lib.hid hcc
      have hlti : (i : Int) < (l.length : Int) := by omega
      cases hr : rightB l[i]
      · have KR := Lib.hid (hr ▸ rrightB_any l[i] W hxo)
        have E : Hid (rightL l = false) := Lib.hid (farR_wrong hlt hr)
        generalize l[i] = x at *
        clear hr hxo hcc hlow
        go_wp2_with fail
        refine KR.out.mono ?_
        rintro e w1 ⟨rfl, hb1⟩
        go_wp2_with fail
        go_ret
        exact ⟨ret_b E.out.symm, low_trans HL.out hb1⟩
      · have KR := Lib.hid (hr ▸ rrightB_any l[i] W hxo)
        obtain ⟨x, hx⟩ : ∃ x, x = l[i] := ⟨_, rfl⟩
        have HX := Lib.hid hx
        rw [← hx] at hxo e0 e1 e2 e3 e4 KR
        have HR := Lib.hid hr
        clear hr hx hcc hlow
        go_wp2_with fail
        refine KR.out.mono ?_
        rintro e w1 ⟨rfl, hb1⟩
        have hlow1 := low_trans HL.out hb1
        clear hb1 KR e0 e1 e2 e3 e4
        go_wp2_with fail
        go_loopw [4] (fun kk wr => ∃ k : Nat, k ≤ i ∧ kk = .int .i64 k ∧ Hid (∀ c (h2 : c < k) (h3 : k ≤ i), cmpN (l[c]'(by omega)).n l[i].n < 0) ∧ Below w.heap.size w wr) (fun kk _ => i - (intOf kk).toNat)
        case atStart => exact ⟨0, Nat.zero_le _, rfl, Lib.hid (fun _ h => absurd h (Nat.not_lt_zero _)), hlow1⟩
        case round =>
          obtain ⟨k, hk, rfl, HM, hlow2⟩ := hrel
          by_cases hki : k < i
          · have hcc : ∀ i (h : i < l.length) j u, (encB l[i])[j]? = some u → wr.cell? ⟨b, o + i * 5 + j, none⟩ = some u := fun i h j u hu => (hlow2.cell (p := ⟨b, o + i * 5 + j, none⟩) hb).trans (HCC.out i h j u hu)
            obtain ⟨c0, c1, c2, c3, c4⟩ := bans_at hcc hlt
            obtain ⟨d0, d1, d2, d3, d4⟩ := bans_at hcc (k := k) (by omega)
            have hyo := HK.out _ (List.getElem_mem (show k < l.length by omega))
            have HL2 := Lib.hid hlow2
            have hkl : (k : Int) < (l.length : Int) := by omega
            have hkI : (k : Int) < (i : Int) := by omega
            rw [← HX.out] at c0 c1 c2 c3 c4
            clear hcc hlow2
            by_cases hcmp : cmpN (l[k]'(by omega)).n l[i].n < 0
            · have HM2 : Hid (∀ c (h2 : c < k + 1) (h3 : k + 1 ≤ i), cmpN (l[c]'(by omega)).n l[i].n < 0) := Lib.hid fun c h2 h3 => by
                rcases Nat.lt_succ_iff_lt_or_eq.1 h2 with h4 | rfl
                · exact HM.out c h4 (by omega)
                · exact hcmp
              have hcd : decide (0 ≤ cmpN (l[k]'(by omega)).n x.n) = false := decide_eq_false (by rw [HX.out]; omega)
              clear hcmp
              generalize l[k]'(by omega) = y at hyo d0 d1 d2 d3 d4 hcd
              have KC : Hid (∀ W0, Stays (wr) W0 → Calls Tryz.prog 26 #[.agg #[.bool y.n.a.v6, .int .u64 y.n.a.hi, .int .u64 y.n.a.lo, .int .i64 y.n.n], .agg #[.bool x.n.a.v6, .int .u64 x.n.a.hi, .int .u64 x.n.a.lo, .int .i64 x.n.n]] W0 fun e w' => e = .returned (.int .i64 (cmpN y.n x.n)) ∧ Stays (wr) w') := Lib.hid (Tr.keep_call fun W0 => rcompareN_any y.n x.n W0 hyo.1 hxo.1)
              go_wp2_with fail
              have hne : Nonempty (Cls (Stays (wr))) := ⟨⟨_, Below.refl _ _⟩⟩
              have f0 : ∀ q : Cls (Stays (wr)), q.w.cell? ⟨b, o + i * 5, none⟩ = some (.bool x.n.a.v6) := fun q => cells_left q.h (c0)
              have f1 : ∀ q : Cls (Stays (wr)), q.w.cell? ⟨b, o + i * 5 + 1, none⟩ = some (.int .u64 x.n.a.hi) := fun q => cells_left q.h (c1)
              have f2 : ∀ q : Cls (Stays (wr)), q.w.cell? ⟨b, o + i * 5 + 2, none⟩ = some (.int .u64 x.n.a.lo) := fun q => cells_left q.h (c2)
              have f3 : ∀ q : Cls (Stays (wr)), q.w.cell? ⟨b, o + i * 5 + 3, none⟩ = some (.int .i64 x.n.n) := fun q => cells_left q.h (c3)
              have f4 : ∀ q : Cls (Stays (wr)), q.w.cell? ⟨b, o + k * 5, none⟩ = some (.bool y.n.a.v6) := fun q => cells_left q.h (d0)
              have f5 : ∀ q : Cls (Stays (wr)), q.w.cell? ⟨b, o + k * 5 + 1, none⟩ = some (.int .u64 y.n.a.hi) := fun q => cells_left q.h (d1)
              have f6 : ∀ q : Cls (Stays (wr)), q.w.cell? ⟨b, o + k * 5 + 2, none⟩ = some (.int .u64 y.n.a.lo) := fun q => cells_left q.h (d2)
              have f7 : ∀ q : Cls (Stays (wr)), q.w.cell? ⟨b, o + k * 5 + 3, none⟩ = some (.int .i64 y.n.n) := fun q => cells_left q.h (d3)
              refine Cls.region (Stays (wr)) (by kernel_rfl) (by kernel_rfl) (low_drewN (Below.refl _ _) 1) ?_
              repeat (go_big_quiet_step (first | fail | (with_reducible exact Cls.call (KC.out _ (Cls.h _)))))
              refine wpQuiet_nil ?_
              intro n9
              have hs9 := n9.h
              generalize n9.w = w9 at hs9 ⊢
              clear hne n9 f0 f1 f2 f3 f4 f5 f6 f7
              clear c0 c1 c2 c3 c4 d0 d1 d2 d3 d4 KC hyo
              go_wp2_with fail
              go_roundw
              case rel => exact ⟨k + 1, by omega, by go_num, HM2, low_trans HL2.out hs9⟩
              case measure => simp [intOf]; omega
            · have E : Hid (rightL l = false) := Lib.hid (farR_not hlt hki hcmp)
              have hcd : decide (0 ≤ cmpN (l[k]'(by omega)).n x.n) = true := decide_eq_true (by rw [HX.out]; omega)
              clear hcmp
              generalize l[k]'(by omega) = y at hyo d0 d1 d2 d3 d4 hcd
              have KC : Hid (∀ W0, Stays (wr) W0 → Calls Tryz.prog 26 #[.agg #[.bool y.n.a.v6, .int .u64 y.n.a.hi, .int .u64 y.n.a.lo, .int .i64 y.n.n], .agg #[.bool x.n.a.v6, .int .u64 x.n.a.hi, .int .u64 x.n.a.lo, .int .i64 x.n.n]] W0 fun e w' => e = .returned (.int .i64 (cmpN y.n x.n)) ∧ Stays (wr) w') := Lib.hid (Tr.keep_call fun W0 => rcompareN_any y.n x.n W0 hyo.1 hxo.1)
              go_wp2_with fail
              have hne : Nonempty (Cls (Stays (wr))) := ⟨⟨_, Below.refl _ _⟩⟩
              have f0 : ∀ q : Cls (Stays (wr)), q.w.cell? ⟨b, o + i * 5, none⟩ = some (.bool x.n.a.v6) := fun q => cells_left q.h (c0)
              have f1 : ∀ q : Cls (Stays (wr)), q.w.cell? ⟨b, o + i * 5 + 1, none⟩ = some (.int .u64 x.n.a.hi) := fun q => cells_left q.h (c1)
              have f2 : ∀ q : Cls (Stays (wr)), q.w.cell? ⟨b, o + i * 5 + 2, none⟩ = some (.int .u64 x.n.a.lo) := fun q => cells_left q.h (c2)
              have f3 : ∀ q : Cls (Stays (wr)), q.w.cell? ⟨b, o + i * 5 + 3, none⟩ = some (.int .i64 x.n.n) := fun q => cells_left q.h (c3)
              have f4 : ∀ q : Cls (Stays (wr)), q.w.cell? ⟨b, o + k * 5, none⟩ = some (.bool y.n.a.v6) := fun q => cells_left q.h (d0)
              have f5 : ∀ q : Cls (Stays (wr)), q.w.cell? ⟨b, o + k * 5 + 1, none⟩ = some (.int .u64 y.n.a.hi) := fun q => cells_left q.h (d1)
              have f6 : ∀ q : Cls (Stays (wr)), q.w.cell? ⟨b, o + k * 5 + 2, none⟩ = some (.int .u64 y.n.a.lo) := fun q => cells_left q.h (d2)
              have f7 : ∀ q : Cls (Stays (wr)), q.w.cell? ⟨b, o + k * 5 + 3, none⟩ = some (.int .i64 y.n.n) := fun q => cells_left q.h (d3)
              refine Cls.region (Stays (wr)) (by kernel_rfl) (by kernel_rfl) (low_drewN (Below.refl _ _) 1) ?_
              repeat (go_big_quiet_step (first | fail | (with_reducible exact Cls.call (KC.out _ (Cls.h _)))))
              refine wpQuiet_nil ?_
              intro n9
              have hs9 := n9.h
              generalize n9.w = w9 at hs9 ⊢
              clear hne n9 f0 f1 f2 f3 f4 f5 f6 f7
              clear c0 c1 c2 c3 c4 d0 d1 d2 d3 d4 KC hyo
              go_wp2_with fail
              go_ret
              exact ⟨ret_b E.out.symm, low_trans HL2.out hs9⟩
          · obtain rfl : k = i := by omega
            have HN2 : Hid (FarR l (k + 1)) := Lib.hid (farR_snoc HN.out hlt HR.out (fun c h2 => HM.out c h2 (Nat.le_refl _)))
            have HL2 := Lib.hid hlow2
            go_wp2_with fail
            go_roundw
            case rel => exact ⟨k + 1, by omega, by go_num, HN2, HL2.out⟩
            case measure => simp [intOf]; omega
    · have E : Hid (rightL l = true) := Lib.hid (farR_all (by rw [show l.length = i by omega]; exact HN.out))
      have HB := Lib.hid hlow
      have hnlt : ¬ (i : Int) < (l.length : Int) := by omega
      go_wp2_with fail
      go_ret
      exact ⟨ret_b E.out.symm, HB.out⟩
set_option maxHeartbeats 8000000 in
/-- Two values that read as one list are the same. -/
theorem same_bans (u v : Value) (l : List Ban) (w : World) (hu : Bans w u l) (hv : Bans w v l) (hl : l.length ≤ 900000) :
    Calls Tryz.prog 10 #[u, v] w fun e w' => e = .returned (.bool true) ∧ Below w.heap.size w w' := by
  obtain ⟨A, c, rfl, _, -, hcell⟩ := hu
  obtain ⟨A2, c2, rfl, _, -, hcell2⟩ := hv
  have HC := Lib.hid hcell
  have HC2 := Lib.hid hcell2
  clear hcell hcell2
  go_enter Tryz.func10, Tryz.ntmps10
  go_wp2_with fail
  go_loopw [5] (fun ii wr => ∃ k : Nat, k ≤ l.length ∧ ii = .int .i64 k ∧ Below w.heap.size w wr) (fun ii _ => l.length - (intOf ii).toNat)
  case atStart => exact ⟨0, Nat.zero_le _, rfl, Below.refl _ _⟩
  case round =>
    obtain ⟨k, hk, rfl, hlow⟩ := hrel
    have HB := Lib.hid hlow
    by_cases hlt : k < l.length
    · obtain ⟨b, o, rfl, hb, hcc⟩ := HC.out (by omega)
      obtain ⟨b2, o2, rfl, hb2, hcc2⟩ := HC2.out (by omega)
      obtain ⟨c0, c1, c2, c3, c4⟩ := bans_at (fun i h j u hu => (hlow.cell (p := ⟨b, o + i * 5 + j, none⟩) hb).trans (hcc i h j u hu)) hlt
      obtain ⟨d0, d1, d2, d3, d4⟩ := bans_at (fun i h j u hu => (hlow.cell (p := ⟨b2, o2 + i * 5 + j, none⟩) hb2).trans (hcc2 i h j u hu)) hlt
      have EQ := fun W => neqBan l[k] l[k] W
      rw [sameB_self] at EQ
      have hd : decide ((k : Int) < (l.length : Int)) = true := decide_eq_true (by omega)
      have hkl : (k : Int) < (l.length : Int) := by omega
      clear hcc hcc2 hlow
      generalize l[k] = x at *
      go_wp2_with fail
      have hne : Nonempty (Cls (Stays (wr))) := ⟨⟨_, Below.refl _ _⟩⟩
      have f0 : ∀ q : Cls (Stays (wr)), q.w.cell? ⟨b, o + k * 5, none⟩ = some (.bool x.n.a.v6) := fun q => cells_left q.h (c0)
      have f1 : ∀ q : Cls (Stays (wr)), q.w.cell? ⟨b, o + k * 5 + 1, none⟩ = some (.int .u64 x.n.a.hi) := fun q => cells_left q.h (c1)
      have f2 : ∀ q : Cls (Stays (wr)), q.w.cell? ⟨b, o + k * 5 + 2, none⟩ = some (.int .u64 x.n.a.lo) := fun q => cells_left q.h (c2)
      have f3 : ∀ q : Cls (Stays (wr)), q.w.cell? ⟨b, o + k * 5 + 3, none⟩ = some (.int .i64 x.n.n) := fun q => cells_left q.h (c3)
      have f4 : ∀ q : Cls (Stays (wr)), q.w.cell? ⟨b, o + k * 5 + 4, none⟩ = some (.int .i64 x.t) := fun q => cells_left q.h (c4)
      have f5 : ∀ q : Cls (Stays (wr)), q.w.cell? ⟨b2, o2 + k * 5, none⟩ = some (.bool x.n.a.v6) := fun q => cells_left q.h (d0)
      have f6 : ∀ q : Cls (Stays (wr)), q.w.cell? ⟨b2, o2 + k * 5 + 1, none⟩ = some (.int .u64 x.n.a.hi) := fun q => cells_left q.h (d1)
      have f7 : ∀ q : Cls (Stays (wr)), q.w.cell? ⟨b2, o2 + k * 5 + 2, none⟩ = some (.int .u64 x.n.a.lo) := fun q => cells_left q.h (d2)
      have f8 : ∀ q : Cls (Stays (wr)), q.w.cell? ⟨b2, o2 + k * 5 + 3, none⟩ = some (.int .i64 x.n.n) := fun q => cells_left q.h (d3)
      have f9 : ∀ q : Cls (Stays (wr)), q.w.cell? ⟨b2, o2 + k * 5 + 4, none⟩ = some (.int .i64 x.t) := fun q => cells_left q.h (d4)
      refine Cls.region (Stays (wr)) (by kernel_rfl) (by kernel_rfl) (low_drewN (Below.refl _ _) 1) ?_
      repeat (go_big_quiet_step (first | fail))
      refine wpQuiet_nil ?_
      intro n9
      have hs9 := n9.h
      generalize n9.w = w9 at hs9 ⊢
      clear hne n9 f0 f1 f2 f3 f4 f5 f6 f7 f8 f9
      clear c0 c1 c2 c3 c4 d0 d1 d2 d3 d4 EQ
      go_wp2_with fail
      go_roundw
      case rel => exact ⟨k + 1, by omega, by go_num, low_trans HB.out hs9⟩
      case measure => simp [intOf]; omega
    · have hd : decide ((k : Int) < (l.length : Int)) = false := decide_eq_false (by omega)
      have hkl : ¬ (k : Int) < (l.length : Int) := by omega
      go_wp2_with fail
      go_ret
      exact ⟨rfl, HB.out⟩
end Go.Proofs.YtefkolkagebffaaGreatDoor.Ba
