/- Subnets in memory: put behind each other, stored; the order of subnets, with what becomes of the count of draws. -/
import Derived.Test.YtbonfmjalgfgaaaSpreadMath
import Derived.Test.YtbonfmjalgfgaaaBox
import Derived.Test.YtbonfmjalgfgaaaEndpDoor
import Derived.Test.YtbonfmjalgfgaaaRecsDoor
import Derived.Test.YtbonfmjalgfgaaaCidrDoor
import Derived.Laws.AppendOwn
import Derived.Laws.Cover3
import Derived.Deep.RegionHeld3
import Derived.Deep.CutRange
import Derived.Lib.MinMax
import Derived.Sort.Grow
import Derived.Deep.LoopGhost
namespace Go.Proofs.Ytbonfmjalgfgaaa.Sp
set_option maxRecDepth 100000
open Go.ChangeShapes Go.WideShapes Go.ChangeAt Go.RowKit
open Dec Words V4 V6 Ad Ci En Gr Go.Deep
set_option linter.unusedVariables false
def encM (n : Net) : List Value := [.bool n.a.v6, .int .u64 n.a.hi, .int .u64 n.a.lo, .int .i64 n.n]
theorem encM_len (n : Net) : (encM n).length = 4 := rfl
theorem encM_one (n : Net) : ∀ u ∈ encM n, u.oneCell' = true := fun u hu => by
  simp only [encM, List.mem_cons, List.not_mem_nil, or_false] at hu
  rcases hu with rfl | rfl | rfl | rfl <;> rfl
abbrev Nets (w : World) (v : Value) (l : List Net) : Prop := Recs 4 encM w v l
abbrev OwnM (B : Nat) (w : World) (v : Value) (l : List Net) : Prop := w.ownsRow B 40 4 v l.length (flat encM l)
theorem info_net : (Try.prog.info? 40).map (fun i => (i.zero, i.size, i.bytes)) = some (some (.agg #[.bool false, .int .u64 0, .int .u64 0, .int .i64 0]), 4, 32) := by kernel_rfl
theorem ownM_lit (W : World) {B : Nat} (hB : B ≤ W.heap.size) : OwnM B (W.alloc (.cells #[] 40)) (.slice (some ⟨W.heap.size, 0, none⟩) 0 0) [] := World.ownsRow_made W #[] 0 hB (by simp [maxLen]) rfl
theorem ownM_nil (W : World) (B : Nat) : OwnM B W (.slice none 0 0) [] := ⟨rfl, Or.inl ⟨rfl, rfl⟩⟩
theorem ownM_nets {B : Nat} {w : World} {v : Value} {l : List Net} (h : OwnM B w v l) : Nets w v l := (recs_own encM_len (by decide) h).1
/-- Subnets put behind subnets: no block but the row's own is touched. -/
theorem append_Ms {B : Nat} {W : World} {v x : Value} {xs ys : List Net} (hown : OwnM B W v xs) (hy : Nets W x ys) (hlen : xs.length + ys.length ≤ 1000000) (hB : B ≤ W.heap.size) :
    ∃ v' w', (Builtin.append_ #[29, 29] 29 #[v, x]).run Try.prog W = .ok v' w' ∧ OwnM B w' v' (xs ++ ys) ∧ Below B W w' ∧ ∀ k, k < W.heap.size → some k ≠ v.ownBlock → w'.heap[k]? = W.heap[k]? := by
  obtain ⟨i, hi, hz0, hz1, hz2⟩ := info_parts info_net
  obtain ⟨A, c, rfl, hc, hnil, hcell⟩ := hy
  cases A with
  | none =>
    obtain rfl := hnil rfl
    obtain rfl : ys = [] := List.eq_nil_of_length_eq_zero (by omega)
    have hr := run_append_owned_none (P := Try.prog) (w := W) B 29 29 40 i 4 Try.underlying29 hi v xs.length (flat encM xs) hown
    refine ⟨v, W, hr, ?_, Below.refl _ _, fun _ _ _ => rfl⟩
    rw [List.append_nil]; exact hown
  | some a =>
    obtain ⟨v', w', hr, h2, h3, _⟩ := run_append_own (P := Try.prog) W B 29 29 40 i _ 4 32 Try.underlying29 hi hz0 hz1 hz2 rfl (by decide) v xs.length (flat encM xs) hown
      a ys.length c (flat encM ys) (flat_len encM_len ys) (fun j u hj => by
        have hlt : j < ys.length * 4 := by have := (List.getElem?_eq_some_iff.1 hj).1; rwa [flat_len encM_len] at this
        have hq : j / 4 < ys.length := by omega
        have hjm : j = j / 4 * 4 + j % 4 := by omega
        rw [hjm, flat_at encM_len ys _ _ hq (Nat.mod_lt _ (by decide))] at hj
        obtain ⟨b, o, e, _, hcc⟩ := hcell (Nat.lt_of_le_of_lt (Nat.zero_le _) hq)
        obtain rfl : a = ⟨b, o, none⟩ := Option.some.inj e
        rw [add_plain, hjm, ← Nat.add_assoc]
        exact hcc _ hq _ _ hj) (fun u hu => by
        obtain ⟨y, _, hu2⟩ := List.mem_flatMap.1 hu
        exact encM_one y u hu2) (by simp only [maxLen]; omega) (by omega) hB
    refine ⟨v', w', hr, ?_, (Below.refl B W).grown h3 hB (fun k hk => (hown.lt k hk).1), fun k h1 h2 => h3.block k h1 h2⟩
    unfold OwnM
    rw [List.length_append, flat_append]
    exact h2
theorem own_blkM {B : Nat} {w : World} {v : Value} {l : List Net} (h : OwnM B w v l) (h0 : 0 < l.length) : ∃ g cap Z, v = .slice (some ⟨g, 0, none⟩) l.length cap ∧ B ≤ g ∧ l.length ≤ cap ∧ Blk w g 40 (flat encM l ++ Z) := by
  obtain ⟨h1, h2⟩ := h
  rcases h2 with ⟨_, h3⟩ | ⟨g, cap, cur, rfl, hB, hg, hn, _, _, ht⟩
  · omega
  · refine ⟨g, cap, cur.toList.drop (l.length * 4), rfl, hB, hn, ?_⟩
    unfold Blk
    rw [hg, ← ht, List.take_append_drop]
theorem cellM {w : World} {g : Nat} {t : TypeId} {D : List Net} {Z : List Value} (h : Blk w g t (flat encM D ++ Z)) {i j : Nat} {u : Value} (hi : i < D.length) (hu : (encM D[i]!)[j]? = some u) : w.cell? ⟨g, i * 4 + j, none⟩ = some u := by
  have hj : j < 4 := by have := (List.getElem?_eq_some_iff.1 hu).1; rwa [encM_len] at this
  refine h.cell ?_
  rw [List.getElem?_append_left (by rw [flat_len encM_len]; omega), flat_at encM_len D i j hi hj, ← hu, getElem!_pos D i hi]
theorem spliceM {α : Type} (A Z vs : List α) (o : Nat) (h : o + vs.length ≤ A.length) : splice (A ++ Z) o vs = splice A o vs ++ Z := by
  unfold splice
  rw [List.take_append_of_le_length (by omega), List.drop_append_of_le_length (by omega)]
  simp only [List.append_assoc]
theorem splice1M {α : Type} (A : List α) (x : α) {i : Nat} (h : i < A.length) : splice A i [x] = A.set i x := by
  unfold splice
  rw [List.set_eq_take_append_cons_drop, if_pos h]; simp
theorem put_net {w : World} {g : Nat} {t : TypeId} {D : List Net} {Z : List Value} (h : Blk w g t (flat encM D ++ Z)) {i : Nat} (hi : i < D.length) (x : Net) :
    Blk ((((w.setCell ⟨g, i * 4, none⟩ (.bool x.a.v6)).setCell ⟨g, i * 4 + 1, none⟩ (.int .u64 x.a.hi)).setCell ⟨g, i * 4 + 2, none⟩ (.int .u64 x.a.lo)).setCell ⟨g, i * 4 + 3, none⟩ (.int .i64 x.n)) g t (flat encM (D.set i x) ++ Z) ∧ Bt g w ((((w.setCell ⟨g, i * 4, none⟩ (.bool x.a.v6)).setCell ⟨g, i * 4 + 1, none⟩ (.int .u64 x.a.hi)).setCell ⟨g, i * 4 + 2, none⟩ (.int .u64 x.a.lo)).setCell ⟨g, i * 4 + 3, none⟩ (.int .i64 x.n)) := by
  have k := setCells_blk g t (encM x) (i * 4) w _ h (by rw [encM_len, List.length_append, flat_len encM_len]; omega)
  rw [spliceM _ _ _ _ (by rw [encM_len, flat_len encM_len]; omega), ← flat_one encM x, flat_splice encM_len, splice1M _ _ hi, flat_one] at k
  exact k
/-- A world behind another one: nothing of that one is changed, and the draws are behind its draws. -/
def Gw (w w' : World) : Prop := Below w.heap.size w w' ∧ w.drawn ≤ w'.drawn
theorem Gw.refl (w : World) : Gw w w := ⟨Below.refl _ _, Nat.le_refl _⟩
theorem Gw.trans {a b c : World} (h : Gw a b) (k : Gw b c) : Gw a c := ⟨low_trans h.1 k.1, Nat.le_trans h.2 k.2⟩
theorem Gw.drew {a b : World} (h : Gw a b) : Gw a b.drew := ⟨low_drewN h.1 1, Nat.le_trans h.2 (Nat.le_succ _)⟩
theorem Gw.alloc {a b : World} (h : Gw a b) (o : Obj) : Gw a (b.alloc o) := ⟨Below.alloc h.1 h.1.size o, h.2⟩
theorem Gw.two (w : World) (o p : Obj) : Gw w ((w.alloc o).alloc p) := ((Gw.refl w).alloc o).alloc p
/-- Such a world is that one after some draws, with some blocks behind it. -/
theorem Gw.grown {w w' : World} (h : Gw w w') : ∃ q os, w' = Sort.grow (w.drewN q) os := by
  obtain ⟨⟨h1, h2, h3, h4, h5⟩, h6⟩ := h
  refine ⟨w'.drawn - w.drawn, w'.heap.extract w.heap.size w'.heap.size, ?_⟩
  obtain ⟨hp, tp, dr, o, out⟩ := w
  obtain ⟨hp', tp', dr', o', out'⟩ := w'
  simp only at h1 h2 h3 h4 h5 h6
  subst h1 h2 h3
  have e1 : hp ++ hp'.extract hp.size hp'.size = hp' := by
    refine Array.ext (by simp; omega) fun i i1 i2 => ?_
    by_cases hi : i < hp.size
    · rw [Array.getElem_append_left hi]
      have := h5 i hi
      rw [Array.getElem?_eq_getElem i2, Array.getElem?_eq_getElem hi] at this
      exact (Option.some.inj this).symm
    · rw [Array.getElem_append_right (by omega), Array.getElem_extract]
      congr 1
      omega
  have e2 : dr + (dr' - dr) = dr' := by omega
  simp only [Sort.grow, World.drewN, e1, e2]
theorem beforeGN_any (a b : Adr) (w : World) (ha : a.ok) (hb : b.ok) :
    Calls Try.prog 37 #[.agg #[.bool a.v6, .int .u64 a.hi, .int .u64 a.lo], .agg #[.bool b.v6, .int .u64 b.hi, .int .u64 b.lo]] w fun e w' => e = .returned (.bool (lessA a b)) ∧ Gw w w' := by
  by_cases hv : a.v6 = b.v6
  · obtain ⟨v1, v2, v3⟩ := bby hv
    by_cases hh : a.hi = b.hi
    · have E : Hid (lessA a b = decide (a.lo < b.lo)) := Lib.hid (by unfold lessA; rw [if_pos hv, if_pos hh])
      obtain ⟨i1, i2⟩ := iiy hh
      clear hv hh
      go_enter Try.func37, Try.ntmps37
      go_wp2
      go_ret
      exact ⟨ret_b E.out.symm, Gw.two _ _ _⟩
    · have E : Hid (lessA a b = decide (a.hi < b.hi)) := Lib.hid (by unfold lessA; rw [if_pos hv, if_neg hh])
      obtain ⟨i1, i2⟩ := iin hh
      clear hv hh
      go_enter Try.func37, Try.ntmps37
      go_wp2
      go_ret
      exact ⟨ret_b E.out.symm, Gw.two _ _ _⟩
  · obtain ⟨v1, v2, v3⟩ := bbn hv
    have E : Hid (lessA a b = b.v6) := Lib.hid (by unfold lessA; rw [if_neg hv])
    clear hv
    go_enter Try.func37, Try.ntmps37
    go_wp2
    go_ret
    exact ⟨ret_b E.out.symm, Gw.two _ _ _⟩
theorem compareAN_any (a b : Adr) (w : World) (ha : a.ok) (hb : b.ok) :
    Calls Try.prog 26 #[.agg #[.bool a.v6, .int .u64 a.hi, .int .u64 a.lo], .agg #[.bool b.v6, .int .u64 b.hi, .int .u64 b.lo]] w fun e w' => e = .returned (.int .i64 (cmpA a b)) ∧ Gw w w' := by
  have EQ := fun W => eqAdr a b W
  cases hs : sameA a b
  · rw [hs] at EQ
    have BE := Lib.hid (beforeGN_any a b)
    cases hl : lessA a b
    · have E : Hid (cmpA a b = 1) := Lib.hid (by unfold cmpA; rw [hs, hl]; rfl)
      rw [hl] at BE
      clear hs hl
      go_enter Try.func26, Try.ntmps26
      go_wp2_with fail
      refine (BE.out _ ha hb).mono ?_
      rintro e w1 ⟨rfl, hb1⟩
      go_wp2_with fail
      go_ret
      exact ⟨ret_i E.out.symm, (Gw.two _ _ _).trans hb1⟩
    · have E : Hid (cmpA a b = -1) := Lib.hid (by unfold cmpA; rw [hs, hl]; rfl)
      rw [hl] at BE
      clear hs hl
      go_enter Try.func26, Try.ntmps26
      go_wp2_with fail
      refine (BE.out _ ha hb).mono ?_
      rintro e w1 ⟨rfl, hb1⟩
      go_wp2_with fail
      go_ret
      exact ⟨ret_i E.out.symm, (Gw.two _ _ _).trans hb1⟩
  · rw [hs] at EQ
    have E : Hid (cmpA a b = 0) := Lib.hid (by unfold cmpA; rw [hs]; rfl)
    clear hs
    go_enter Try.func26, Try.ntmps26
    go_wp2_with fail
    go_ret
    exact ⟨ret_i E.out.symm, Gw.two _ _ _⟩
set_option linter.unusedVariables false
abbrev SNG (x y : Net) (w w' : World) : Prop := w'.cell? ⟨w.heap.size, 0, none⟩ = some (.bool x.a.v6) ∧ w'.cell? ⟨w.heap.size, 1, none⟩ = some (.int .u64 x.a.hi) ∧ w'.cell? ⟨w.heap.size, 2, none⟩ = some (.int .u64 x.a.lo) ∧ w'.cell? ⟨w.heap.size, 3, none⟩ = some (.int .i64 x.n) ∧ w'.cell? ⟨w.heap.size + 1, 0, none⟩ = some (.bool y.a.v6) ∧ w'.cell? ⟨w.heap.size + 1, 1, none⟩ = some (.int .u64 y.a.hi) ∧ w'.cell? ⟨w.heap.size + 1, 2, none⟩ = some (.int .u64 y.a.lo) ∧ w'.cell? ⟨w.heap.size + 1, 3, none⟩ = some (.int .i64 y.n) ∧ Gw (((w.alloc (.cells #[.bool x.a.v6, .int .u64 x.a.hi, .int .u64 x.a.lo, .int .i64 x.n] 40)).alloc (.cells #[.bool y.a.v6, .int .u64 y.a.hi, .int .u64 y.a.lo, .int .i64 y.n] 40))) w'
theorem SNG.of {x y : Net} {w w' : World} (h : Gw ((w.alloc (.cells #[.bool x.a.v6, .int .u64 x.a.hi, .int .u64 x.a.lo, .int .i64 x.n] 40)).alloc (.cells #[.bool y.a.v6, .int .u64 y.a.hi, .int .u64 y.a.lo, .int .i64 y.n] 40)) w') : SNG x y w w' := by
  have h0 : Blk w' w.heap.size 40 [.bool x.a.v6, .int .u64 x.a.hi, .int .u64 x.a.lo, .int .i64 x.n] := ((Blk.new w #[.bool x.a.v6, .int .u64 x.a.hi, .int .u64 x.a.lo, .int .i64 x.n] 40).alloc (.cells #[.bool y.a.v6, .int .u64 y.a.hi, .int .u64 y.a.lo, .int .i64 y.n] 40)).on h.1
  have h1 : Blk w' (w.heap.size + 1) 40 [.bool y.a.v6, .int .u64 y.a.hi, .int .u64 y.a.lo, .int .i64 y.n] := (Blk.two w (.cells #[.bool x.a.v6, .int .u64 x.a.hi, .int .u64 x.a.lo, .int .i64 x.n] 40) #[.bool y.a.v6, .int .u64 y.a.hi, .int .u64 y.a.lo, .int .i64 y.n] 40).on h.1
  exact ⟨h0.cell (j := 0) rfl, h0.cell (j := 1) rfl, h0.cell (j := 2) rfl, h0.cell (j := 3) rfl, h1.cell (j := 0) rfl, h1.cell (j := 1) rfl, h1.cell (j := 2) rfl, h1.cell (j := 3) rfl, h⟩
theorem SNG.on {x y : Net} {w w1 w2 : World} (h : SNG x y w w1) (k : Gw w1 w2) : SNG x y w w2 := SNG.of (h.2.2.2.2.2.2.2.2.trans k)
theorem SNG.low {x y : Net} {w w1 : World} (h : SNG x y w w1) : Gw w w1 := (Gw.two _ _ _).trans h.2.2.2.2.2.2.2.2
set_option maxHeartbeats 4000000 in
theorem compareNG_any (x y : Net) (w : World) (hx : x.ok) (hy : y.ok) :
    Calls Try.prog 15 #[.agg #[.bool x.a.v6, .int .u64 x.a.hi, .int .u64 x.a.lo, .int .i64 x.n], .agg #[.bool y.a.v6, .int .u64 y.a.hi, .int .u64 y.a.lo, .int .i64 y.n]] w fun e w' => e = .returned (.int .i64 (cmpN x y)) ∧ Gw w w' := by
  have K1 : Hid (∀ W, SNG x y w W → Calls Try.prog 26 #[.agg #[.bool x.a.v6, .int .u64 x.a.hi, .int .u64 x.a.lo], .agg #[.bool y.a.v6, .int .u64 y.a.hi, .int .u64 y.a.lo]] W fun e w' => e = .returned (.int .i64 (cmpA x.a y.a)) ∧ SNG x y w w') := Lib.hid fun W h => by
    have hc : Calls Try.prog 26 #[.agg #[.bool x.a.v6, .int .u64 x.a.hi, .int .u64 x.a.lo], .agg #[.bool y.a.v6, .int .u64 y.a.hi, .int .u64 y.a.lo]] W fun e w' => e = .returned (.int .i64 (cmpA x.a y.a)) ∧ Gw W w' := compareAN_any x.a y.a W hx.1 hy.1
    exact hc.mono fun e w' ⟨he, hb⟩ => ⟨he, h.on hb⟩
  have K2 : Hid (∀ W, SNG x y w W → Calls Try.prog 27 #[.int .i64 x.n, .int .i64 y.n] W fun e w' => e = .returned (.int .i64 (cmpI x.n y.n)) ∧ SNG x y w w') := Lib.hid fun W h => by
    have hc : Calls Try.prog 27 #[.int .i64 x.n, .int .i64 y.n] W fun e w' => e = .returned (.int .i64 (cmpI x.n y.n)) ∧ Gw W w' := by
      have h := Try.cmp_Compare_int x.n y.n W
      rw [compareInt_is] at h
      exact h.mono fun e w' ⟨he, hw⟩ => ⟨he, by rw [hw]; exact Gw.refl _⟩
    exact hc.mono fun e w' ⟨he, hb⟩ => ⟨he, h.on hb⟩
  have K3 : Hid (∀ W : World, SNG x y w W → Calls Try.prog 25 #[.slice (some ⟨W.heap.size, 0, none⟩) 2 2] (W.alloc (.cells #[.int .i64 (cmpA x.a y.a), .int .i64 (cmpI x.n y.n)] 3)) fun e w' => e = .returned (.int .i64 (cmpN x y)) ∧ SNG x y w w') := Lib.hid fun W h => by
    have hc := or_any (cmpA x.a y.a) (cmpI x.n y.n) (cmpN x y) rfl W.heap.size (W.alloc (.cells #[.int .i64 (cmpA x.a y.a), .int .i64 (cmpI x.n y.n)] 3)) (by rw [cell_of_row _ _ _ _ _ _ (heap_alloc_new W _)]; rfl) (by rw [cell_of_row _ _ _ _ _ _ (heap_alloc_new W _)]; rfl)
    exact hc.mono fun e w' ⟨he, hw⟩ => ⟨he, by rw [hw]; exact SNG.of (h.2.2.2.2.2.2.2.2.alloc _)⟩
  have JD : Hid (∀ W, SNG x y w W → SNG x y w W.drew) := Lib.hid fun W h => SNG.of (h.2.2.2.2.2.2.2.2.drew)
  have JA : Hid (∀ W o, SNG x y w W → SNG x y w (W.alloc o)) := Lib.hid fun W o h => SNG.of (h.2.2.2.2.2.2.2.2.alloc o)
  have hk0 : SNG x y w ((w.alloc (.cells #[.bool x.a.v6, .int .u64 x.a.hi, .int .u64 x.a.lo, .int .i64 x.n] 40)).alloc (.cells #[.bool y.a.v6, .int .u64 y.a.hi, .int .u64 y.a.lo, .int .i64 y.n] 40)) := SNG.of (Gw.refl _)
  obtain ⟨c0, c1, c2, c3, c4, c5, c6, c7, hs⟩ := id hk0
  go_enter Try.func15, Try.ntmps15
  go_wp2_with fail
  go_region_held3 (fun w' => w'.cell? ⟨w.heap.size, 0, none⟩ = some (.bool x.a.v6) ∧ w'.cell? ⟨w.heap.size, 1, none⟩ = some (.int .u64 x.a.hi) ∧ w'.cell? ⟨w.heap.size, 2, none⟩ = some (.int .u64 x.a.lo) ∧ w'.cell? ⟨w.heap.size, 3, none⟩ = some (.int .i64 x.n) ∧ w'.cell? ⟨w.heap.size + 1, 0, none⟩ = some (.bool y.a.v6) ∧ w'.cell? ⟨w.heap.size + 1, 1, none⟩ = some (.int .u64 y.a.hi) ∧ w'.cell? ⟨w.heap.size + 1, 2, none⟩ = some (.int .u64 y.a.lo) ∧ w'.cell? ⟨w.heap.size + 1, 3, none⟩ = some (.int .i64 y.n) ∧ Gw (((w.alloc (.cells #[.bool x.a.v6, .int .u64 x.a.hi, .int .u64 x.a.lo, .int .i64 x.n] 40)).alloc (.cells #[.bool y.a.v6, .int .u64 y.a.hi, .int .u64 y.a.lo, .int .i64 y.n] 40))) w')
    (first | assumption | exact JD.out _ ‹_› | exact JA.out _ _ ‹_›)
    (first
      | (go_at_call 26; (with_reducible refine (K1.out _ ‹_›).mono ?_); rintro e w9 ⟨rfl, hkw⟩)
      | (go_at_call 27; (with_reducible refine (K2.out _ ‹_›).mono ?_); rintro e w9 ⟨rfl, hkw⟩)
      | (go_at_call 25; refine (K3.out _ ‹_›).mono ?_; rintro e w9 ⟨rfl, hkw⟩))
  all_goals (go_wp2; go_ret; exact ⟨rfl, SNG.low (‹SNG x y w _›)⟩)
end Go.Proofs.Ytbonfmjalgfgaaa.Sp
