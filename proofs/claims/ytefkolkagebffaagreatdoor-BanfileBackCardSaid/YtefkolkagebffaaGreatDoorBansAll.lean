/- Contracts of package bans, first part: copies, closures, where a subnet stands. -/
import Derived.Test.YtefkolkagebffaaGreatDoorBansKit
import Derived.Test.YtefkolkagebffaaGreatDoorBan
import Derived.Test.YtefkolkagebffaaGreatDoorRef11All
import Derived.Deep.LoopGhost
import Derived.Lib.Overlaps
import Derived.Deep.RegionLaw
namespace Go.Proofs.YtefkolkagebffaaGreatDoor.Ba
set_option maxRecDepth 100000
open Go.ChangeShapes Go.WideShapes Go.ChangeAt Go.RowKit
open Dec Words V4 V6 Ad Ci
set_option linter.unusedVariables false
section
variable {P : Program}
/-- A make whose run is known, for the walk. -/
theorem wpList_make_run {w : World} {ops : Array Oper} {rest : List Oper} {o : Oper} {a : Act} {Q : Exit → Act → World → Prop} (hgd : o.guard = none) (l c : Operand) (t : TypeId)
    (ho : o.op = Op.makeSlice t l c) (vl vc v : Value) (w' : World) (hl : a.eval l = vl) (hc : a.eval c = vc) (hr : (Instr.makeSlice t vl vc).run P w = .ok v w') (h : wpList P ops Q rest (a.put o.dst v) w') : wpList P ops Q (o :: rest) a w := by
  refine wpList_plain hgd fun K hK => ?_
  unfold Oper.wp
  simp [execOp, ho, hl, hc, hr, Result.andThen]
  exact hK _ _ h
end
theorem made_bans (n : Nat) : (madeCells (Value.cells (.agg #[.bool false, .int .u64 0, .int .u64 0, .int .i64 0, .int .i64 0])) (n * 5)).toList = flat encB (List.replicate n zeroB) := by
  have h5 : (Value.cells (.agg #[.bool false, .int .u64 0, .int .u64 0, .int .i64 0, .int .i64 0])).size = 5 := rfl
  apply List.ext_getElem?
  intro i
  by_cases hi : i < n * 5
  · have e : i = i / 5 * 5 + i % 5 := by omega
    have hq : i / 5 < (List.replicate n zeroB).length := by simp; omega
    have hr : i % 5 < 5 := Nat.mod_lt _ (by decide)
    conv => rhs; rw [e, flat_at encB_len _ _ _ hq hr]
    rw [List.getElem_replicate, Array.getElem?_toList]
    have hj : (madeCells (Value.cells (.agg #[.bool false, .int .u64 0, .int .u64 0, .int .i64 0, .int .i64 0])) (n * 5))[i]? = some ((Value.cells (.agg #[.bool false, .int .u64 0, .int .u64 0, .int .i64 0, .int .i64 0]))[i % 5]!) := by
      simp only [madeCells, h5, Array.getElem?_map]
      rw [Array.getElem?_eq_getElem (by simpa using hi)]
      simp
    rw [hj]
    generalize i % 5 = r at hr
    match r, hr with
    | 0, _ => rfl
    | 1, _ => rfl
    | 2, _ => rfl
    | 3, _ => rfl
    | 4, _ => rfl
  · rw [List.getElem?_eq_none (by simp [size_madeCells]; omega), List.getElem?_eq_none (by rw [flat_len encB_len]; simp; omega)]
theorem splice_front (D : List Ban) (l : List Ban) : splice (List.replicate (l.length + 1) zeroB) 0 l = l ++ [zeroB] := by
  unfold splice
  rw [List.take_zero, List.nil_append, List.drop_replicate, show l.length + 1 - (0 + l.length) = 1 by omega]; rfl
/-- What a function value tells of a ban, wherever all that lay below B is as it was. -/
def Tells (g : Nat) (lb : Array Value) (p : Ban → Bool) (B : Nat) (w : World) : Prop :=
  ∀ (W : World) (x : Ban), x.ok → Below B w W → B ≤ W.heap.size → Calls Tryz.prog g (#[.agg #[.bool x.n.a.v6, .int .u64 x.n.a.hi, .int .u64 x.n.a.lo, .int .i64 x.n.n, .int .i64 x.t]] ++ lb) W fun e w' => e = .returned (.bool (p x)) ∧ Below W.heap.size W w'
theorem Tells.on {g : Nat} {lb : Array Value} {p : Ban → Bool} {B : Nat} {w w' : World} (h : Tells g lb p B w) (k : Below B w w') : Tells g lb p B w' := fun W x hx hb hB => h W x hx (k.trans hb) hB
def posI (p : Ban → Bool) (l : List Ban) : Int := if l.findIdx p < l.length then (l.findIdx p : Int) else -1
theorem posI_hit {p : Ban → Bool} {l : List Ban} {k : Nat} (hk : k < l.length) (h : ∀ i (h : i < l.length), i < k → p l[i] = false) (hp : p l[k] = true) : posI p l = (k : Int) ∧ l.findIdx p = k := by
  have e : l.findIdx p = k := (List.findIdx_eq hk).2 ⟨hp, fun j hj => by simpa using h j (by omega) hj⟩
  exact ⟨by unfold posI; rw [e, if_pos hk], e⟩
theorem posI_miss {p : Ban → Bool} {l : List Ban} (h : ∀ i (h : i < l.length), p l[i] = false) : posI p l = -1 := by
  have e : l.findIdx p = l.length := by
    rw [List.findIdx_eq_length]
    intro x hx
    obtain ⟨i, hi, rfl⟩ := List.getElem_of_mem hx
    simpa using h i hi
  unfold posI; rw [e, if_neg (by omega)]
theorem ixI_pos (l : List Ban) (n : Net) : ixI l n = posI (fun b => sameN b.n n) l := rfl
abbrev SBN (x : Ban) (n : Net) (w : World) (w' : World) : Prop := w'.cell? ⟨w.heap.size, 0, none⟩ = some (.bool x.n.a.v6) ∧ w'.cell? ⟨w.heap.size, 1, none⟩ = some (.int .u64 x.n.a.hi) ∧ w'.cell? ⟨w.heap.size, 2, none⟩ = some (.int .u64 x.n.a.lo) ∧ w'.cell? ⟨w.heap.size, 3, none⟩ = some (.int .i64 x.n.n) ∧ w'.cell? ⟨w.heap.size, 4, none⟩ = some (.int .i64 x.t) ∧ w'.cell? ⟨w.heap.size + 1, 0, none⟩ = some (.bool n.a.v6) ∧ w'.cell? ⟨w.heap.size + 1, 1, none⟩ = some (.int .u64 n.a.hi) ∧ w'.cell? ⟨w.heap.size + 1, 2, none⟩ = some (.int .u64 n.a.lo) ∧ w'.cell? ⟨w.heap.size + 1, 3, none⟩ = some (.int .i64 n.n) ∧ Stays ((w.alloc (.cells #[.bool x.n.a.v6, .int .u64 x.n.a.hi, .int .u64 x.n.a.lo, .int .i64 x.n.n, .int .i64 x.t] 40)).alloc (.cells #[.bool n.a.v6, .int .u64 n.a.hi, .int .u64 n.a.lo, .int .i64 n.n] 38)) w'
theorem SBN.of {x : Ban} {n : Net} {w w' : World} (h : Stays ((w.alloc (.cells #[.bool x.n.a.v6, .int .u64 x.n.a.hi, .int .u64 x.n.a.lo, .int .i64 x.n.n, .int .i64 x.t] 40)).alloc (.cells #[.bool n.a.v6, .int .u64 n.a.hi, .int .u64 n.a.lo, .int .i64 n.n] 38)) w') : SBN x n w w' := by
  have s0 : Stays (w.alloc (.cells #[.bool x.n.a.v6, .int .u64 x.n.a.hi, .int .u64 x.n.a.lo, .int .i64 x.n.n, .int .i64 x.t] 40)) ((w.alloc (.cells #[.bool x.n.a.v6, .int .u64 x.n.a.hi, .int .u64 x.n.a.lo, .int .i64 x.n.n, .int .i64 x.t] 40)).alloc (.cells #[.bool n.a.v6, .int .u64 n.a.hi, .int .u64 n.a.lo, .int .i64 n.n] 38)) := ((Below.refl _ _).alloc (by first | (simp; done) | (simp; omega)) _)
  have n0_0 : (w.alloc (.cells #[.bool x.n.a.v6, .int .u64 x.n.a.hi, .int .u64 x.n.a.lo, .int .i64 x.n.n, .int .i64 x.t] 40)).cell? ⟨w.heap.size, 0, none⟩ = some (.bool x.n.a.v6) := by
    have k := cell_at (w) #[.bool x.n.a.v6, .int .u64 x.n.a.hi, .int .u64 x.n.a.lo, .int .i64 x.n.n, .int .i64 x.t] 40 0 _ rfl
    exact k
  have n0_1 : (w.alloc (.cells #[.bool x.n.a.v6, .int .u64 x.n.a.hi, .int .u64 x.n.a.lo, .int .i64 x.n.n, .int .i64 x.t] 40)).cell? ⟨w.heap.size, 1, none⟩ = some (.int .u64 x.n.a.hi) := by
    have k := cell_at (w) #[.bool x.n.a.v6, .int .u64 x.n.a.hi, .int .u64 x.n.a.lo, .int .i64 x.n.n, .int .i64 x.t] 40 1 _ rfl
    exact k
  have n0_2 : (w.alloc (.cells #[.bool x.n.a.v6, .int .u64 x.n.a.hi, .int .u64 x.n.a.lo, .int .i64 x.n.n, .int .i64 x.t] 40)).cell? ⟨w.heap.size, 2, none⟩ = some (.int .u64 x.n.a.lo) := by
    have k := cell_at (w) #[.bool x.n.a.v6, .int .u64 x.n.a.hi, .int .u64 x.n.a.lo, .int .i64 x.n.n, .int .i64 x.t] 40 2 _ rfl
    exact k
  have n0_3 : (w.alloc (.cells #[.bool x.n.a.v6, .int .u64 x.n.a.hi, .int .u64 x.n.a.lo, .int .i64 x.n.n, .int .i64 x.t] 40)).cell? ⟨w.heap.size, 3, none⟩ = some (.int .i64 x.n.n) := by
    have k := cell_at (w) #[.bool x.n.a.v6, .int .u64 x.n.a.hi, .int .u64 x.n.a.lo, .int .i64 x.n.n, .int .i64 x.t] 40 3 _ rfl
    exact k
  have n0_4 : (w.alloc (.cells #[.bool x.n.a.v6, .int .u64 x.n.a.hi, .int .u64 x.n.a.lo, .int .i64 x.n.n, .int .i64 x.t] 40)).cell? ⟨w.heap.size, 4, none⟩ = some (.int .i64 x.t) := by
    have k := cell_at (w) #[.bool x.n.a.v6, .int .u64 x.n.a.hi, .int .u64 x.n.a.lo, .int .i64 x.n.n, .int .i64 x.t] 40 4 _ rfl
    exact k
  have n1_0 : ((w.alloc (.cells #[.bool x.n.a.v6, .int .u64 x.n.a.hi, .int .u64 x.n.a.lo, .int .i64 x.n.n, .int .i64 x.t] 40)).alloc (.cells #[.bool n.a.v6, .int .u64 n.a.hi, .int .u64 n.a.lo, .int .i64 n.n] 38)).cell? ⟨w.heap.size + 1, 0, none⟩ = some (.bool n.a.v6) := by
    have k := cell_at (w.alloc (.cells #[.bool x.n.a.v6, .int .u64 x.n.a.hi, .int .u64 x.n.a.lo, .int .i64 x.n.n, .int .i64 x.t] 40)) #[.bool n.a.v6, .int .u64 n.a.hi, .int .u64 n.a.lo, .int .i64 n.n] 38 0 _ rfl
    rwa [show (w.alloc (.cells #[.bool x.n.a.v6, .int .u64 x.n.a.hi, .int .u64 x.n.a.lo, .int .i64 x.n.n, .int .i64 x.t] 40)).heap.size = w.heap.size + 1 by simp] at k
  have n1_1 : ((w.alloc (.cells #[.bool x.n.a.v6, .int .u64 x.n.a.hi, .int .u64 x.n.a.lo, .int .i64 x.n.n, .int .i64 x.t] 40)).alloc (.cells #[.bool n.a.v6, .int .u64 n.a.hi, .int .u64 n.a.lo, .int .i64 n.n] 38)).cell? ⟨w.heap.size + 1, 1, none⟩ = some (.int .u64 n.a.hi) := by
    have k := cell_at (w.alloc (.cells #[.bool x.n.a.v6, .int .u64 x.n.a.hi, .int .u64 x.n.a.lo, .int .i64 x.n.n, .int .i64 x.t] 40)) #[.bool n.a.v6, .int .u64 n.a.hi, .int .u64 n.a.lo, .int .i64 n.n] 38 1 _ rfl
    rwa [show (w.alloc (.cells #[.bool x.n.a.v6, .int .u64 x.n.a.hi, .int .u64 x.n.a.lo, .int .i64 x.n.n, .int .i64 x.t] 40)).heap.size = w.heap.size + 1 by simp] at k
  have n1_2 : ((w.alloc (.cells #[.bool x.n.a.v6, .int .u64 x.n.a.hi, .int .u64 x.n.a.lo, .int .i64 x.n.n, .int .i64 x.t] 40)).alloc (.cells #[.bool n.a.v6, .int .u64 n.a.hi, .int .u64 n.a.lo, .int .i64 n.n] 38)).cell? ⟨w.heap.size + 1, 2, none⟩ = some (.int .u64 n.a.lo) := by
    have k := cell_at (w.alloc (.cells #[.bool x.n.a.v6, .int .u64 x.n.a.hi, .int .u64 x.n.a.lo, .int .i64 x.n.n, .int .i64 x.t] 40)) #[.bool n.a.v6, .int .u64 n.a.hi, .int .u64 n.a.lo, .int .i64 n.n] 38 2 _ rfl
    rwa [show (w.alloc (.cells #[.bool x.n.a.v6, .int .u64 x.n.a.hi, .int .u64 x.n.a.lo, .int .i64 x.n.n, .int .i64 x.t] 40)).heap.size = w.heap.size + 1 by simp] at k
  have n1_3 : ((w.alloc (.cells #[.bool x.n.a.v6, .int .u64 x.n.a.hi, .int .u64 x.n.a.lo, .int .i64 x.n.n, .int .i64 x.t] 40)).alloc (.cells #[.bool n.a.v6, .int .u64 n.a.hi, .int .u64 n.a.lo, .int .i64 n.n] 38)).cell? ⟨w.heap.size + 1, 3, none⟩ = some (.int .i64 n.n) := by
    have k := cell_at (w.alloc (.cells #[.bool x.n.a.v6, .int .u64 x.n.a.hi, .int .u64 x.n.a.lo, .int .i64 x.n.n, .int .i64 x.t] 40)) #[.bool n.a.v6, .int .u64 n.a.hi, .int .u64 n.a.lo, .int .i64 n.n] 38 3 _ rfl
    rwa [show (w.alloc (.cells #[.bool x.n.a.v6, .int .u64 x.n.a.hi, .int .u64 x.n.a.lo, .int .i64 x.n.n, .int .i64 x.t] 40)).heap.size = w.heap.size + 1 by simp] at k
  exact ⟨Ci.cells_left h (Ci.cells_left s0 n0_0), Ci.cells_left h (Ci.cells_left s0 n0_1), Ci.cells_left h (Ci.cells_left s0 n0_2), Ci.cells_left h (Ci.cells_left s0 n0_3), Ci.cells_left h (Ci.cells_left s0 n0_4), Ci.cells_left h n1_0, Ci.cells_left h n1_1, Ci.cells_left h n1_2, Ci.cells_left h n1_3, h⟩
theorem SBN.on {x : Ban} {n : Net} {w w1 w2 : World} (h : SBN x n w w1) (k : Below w1.heap.size w1 w2) : SBN x n w w2 := SBN.of (low_trans h.2.2.2.2.2.2.2.2.2 k)
theorem SBN.low {x : Ban} {n : Net} {w w1 : World} (h : SBN x n w w1) : Below w.heap.size w w1 := (((Below.refl _ _).alloc (by first | (simp; done) | (simp; omega)) _).alloc (by first | (simp; done) | (simp; omega)) _).trans (h.2.2.2.2.2.2.2.2.2.mono (by simp; omega))
set_option maxHeartbeats 2000000 in
theorem follows_any (x : Ban) (n : Net) (w : World) (hx : x.ok) (hn : n.ok) :
    Calls Tryz.prog 61 #[.agg #[.bool x.n.a.v6, .int .u64 x.n.a.hi, .int .u64 x.n.a.lo, .int .i64 x.n.n, .int .i64 x.t], .agg #[.bool n.a.v6, .int .u64 n.a.hi, .int .u64 n.a.lo, .int .i64 n.n]] w fun e w' => e = .returned (.bool (decide (0 < cmpN x.n n))) ∧ Below w.heap.size w w' := by
  have K1 : Hid (∀ W, SBN x n w W → Calls Tryz.prog 112 #[.agg #[.bool x.n.a.v6, .int .u64 x.n.a.hi, .int .u64 x.n.a.lo, .int .i64 x.n.n], .agg #[.bool n.a.v6, .int .u64 n.a.hi, .int .u64 n.a.lo, .int .i64 n.n]] W fun e w' => e = .returned (.int .i64 (cmpN x.n n)) ∧ SBN x n w w') := Lib.hid fun W h => by
    have hs := h.2.2.2.2.2.2.2.2.2
    have hc : Calls Tryz.prog 112 #[.agg #[.bool x.n.a.v6, .int .u64 x.n.a.hi, .int .u64 x.n.a.lo, .int .i64 x.n.n], .agg #[.bool n.a.v6, .int .u64 n.a.hi, .int .u64 n.a.lo, .int .i64 n.n]] W fun e w' => e = .returned (.int .i64 (cmpN x.n n)) ∧ Below W.heap.size W w' := compareN_any x.n n W hx.1 hn
    exact hc.mono fun e w' ⟨he, hb⟩ => ⟨he, SBN.of (low_trans hs hb)⟩
  have hk0 : SBN x n w ((w.alloc (.cells #[.bool x.n.a.v6, .int .u64 x.n.a.hi, .int .u64 x.n.a.lo, .int .i64 x.n.n, .int .i64 x.t] 40)).alloc (.cells #[.bool n.a.v6, .int .u64 n.a.hi, .int .u64 n.a.lo, .int .i64 n.n] 38)) := SBN.of (Below.refl _ _)
  obtain ⟨c0, c1, c2, c3, c4, c5, c6, c7, c8, hs⟩ := id hk0
  by_cases hq : 0 < cmpN x.n n
  · rw [decide_eq_true hq]
    go_enter Tryz.func61, Tryz.ntmps61
    go_wp2_with fail
    (with_reducible refine (K1.out _ hk0).mono ?_)
    rintro e w1 ⟨rfl, hk1⟩
    go_wp2_with fail
    go_ret
    exact ⟨rfl, SBN.low hk1⟩
  · rw [decide_eq_false hq]
    go_enter Tryz.func61, Tryz.ntmps61
    go_wp2_with fail
    (with_reducible refine (K1.out _ hk0).mono ?_)
    rintro e w1 ⟨rfl, hk1⟩
    go_wp2_with fail
    go_ret
    exact ⟨ret_b (decide_eq_false (by omega)), SBN.low hk1⟩
end Go.Proofs.YtefkolkagebffaaGreatDoor.Ba
/- Contracts of package bans, second part: slices.Delete, Insert, DeleteFunc at bans, in a block of the call's own. -/
namespace Go.Proofs.YtefkolkagebffaaGreatDoor.Ba
set_option maxRecDepth 100000
open Go.ChangeShapes Go.WideShapes Go.ChangeAt Go.RowKit
open Dec Words V4 V6 Ad Ci
set_option linter.unusedVariables false
theorem info_ban : (Tryz.prog.info? 40).map (fun i => (i.zero, i.size, i.bytes)) = some (some (.agg #[.bool false, .int .u64 0, .int .u64 0, .int .i64 0, .int .i64 0]), 5, 40) := by kernel_rfl
theorem zero_ban (w : World) : (zeroValue 40).run Tryz.prog w = .ok (.agg #[.bool false, .int .u64 0, .int .u64 0, .int .i64 0, .int .i64 0]) w := Tryz.zeroValue40 w
theorem clear_bans (w : World) (g o n c : Nat) (hn : 0 < n) (cur : List Value) (hg : Blk w g 40 cur) (hfit : o + n * 5 ≤ cur.length) :
    ∃ (w' : World) (zs : List Value), (∀ ty, (Builtin.clear_ #[22] ty #[.slice (some ⟨g, o, none⟩) n c]).run Tryz.prog w = .ok (.tuple #[]) w') ∧ zs.length = n * 5 ∧ Blk w' g 40 (splice cur o zs) ∧ Bt g w w' := by
  obtain ⟨w', zs, h1, h2⟩ := run_clear_blk (P := Tryz.prog) w 22 40 0 40 _ 5 Tryz.underlying22 zero_ban rfl (by decide) (by decide) g o n c hn cur hg hfit
  exact ⟨w', zs, fun ty => h1, h2⟩
theorem ins_mid (l : List Ban) (k : Nat) (hk : k ≤ l.length) (b : Ban) : splice (splice (l ++ [zeroB]) (k + 1) (l.drop k)) k [b] = l.take k ++ b :: l.drop k := by
  have e1 : splice (l ++ [zeroB]) (k + 1) (l.drop k) = (l ++ [zeroB]).take (k + 1) ++ l.drop k := by
    unfold splice
    rw [show (l ++ [zeroB]).drop (k + 1 + (l.drop k).length) = [] from List.drop_of_length_le (by simp; omega), List.append_nil]
  rw [e1]
  unfold splice
  rw [List.take_append_of_le_length (by simp; omega), List.take_take, Nat.min_eq_left (by omega), List.take_append_of_le_length hk]
  rw [show k + [b].length = ((l ++ [zeroB]).take (k + 1)).length + 0 by simp; omega, List.drop_append]; simp
theorem ins_end (l : List Ban) (b : Ban) : splice (l ++ [zeroB]) l.length [b] = l.take l.length ++ b :: l.drop l.length := by
  unfold splice
  simp
theorem flat_set5 (x : Ban) : ∀ (D : List Ban) (i : Nat), i < D.length → (((((flat encB D).set (i * 5) (.bool x.n.a.v6)).set (i * 5 + 1) (.int .u64 x.n.a.hi)).set (i * 5 + 2) (.int .u64 x.n.a.lo)).set (i * 5 + 3) (.int .i64 x.n.n)).set (i * 5 + 4) (.int .i64 x.t) = flat encB (D.set i x)
  | [], i, h => by simp at h
  | d :: D, 0, _ => rfl
  | d :: D, i + 1, h => by
    have e : ∀ (d : Ban) (D : List Ban), flat encB (d :: D) = encB d ++ flat encB D := fun d D => by unfold flat; rw [List.flatMap_cons]
    have s : ∀ (R : List Value) (t : Nat) (v : Value), (encB d ++ R).set (5 + t) v = encB d ++ R.set t v := fun R t v => by
      rw [List.set_append_right _ _ (by rw [encB_len]; omega), encB_len, Nat.add_sub_cancel_left]
    have ih := flat_set5 x D i (by simpa using h)
    rw [List.set_cons_succ, e, e, ← ih, show (i + 1) * 5 = 5 + i * 5 by omega]
    simp only [Nat.add_assoc, s]
theorem Tells.mono {g : Nat} {lb : Array Value} {p : Ban → Bool} {B C : Nat} {w : World} (h : Tells g lb p B w) (k : B ≤ C) : Tells g lb p C w := fun W x hx hb hB => h W x hx (hb.mono k) (Nat.le_trans k hB)
/-- What stands in a row that is swept as it goes: what was kept so far, and ahead what was there. -/
structure Kept (q : Ban → Bool) (l D : List Ban) (i j : Nat) : Prop where
  len : D.length = l.length
  lt : i < j
  le : j ≤ l.length
  head : D.take i = (l.take j).filter q
  tail : D.drop j = l.drop j
theorem Kept.at {q : Ban → Bool} {l D : List Ban} {i j : Nat} (h : Kept q l D i j) (hj : j < l.length) : D[j]'(by rw [h.len]; exact hj) = l[j] := by
  have e := h.tail
  have h1 : (D.drop j)[0]? = (l.drop j)[0]? := by rw [e]
  rw [List.getElem?_drop, List.getElem?_drop, Nat.add_zero, List.getElem?_eq_getElem (by rw [h.len]; exact hj), List.getElem?_eq_getElem hj] at h1
  exact Option.some.inj h1
theorem Kept.skip {q : Ban → Bool} {l D : List Ban} {i j : Nat} (h : Kept q l D i j) (hj : j < l.length) (hq : q l[j] = false) : Kept q l D i (j + 1) :=
  ⟨h.len, by have := h.lt; omega, hj, by rw [h.head, List.take_succ_eq_append_getElem hj, List.filter_append]; simp [hq], by rw [← List.drop_drop, h.tail, List.drop_drop]⟩
theorem Kept.keep {q : Ban → Bool} {l D : List Ban} {i j : Nat} (h : Kept q l D i j) (hj : j < l.length) (hq : q l[j] = true) : Kept q l (D.set i l[j]) (i + 1) (j + 1) := by
  have h1 := h.lt
  have h2 := h.len
  refine ⟨by rw [List.length_set]; exact h2, by omega, hj, ?_, ?_⟩
  · rw [List.take_succ_eq_append_getElem (by rw [List.length_set]; omega), List.getElem_set_self, List.take_set_of_le (Nat.le_refl _), h.head, List.take_succ_eq_append_getElem hj, List.filter_append]
    simp [hq]
  · rw [List.drop_set_of_lt (by omega), ← List.drop_drop, h.tail, List.drop_drop]
theorem Kept.start {q : Ban → Bool} {l : List Ban} {k : Nat} (hk : k < l.length) (h : ∀ i (h : i < l.length), i < k → q l[i] = true) (hq : q l[k] = false) : Kept q l l k (k + 1) := by
  refine ⟨rfl, by omega, hk, ?_, rfl⟩
  rw [List.take_succ_eq_append_getElem hk, List.filter_append, List.filter_eq_self.2 ?_]
  · simp [hq]
  · intro x hx
    obtain ⟨j, hj, rfl⟩ := List.getElem_of_mem hx
    rw [List.length_take] at hj
    rw [List.getElem_take]
    exact h j (by omega) (by omega)
theorem Kept.done {q : Ban → Bool} {l D : List Ban} {i : Nat} (h : Kept q l D i l.length) : D.take i = l.filter q ∧ i = (l.filter q).length := by
  have e := h.head
  rw [List.take_of_length_le (Nat.le_refl _)] at e
  refine ⟨e, ?_⟩
  rw [← e, List.length_take, h.len]
  have := h.lt; omega
theorem _root_.Go.Proofs.YtefkolkagebffaaGreatDoor.Blk.put5 {w : World} {g i : Nat} {t : TypeId} {D : List Ban} (h : Blk w g t (flat encB D)) (hi : i < D.length) (x : Ban) : Blk (((((w.setCell ⟨g, i * 5, none⟩ (.bool x.n.a.v6)).setCell ⟨g, i * 5 + 1, none⟩ (.int .u64 x.n.a.hi)).setCell ⟨g, i * 5 + 2, none⟩ (.int .u64 x.n.a.lo)).setCell ⟨g, i * 5 + 3, none⟩ (.int .i64 x.n.n)).setCell ⟨g, i * 5 + 4, none⟩ (.int .i64 x.t)) g t (flat encB (D.set i x)) := by
  rw [← flat_set5 x D i hi]
  exact ((((h.set _ _).set _ _).set _ _).set _ _).set _ _
theorem _root_.Go.Proofs.YtefkolkagebffaaGreatDoor.Bt.put5 {w0 w : World} {g : Nat} (h : Bt g w0 w) (i : Nat) (x : Ban) : Bt g w0 (((((w.setCell ⟨g, i * 5, none⟩ (.bool x.n.a.v6)).setCell ⟨g, i * 5 + 1, none⟩ (.int .u64 x.n.a.hi)).setCell ⟨g, i * 5 + 2, none⟩ (.int .u64 x.n.a.lo)).setCell ⟨g, i * 5 + 3, none⟩ (.int .i64 x.n.n)).setCell ⟨g, i * 5 + 4, none⟩ (.int .i64 x.t)) :=
  ((((h.trans (Bt.setCell _ _ _ _)).trans (Bt.setCell _ _ _ _)).trans (Bt.setCell _ _ _ _)).trans (Bt.setCell _ _ _ _)).trans (Bt.setCell _ _ _ _)
end Go.Proofs.YtefkolkagebffaaGreatDoor.Ba
/- Contracts of package bans, third part: Until, Sweep, Drop, Add, Right. -/
namespace Go.Proofs.YtefkolkagebffaaGreatDoor.Ba
set_option maxRecDepth 100000
open Go.ChangeShapes Go.WideShapes Go.ChangeAt Go.RowKit
open Dec Words V4 V6 Ad Ci
set_option linter.unusedVariables false
theorem sweep_filter (l : List Ban) (now : Int) : (l.filter fun x => !(!decide (now < x.t))) = sweepL l now := by
  unfold sweepL; simp
abbrev SAdd (b : Ban) (w w2 : World) (w' : World) : Prop := w'.cell? ⟨w.heap.size, 0, none⟩ = some (.bool b.n.a.v6) ∧ w'.cell? ⟨w.heap.size, 1, none⟩ = some (.int .u64 b.n.a.hi) ∧ w'.cell? ⟨w.heap.size, 2, none⟩ = some (.int .u64 b.n.a.lo) ∧ w'.cell? ⟨w.heap.size, 3, none⟩ = some (.int .i64 b.n.n) ∧ w'.cell? ⟨w.heap.size, 4, none⟩ = some (.int .i64 b.t) ∧ Stays (w2) w'
theorem takes_set (l : List Ban) (i : Nat) (x : Ban) : ((l ++ [zeroB]).set i x).take l.length = l.set i x := by
  rw [List.take_set, List.take_left]
/-- What is known of the front of a list that may be so far. -/
def Far (l : List Ban) (k : Nat) : Prop := ∀ i (h : i < l.length), i < k → rightB l[i] = true ∧ (0 < i → 0 < cmpN l[i].n (l[i - 1]'(by omega)).n)
theorem far_all {l : List Ban} (h : Far l l.length) : rightL l = true := by
  rw [right_iff]
  refine ⟨fun x hx => ?_, sorted_steps fun i hi h0 => (h i hi hi).2 h0⟩
  obtain ⟨i, hi, rfl⟩ := List.getElem_of_mem hx
  exact (h i hi hi).1
theorem far_snoc {l : List Ban} {k : Nat} (h : Far l k) (hk : k < l.length) (hr : rightB l[k] = true) (hs : 0 < k → 0 < cmpN l[k].n (l[k - 1]'(by omega)).n) : Far l (k + 1) := fun i hi hik => by
  rcases Nat.lt_succ_iff_lt_or_eq.1 hik with h2 | rfl
  · exact h i hi h2
  · exact ⟨hr, hs⟩
theorem far_wrong {l : List Ban} {k : Nat} (hk : k < l.length) (hr : rightB l[k] = false) : rightL l = false := right_not fun h => by
  have := h.1 _ (List.getElem_mem hk)
  rw [hr] at this; cases this
theorem far_back {l : List Ban} {m : Nat} (hk : m + 1 < l.length) (hs : ¬ 0 < cmpN l[m + 1].n l[m].n) : rightL l = false := right_not fun h => hs (steps_sorted h.2 (m + 1) hk (by omega))
set_option maxHeartbeats 8000000 in
theorem right_any (v : Value) (l : List Ban) (w : World) (h : Bans w v l) (hl : l.length ≤ 900000) (hok : ∀ x ∈ l, x.ok) :
    Calls Tryz.prog 34 #[v] w fun e w' => e = .returned (.bool (rightL l)) ∧ Below w.heap.size w w' := by
  obtain ⟨A, c, rfl, hc, -, hcell⟩ := h
  have HC := Lib.hid hcell
  have HK := Lib.hid hok
  clear hcell hok
  go_enter Tryz.func34, Tryz.ntmps34
  go_wp2_with fail
  go_loopw [3, 4, 7] (fun _ _ i wr => ∃ k : Nat, k ≤ l.length ∧ i = .int .i64 k ∧ Hid (Far l k) ∧ Below w.heap.size w wr) (fun _ _ i _ => l.length - (intOf i).toNat)
  case atStart => exact ⟨0, Nat.zero_le _, rfl, Lib.hid (fun _ _ h => absurd h (Nat.not_lt_zero _)), Below.refl _ _⟩
  case round =>
    obtain ⟨k, hk, rfl, HN, hlow⟩ := hrel
    by_cases hlt : k < l.length
    · obtain ⟨b, o, rfl, hb, hcc⟩ := HC.out (by omega)
      have HB : Hid (∀ w9, Stays (wr.alloc (.cells #[.bool l[k].n.a.v6, .int .u64 l[k].n.a.hi, .int .u64 l[k].n.a.lo, .int .i64 l[k].n.n, .int .i64 l[k].t] 40)) w9 → Below w.heap.size w w9) := Lib.hid fun w9 h => (hlow.trans ((Below.refl wr.heap.size wr).alloc (Nat.le_refl _) _ |>.mono hlow.size)).trans (h.mono (by have := hlow.size; simp; omega))
      have hbr : b < wr.heap.size := Nat.lt_of_lt_of_le hb hlow.size
      have hcr : ∀ i (h : i < l.length) j u, (encB l[i])[j]? = some u → wr.cell? ⟨b, o + i * 5 + j, none⟩ = some u := fun i h j u hu => (hlow.cell (p := ⟨b, o + i * 5 + j, none⟩) hb).trans (hcc i h j u hu)
      obtain ⟨c0, c1, c2, c3, c4⟩ := bans_at hcr hlt
      have hxo := HK.out _ (List.getElem_mem hlt)
      clear hcc hlow
      cases hr : rightB l[k]
      · have E : Hid (rightL l = false) := Lib.hid (far_wrong hlt hr)
        generalize l[k] = x at *
        have KR : Hid (∀ W0, Stays (wr.alloc (.cells #[.bool x.n.a.v6, .int .u64 x.n.a.hi, .int .u64 x.n.a.lo, .int .i64 x.n.n, .int .i64 x.t] 40)) W0 → Calls Tryz.prog 19 #[.agg #[.bool x.n.a.v6, .int .u64 x.n.a.hi, .int .u64 x.n.a.lo, .int .i64 x.n.n, .int .i64 x.t]] W0 fun e w' => e = .returned (.bool false) ∧ Stays (wr.alloc (.cells #[.bool x.n.a.v6, .int .u64 x.n.a.hi, .int .u64 x.n.a.lo, .int .i64 x.n.n, .int .i64 x.t] 40)) w') := Lib.hid (Tr.keep_call fun W0 => hr ▸ rightB_any x W0 hxo)
        have m0 : (wr.alloc (.cells #[.bool x.n.a.v6, .int .u64 x.n.a.hi, .int .u64 x.n.a.lo, .int .i64 x.n.n, .int .i64 x.t] 40)).cell? ⟨wr.heap.size, 0, none⟩ = some (.bool x.n.a.v6) := cell_at _ _ _ 0 _ rfl
        have m1 : (wr.alloc (.cells #[.bool x.n.a.v6, .int .u64 x.n.a.hi, .int .u64 x.n.a.lo, .int .i64 x.n.n, .int .i64 x.t] 40)).cell? ⟨wr.heap.size, 1, none⟩ = some (.int .u64 x.n.a.hi) := cell_at _ _ _ 1 _ rfl
        have m2 : (wr.alloc (.cells #[.bool x.n.a.v6, .int .u64 x.n.a.hi, .int .u64 x.n.a.lo, .int .i64 x.n.n, .int .i64 x.t] 40)).cell? ⟨wr.heap.size, 2, none⟩ = some (.int .u64 x.n.a.lo) := cell_at _ _ _ 2 _ rfl
        have m3 : (wr.alloc (.cells #[.bool x.n.a.v6, .int .u64 x.n.a.hi, .int .u64 x.n.a.lo, .int .i64 x.n.n, .int .i64 x.t] 40)).cell? ⟨wr.heap.size, 3, none⟩ = some (.int .i64 x.n.n) := cell_at _ _ _ 3 _ rfl
        have m4 : (wr.alloc (.cells #[.bool x.n.a.v6, .int .u64 x.n.a.hi, .int .u64 x.n.a.lo, .int .i64 x.n.n, .int .i64 x.t] 40)).cell? ⟨wr.heap.size, 4, none⟩ = some (.int .i64 x.t) := cell_at _ _ _ 4 _ rfl
        clear hr hxo hcr
        go_wp2_with fail
        have hne : Nonempty (Cls (Stays (wr.alloc (.cells #[.bool x.n.a.v6, .int .u64 x.n.a.hi, .int .u64 x.n.a.lo, .int .i64 x.n.n, .int .i64 x.t] 40)))) := ⟨⟨_, Below.refl _ _⟩⟩
        have f0 : ∀ q : Cls (Stays (wr.alloc (.cells #[.bool x.n.a.v6, .int .u64 x.n.a.hi, .int .u64 x.n.a.lo, .int .i64 x.n.n, .int .i64 x.t] 40))), q.w.cell? ⟨wr.heap.size, 0, none⟩ = some (.bool x.n.a.v6) := fun q => cells_left q.h (m0)
        have f1 : ∀ q : Cls (Stays (wr.alloc (.cells #[.bool x.n.a.v6, .int .u64 x.n.a.hi, .int .u64 x.n.a.lo, .int .i64 x.n.n, .int .i64 x.t] 40))), q.w.cell? ⟨wr.heap.size, 1, none⟩ = some (.int .u64 x.n.a.hi) := fun q => cells_left q.h (m1)
        have f2 : ∀ q : Cls (Stays (wr.alloc (.cells #[.bool x.n.a.v6, .int .u64 x.n.a.hi, .int .u64 x.n.a.lo, .int .i64 x.n.n, .int .i64 x.t] 40))), q.w.cell? ⟨wr.heap.size, 2, none⟩ = some (.int .u64 x.n.a.lo) := fun q => cells_left q.h (m2)
        have f3 : ∀ q : Cls (Stays (wr.alloc (.cells #[.bool x.n.a.v6, .int .u64 x.n.a.hi, .int .u64 x.n.a.lo, .int .i64 x.n.n, .int .i64 x.t] 40))), q.w.cell? ⟨wr.heap.size, 3, none⟩ = some (.int .i64 x.n.n) := fun q => cells_left q.h (m3)
        have f4 : ∀ q : Cls (Stays (wr.alloc (.cells #[.bool x.n.a.v6, .int .u64 x.n.a.hi, .int .u64 x.n.a.lo, .int .i64 x.n.n, .int .i64 x.t] 40))), q.w.cell? ⟨wr.heap.size, 4, none⟩ = some (.int .i64 x.t) := fun q => cells_left q.h (m4)
        refine Cls.region (Stays (wr.alloc (.cells #[.bool x.n.a.v6, .int .u64 x.n.a.hi, .int .u64 x.n.a.lo, .int .i64 x.n.n, .int .i64 x.t] 40))) (by kernel_rfl) (by kernel_rfl) (low_drewN (Below.refl _ _) 1) ?_
        repeat (go_big_quiet_step (first | fail | (with_reducible exact Cls.call (KR.out _ (Cls.h _)))))
        refine wpQuiet_nil ?_
        intro n9
        have hs9 := n9.h
        generalize n9.w = w9 at hs9 ⊢
        clear hne n9 f0 f1 f2 f3 f4
        clear KR m0 m1 m2 m3 m4 c0 c1 c2 c3 c4
        go_wp2_with fail
        go_ret
        exact ⟨ret_b E.out.symm, HB.out _ hs9⟩
      · rcases Nat.eq_zero_or_pos k with rfl | hp
        · have HN2 : Hid (Far l (0 + 1)) := Lib.hid (far_snoc HN.out hlt hr (fun h => absurd h (Nat.lt_irrefl _)))
          generalize l[0] = x at *
          simp only [Nat.zero_mul, Nat.add_zero] at c0 c1 c2 c3 c4
          have KR : Hid (∀ W0, Stays (wr.alloc (.cells #[.bool x.n.a.v6, .int .u64 x.n.a.hi, .int .u64 x.n.a.lo, .int .i64 x.n.n, .int .i64 x.t] 40)) W0 → Calls Tryz.prog 19 #[.agg #[.bool x.n.a.v6, .int .u64 x.n.a.hi, .int .u64 x.n.a.lo, .int .i64 x.n.n, .int .i64 x.t]] W0 fun e w' => e = .returned (.bool true) ∧ Stays (wr.alloc (.cells #[.bool x.n.a.v6, .int .u64 x.n.a.hi, .int .u64 x.n.a.lo, .int .i64 x.n.n, .int .i64 x.t] 40)) w') := Lib.hid (Tr.keep_call fun W0 => hr ▸ rightB_any x W0 hxo)
          have m0 : (wr.alloc (.cells #[.bool x.n.a.v6, .int .u64 x.n.a.hi, .int .u64 x.n.a.lo, .int .i64 x.n.n, .int .i64 x.t] 40)).cell? ⟨wr.heap.size, 0, none⟩ = some (.bool x.n.a.v6) := cell_at _ _ _ 0 _ rfl
          have m1 : (wr.alloc (.cells #[.bool x.n.a.v6, .int .u64 x.n.a.hi, .int .u64 x.n.a.lo, .int .i64 x.n.n, .int .i64 x.t] 40)).cell? ⟨wr.heap.size, 1, none⟩ = some (.int .u64 x.n.a.hi) := cell_at _ _ _ 1 _ rfl
          have m2 : (wr.alloc (.cells #[.bool x.n.a.v6, .int .u64 x.n.a.hi, .int .u64 x.n.a.lo, .int .i64 x.n.n, .int .i64 x.t] 40)).cell? ⟨wr.heap.size, 2, none⟩ = some (.int .u64 x.n.a.lo) := cell_at _ _ _ 2 _ rfl
          have m3 : (wr.alloc (.cells #[.bool x.n.a.v6, .int .u64 x.n.a.hi, .int .u64 x.n.a.lo, .int .i64 x.n.n, .int .i64 x.t] 40)).cell? ⟨wr.heap.size, 3, none⟩ = some (.int .i64 x.n.n) := cell_at _ _ _ 3 _ rfl
          have m4 : (wr.alloc (.cells #[.bool x.n.a.v6, .int .u64 x.n.a.hi, .int .u64 x.n.a.lo, .int .i64 x.n.n, .int .i64 x.t] 40)).cell? ⟨wr.heap.size, 4, none⟩ = some (.int .i64 x.t) := cell_at _ _ _ 4 _ rfl
          clear hr hxo hcr
          go_wp2_with fail
          have hne : Nonempty (Cls (Stays (wr.alloc (.cells #[.bool x.n.a.v6, .int .u64 x.n.a.hi, .int .u64 x.n.a.lo, .int .i64 x.n.n, .int .i64 x.t] 40)))) := ⟨⟨_, Below.refl _ _⟩⟩
          have f0 : ∀ q : Cls (Stays (wr.alloc (.cells #[.bool x.n.a.v6, .int .u64 x.n.a.hi, .int .u64 x.n.a.lo, .int .i64 x.n.n, .int .i64 x.t] 40))), q.w.cell? ⟨wr.heap.size, 0, none⟩ = some (.bool x.n.a.v6) := fun q => cells_left q.h (m0)
          have f1 : ∀ q : Cls (Stays (wr.alloc (.cells #[.bool x.n.a.v6, .int .u64 x.n.a.hi, .int .u64 x.n.a.lo, .int .i64 x.n.n, .int .i64 x.t] 40))), q.w.cell? ⟨wr.heap.size, 1, none⟩ = some (.int .u64 x.n.a.hi) := fun q => cells_left q.h (m1)
          have f2 : ∀ q : Cls (Stays (wr.alloc (.cells #[.bool x.n.a.v6, .int .u64 x.n.a.hi, .int .u64 x.n.a.lo, .int .i64 x.n.n, .int .i64 x.t] 40))), q.w.cell? ⟨wr.heap.size, 2, none⟩ = some (.int .u64 x.n.a.lo) := fun q => cells_left q.h (m2)
          have f3 : ∀ q : Cls (Stays (wr.alloc (.cells #[.bool x.n.a.v6, .int .u64 x.n.a.hi, .int .u64 x.n.a.lo, .int .i64 x.n.n, .int .i64 x.t] 40))), q.w.cell? ⟨wr.heap.size, 3, none⟩ = some (.int .i64 x.n.n) := fun q => cells_left q.h (m3)
          have f4 : ∀ q : Cls (Stays (wr.alloc (.cells #[.bool x.n.a.v6, .int .u64 x.n.a.hi, .int .u64 x.n.a.lo, .int .i64 x.n.n, .int .i64 x.t] 40))), q.w.cell? ⟨wr.heap.size, 4, none⟩ = some (.int .i64 x.t) := fun q => cells_left q.h (m4)
          refine Cls.region (Stays (wr.alloc (.cells #[.bool x.n.a.v6, .int .u64 x.n.a.hi, .int .u64 x.n.a.lo, .int .i64 x.n.n, .int .i64 x.t] 40))) (by kernel_rfl) (by kernel_rfl) (low_drewN (Below.refl _ _) 1) ?_
          repeat (go_big_quiet_step (first | fail | (with_reducible exact Cls.call (KR.out _ (Cls.h _)))))
          refine wpQuiet_nil ?_
          intro n9
          have hs9 := n9.h
          generalize n9.w = w9 at hs9 ⊢
          clear hne n9 f0 f1 f2 f3 f4
          clear KR m0 m1 m2 m3 m4 c0 c1 c2 c3 c4
          go_wp2_with fail
          go_roundw
          case rel => exact ⟨0 + 1, by omega, by go_num, HN2, HB.out _ hs9⟩
          case measure => simp [intOf]; omega
        · obtain ⟨m, rfl⟩ : ∃ m, k = m + 1 := ⟨k - 1, by omega⟩
          obtain ⟨g0, g1, g2, g3, g4⟩ := bans_at hcr (k := m) (by omega)
          have hyo := HK.out _ (List.getElem_mem (show m < l.length by omega))
          by_cases hf : 0 < cmpN l[m + 1].n l[m].n
          · have HN2 : Hid (Far l (m + 1 + 1)) := Lib.hid (far_snoc HN.out hlt hr (fun _ => hf))
            generalize l[m + 1] = x at *
            generalize l[m] = y at *
            have KR : Hid (∀ W0, Stays (wr.alloc (.cells #[.bool x.n.a.v6, .int .u64 x.n.a.hi, .int .u64 x.n.a.lo, .int .i64 x.n.n, .int .i64 x.t] 40)) W0 → Calls Tryz.prog 19 #[.agg #[.bool x.n.a.v6, .int .u64 x.n.a.hi, .int .u64 x.n.a.lo, .int .i64 x.n.n, .int .i64 x.t]] W0 fun e w' => e = .returned (.bool true) ∧ Stays (wr.alloc (.cells #[.bool x.n.a.v6, .int .u64 x.n.a.hi, .int .u64 x.n.a.lo, .int .i64 x.n.n, .int .i64 x.t] 40)) w') := Lib.hid (Tr.keep_call fun W0 => hr ▸ rightB_any x W0 hxo)
            have KF : Hid (∀ W0, Stays (wr.alloc (.cells #[.bool x.n.a.v6, .int .u64 x.n.a.hi, .int .u64 x.n.a.lo, .int .i64 x.n.n, .int .i64 x.t] 40)) W0 → Calls Tryz.prog 61 #[.agg #[.bool x.n.a.v6, .int .u64 x.n.a.hi, .int .u64 x.n.a.lo, .int .i64 x.n.n, .int .i64 x.t], .agg #[.bool y.n.a.v6, .int .u64 y.n.a.hi, .int .u64 y.n.a.lo, .int .i64 y.n.n]] W0 fun e w' => e = .returned (.bool true) ∧ Stays (wr.alloc (.cells #[.bool x.n.a.v6, .int .u64 x.n.a.hi, .int .u64 x.n.a.lo, .int .i64 x.n.n, .int .i64 x.t] 40)) w') := Lib.hid (Tr.keep_call fun W0 => (decide_eq_true hf : decide (0 < cmpN x.n y.n) = _) ▸ follows_any x y.n W0 hxo hyo.1)
            have m0 : (wr.alloc (.cells #[.bool x.n.a.v6, .int .u64 x.n.a.hi, .int .u64 x.n.a.lo, .int .i64 x.n.n, .int .i64 x.t] 40)).cell? ⟨wr.heap.size, 0, none⟩ = some (.bool x.n.a.v6) := cell_at _ _ _ 0 _ rfl
            have m1 : (wr.alloc (.cells #[.bool x.n.a.v6, .int .u64 x.n.a.hi, .int .u64 x.n.a.lo, .int .i64 x.n.n, .int .i64 x.t] 40)).cell? ⟨wr.heap.size, 1, none⟩ = some (.int .u64 x.n.a.hi) := cell_at _ _ _ 1 _ rfl
            have m2 : (wr.alloc (.cells #[.bool x.n.a.v6, .int .u64 x.n.a.hi, .int .u64 x.n.a.lo, .int .i64 x.n.n, .int .i64 x.t] 40)).cell? ⟨wr.heap.size, 2, none⟩ = some (.int .u64 x.n.a.lo) := cell_at _ _ _ 2 _ rfl
            have m3 : (wr.alloc (.cells #[.bool x.n.a.v6, .int .u64 x.n.a.hi, .int .u64 x.n.a.lo, .int .i64 x.n.n, .int .i64 x.t] 40)).cell? ⟨wr.heap.size, 3, none⟩ = some (.int .i64 x.n.n) := cell_at _ _ _ 3 _ rfl
            have m4 : (wr.alloc (.cells #[.bool x.n.a.v6, .int .u64 x.n.a.hi, .int .u64 x.n.a.lo, .int .i64 x.n.n, .int .i64 x.t] 40)).cell? ⟨wr.heap.size, 4, none⟩ = some (.int .i64 x.t) := cell_at _ _ _ 4 _ rfl
            have e0 : (wr.alloc (.cells #[.bool x.n.a.v6, .int .u64 x.n.a.hi, .int .u64 x.n.a.lo, .int .i64 x.n.n, .int .i64 x.t] 40)).cell? ⟨b, o + m * 5, none⟩ = some (.bool y.n.a.v6) := cells_left ((Below.refl _ _).alloc (Nat.le_refl _) _) g0
            have e1 : (wr.alloc (.cells #[.bool x.n.a.v6, .int .u64 x.n.a.hi, .int .u64 x.n.a.lo, .int .i64 x.n.n, .int .i64 x.t] 40)).cell? ⟨b, o + m * 5 + 1, none⟩ = some (.int .u64 y.n.a.hi) := cells_left ((Below.refl _ _).alloc (Nat.le_refl _) _) g1
            have e2 : (wr.alloc (.cells #[.bool x.n.a.v6, .int .u64 x.n.a.hi, .int .u64 x.n.a.lo, .int .i64 x.n.n, .int .i64 x.t] 40)).cell? ⟨b, o + m * 5 + 2, none⟩ = some (.int .u64 y.n.a.lo) := cells_left ((Below.refl _ _).alloc (Nat.le_refl _) _) g2
            have e3 : (wr.alloc (.cells #[.bool x.n.a.v6, .int .u64 x.n.a.hi, .int .u64 x.n.a.lo, .int .i64 x.n.n, .int .i64 x.t] 40)).cell? ⟨b, o + m * 5 + 3, none⟩ = some (.int .i64 y.n.n) := cells_left ((Below.refl _ _).alloc (Nat.le_refl _) _) g3
            clear hr hxo hcr hf hyo g0 g1 g2 g3 g4
            go_wp2_with fail
            have hne : Nonempty (Cls (Stays (wr.alloc (.cells #[.bool x.n.a.v6, .int .u64 x.n.a.hi, .int .u64 x.n.a.lo, .int .i64 x.n.n, .int .i64 x.t] 40)))) := ⟨⟨_, Below.refl _ _⟩⟩
            have f0 : ∀ q : Cls (Stays (wr.alloc (.cells #[.bool x.n.a.v6, .int .u64 x.n.a.hi, .int .u64 x.n.a.lo, .int .i64 x.n.n, .int .i64 x.t] 40))), q.w.cell? ⟨wr.heap.size, 0, none⟩ = some (.bool x.n.a.v6) := fun q => cells_left q.h (m0)
            have f1 : ∀ q : Cls (Stays (wr.alloc (.cells #[.bool x.n.a.v6, .int .u64 x.n.a.hi, .int .u64 x.n.a.lo, .int .i64 x.n.n, .int .i64 x.t] 40))), q.w.cell? ⟨wr.heap.size, 1, none⟩ = some (.int .u64 x.n.a.hi) := fun q => cells_left q.h (m1)
            have f2 : ∀ q : Cls (Stays (wr.alloc (.cells #[.bool x.n.a.v6, .int .u64 x.n.a.hi, .int .u64 x.n.a.lo, .int .i64 x.n.n, .int .i64 x.t] 40))), q.w.cell? ⟨wr.heap.size, 2, none⟩ = some (.int .u64 x.n.a.lo) := fun q => cells_left q.h (m2)
            have f3 : ∀ q : Cls (Stays (wr.alloc (.cells #[.bool x.n.a.v6, .int .u64 x.n.a.hi, .int .u64 x.n.a.lo, .int .i64 x.n.n, .int .i64 x.t] 40))), q.w.cell? ⟨wr.heap.size, 3, none⟩ = some (.int .i64 x.n.n) := fun q => cells_left q.h (m3)
            have f4 : ∀ q : Cls (Stays (wr.alloc (.cells #[.bool x.n.a.v6, .int .u64 x.n.a.hi, .int .u64 x.n.a.lo, .int .i64 x.n.n, .int .i64 x.t] 40))), q.w.cell? ⟨wr.heap.size, 4, none⟩ = some (.int .i64 x.t) := fun q => cells_left q.h (m4)
            have f5 : ∀ q : Cls (Stays (wr.alloc (.cells #[.bool x.n.a.v6, .int .u64 x.n.a.hi, .int .u64 x.n.a.lo, .int .i64 x.n.n, .int .i64 x.t] 40))), q.w.cell? ⟨b, o + m * 5, none⟩ = some (.bool y.n.a.v6) := fun q => cells_left q.h (e0)
            have f6 : ∀ q : Cls (Stays (wr.alloc (.cells #[.bool x.n.a.v6, .int .u64 x.n.a.hi, .int .u64 x.n.a.lo, .int .i64 x.n.n, .int .i64 x.t] 40))), q.w.cell? ⟨b, o + m * 5 + 1, none⟩ = some (.int .u64 y.n.a.hi) := fun q => cells_left q.h (e1)
            have f7 : ∀ q : Cls (Stays (wr.alloc (.cells #[.bool x.n.a.v6, .int .u64 x.n.a.hi, .int .u64 x.n.a.lo, .int .i64 x.n.n, .int .i64 x.t] 40))), q.w.cell? ⟨b, o + m * 5 + 2, none⟩ = some (.int .u64 y.n.a.lo) := fun q => cells_left q.h (e2)
            have f8 : ∀ q : Cls (Stays (wr.alloc (.cells #[.bool x.n.a.v6, .int .u64 x.n.a.hi, .int .u64 x.n.a.lo, .int .i64 x.n.n, .int .i64 x.t] 40))), q.w.cell? ⟨b, o + m * 5 + 3, none⟩ = some (.int .i64 y.n.n) := fun q => cells_left q.h (e3)
            refine Cls.region (Stays (wr.alloc (.cells #[.bool x.n.a.v6, .int .u64 x.n.a.hi, .int .u64 x.n.a.lo, .int .i64 x.n.n, .int .i64 x.t] 40))) (by kernel_rfl) (by kernel_rfl) (low_drewN (Below.refl _ _) 1) ?_
            repeat (go_big_quiet_step (first | fail | (with_reducible exact Cls.call (KR.out _ (Cls.h _))) | (with_reducible exact Cls.call (KF.out _ (Cls.h _)))))
            refine wpQuiet_nil ?_
            intro n9
            have hs9 := n9.h
            generalize n9.w = w9 at hs9 ⊢
            clear hne n9 f0 f1 f2 f3 f4 f5 f6 f7 f8
            clear KR KF m0 m1 m2 m3 m4 c0 c1 c2 c3 c4 e0 e1 e2 e3
            go_wp2_with fail
            go_roundw
            case rel => exact ⟨m + 1 + 1, by omega, by go_num, HN2, HB.out _ hs9⟩
            case measure => simp [intOf]; omega
          · have E : Hid (rightL l = false) := Lib.hid (far_back hlt hf)
            generalize l[m + 1] = x at *
            generalize l[m] = y at *
            have KR : Hid (∀ W0, Stays (wr.alloc (.cells #[.bool x.n.a.v6, .int .u64 x.n.a.hi, .int .u64 x.n.a.lo, .int .i64 x.n.n, .int .i64 x.t] 40)) W0 → Calls Tryz.prog 19 #[.agg #[.bool x.n.a.v6, .int .u64 x.n.a.hi, .int .u64 x.n.a.lo, .int .i64 x.n.n, .int .i64 x.t]] W0 fun e w' => e = .returned (.bool true) ∧ Stays (wr.alloc (.cells #[.bool x.n.a.v6, .int .u64 x.n.a.hi, .int .u64 x.n.a.lo, .int .i64 x.n.n, .int .i64 x.t] 40)) w') := Lib.hid (Tr.keep_call fun W0 => hr ▸ rightB_any x W0 hxo)
            have KF : Hid (∀ W0, Stays (wr.alloc (.cells #[.bool x.n.a.v6, .int .u64 x.n.a.hi, .int .u64 x.n.a.lo, .int .i64 x.n.n, .int .i64 x.t] 40)) W0 → Calls Tryz.prog 61 #[.agg #[.bool x.n.a.v6, .int .u64 x.n.a.hi, .int .u64 x.n.a.lo, .int .i64 x.n.n, .int .i64 x.t], .agg #[.bool y.n.a.v6, .int .u64 y.n.a.hi, .int .u64 y.n.a.lo, .int .i64 y.n.n]] W0 fun e w' => e = .returned (.bool false) ∧ Stays (wr.alloc (.cells #[.bool x.n.a.v6, .int .u64 x.n.a.hi, .int .u64 x.n.a.lo, .int .i64 x.n.n, .int .i64 x.t] 40)) w') := Lib.hid (Tr.keep_call fun W0 => (decide_eq_false hf : decide (0 < cmpN x.n y.n) = _) ▸ follows_any x y.n W0 hxo hyo.1)
            have m0 : (wr.alloc (.cells #[.bool x.n.a.v6, .int .u64 x.n.a.hi, .int .u64 x.n.a.lo, .int .i64 x.n.n, .int .i64 x.t] 40)).cell? ⟨wr.heap.size, 0, none⟩ = some (.bool x.n.a.v6) := cell_at _ _ _ 0 _ rfl
            have m1 : (wr.alloc (.cells #[.bool x.n.a.v6, .int .u64 x.n.a.hi, .int .u64 x.n.a.lo, .int .i64 x.n.n, .int .i64 x.t] 40)).cell? ⟨wr.heap.size, 1, none⟩ = some (.int .u64 x.n.a.hi) := cell_at _ _ _ 1 _ rfl
            have m2 : (wr.alloc (.cells #[.bool x.n.a.v6, .int .u64 x.n.a.hi, .int .u64 x.n.a.lo, .int .i64 x.n.n, .int .i64 x.t] 40)).cell? ⟨wr.heap.size, 2, none⟩ = some (.int .u64 x.n.a.lo) := cell_at _ _ _ 2 _ rfl
            have m3 : (wr.alloc (.cells #[.bool x.n.a.v6, .int .u64 x.n.a.hi, .int .u64 x.n.a.lo, .int .i64 x.n.n, .int .i64 x.t] 40)).cell? ⟨wr.heap.size, 3, none⟩ = some (.int .i64 x.n.n) := cell_at _ _ _ 3 _ rfl
            have m4 : (wr.alloc (.cells #[.bool x.n.a.v6, .int .u64 x.n.a.hi, .int .u64 x.n.a.lo, .int .i64 x.n.n, .int .i64 x.t] 40)).cell? ⟨wr.heap.size, 4, none⟩ = some (.int .i64 x.t) := cell_at _ _ _ 4 _ rfl
            have e0 : (wr.alloc (.cells #[.bool x.n.a.v6, .int .u64 x.n.a.hi, .int .u64 x.n.a.lo, .int .i64 x.n.n, .int .i64 x.t] 40)).cell? ⟨b, o + m * 5, none⟩ = some (.bool y.n.a.v6) := cells_left ((Below.refl _ _).alloc (Nat.le_refl _) _) g0
            have e1 : (wr.alloc (.cells #[.bool x.n.a.v6, .int .u64 x.n.a.hi, .int .u64 x.n.a.lo, .int .i64 x.n.n, .int .i64 x.t] 40)).cell? ⟨b, o + m * 5 + 1, none⟩ = some (.int .u64 y.n.a.hi) := cells_left ((Below.refl _ _).alloc (Nat.le_refl _) _) g1
            have e2 : (wr.alloc (.cells #[.bool x.n.a.v6, .int .u64 x.n.a.hi, .int .u64 x.n.a.lo, .int .i64 x.n.n, .int .i64 x.t] 40)).cell? ⟨b, o + m * 5 + 2, none⟩ = some (.int .u64 y.n.a.lo) := cells_left ((Below.refl _ _).alloc (Nat.le_refl _) _) g2
            have e3 : (wr.alloc (.cells #[.bool x.n.a.v6, .int .u64 x.n.a.hi, .int .u64 x.n.a.lo, .int .i64 x.n.n, .int .i64 x.t] 40)).cell? ⟨b, o + m * 5 + 3, none⟩ = some (.int .i64 y.n.n) := cells_left ((Below.refl _ _).alloc (Nat.le_refl _) _) g3
            clear hr hxo hcr hf hyo g0 g1 g2 g3 g4
            go_wp2_with fail
            have hne : Nonempty (Cls (Stays (wr.alloc (.cells #[.bool x.n.a.v6, .int .u64 x.n.a.hi, .int .u64 x.n.a.lo, .int .i64 x.n.n, .int .i64 x.t] 40)))) := ⟨⟨_, Below.refl _ _⟩⟩
            have f0 : ∀ q : Cls (Stays (wr.alloc (.cells #[.bool x.n.a.v6, .int .u64 x.n.a.hi, .int .u64 x.n.a.lo, .int .i64 x.n.n, .int .i64 x.t] 40))), q.w.cell? ⟨wr.heap.size, 0, none⟩ = some (.bool x.n.a.v6) := fun q => cells_left q.h (m0)
            have f1 : ∀ q : Cls (Stays (wr.alloc (.cells #[.bool x.n.a.v6, .int .u64 x.n.a.hi, .int .u64 x.n.a.lo, .int .i64 x.n.n, .int .i64 x.t] 40))), q.w.cell? ⟨wr.heap.size, 1, none⟩ = some (.int .u64 x.n.a.hi) := fun q => cells_left q.h (m1)
            have f2 : ∀ q : Cls (Stays (wr.alloc (.cells #[.bool x.n.a.v6, .int .u64 x.n.a.hi, .int .u64 x.n.a.lo, .int .i64 x.n.n, .int .i64 x.t] 40))), q.w.cell? ⟨wr.heap.size, 2, none⟩ = some (.int .u64 x.n.a.lo) := fun q => cells_left q.h (m2)
            have f3 : ∀ q : Cls (Stays (wr.alloc (.cells #[.bool x.n.a.v6, .int .u64 x.n.a.hi, .int .u64 x.n.a.lo, .int .i64 x.n.n, .int .i64 x.t] 40))), q.w.cell? ⟨wr.heap.size, 3, none⟩ = some (.int .i64 x.n.n) := fun q => cells_left q.h (m3)
            have f4 : ∀ q : Cls (Stays (wr.alloc (.cells #[.bool x.n.a.v6, .int .u64 x.n.a.hi, .int .u64 x.n.a.lo, .int .i64 x.n.n, .int .i64 x.t] 40))), q.w.cell? ⟨wr.heap.size, 4, none⟩ = some (.int .i64 x.t) := fun q => cells_left q.h (m4)
            have f5 : ∀ q : Cls (Stays (wr.alloc (.cells #[.bool x.n.a.v6, .int .u64 x.n.a.hi, .int .u64 x.n.a.lo, .int .i64 x.n.n, .int .i64 x.t] 40))), q.w.cell? ⟨b, o + m * 5, none⟩ = some (.bool y.n.a.v6) := fun q => cells_left q.h (e0)
            have f6 : ∀ q : Cls (Stays (wr.alloc (.cells #[.bool x.n.a.v6, .int .u64 x.n.a.hi, .int .u64 x.n.a.lo, .int .i64 x.n.n, .int .i64 x.t] 40))), q.w.cell? ⟨b, o + m * 5 + 1, none⟩ = some (.int .u64 y.n.a.hi) := fun q => cells_left q.h (e1)
            have f7 : ∀ q : Cls (Stays (wr.alloc (.cells #[.bool x.n.a.v6, .int .u64 x.n.a.hi, .int .u64 x.n.a.lo, .int .i64 x.n.n, .int .i64 x.t] 40))), q.w.cell? ⟨b, o + m * 5 + 2, none⟩ = some (.int .u64 y.n.a.lo) := fun q => cells_left q.h (e2)
            have f8 : ∀ q : Cls (Stays (wr.alloc (.cells #[.bool x.n.a.v6, .int .u64 x.n.a.hi, .int .u64 x.n.a.lo, .int .i64 x.n.n, .int .i64 x.t] 40))), q.w.cell? ⟨b, o + m * 5 + 3, none⟩ = some (.int .i64 y.n.n) := fun q => cells_left q.h (e3)
            refine Cls.region (Stays (wr.alloc (.cells #[.bool x.n.a.v6, .int .u64 x.n.a.hi, .int .u64 x.n.a.lo, .int .i64 x.n.n, .int .i64 x.t] 40))) (by kernel_rfl) (by kernel_rfl) (low_drewN (Below.refl _ _) 1) ?_
            repeat (go_big_quiet_step (first | fail | (with_reducible exact Cls.call (KR.out _ (Cls.h _))) | (with_reducible exact Cls.call (KF.out _ (Cls.h _)))))
            refine wpQuiet_nil ?_
            intro n9
            have hs9 := n9.h
            generalize n9.w = w9 at hs9 ⊢
            clear hne n9 f0 f1 f2 f3 f4 f5 f6 f7 f8
            clear KR KF m0 m1 m2 m3 m4 c0 c1 c2 c3 c4 e0 e1 e2 e3
            go_wp2_with fail
            go_ret
            exact ⟨ret_b E.out.symm, HB.out _ hs9⟩
    · have E : Hid (rightL l = true) := Lib.hid (far_all (by rw [show l.length = k by omega]; exact HN.out))
      have HB := Lib.hid hlow
      go_wp2_with fail
      go_ret
      exact ⟨ret_b E.out.symm, HB.out⟩
end Go.Proofs.YtefkolkagebffaaGreatDoor.Ba
