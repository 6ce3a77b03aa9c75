/- Contracts of package bans, first part: copies, closures, where a subnet stands. -/
import Derived.Test.YtcjdfgpkcafpdaaBansKit
import Derived.Test.YtcjdfgpkcafpdaaBan
import Derived.Test.YtcjdfgpkcafpdaaRef11All
import Derived.Deep.LoopGhost
namespace Go.Proofs.Ytcjdfgpkcafpdaa.Ba
set_option maxRecDepth 100000
open Go.ChangeShapes Go.WideShapes Go.ChangeAt Go.RowKit
open Dec Words V4 V6 Ad Ci
set_option linter.unusedVariables false
section
variable {P : Program}
/-- A make whose run is known, for the walk. -/
theorem wpList_make_run {w : World} {ops : Array Oper} {rest : List Oper} {o : Oper} {a : Act} {Q : Exit → Act → World → Prop} (hgd : o.guard = none) (l c : Operand) (t : TypeId)
    (ho : o.op = Op.makeSlice t l c) (vl vc v : Value) (w' : World) (hl : a.eval l = vl) (hc : a.eval c = vc) (hr : (Instr.makeSlice t vl vc).run P w = .ok v w') (h : wpList P ops Q rest (a.put o.dst v) w') : wpList P ops Q (o :: rest) a w := by
  refine wpList_plain hgd fun K hK => ?_
  unfold Oper.wp
  simp [execOp, ho, hl, hc, hr, Result.andThen]
  exact hK _ _ h
end
theorem made_bans (n : Nat) : (madeCells (Value.cells (.agg #[.bool false, .int .u64 0, .int .u64 0, .int .i64 0, .int .i64 0])) (n * 5)).toList = flat encB (List.replicate n zeroB) := by
  have h5 : (Value.cells (.agg #[.bool false, .int .u64 0, .int .u64 0, .int .i64 0, .int .i64 0])).size = 5 := rfl
  apply List.ext_getElem?
  intro i
  by_cases hi : i < n * 5
  · have e : i = i / 5 * 5 + i % 5 := by omega
    have hq : i / 5 < (List.replicate n zeroB).length := by simp; omega
    have hr : i % 5 < 5 := Nat.mod_lt _ (by decide)
    conv => rhs; rw [e, flat_at encB_len _ _ _ hq hr]
    rw [List.getElem_replicate, Array.getElem?_toList]
    have hj : (madeCells (Value.cells (.agg #[.bool false, .int .u64 0, .int .u64 0, .int .i64 0, .int .i64 0])) (n * 5))[i]? = some ((Value.cells (.agg #[.bool false, .int .u64 0, .int .u64 0, .int .i64 0, .int .i64 0]))[i % 5]!) := by
      simp only [madeCells, h5, Array.getElem?_map]
      rw [Array.getElem?_eq_getElem (by simpa using hi)]
      simp
    rw [hj]
    generalize i % 5 = r at hr
    match r, hr with
    | 0, _ => rfl
    | 1, _ => rfl
    | 2, _ => rfl
    | 3, _ => rfl
    | 4, _ => rfl
  · rw [List.getElem?_eq_none (by simp [size_madeCells]; omega), List.getElem?_eq_none (by rw [flat_len encB_len]; simp; omega)]
theorem splice_front (D : List Ban) (l : List Ban) : splice (List.replicate (l.length + 1) zeroB) 0 l = l ++ [zeroB] := by
  unfold splice
  rw [List.take_zero, List.nil_append, List.drop_replicate, show l.length + 1 - (0 + l.length) = 1 by omega]; rfl
set_option maxHeartbeats 4000000 in
theorem copied_any (v : Value) (l : List Ban) (w : World) (h : Bans w v l) (hl : l.length ≤ 900000) :
    Calls Try.prog 20 #[v] w fun e w' => e = .returned (.slice (some ⟨w.heap.size, 0, none⟩) l.length (l.length + 1)) ∧ Blk w' w.heap.size 29 (flat encB (l ++ [zeroB])) ∧ Below w.heap.size w w' := by
  have h9 := h
  obtain ⟨A, c, rfl, hc, hnil, hcell⟩ := h
  have HI : (Try.prog.info? 29).map (fun i => (i.zero, i.size, i.bytes)) = some (some (.agg #[.bool false, .int .u64 0, .int .u64 0, .int .i64 0, .int .i64 0]), 5, 40) := by kernel_rfl
  obtain ⟨i0, hi, hz0, hz1, hz2⟩ := info_parts HI
  have R1 := run_make (P := Try.prog) w 22 29 i0 _ Try.underlying22 hi hz0 .i64 .i64 (l.length : Int) ((l.length : Int) + 1) (by omega) (by omega) (by rw [hz2]; omega) (by omega)
  rw [show ((l.length : Int) + 1).toNat = l.length + 1 by omega, Int.toNat_natCast, hz1] at R1
  have b1 : Blk (w.alloc (.cells (madeCells (Value.cells (.agg #[.bool false, .int .u64 0, .int .u64 0, .int .i64 0, .int .i64 0])) ((l.length + 1) * 5)) 29)) w.heap.size 29 (flat encB (List.replicate (l.length + 1) zeroB)) := by
    have := Blk.new w (madeCells (Value.cells (.agg #[.bool false, .int .u64 0, .int .u64 0, .int .i64 0, .int .i64 0])) ((l.length + 1) * 5)) 29
    rwa [made_bans] at this
  have l1 : Below w.heap.size w (w.alloc (.cells (madeCells (Value.cells (.agg #[.bool false, .int .u64 0, .int .u64 0, .int .i64 0, .int .i64 0])) ((l.length + 1) * 5)) 29)) := (Below.refl _ _).alloc (Nat.le_refl _) _
  have n9 := h9.below l1
  generalize w.alloc (.cells (madeCells (Value.cells (.agg #[.bool false, .int .u64 0, .int .u64 0, .int .i64 0, .int .i64 0])) ((l.length + 1) * 5)) 29) = W1 at R1 b1 l1 n9
  obtain ⟨A9, c9, e9, _, _, hcell9⟩ := n9
  obtain ⟨rfl, rfl⟩ : A = A9 ∧ c = c9 := by simpa using e9
  obtain ⟨W2, R2, b2, t2⟩ := run_copy_any (P := Try.prog) W1 22 22 3 29 5 (by decide) Try.underlying22 (by rw [hi]; simp [hz1]) (some ⟨w.heap.size, 0, none⟩) A l.length (l.length + 1) l.length c w.heap.size 0 _ _ b1 (flat encB l)
    (by rw [flat_len encB_len, show Nat.min l.length l.length = l.length from Nat.min_self _]) (fun hp => by
      have h0 : 0 < l.length := by rw [flat_len encB_len] at hp; omega
      obtain ⟨b, o, rfl, hb, hcc⟩ := hcell9 h0
      refine ⟨rfl, _, rfl, fun j u hu => ?_⟩
      have hj : j < l.length * 5 := by have := (List.getElem?_eq_some_iff.1 hu).1; rwa [flat_len encB_len] at this
      have e : j = j / 5 * 5 + j % 5 := by omega
      have hq : j / 5 < l.length := by omega
      rw [e, flat_at encB_len _ _ _ hq (Nat.mod_lt _ (by decide))] at hu
      rw [add_plain, e, ← Nat.add_assoc]
      exact hcc _ hq _ _ hu) (by rw [flat_len encB_len, flat_len encB_len]; simp; omega) (fun u hu => by
      obtain ⟨y, _, hu2⟩ := List.mem_flatMap.1 hu
      exact encB_one y u hu2)
  have b3 : Blk W2 w.heap.size 29 (flat encB (l ++ [zeroB])) := by
    have := flat_splice encB_len (List.replicate (l.length + 1) zeroB) 0 l
    rw [Nat.zero_mul] at this
    rwa [this, splice_front []] at b2
  rw [show Nat.min l.length l.length = l.length from Nat.min_self _] at R2
  have HB3 := Lib.hid b3
  have HL : Hid (Below w.heap.size w W2) := Lib.hid (Bt.below l1 t2 (Nat.le_refl _) l1.size)
  have HR1 := Lib.hid R1
  have HR2 := Lib.hid R2
  clear b1 b2 b3 t2 R1 R2 hcell hcell9 e9 l1 h9 HI hi hz0 hz1 hz2
  generalize hn : l.length = n at *
  have R2 := HR2.out
  go_enter Try.func20, Try.ntmps20
  go_wp2_with (first
    | (at_make; refine wpList_make_run rfl _ _ _ rfl _ _ _ _ rfl rfl HR1.out ?_)
    | fail)
  go_ret
  exact ⟨rfl, HB3.out, HL.out⟩
/-- What a function value tells of a ban, wherever all that lay below B is as it was. -/
def Tells (g : Nat) (lb : Array Value) (p : Ban → Bool) (B : Nat) (w : World) : Prop :=
  ∀ (W : World) (x : Ban), x.ok → Below B w W → B ≤ W.heap.size → Calls Try.prog g (#[.agg #[.bool x.n.a.v6, .int .u64 x.n.a.hi, .int .u64 x.n.a.lo, .int .i64 x.n.n, .int .i64 x.t]] ++ lb) W fun e w' => e = .returned (.bool (p x)) ∧ Below W.heap.size W w'
theorem Tells.on {g : Nat} {lb : Array Value} {p : Ban → Bool} {B : Nat} {w w' : World} (h : Tells g lb p B w) (k : Below B w w') : Tells g lb p B w' := fun W x hx hb hB => h W x hx (k.trans hb) hB
def posI (p : Ban → Bool) (l : List Ban) : Int := if l.findIdx p < l.length then (l.findIdx p : Int) else -1
theorem posI_hit {p : Ban → Bool} {l : List Ban} {k : Nat} (hk : k < l.length) (h : ∀ i (h : i < l.length), i < k → p l[i] = false) (hp : p l[k] = true) : posI p l = (k : Int) ∧ l.findIdx p = k := by
  have e : l.findIdx p = k := (List.findIdx_eq hk).2 ⟨hp, fun j hj => by simpa using h j (by omega) hj⟩
  exact ⟨by unfold posI; rw [e, if_pos hk], e⟩
theorem posI_miss {p : Ban → Bool} {l : List Ban} (h : ∀ i (h : i < l.length), p l[i] = false) : posI p l = -1 := by
  have e : l.findIdx p = l.length := by
    rw [List.findIdx_eq_length]
    intro x hx
    obtain ⟨i, hi, rfl⟩ := List.getElem_of_mem hx
    simpa using h i hi
  unfold posI; rw [e, if_neg (by omega)]
theorem ixI_pos (l : List Ban) (n : Net) : ixI l n = posI (fun b => sameN b.n n) l := rfl
set_option maxHeartbeats 2000000 in
theorem indexFunc_any (g : Nat) (lb : Array Value) (p : Ban → Bool) (eg : ∀ args w, (callFunc g args).run Try.prog w = .ok (.enter g args) w) (v : Value) (l : List Ban) (w : World) (h : Bans w v l) (hl : l.length ≤ 1000000) (hok : ∀ x ∈ l, x.ok) (hp : Tells g lb p w.heap.size w) :
    Calls Try.prog 35 #[v, .func (.func g) #[] lb] w fun e w' => e = .returned (.int .i64 (posI p l)) ∧ Below w.heap.size w w' := by
  obtain ⟨A, c, rfl, hc, _, hcell⟩ := h
  have HC := Lib.hid hcell
  have HP := Lib.hid hp
  have HK := Lib.hid hok
  clear hcell hp hok
  go_enter Try.func35, Try.ntmps35
  go_wp2_with fail
  go_loopw [5, 8] (fun _ i wr => ∃ k : Nat, k ≤ l.length ∧ i = .int .i64 k ∧ Hid (∀ i (h : i < l.length), i < k → p l[i] = false) ∧ Below w.heap.size w wr) (fun _ i _ => l.length - (intOf i).toNat)
  case atStart => exact ⟨0, Nat.zero_le _, rfl, Lib.hid (fun _ _ h => absurd h (Nat.not_lt_zero _)), Below.refl _ _⟩
  case round =>
    obtain ⟨k, hk, rfl, HN, hlow⟩ := hrel
    by_cases hlt : k < l.length
    · obtain ⟨b, o, rfl, hb, hcc⟩ := HC.out (by omega)
      obtain ⟨c0, c1, c2, c3, c4⟩ := bans_at (fun i h j u hu => (hlow.cell (p := ⟨b, o + i * 5 + j, none⟩) hb).trans (hcc i h j u hu)) hlt
      have hcall := Lib.hid (HP.out wr l[k] (HK.out _ (List.getElem_mem hlt)) hlow hlow.size)
      have HB := Lib.hid hlow
      clear hcc
      cases hq : p l[k]
      · rw [hq] at hcall
        have HN2 : Hid (∀ i (h : i < l.length), i < k + 1 → p l[i] = false) := Lib.hid fun i h hi => by
          rcases Nat.lt_succ_iff_lt_or_eq.1 hi with h2 | rfl
          · exact HN.out i h h2
          · exact hq
        clear hq
        go_wp2_with (go_at_fn g; refine hcall.out.mono ?_; rintro e w9 ⟨rfl, hb9⟩)
        go_roundw
        case rel => exact ⟨k + 1, by omega, by go_num, HN2, low_trans HB.out hb9⟩
        case measure => simp [intOf]; omega
      · rw [hq] at hcall
        have E : Hid (posI p l = k) := Lib.hid (posI_hit hlt HN.out hq).1
        clear hq
        go_wp2_with (go_at_fn g; refine hcall.out.mono ?_; rintro e w9 ⟨rfl, hb9⟩)
        go_ret
        exact ⟨ret_i E.out.symm, low_trans HB.out hb9⟩
    · have E : Hid (posI p l = -1) := Lib.hid (posI_miss fun i h => HN.out i h (by omega))
      have HB : Hid (Below w.heap.size w wr) := Lib.hid hlow
      go_wp2_with fail
      go_ret
      exact ⟨ret_i E.out.symm, HB.out⟩
set_option maxHeartbeats 2000000 in
theorem find1_any (x : Ban) (n : Net) (B : Nat) (w : World) (hB : B < w.heap.size) (h0 : w.cell? ⟨B, 0, none⟩ = some (.bool n.a.v6)) (h1 : w.cell? ⟨B, 1, none⟩ = some (.int .u64 n.a.hi)) (h2 : w.cell? ⟨B, 2, none⟩ = some (.int .u64 n.a.lo)) (h3 : w.cell? ⟨B, 3, none⟩ = some (.int .i64 n.n)) :
    Calls Try.prog 36 #[.agg #[.bool x.n.a.v6, .int .u64 x.n.a.hi, .int .u64 x.n.a.lo, .int .i64 x.n.n, .int .i64 x.t], .pointer (some ⟨B, 0, none⟩)] w fun e w' => e = .returned (.bool (sameN x.n n)) ∧ Below w.heap.size w w' := by
  have LOW : Below w.heap.size w (w.alloc (.cells #[.bool x.n.a.v6, .int .u64 x.n.a.hi, .int .u64 x.n.a.lo, .int .i64 x.n.n, .int .i64 x.t] 29)) := (Below.refl _ _).alloc (Nat.le_refl _) _
  have EQ := fun W => eqNet x.n n W
  have k0 : (w.alloc (.cells #[.bool x.n.a.v6, .int .u64 x.n.a.hi, .int .u64 x.n.a.lo, .int .i64 x.n.n, .int .i64 x.t] 29)).cell? ⟨B, 0, none⟩ = some (.bool n.a.v6) := cells_left LOW h0
  have k1 : (w.alloc (.cells #[.bool x.n.a.v6, .int .u64 x.n.a.hi, .int .u64 x.n.a.lo, .int .i64 x.n.n, .int .i64 x.t] 29)).cell? ⟨B, 1, none⟩ = some (.int .u64 n.a.hi) := cells_left LOW h1
  have k2 : (w.alloc (.cells #[.bool x.n.a.v6, .int .u64 x.n.a.hi, .int .u64 x.n.a.lo, .int .i64 x.n.n, .int .i64 x.t] 29)).cell? ⟨B, 2, none⟩ = some (.int .u64 n.a.lo) := cells_left LOW h2
  have k3 : (w.alloc (.cells #[.bool x.n.a.v6, .int .u64 x.n.a.hi, .int .u64 x.n.a.lo, .int .i64 x.n.n, .int .i64 x.t] 29)).cell? ⟨B, 3, none⟩ = some (.int .i64 n.n) := cells_left LOW h3
  clear h0 h1 h2 h3
  go_enter Try.func36, Try.ntmps36
  go_wp2_with fail
  go_ret
  exact ⟨rfl, LOW⟩
abbrev SBN (x : Ban) (n : Net) (w : World) (w' : World) : Prop := w'.cell? ⟨w.heap.size, 0, none⟩ = some (.bool x.n.a.v6) ∧ w'.cell? ⟨w.heap.size, 1, none⟩ = some (.int .u64 x.n.a.hi) ∧ w'.cell? ⟨w.heap.size, 2, none⟩ = some (.int .u64 x.n.a.lo) ∧ w'.cell? ⟨w.heap.size, 3, none⟩ = some (.int .i64 x.n.n) ∧ w'.cell? ⟨w.heap.size, 4, none⟩ = some (.int .i64 x.t) ∧ w'.cell? ⟨w.heap.size + 1, 0, none⟩ = some (.bool n.a.v6) ∧ w'.cell? ⟨w.heap.size + 1, 1, none⟩ = some (.int .u64 n.a.hi) ∧ w'.cell? ⟨w.heap.size + 1, 2, none⟩ = some (.int .u64 n.a.lo) ∧ w'.cell? ⟨w.heap.size + 1, 3, none⟩ = some (.int .i64 n.n) ∧ Stays ((w.alloc (.cells #[.bool x.n.a.v6, .int .u64 x.n.a.hi, .int .u64 x.n.a.lo, .int .i64 x.n.n, .int .i64 x.t] 29)).alloc (.cells #[.bool n.a.v6, .int .u64 n.a.hi, .int .u64 n.a.lo, .int .i64 n.n] 27)) w'
theorem SBN.of {x : Ban} {n : Net} {w w' : World} (h : Stays ((w.alloc (.cells #[.bool x.n.a.v6, .int .u64 x.n.a.hi, .int .u64 x.n.a.lo, .int .i64 x.n.n, .int .i64 x.t] 29)).alloc (.cells #[.bool n.a.v6, .int .u64 n.a.hi, .int .u64 n.a.lo, .int .i64 n.n] 27)) w') : SBN x n w w' := by
  have s0 : Stays (w.alloc (.cells #[.bool x.n.a.v6, .int .u64 x.n.a.hi, .int .u64 x.n.a.lo, .int .i64 x.n.n, .int .i64 x.t] 29)) ((w.alloc (.cells #[.bool x.n.a.v6, .int .u64 x.n.a.hi, .int .u64 x.n.a.lo, .int .i64 x.n.n, .int .i64 x.t] 29)).alloc (.cells #[.bool n.a.v6, .int .u64 n.a.hi, .int .u64 n.a.lo, .int .i64 n.n] 27)) := ((Below.refl _ _).alloc (by first | (simp; done) | (simp; omega)) _)
  have n0_0 : (w.alloc (.cells #[.bool x.n.a.v6, .int .u64 x.n.a.hi, .int .u64 x.n.a.lo, .int .i64 x.n.n, .int .i64 x.t] 29)).cell? ⟨w.heap.size, 0, none⟩ = some (.bool x.n.a.v6) := by
    have k := cell_at (w) #[.bool x.n.a.v6, .int .u64 x.n.a.hi, .int .u64 x.n.a.lo, .int .i64 x.n.n, .int .i64 x.t] 29 0 _ rfl
    exact k
  have n0_1 : (w.alloc (.cells #[.bool x.n.a.v6, .int .u64 x.n.a.hi, .int .u64 x.n.a.lo, .int .i64 x.n.n, .int .i64 x.t] 29)).cell? ⟨w.heap.size, 1, none⟩ = some (.int .u64 x.n.a.hi) := by
    have k := cell_at (w) #[.bool x.n.a.v6, .int .u64 x.n.a.hi, .int .u64 x.n.a.lo, .int .i64 x.n.n, .int .i64 x.t] 29 1 _ rfl
    exact k
  have n0_2 : (w.alloc (.cells #[.bool x.n.a.v6, .int .u64 x.n.a.hi, .int .u64 x.n.a.lo, .int .i64 x.n.n, .int .i64 x.t] 29)).cell? ⟨w.heap.size, 2, none⟩ = some (.int .u64 x.n.a.lo) := by
    have k := cell_at (w) #[.bool x.n.a.v6, .int .u64 x.n.a.hi, .int .u64 x.n.a.lo, .int .i64 x.n.n, .int .i64 x.t] 29 2 _ rfl
    exact k
  have n0_3 : (w.alloc (.cells #[.bool x.n.a.v6, .int .u64 x.n.a.hi, .int .u64 x.n.a.lo, .int .i64 x.n.n, .int .i64 x.t] 29)).cell? ⟨w.heap.size, 3, none⟩ = some (.int .i64 x.n.n) := by
    have k := cell_at (w) #[.bool x.n.a.v6, .int .u64 x.n.a.hi, .int .u64 x.n.a.lo, .int .i64 x.n.n, .int .i64 x.t] 29 3 _ rfl
    exact k
  have n0_4 : (w.alloc (.cells #[.bool x.n.a.v6, .int .u64 x.n.a.hi, .int .u64 x.n.a.lo, .int .i64 x.n.n, .int .i64 x.t] 29)).cell? ⟨w.heap.size, 4, none⟩ = some (.int .i64 x.t) := by
    have k := cell_at (w) #[.bool x.n.a.v6, .int .u64 x.n.a.hi, .int .u64 x.n.a.lo, .int .i64 x.n.n, .int .i64 x.t] 29 4 _ rfl
    exact k
  have n1_0 : ((w.alloc (.cells #[.bool x.n.a.v6, .int .u64 x.n.a.hi, .int .u64 x.n.a.lo, .int .i64 x.n.n, .int .i64 x.t] 29)).alloc (.cells #[.bool n.a.v6, .int .u64 n.a.hi, .int .u64 n.a.lo, .int .i64 n.n] 27)).cell? ⟨w.heap.size + 1, 0, none⟩ = some (.bool n.a.v6) := by
    have k := cell_at (w.alloc (.cells #[.bool x.n.a.v6, .int .u64 x.n.a.hi, .int .u64 x.n.a.lo, .int .i64 x.n.n, .int .i64 x.t] 29)) #[.bool n.a.v6, .int .u64 n.a.hi, .int .u64 n.a.lo, .int .i64 n.n] 27 0 _ rfl
    rwa [show (w.alloc (.cells #[.bool x.n.a.v6, .int .u64 x.n.a.hi, .int .u64 x.n.a.lo, .int .i64 x.n.n, .int .i64 x.t] 29)).heap.size = w.heap.size + 1 by simp] at k
  have n1_1 : ((w.alloc (.cells #[.bool x.n.a.v6, .int .u64 x.n.a.hi, .int .u64 x.n.a.lo, .int .i64 x.n.n, .int .i64 x.t] 29)).alloc (.cells #[.bool n.a.v6, .int .u64 n.a.hi, .int .u64 n.a.lo, .int .i64 n.n] 27)).cell? ⟨w.heap.size + 1, 1, none⟩ = some (.int .u64 n.a.hi) := by
    have k := cell_at (w.alloc (.cells #[.bool x.n.a.v6, .int .u64 x.n.a.hi, .int .u64 x.n.a.lo, .int .i64 x.n.n, .int .i64 x.t] 29)) #[.bool n.a.v6, .int .u64 n.a.hi, .int .u64 n.a.lo, .int .i64 n.n] 27 1 _ rfl
    rwa [show (w.alloc (.cells #[.bool x.n.a.v6, .int .u64 x.n.a.hi, .int .u64 x.n.a.lo, .int .i64 x.n.n, .int .i64 x.t] 29)).heap.size = w.heap.size + 1 by simp] at k
  have n1_2 : ((w.alloc (.cells #[.bool x.n.a.v6, .int .u64 x.n.a.hi, .int .u64 x.n.a.lo, .int .i64 x.n.n, .int .i64 x.t] 29)).alloc (.cells #[.bool n.a.v6, .int .u64 n.a.hi, .int .u64 n.a.lo, .int .i64 n.n] 27)).cell? ⟨w.heap.size + 1, 2, none⟩ = some (.int .u64 n.a.lo) := by
    have k := cell_at (w.alloc (.cells #[.bool x.n.a.v6, .int .u64 x.n.a.hi, .int .u64 x.n.a.lo, .int .i64 x.n.n, .int .i64 x.t] 29)) #[.bool n.a.v6, .int .u64 n.a.hi, .int .u64 n.a.lo, .int .i64 n.n] 27 2 _ rfl
    rwa [show (w.alloc (.cells #[.bool x.n.a.v6, .int .u64 x.n.a.hi, .int .u64 x.n.a.lo, .int .i64 x.n.n, .int .i64 x.t] 29)).heap.size = w.heap.size + 1 by simp] at k
  have n1_3 : ((w.alloc (.cells #[.bool x.n.a.v6, .int .u64 x.n.a.hi, .int .u64 x.n.a.lo, .int .i64 x.n.n, .int .i64 x.t] 29)).alloc (.cells #[.bool n.a.v6, .int .u64 n.a.hi, .int .u64 n.a.lo, .int .i64 n.n] 27)).cell? ⟨w.heap.size + 1, 3, none⟩ = some (.int .i64 n.n) := by
    have k := cell_at (w.alloc (.cells #[.bool x.n.a.v6, .int .u64 x.n.a.hi, .int .u64 x.n.a.lo, .int .i64 x.n.n, .int .i64 x.t] 29)) #[.bool n.a.v6, .int .u64 n.a.hi, .int .u64 n.a.lo, .int .i64 n.n] 27 3 _ rfl
    rwa [show (w.alloc (.cells #[.bool x.n.a.v6, .int .u64 x.n.a.hi, .int .u64 x.n.a.lo, .int .i64 x.n.n, .int .i64 x.t] 29)).heap.size = w.heap.size + 1 by simp] at k
  exact ⟨Ci.cells_left h (Ci.cells_left s0 n0_0), Ci.cells_left h (Ci.cells_left s0 n0_1), Ci.cells_left h (Ci.cells_left s0 n0_2), Ci.cells_left h (Ci.cells_left s0 n0_3), Ci.cells_left h (Ci.cells_left s0 n0_4), Ci.cells_left h n1_0, Ci.cells_left h n1_1, Ci.cells_left h n1_2, Ci.cells_left h n1_3, h⟩
theorem SBN.on {x : Ban} {n : Net} {w w1 w2 : World} (h : SBN x n w w1) (k : Below w1.heap.size w1 w2) : SBN x n w w2 := SBN.of (low_trans h.2.2.2.2.2.2.2.2.2 k)
theorem SBN.low {x : Ban} {n : Net} {w w1 : World} (h : SBN x n w w1) : Below w.heap.size w w1 := (((Below.refl _ _).alloc (by first | (simp; done) | (simp; omega)) _).alloc (by first | (simp; done) | (simp; omega)) _).trans (h.2.2.2.2.2.2.2.2.2.mono (by simp; omega))
set_option maxHeartbeats 2000000 in
theorem follows_any (x : Ban) (n : Net) (w : World) (hx : x.ok) (hn : n.ok) :
    Calls Try.prog 31 #[.agg #[.bool x.n.a.v6, .int .u64 x.n.a.hi, .int .u64 x.n.a.lo, .int .i64 x.n.n, .int .i64 x.t], .agg #[.bool n.a.v6, .int .u64 n.a.hi, .int .u64 n.a.lo, .int .i64 n.n]] w fun e w' => e = .returned (.bool (decide (0 < cmpN x.n n))) ∧ Below w.heap.size w w' := by
  have K1 : Hid (∀ W, SBN x n w W → Calls Try.prog 42 #[.agg #[.bool x.n.a.v6, .int .u64 x.n.a.hi, .int .u64 x.n.a.lo, .int .i64 x.n.n], .agg #[.bool n.a.v6, .int .u64 n.a.hi, .int .u64 n.a.lo, .int .i64 n.n]] W fun e w' => e = .returned (.int .i64 (cmpN x.n n)) ∧ SBN x n w w') := Lib.hid fun W h => by
    have hs := h.2.2.2.2.2.2.2.2.2
    have hc : Calls Try.prog 42 #[.agg #[.bool x.n.a.v6, .int .u64 x.n.a.hi, .int .u64 x.n.a.lo, .int .i64 x.n.n], .agg #[.bool n.a.v6, .int .u64 n.a.hi, .int .u64 n.a.lo, .int .i64 n.n]] W fun e w' => e = .returned (.int .i64 (cmpN x.n n)) ∧ Below W.heap.size W w' := compareN_any x.n n W hx.1 hn
    exact hc.mono fun e w' ⟨he, hb⟩ => ⟨he, SBN.of (low_trans hs hb)⟩
  have hk0 : SBN x n w ((w.alloc (.cells #[.bool x.n.a.v6, .int .u64 x.n.a.hi, .int .u64 x.n.a.lo, .int .i64 x.n.n, .int .i64 x.t] 29)).alloc (.cells #[.bool n.a.v6, .int .u64 n.a.hi, .int .u64 n.a.lo, .int .i64 n.n] 27)) := SBN.of (Below.refl _ _)
  obtain ⟨c0, c1, c2, c3, c4, c5, c6, c7, c8, hs⟩ := id hk0
  by_cases hq : 0 < cmpN x.n n
  · rw [decide_eq_true hq]
    go_enter Try.func31, Try.ntmps31
    go_wp2_with fail
    (with_reducible refine (K1.out _ hk0).mono ?_)
    rintro e w1 ⟨rfl, hk1⟩
    go_wp2_with fail
    go_ret
    exact ⟨rfl, SBN.low hk1⟩
  · rw [decide_eq_false hq]
    go_enter Try.func31, Try.ntmps31
    go_wp2_with fail
    (with_reducible refine (K1.out _ hk0).mono ?_)
    rintro e w1 ⟨rfl, hk1⟩
    go_wp2_with fail
    go_ret
    exact ⟨ret_b (decide_eq_false (by omega)), SBN.low hk1⟩
set_option maxHeartbeats 2000000 in
theorem place1_any (x : Ban) (n : Net) (B : Nat) (w : World) (hx : x.ok) (hn : n.ok) (hB : B < w.heap.size) (h0 : w.cell? ⟨B, 0, none⟩ = some (.bool n.a.v6)) (h1 : w.cell? ⟨B, 1, none⟩ = some (.int .u64 n.a.hi)) (h2 : w.cell? ⟨B, 2, none⟩ = some (.int .u64 n.a.lo)) (h3 : w.cell? ⟨B, 3, none⟩ = some (.int .i64 n.n)) :
    Calls Try.prog 39 #[.agg #[.bool x.n.a.v6, .int .u64 x.n.a.hi, .int .u64 x.n.a.lo, .int .i64 x.n.n, .int .i64 x.t], .pointer (some ⟨B, 0, none⟩)] w fun e w' => e = .returned (.bool (decide (0 < cmpN x.n n))) ∧ Below w.heap.size w w' := by
  have LOW : Below w.heap.size w (w.alloc (.cells #[.bool x.n.a.v6, .int .u64 x.n.a.hi, .int .u64 x.n.a.lo, .int .i64 x.n.n, .int .i64 x.t] 29)) := (Below.refl _ _).alloc (Nat.le_refl _) _
  have K1 := Lib.hid (follows_any x n (w.alloc (.cells #[.bool x.n.a.v6, .int .u64 x.n.a.hi, .int .u64 x.n.a.lo, .int .i64 x.n.n, .int .i64 x.t] 29)) hx hn)
  have k0 : (w.alloc (.cells #[.bool x.n.a.v6, .int .u64 x.n.a.hi, .int .u64 x.n.a.lo, .int .i64 x.n.n, .int .i64 x.t] 29)).cell? ⟨B, 0, none⟩ = some (.bool n.a.v6) := cells_left LOW h0
  have k1 : (w.alloc (.cells #[.bool x.n.a.v6, .int .u64 x.n.a.hi, .int .u64 x.n.a.lo, .int .i64 x.n.n, .int .i64 x.t] 29)).cell? ⟨B, 1, none⟩ = some (.int .u64 n.a.hi) := cells_left LOW h1
  have k2 : (w.alloc (.cells #[.bool x.n.a.v6, .int .u64 x.n.a.hi, .int .u64 x.n.a.lo, .int .i64 x.n.n, .int .i64 x.t] 29)).cell? ⟨B, 2, none⟩ = some (.int .u64 n.a.lo) := cells_left LOW h2
  have k3 : (w.alloc (.cells #[.bool x.n.a.v6, .int .u64 x.n.a.hi, .int .u64 x.n.a.lo, .int .i64 x.n.n, .int .i64 x.t] 29)).cell? ⟨B, 3, none⟩ = some (.int .i64 n.n) := cells_left LOW h3
  clear h0 h1 h2 h3
  go_enter Try.func39, Try.ntmps39
  go_wp2_with fail
  refine K1.out.mono ?_
  rintro e w1 ⟨rfl, hb⟩
  go_wp2_with fail
  go_ret
  exact ⟨rfl, low_trans LOW hb⟩
set_option maxHeartbeats 2000000 in
theorem sweep1_any (x : Ban) (now : Int) (B : Nat) (w : World) (hB : B < w.heap.size) (h0 : w.cell? ⟨B, 0, none⟩ = some (.int .i64 now)) :
    Calls Try.prog 29 #[.agg #[.bool x.n.a.v6, .int .u64 x.n.a.hi, .int .u64 x.n.a.lo, .int .i64 x.n.n, .int .i64 x.t], .pointer (some ⟨B, 0, none⟩)] w fun e w' => e = .returned (.bool (!decide (now < x.t))) ∧ Below w.heap.size w w' := by
  have LOW : Below w.heap.size w (w.alloc (.cells #[.bool x.n.a.v6, .int .u64 x.n.a.hi, .int .u64 x.n.a.lo, .int .i64 x.n.n, .int .i64 x.t] 29)) := (Below.refl _ _).alloc (Nat.le_refl _) _
  have K1 := Lib.hid (livesB_any x now (w.alloc (.cells #[.bool x.n.a.v6, .int .u64 x.n.a.hi, .int .u64 x.n.a.lo, .int .i64 x.n.n, .int .i64 x.t] 29)))
  have k0 : (w.alloc (.cells #[.bool x.n.a.v6, .int .u64 x.n.a.hi, .int .u64 x.n.a.lo, .int .i64 x.n.n, .int .i64 x.t] 29)).cell? ⟨B, 0, none⟩ = some (.int .i64 now) := cells_left LOW h0
  clear h0
  unfold livesB at K1
  generalize decide (now < x.t) = q at K1 ⊢
  go_enter Try.func29, Try.ntmps29
  go_wp2_with fail
  refine K1.out.mono ?_
  rintro e w1 ⟨rfl, hb⟩
  go_wp2_with fail
  go_ret
  exact ⟨rfl, low_trans LOW hb⟩
set_option maxHeartbeats 2000000 in
theorem find_any (v : Value) (l : List Ban) (n : Net) (w : World) (h : Bans w v l) (hl : l.length ≤ 1000000) (hok : ∀ x ∈ l, x.ok) :
    Calls Try.prog 19 #[v, .agg #[.bool n.a.v6, .int .u64 n.a.hi, .int .u64 n.a.lo, .int .i64 n.n]] w fun e w' => e = .returned (.int .i64 (ixI l n)) ∧ Below w.heap.size w w' := by
  have LOW : Below w.heap.size w (w.alloc (.cells #[.bool n.a.v6, .int .u64 n.a.hi, .int .u64 n.a.lo, .int .i64 n.n] 27)) := (Below.refl _ _).alloc (Nat.le_refl _) _
  have HT : Tells 36 #[.pointer (some ⟨w.heap.size, 0, none⟩)] (fun b => sameN b.n n) (w.alloc (.cells #[.bool n.a.v6, .int .u64 n.a.hi, .int .u64 n.a.lo, .int .i64 n.n] 27)).heap.size (w.alloc (.cells #[.bool n.a.v6, .int .u64 n.a.hi, .int .u64 n.a.lo, .int .i64 n.n] 27)) := fun W x hx hb hB => by
    have hlt : w.heap.size < (w.alloc (.cells #[.bool n.a.v6, .int .u64 n.a.hi, .int .u64 n.a.lo, .int .i64 n.n] 27)).heap.size := by simp
    have hW : w.heap.size < W.heap.size := Nat.lt_of_lt_of_le hlt hb.size
    exact find1_any x n _ W hW ((hb.cell (p := ⟨w.heap.size, 0, none⟩) hlt).trans (cell_at _ _ _ 0 _ rfl)) ((hb.cell (p := ⟨w.heap.size, 1, none⟩) hlt).trans (cell_at _ _ _ 1 _ rfl)) ((hb.cell (p := ⟨w.heap.size, 2, none⟩) hlt).trans (cell_at _ _ _ 2 _ rfl)) ((hb.cell (p := ⟨w.heap.size, 3, none⟩) hlt).trans (cell_at _ _ _ 3 _ rfl))
  have KI := Lib.hid (indexFunc_any 36 #[.pointer (some ⟨w.heap.size, 0, none⟩)] (fun b => sameN b.n n) (enters_of Try.func36 (by kernel_rfl) rfl) v l (w.alloc (.cells #[.bool n.a.v6, .int .u64 n.a.hi, .int .u64 n.a.lo, .int .i64 n.n] 27)) (h.below LOW) hl hok HT)
  clear HT
  obtain ⟨A, c, rfl, hc, _, _⟩ := h
  rw [← ixI_pos] at KI
  go_enter Try.func19, Try.ntmps19
  go_wp2_with fail
  refine KI.out.mono ?_
  rintro e w1 ⟨rfl, hb⟩
  go_wp2_with fail
  go_ret
  exact ⟨rfl, low_trans LOW hb⟩
set_option maxHeartbeats 2000000 in
theorem place_any (v : Value) (l : List Ban) (n : Net) (w : World) (h : Bans w v l) (hl : l.length ≤ 1000000) (hok : ∀ x ∈ l, x.ok) (hn : n.ok) :
    Calls Try.prog 23 #[v, .agg #[.bool n.a.v6, .int .u64 n.a.hi, .int .u64 n.a.lo, .int .i64 n.n]] w fun e w' => e = .returned (.int .i64 ((spot l n : Nat))) ∧ Below w.heap.size w w' := by
  have LOW : Below w.heap.size w (w.alloc (.cells #[.bool n.a.v6, .int .u64 n.a.hi, .int .u64 n.a.lo, .int .i64 n.n] 27)) := (Below.refl _ _).alloc (Nat.le_refl _) _
  have HT : Tells 39 #[.pointer (some ⟨w.heap.size, 0, none⟩)] (fun b => decide (0 < cmpN b.n n)) (w.alloc (.cells #[.bool n.a.v6, .int .u64 n.a.hi, .int .u64 n.a.lo, .int .i64 n.n] 27)).heap.size (w.alloc (.cells #[.bool n.a.v6, .int .u64 n.a.hi, .int .u64 n.a.lo, .int .i64 n.n] 27)) := fun W x hx hb hB => by
    have hlt : w.heap.size < (w.alloc (.cells #[.bool n.a.v6, .int .u64 n.a.hi, .int .u64 n.a.lo, .int .i64 n.n] 27)).heap.size := by simp
    have hW : w.heap.size < W.heap.size := Nat.lt_of_lt_of_le hlt hb.size
    exact place1_any x n _ W hx hn hW ((hb.cell (p := ⟨w.heap.size, 0, none⟩) hlt).trans (cell_at _ _ _ 0 _ rfl)) ((hb.cell (p := ⟨w.heap.size, 1, none⟩) hlt).trans (cell_at _ _ _ 1 _ rfl)) ((hb.cell (p := ⟨w.heap.size, 2, none⟩) hlt).trans (cell_at _ _ _ 2 _ rfl)) ((hb.cell (p := ⟨w.heap.size, 3, none⟩) hlt).trans (cell_at _ _ _ 3 _ rfl))
  have KI := Lib.hid (indexFunc_any 39 #[.pointer (some ⟨w.heap.size, 0, none⟩)] (fun b => decide (0 < cmpN b.n n)) (enters_of Try.func39 (by kernel_rfl) rfl) v l (w.alloc (.cells #[.bool n.a.v6, .int .u64 n.a.hi, .int .u64 n.a.lo, .int .i64 n.n] 27)) (h.below LOW) hl hok HT)
  clear HT
  obtain ⟨A, c, rfl, hc, _, _⟩ := h
  have hsp := spot_le l n
  have E : posI (fun b => decide (0 < cmpN b.n n)) l = if spot l n < l.length then (spot l n : Int) else -1 := rfl
  by_cases hq : spot l n < l.length
  · rw [E, if_pos hq] at KI
    clear E
    generalize spot l n = s at *
    go_enter Try.func23, Try.ntmps23
    go_wp2_with fail
    refine KI.out.mono ?_
    rintro e w1 ⟨rfl, hb⟩
    have hne : ((s : Int) != -1) = true := by simp
    go_wp2_with fail
    go_ret
    exact ⟨rfl, low_trans LOW hb⟩
  · rw [E, if_neg hq] at KI
    clear E
    have hs : spot l n = l.length := by omega
    rw [hs]
    clear hs hq hsp
    go_enter Try.func23, Try.ntmps23
    go_wp2_with fail
    refine KI.out.mono ?_
    rintro e w1 ⟨rfl, hb⟩
    go_wp2_with fail
    go_ret
    exact ⟨rfl, low_trans LOW hb⟩
end Go.Proofs.Ytcjdfgpkcafpdaa.Ba
