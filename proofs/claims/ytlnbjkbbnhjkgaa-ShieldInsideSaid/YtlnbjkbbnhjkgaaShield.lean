/- Contracts of package shield: who is protected, who is left, who is inside. -/
import Derived.Test.YtlnbjkbbnhjkgaaRankOrd
import Derived.Test.YtlnbjkbbnhjkgaaShieldMath
namespace Go.Proofs.Ytlnbjkbbnhjkgaa.Sh
set_option maxRecDepth 100000
open Go.ChangeShapes Go.WideShapes Go.ChangeAt Go.RowKit
open Dec Words V4 V6 Ad Ci En Sat Ha Pe Stb Gr Mi Ra Go.Deep
set_option linter.unusedVariables false
theorem encP_len (x : Pr) : (encP x).length = 10 := rfl
def encB (b : Bool) : List Value := [.bool b]
theorem encB_len (b : Bool) : (encB b).length = 1 := rfl
abbrev BoolsI (w : World) (v : Value) (L : List Bool) : Prop := Recs 1 encB w v L
abbrev OwnN (B : Nat) (w : World) (v : Value) (L : List Nat) : Prop := w.ownsRow B 3 1 v L.length (flat encN L)
theorem bools_flat (n : Nat) (S : Nat → Bool) : flat encB (ls n S) = ls n (bv S) := by
  refine List.ext_getElem (by rw [flat_len encB_len, ls_length, ls_length, Nat.mul_one]) fun j h1 h2 => ?_
  rw [ls_length] at h2
  have e := flat_at encB_len (ls n S) j 0 (by rw [ls_length]; exact h2) (by omega)
  rw [Nat.mul_one, Nat.add_zero, List.getElem?_eq_getElem h1, ls_get] at e
  rw [ls_get, Option.some.inj (e : some _ = some _)]
theorem bools_read {w : World} {g n c : Nat} {t : TypeId} {S : Nat → Bool} (h : Blk w g t (ls n (bv S))) (hc : n ≤ c) : BoolsI w (.slice (some ⟨g, 0, none⟩) n c) (ls n S) := by
  have := Blk.reads (k := 1) (enc := encB) (xs := ls n S) (m := n) (cap := c) encB_len h (by rw [List.take_of_length_le (by rw [ls_length]; omega), bools_flat]) (ls_length n S) hc
  exact this
theorem made_bools (k : Nat) : (madeCells (Value.cells (.bool false)) (k * 1)).toList = ls k (bv fun _ => false) := by
  refine List.ext_getElem (by simp [ls_length, size_madeCells]) fun j h1 h2 => ?_
  rw [ls_get]
  simp [madeCells, Value.cells, Nat.mod_one]
theorem make_bools (w : World) (k : Nat) (hk : k ≤ 1000000) : (Instr.makeSlice 29 (.int .i64 k) (.int .i64 k)).run Try.prog w = .ok (.slice (some ⟨w.heap.size, 0, none⟩) k k) (w.alloc (.cells (madeCells (Value.cells (.bool false)) (k * 1)) 4)) := by
  have HI : (Try.prog.info? 4).map (fun i => (i.zero, i.size, i.bytes)) = some (some (.bool false), 1, 1) := by kernel_rfl
  obtain ⟨i0, hi, hz0, hz1, hz2⟩ := info_parts HI
  have R1 := run_make (P := Try.prog) w 29 4 i0 _ Try.underlying29 hi hz0 .i64 .i64 (k : Int) (k : Int) (by omega) (by omega) (by rw [hz2]; omega) (by omega)
  rw [Int.toNat_natCast, hz1] at R1
  exact R1
def zeroP : Pr := ⟨zeroE, false, 0, ⟨0, 0⟩, 0, 0⟩
theorem made_peers (k : Nat) : (madeCells (Value.cells (.agg #[.bool false, .int .u64 0, .int .u64 0, .int .i64 0, .bool false, .int .i64 0, .int .i64 0, .int .i64 0, .int .i64 0, .int .i64 0])) (k * 10)).toList = flat encP (ls k fun _ => zeroP) := by
  have e3 : ∀ m (h : m < 10), (Value.cells (.agg #[.bool false, .int .u64 0, .int .u64 0, .int .i64 0, .bool false, .int .i64 0, .int .i64 0, .int .i64 0, .int .i64 0, .int .i64 0]))[m]! = (encP zeroP)[m]'h := fun m h => by
    have : m = 0 ∨ m = 1 ∨ m = 2 ∨ m = 3 ∨ m = 4 ∨ m = 5 ∨ m = 6 ∨ m = 7 ∨ m = 8 ∨ m = 9 := by omega
    rcases this with rfl | rfl | rfl | rfl | rfl | rfl | rfl | rfl | rfl | rfl <;> rfl
  refine List.ext_getElem (by rw [flat_len encP_len, ls_length]; simp [size_madeCells]) fun j h1 h2 => ?_
  rw [flat_len encP_len, ls_length] at h2
  have hq : j / 10 < k := (Nat.div_lt_iff_lt_mul (by decide)).2 h2
  have e := flat_at encP_len (ls k fun _ => zeroP) (j / 10) (j % 10) (by rw [ls_length]; exact hq) (Nat.mod_lt _ (by decide))
  rw [show j / 10 * 10 + j % 10 = j by omega, List.getElem?_eq_getElem (by rw [flat_len encP_len, ls_length]; exact h2), ls_get] at e
  have hm : j % 10 < 10 := Nat.mod_lt _ (by decide)
  have e4 : (madeCells (Value.cells (.agg #[.bool false, .int .u64 0, .int .u64 0, .int .i64 0, .bool false, .int .i64 0, .int .i64 0, .int .i64 0, .int .i64 0, .int .i64 0])) (k * 10)).toList[j]? = some ((encP zeroP)[j % 10]'hm) := by
    rw [Array.getElem?_toList]
    unfold madeCells
    rw [Array.getElem?_map, Array.getElem?_range, if_pos h2]
    exact congrArg some (e3 _ hm)
  rw [Option.some.inj ((List.getElem?_eq_getElem h1).symm.trans e4)]
  rw [List.getElem?_eq_getElem hm] at e
  exact (Option.some.inj e).symm
theorem make_peers (w : World) (k : Nat) (hk : k ≤ 1000000) : (Instr.makeSlice 22 (.int .i64 k) (.int .i64 k)).run Try.prog w = .ok (.slice (some ⟨w.heap.size, 0, none⟩) k k) (w.alloc (.cells (madeCells (Value.cells (.agg #[.bool false, .int .u64 0, .int .u64 0, .int .i64 0, .bool false, .int .i64 0, .int .i64 0, .int .i64 0, .int .i64 0, .int .i64 0])) (k * 10)) 42)) := by
  have HI : (Try.prog.info? 42).map (fun i => (i.zero, i.size, i.bytes)) = some (some (.agg #[.bool false, .int .u64 0, .int .u64 0, .int .i64 0, .bool false, .int .i64 0, .int .i64 0, .int .i64 0, .int .i64 0, .int .i64 0]), 10, 80) := by kernel_rfl
  obtain ⟨i0, hi, hz0, hz1, hz2⟩ := info_parts HI
  have R1 := run_make (P := Try.prog) w 22 42 i0 _ Try.underlying22 hi hz0 .i64 .i64 (k : Int) (k : Int) (by omega) (by omega) (by rw [hz2]; omega) (by omega)
  rw [Int.toNat_natCast, hz1] at R1
  exact R1
/-- The four quotas, one after the other. -/
theorem shares_any (q : Qt) (w : World) : Calls Try.prog 17 #[.agg #[.int .i64 q.g, .int .i64 q.p, .int .i64 q.w, .int .i64 q.t]] w fun e w' => e = .returned (.agg #[.int .i64 1, .int .i64 q.g, .int .i64 2, .int .i64 q.p, .int .i64 3, .int .i64 q.w, .int .i64 4, .int .i64 q.t]) ∧ Below w.heap.size w w' := by
  have O1 : Hid (Blk ((w.alloc (.cells #[.int .i64 q.g, .int .i64 q.p, .int .i64 q.w, .int .i64 q.t] 24)).alloc (.cells #[.int .i64 0, .int .i64 0, .int .i64 0, .int .i64 0, .int .i64 0, .int .i64 0, .int .i64 0, .int .i64 0] 47)) w.heap.size 24 [.int .i64 q.g, .int .i64 q.p, .int .i64 q.w, .int .i64 q.t]) := Lib.hid ((Blk.new w #[.int .i64 q.g, .int .i64 q.p, .int .i64 q.w, .int .i64 q.t] 24).alloc _)
  have c0 := O1.out.cell (j := 0) rfl
  have c1 := O1.out.cell (j := 1) rfl
  have c2 := O1.out.cell (j := 2) rfl
  have c3 := O1.out.cell (j := 3) rfl
  go_enter Try.func17, Try.ntmps17
  go_wp2_with fail
  exact bodyPost_ret (v := .agg #[.int .i64 1, .int .i64 q.g, .int .i64 2, .int .i64 q.p, .int .i64 3, .int .i64 q.w, .int .i64 4, .int .i64 q.t]) (by simp [results, Try.results17, go_sem]) rfl ⟨rfl, Lows.alloc (Lows.alloc (Lows.self w) _) _⟩
/-- The i-th of the four. -/
theorem share_at (q : Qt) (i : Nat) (hi : i < 4) (W : World) : (Instr.index 47 (.agg #[.int .i64 1, .int .i64 q.g, .int .i64 2, .int .i64 q.p, .int .i64 3, .int .i64 q.w, .int .i64 4, .int .i64 q.t]) (.int .i64 (i : Int))).run Try.prog W = .ok (.agg #[.int .i64 ((i : Int) + 1), .int .i64 (q.by ((i : Int) + 1))]) W := by
  have : i = 0 ∨ i = 1 ∨ i = 2 ∨ i = 3 := by omega
  rcases this with rfl | rfl | rfl | rfl
  · show (Instr.index 47 (.agg #[.int .i64 1, .int .i64 q.g, .int .i64 2, .int .i64 q.p, .int .i64 3, .int .i64 q.w, .int .i64 4, .int .i64 q.t]) (.int .i64 0)).run Try.prog W = .ok (.agg #[.int .i64 1, .int .i64 q.g]) W
    simp [Instr.index, run_underlying Try.underlying47, asIntOf, go_sem]
  · show (Instr.index 47 (.agg #[.int .i64 1, .int .i64 q.g, .int .i64 2, .int .i64 q.p, .int .i64 3, .int .i64 q.w, .int .i64 4, .int .i64 q.t]) (.int .i64 1)).run Try.prog W = .ok (.agg #[.int .i64 2, .int .i64 q.p]) W
    simp [Instr.index, run_underlying Try.underlying47, asIntOf, go_sem]
  · show (Instr.index 47 (.agg #[.int .i64 1, .int .i64 q.g, .int .i64 2, .int .i64 q.p, .int .i64 3, .int .i64 q.w, .int .i64 4, .int .i64 q.t]) (.int .i64 2)).run Try.prog W = .ok (.agg #[.int .i64 3, .int .i64 q.w]) W
    simp [Instr.index, run_underlying Try.underlying47, asIntOf, go_sem]
  · show (Instr.index 47 (.agg #[.int .i64 1, .int .i64 q.g, .int .i64 2, .int .i64 q.p, .int .i64 3, .int .i64 q.w, .int .i64 4, .int .i64 q.t]) (.int .i64 3)).run Try.prog W = .ok (.agg #[.int .i64 4, .int .i64 q.t]) W
    simp [Instr.index, run_underlying Try.underlying47, asIntOf, go_sem]
theorem append_int {B : Nat} {W : World} {v : Value} {xs : List Nat} (hown : OwnN B W v xs) (y : Nat) (hlen : xs.length ≤ 1000000) (hB : B ≤ W.heap.size) :
    ∃ v' w', (Builtin.append_ #[32, 32] 32 #[v, .slice (some ⟨W.heap.size, 0, none⟩) 1 1]).run Try.prog (W.alloc (.cells #[.int .i64 (y : Int)] 3)) = .ok v' w' ∧ OwnN B w' v' (xs ++ [y]) ∧ Below B W w' := by
  have HI : (Try.prog.info? 3).map (fun i => (i.zero, i.size, i.bytes)) = some (some (.int .i64 0), 1, 8) := by kernel_rfl
  obtain ⟨v', w', h1, h2, h3⟩ := append_recs (P := Try.prog) (z := .int .i64 0) (bytes := 8) Try.underlying32 HI rfl (by decide) encN_len encN_one (hown.alloc (.cells #[.int .i64 (y : Int)] 3))
    (Recs.lit encN_len W [y] #[.int .i64 (y : Int)] 3 (by rw [flat_one]; rfl)) (by simp; omega) (by simp; omega) (Nat.le_trans hB (by simp))
  exact ⟨v', w', h1, h2, ((Below.refl B W).alloc hB _).trans h3⟩
theorem bool_at {w : World} {bb o : Nat} {n : Nat} {S : Nat → Bool} {wr : World} (hlow : Below w.heap.size w wr) (hb : bb < w.heap.size) (hcc : ∀ i (h : i < (ls n S).length) j u, (encB (ls n S)[i])[j]? = some u → w.cell? ⟨bb, o + i * 1 + j, none⟩ = some u) {i : Nat} (hi : i < n) : wr.cell? ⟨bb, o + i, none⟩ = some (.bool (S i)) := by
  have h := hcc i (by rw [ls_length]; exact hi) 0 (.bool (S i)) (by rw [ls_get]; rfl)
  rw [Nat.mul_one, Nat.add_zero] at h
  exact (hlow.cell (p := ⟨bb, o + i, none⟩) hb).trans h
set_option maxHeartbeats 8000000 in
theorem others_any (v : Value) (n : Nat) (S : Nat → Bool) (w : World) (h : BoolsI w v (ls n S)) (hn : n ≤ 1000000) :
    Calls Try.prog 23 #[v] w fun e w' => ∃ u, e = .returned u ∧ NumsI w' u (restR n S) ∧ Below w.heap.size w w' := by
  obtain ⟨A, c, rfl, hc, _, hcell⟩ := h
  have HC := Lib.hid hcell
  have HLN : Hid ((ls n S).length = n) := Lib.hid (ls_length n S)
  rw [ls_length]
  clear hcell hc
  go_enter Try.func23, Try.ntmps23
  go_wp2_with fail
  go_loopw [3, 8] (fun vr vi wr => ∃ (i : Nat), vi = .int .i64 i ∧ i ≤ n ∧ Hid (OwnN w.heap.size wr vr (restR i S)) ∧ Hid (Below w.heap.size w wr)) (fun _ vi _ => n - (intOf vi).toNat)
  case atStart => exact ⟨0, rfl, Nat.zero_le _, Lib.hid ⟨rfl, Or.inl ⟨rfl, rfl⟩⟩, Lib.hid (Below.refl _ _)⟩
  case round =>
    obtain ⟨i, rfl, hik, HO, HL⟩ := hrel
    by_cases hli : i < n
    · have hliz : (i : Int) < (n : Int) := by omega
      obtain ⟨bb, o, rfl, hb, hcc⟩ := HC.out (by rw [HLN.out]; omega)
      have c0 := bool_at HL.out hb hcc hli
      have hlen : (restR i S).length ≤ 1000000 := by have := rest_le i S; omega
      clear hcc hb
      cases hq : S i with
      | true =>
        rw [hq] at c0
        have HY : Hid (restR (i + 1) S = restR i S) := Lib.hid (rest_yes hq)
        clear hq
        go_wp2_with fail
        go_roundw
        case rel => exact ⟨i + 1, by go_num, by omega, Lib.hid (by rw [HY.out]; exact HO.out), HL⟩
        case measure => simp [intOf]; omega
      | false =>
        rw [hq] at c0
        obtain ⟨v', w', RR, HO2, hb5⟩ := append_int (B := w.heap.size) HO.out i hlen HL.out.size
        have R1 := Lib.hid RR
        have HO3 : Hid (OwnN w.heap.size w' v' (restR (i + 1) S)) := Lib.hid (by rw [rest_no hq]; exact HO2)
        have HL3 : Hid (Below w.heap.size w w') := Lib.hid (HL.out.trans hb5)
        clear RR HO2 hb5 HO HL hq
        go_wp2_with (first
          | (at_builtin; refine wpList_append_run rfl (.tmp 15) (.tmp 17) _ _ rfl rfl _ _ _ _ rfl rfl R1.out ?_)
          | fail)
        go_roundw
        case rel => exact ⟨i + 1, by go_num, by omega, HO3, HL3⟩
        case measure => simp [intOf]; omega
    · have hliz : ¬ (i : Int) < (n : Int) := by omega
      have HR := Lib.hid (recs_own encN_len (by decide) HO.out).1
      have HE : Hid (n = i) := Lib.hid (by omega)
      clear HO
      go_wp2_with fail
      go_ret
      exact ⟨_, rfl, by rw [HE.out]; exact HR.out, HL.out⟩
def inP (l : List Pr) (R : List Nat) (j : Nat) : Nat → Pr := fun p => if p < j then l[R[p]!]! else zeroP
theorem inP_next (l : List Pr) (R : List Nat) (k j : Nat) (h : j < k) : (ls k (inP l R j)).set j l[R[j]!]! = ls k (inP l R (j + 1)) := by
  rw [ls_set _ _ h]
  congr 1
  funext p
  unfold inP
  by_cases h1 : p = j
  · subst h1; rw [if_pos rfl, if_pos (by omega)]
  · rw [if_neg h1]
    by_cases h2 : p < j
    · rw [if_pos h2, if_pos (by omega)]
    · rw [if_neg h2, if_neg (by omega)]
theorem inP_done (l : List Pr) (R : List Nat) : ls R.length (inP l R R.length) = thoseR l R := by
  refine List.ext_getElem (by rw [ls_length, those_length]) fun j h1 h2 => ?_
  rw [ls_length] at h1
  rw [ls_get]
  unfold inP
  rw [if_pos h1]
  show _ = (R.map fun i => l[i]!)[j]'(by rw [List.length_map]; exact h1)
  rw [List.getElem_map, getElem!_pos R j h1]
theorem put_peer {w : World} {g : Nat} {t : TypeId} {D : List Pr} (h : Blk w g t (flat encP D)) {i : Nat} (hi : i < D.length) (x : Pr) :
    Blk (((((((((((w).setCell ⟨g, i * 10, none⟩ (.bool x.e.a.v6)).setCell ⟨g, i * 10 + 1, none⟩ (.int .u64 x.e.a.hi)).setCell ⟨g, i * 10 + 2, none⟩ (.int .u64 x.e.a.lo)).setCell ⟨g, i * 10 + 3, none⟩ (.int .i64 x.e.n)).setCell ⟨g, i * 10 + 4, none⟩ (.bool x.i)).setCell ⟨g, i * 10 + 5, none⟩ (.int .i64 x.t)).setCell ⟨g, i * 10 + 6, none⟩ (.int .i64 x.c.p)).setCell ⟨g, i * 10 + 7, none⟩ (.int .i64 x.c.a)).setCell ⟨g, i * 10 + 8, none⟩ (.int .i64 x.g)).setCell ⟨g, i * 10 + 9, none⟩ (.int .i64 x.k)) g t (flat encP (D.set i x)) ∧ Bt g w (((((((((((w).setCell ⟨g, i * 10, none⟩ (.bool x.e.a.v6)).setCell ⟨g, i * 10 + 1, none⟩ (.int .u64 x.e.a.hi)).setCell ⟨g, i * 10 + 2, none⟩ (.int .u64 x.e.a.lo)).setCell ⟨g, i * 10 + 3, none⟩ (.int .i64 x.e.n)).setCell ⟨g, i * 10 + 4, none⟩ (.bool x.i)).setCell ⟨g, i * 10 + 5, none⟩ (.int .i64 x.t)).setCell ⟨g, i * 10 + 6, none⟩ (.int .i64 x.c.p)).setCell ⟨g, i * 10 + 7, none⟩ (.int .i64 x.c.a)).setCell ⟨g, i * 10 + 8, none⟩ (.int .i64 x.g)).setCell ⟨g, i * 10 + 9, none⟩ (.int .i64 x.k)) := by
  have k := setCells_blk g t (encP x) (i * 10) w _ h (by rw [encP_len, flat_len encP_len]; omega)
  rw [← flat_one encP x, flat_splice encP_len, splice_one _ _ _ hi, flat_one] at k
  exact k
theorem Bt.cell {g : Nat} {w w' : World} (h : Bt g w w') {p : Addr} (hp : p.block ≠ g) (hl : p.block < w.heap.size) : w'.cell? p = w.cell? p := World.cell?_of_block (w := w) (h.block p.block hp hl)
theorem num_at {w wr : World} {b o : Nat} {F : List Nat} (hb : b < w.heap.size) (hcc : ∀ i (h : i < F.length) j u, (encN F[i])[j]? = some u → w.cell? ⟨b, o + i * 1 + j, none⟩ = some u) {i : Nat} (hi : i < F.length) (hL : ∀ p : Addr, p.block = b → wr.cell? p = w.cell? p) : wr.cell? ⟨b, o + i, none⟩ = some (.int .i64 (F[i]! : Int)) := by
  have h := hcc i hi 0 (.int .i64 (F[i] : Int)) rfl
  rw [Nat.mul_one, Nat.add_zero] at h
  rw [getElem!_pos F i hi]
  exact (hL ⟨b, o + i, none⟩ rfl).trans h
set_option maxHeartbeats 8000000 in
theorem those_any (v u : Value) (l : List Pr) (R : List Nat) (w : World) (h : Peers w v l) (hu : NumsI w u R) (hR : ∀ i ∈ R, i < l.length) (hl : R.length ≤ 1000000) (hl2 : l.length ≤ 1000000) :
    Calls Try.prog 25 #[v, u] w fun e w' => ∃ x, e = .returned x ∧ Peers w' x (thoseR l R) ∧ Below w.heap.size w w' := by
  obtain ⟨A, c, rfl, hc, _, hcell⟩ := h
  obtain ⟨A2, c2, rfl, hc2, _, hcell2⟩ := hu
  have HC := Lib.hid hcell
  have HC2 := Lib.hid hcell2
  have HR := Lib.hid hR
  obtain ⟨k, hk⟩ : ∃ k, k = R.length := ⟨_, rfl⟩
  rw [← hk] at hl ⊢
  have HK := Lib.hid hk
  have R1 := Lib.hid (make_peers w k hl)
  have B0 : Hid (Blk (w.alloc (.cells (madeCells (Value.cells (.agg #[.bool false, .int .u64 0, .int .u64 0, .int .i64 0, .bool false, .int .i64 0, .int .i64 0, .int .i64 0, .int .i64 0, .int .i64 0])) (k * 10)) 42)) w.heap.size 42 (flat encP (ls k (inP l R 0)))) := Lib.hid (by
    have h := Blk.new w (madeCells (Value.cells (.agg #[.bool false, .int .u64 0, .int .u64 0, .int .i64 0, .bool false, .int .i64 0, .int .i64 0, .int .i64 0, .int .i64 0, .int .i64 0])) (k * 10)) 42
    rw [made_peers] at h
    exact h)
  have L0 : Hid (Lows w (w.alloc (.cells (madeCells (Value.cells (.agg #[.bool false, .int .u64 0, .int .u64 0, .int .i64 0, .bool false, .int .i64 0, .int .i64 0, .int .i64 0, .int .i64 0, .int .i64 0])) (k * 10)) 42))) := Lib.hid (Lows.alloc (Lows.self w) _)
  generalize w.alloc (.cells (madeCells (Value.cells (.agg #[.bool false, .int .u64 0, .int .u64 0, .int .i64 0, .bool false, .int .i64 0, .int .i64 0, .int .i64 0, .int .i64 0, .int .i64 0])) (k * 10)) 42) = W4 at R1 B0 L0
  clear hcell hcell2 hR hk hc2
  go_enter Try.func25, Try.ntmps25
  go_wp2_with (first
    | (at_make; refine wpList_make_run rfl _ _ _ rfl _ _ _ _ rfl rfl R1.out ?_)
    | fail)
  go_loopw [13] (fun vi wr => ∃ j : Nat, vi = .int .i64 j ∧ j ≤ k ∧ Hid (Blk wr w.heap.size 42 (flat encP (ls k (inP l R j)))) ∧ Hid (Lows w wr)) (fun vi _ => k - (intOf vi).toNat)
  case atStart => exact ⟨0, rfl, Nat.zero_le _, B0, L0⟩
  case round =>
    obtain ⟨j, rfl, hj, HB, HL⟩ := hrel
    clear B0 L0 R1
    by_cases hlj : j < k
    · have hljz : (j : Int) < (k : Int) := by omega
      obtain ⟨b2, o2, rfl, hb2, hcc2⟩ := HC2.out (by have := HK.out; omega)
      have e1 := num_at hb2 hcc2 (i := j) (by have := HK.out; omega) (fun p hp => HL.out.cell (p := p) (by omega))
      have hrl : R[j]! < l.length := by
        have hj2 : j < R.length := by have := HK.out; omega
        rw [getElem!_pos R j hj2]; exact HR.out _ (List.getElem_mem _)
      obtain ⟨r, hr⟩ : ∃ r, r = R[j]! := ⟨_, rfl⟩
      rw [← hr] at e1 hrl
      have HRJ := Lib.hid hr
      clear hr hcc2 hb2
      have hrz : (r : Int) < (l.length : Int) := by omega
      have hrb : (r : Int) ≤ 9223372036854775807 := by omega
      obtain ⟨bb, o, rfl, hb, hcc⟩ := HC.out (by omega)
      obtain ⟨x, hx⟩ : ∃ x, x = l[r]! := ⟨_, rfl⟩
      have hlow := HL.out
      have c0 := peer_at hlow hb hcc hrl (j := 0) rfl
      have c1 := peer_at hlow hb hcc hrl (j := 1) rfl
      have c2 := peer_at hlow hb hcc hrl (j := 2) rfl
      have c3 := peer_at hlow hb hcc hrl (j := 3) rfl
      have c4 := peer_at hlow hb hcc hrl (j := 4) rfl
      have c5 := peer_at hlow hb hcc hrl (j := 5) rfl
      have c6 := peer_at hlow hb hcc hrl (j := 6) rfl
      have c7 := peer_at hlow hb hcc hrl (j := 7) rfl
      have c8 := peer_at hlow hb hcc hrl (j := 8) rfl
      have c9 := peer_at hlow hb hcc hrl (j := 9) rfl
      rw [Nat.add_zero] at c0
      rw [← hx] at c0 c1 c2 c3 c4 c5 c6 c7 c8 c9
      have HX := Lib.hid hx
      clear hx hcc hlow
      have d0 := HB.out.cell (j := j * 10 + 0) (by rw [flat_at encP_len _ j 0 (by rw [ls_length]; exact hlj) (by decide), ls_get]; unfold inP; rw [if_neg (Nat.lt_irrefl _)]; rfl)
      have df0 := HB.out.free (j * 10)
      have d1 := HB.out.cell (j := j * 10 + 1) (by rw [flat_at encP_len _ j 1 (by rw [ls_length]; exact hlj) (by decide), ls_get]; unfold inP; rw [if_neg (Nat.lt_irrefl _)]; rfl)
      have df1 := HB.out.free (j * 10 + 1)
      have d2 := HB.out.cell (j := j * 10 + 2) (by rw [flat_at encP_len _ j 2 (by rw [ls_length]; exact hlj) (by decide), ls_get]; unfold inP; rw [if_neg (Nat.lt_irrefl _)]; rfl)
      have df2 := HB.out.free (j * 10 + 2)
      have d3 := HB.out.cell (j := j * 10 + 3) (by rw [flat_at encP_len _ j 3 (by rw [ls_length]; exact hlj) (by decide), ls_get]; unfold inP; rw [if_neg (Nat.lt_irrefl _)]; rfl)
      have df3 := HB.out.free (j * 10 + 3)
      have d4 := HB.out.cell (j := j * 10 + 4) (by rw [flat_at encP_len _ j 4 (by rw [ls_length]; exact hlj) (by decide), ls_get]; unfold inP; rw [if_neg (Nat.lt_irrefl _)]; rfl)
      have df4 := HB.out.free (j * 10 + 4)
      have d5 := HB.out.cell (j := j * 10 + 5) (by rw [flat_at encP_len _ j 5 (by rw [ls_length]; exact hlj) (by decide), ls_get]; unfold inP; rw [if_neg (Nat.lt_irrefl _)]; rfl)
      have df5 := HB.out.free (j * 10 + 5)
      have d6 := HB.out.cell (j := j * 10 + 6) (by rw [flat_at encP_len _ j 6 (by rw [ls_length]; exact hlj) (by decide), ls_get]; unfold inP; rw [if_neg (Nat.lt_irrefl _)]; rfl)
      have df6 := HB.out.free (j * 10 + 6)
      have d7 := HB.out.cell (j := j * 10 + 7) (by rw [flat_at encP_len _ j 7 (by rw [ls_length]; exact hlj) (by decide), ls_get]; unfold inP; rw [if_neg (Nat.lt_irrefl _)]; rfl)
      have df7 := HB.out.free (j * 10 + 7)
      have d8 := HB.out.cell (j := j * 10 + 8) (by rw [flat_at encP_len _ j 8 (by rw [ls_length]; exact hlj) (by decide), ls_get]; unfold inP; rw [if_neg (Nat.lt_irrefl _)]; rfl)
      have df8 := HB.out.free (j * 10 + 8)
      have d9 := HB.out.cell (j := j * 10 + 9) (by rw [flat_at encP_len _ j 9 (by rw [ls_length]; exact hlj) (by decide), ls_get]; unfold inP; rw [if_neg (Nat.lt_irrefl _)]; rfl)
      have df9 := HB.out.free (j * 10 + 9)
      rw [Nat.add_zero] at d0
      have HN := Lib.hid (put_peer HB.out (i := j) (by rw [ls_length]; exact hlj) x)
      have HE : Hid ((ls k (inP l R j)).set j x = ls k (inP l R (j + 1))) := Lib.hid (by rw [HX.out, HRJ.out]; exact inP_next l R k j hlj)
      go_wp2_with fail
      go_roundw
      case rel => exact ⟨j + 1, by go_num, by omega, Lib.hid (by rw [← HE.out]; exact HN.out.1), Lib.hid (HL.out.trans (HN.out.2.low (Nat.le_refl _) HL.out.size))⟩
      case measure => simp [intOf]; omega
    · have hljz : ¬ (j : Int) < (k : Int) := by omega
      have hjk : Hid (k = j) := Lib.hid (by omega)
      have HRR : Hid (Peers wr (.slice (some ⟨w.heap.size, 0, none⟩) k k) (thoseR l R)) := Lib.hid (by
        have e := inP_done l R
        have h := HB.out
        have e2 := HK.out
        have e3 := hjk.out
        subst e3
        subst e2
        rw [e] at h
        exact h.recs encP_len (xs := thoseR l R) (m := R.length) (cap := R.length) (by rw [List.take_of_length_le (by rw [those_length]; omega)]) (by rw [those_length]; omega) (Nat.le_refl _))
      go_wp2_with fail
      go_ret
      exact ⟨_, rfl, HRR.out, HL.out⟩
end Go.Proofs.Ytlnbjkbbnhjkgaa.Sh
