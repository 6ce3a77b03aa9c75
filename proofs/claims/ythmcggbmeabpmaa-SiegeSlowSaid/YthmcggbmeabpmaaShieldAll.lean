/- Contracts of package shield: who is protected, who is left, who is inside. -/
import Derived.Test.YthmcggbmeabpmaaRankOrd
import Derived.Test.YthmcggbmeabpmaaShieldMath
import Derived.Deep.RegionHeld3
namespace Go.Proofs.Ythmcggbmeabpmaa.Sh
set_option maxRecDepth 100000
open Go.ChangeShapes Go.WideShapes Go.ChangeAt Go.RowKit
open Dec Words V4 V6 Ad Ci En Sat Ha Pe Stb Gr Mi Ra Go.Deep
set_option linter.unusedVariables false
def encB (b : Bool) : List Value := [.bool b]
theorem encB_len (b : Bool) : (encB b).length = 1 := rfl
abbrev BoolsI (w : World) (v : Value) (L : List Bool) : Prop := Recs 1 encB w v L
abbrev OwnN (B : Nat) (w : World) (v : Value) (L : List Nat) : Prop := w.ownsRow B 3 1 v L.length (flat encN L)
theorem bools_flat (n : Nat) (S : Nat → Bool) : flat encB (ls n S) = ls n (bv S) := by
  refine List.ext_getElem (by rw [flat_len encB_len, ls_length, ls_length, Nat.mul_one]) fun j h1 h2 => ?_
  rw [ls_length] at h2
  have e := flat_at encB_len (ls n S) j 0 (by rw [ls_length]; exact h2) (by omega)
  rw [Nat.mul_one, Nat.add_zero, List.getElem?_eq_getElem h1, ls_get] at e
  rw [ls_get, Option.some.inj (e : some _ = some _)]
theorem bools_read {w : World} {g n c : Nat} {t : TypeId} {S : Nat → Bool} (h : Blk w g t (ls n (bv S))) (hc : n ≤ c) : BoolsI w (.slice (some ⟨g, 0, none⟩) n c) (ls n S) := by
  have := Blk.reads (k := 1) (enc := encB) (xs := ls n S) (m := n) (cap := c) encB_len h (by rw [List.take_of_length_le (by rw [ls_length]; omega), bools_flat]) (ls_length n S) hc
  exact this
theorem made_bools (k : Nat) : (madeCells (Value.cells (.bool false)) (k * 1)).toList = ls k (bv fun _ => false) := by
  refine List.ext_getElem (by simp [ls_length, size_madeCells]) fun j h1 h2 => ?_
  rw [ls_get]
  simp [madeCells, Value.cells, Nat.mod_one]
theorem make_bools (w : World) (k : Nat) (hk : k ≤ 1000000) : (Instr.makeSlice 71 (.int .i64 k) (.int .i64 k)).run Try.prog w = .ok (.slice (some ⟨w.heap.size, 0, none⟩) k k) (w.alloc (.cells (madeCells (Value.cells (.bool false)) (k * 1)) 4)) := by
  have HI : (Try.prog.info? 4).map (fun i => (i.zero, i.size, i.bytes)) = some (some (.bool false), 1, 1) := by kernel_rfl
  obtain ⟨i0, hi, hz0, hz1, hz2⟩ := info_parts HI
  have R1 := run_make (P := Try.prog) w 71 4 i0 _ Try.underlying71 hi hz0 .i64 .i64 (k : Int) (k : Int) (by omega) (by omega) (by rw [hz2]; omega) (by omega)
  rw [Int.toNat_natCast, hz1] at R1
  exact R1
def zeroP : Pr := ⟨zeroE, false, 0, ⟨0, 0⟩, 0, 0⟩
theorem made_peers (k : Nat) : (madeCells (Value.cells (.agg #[.bool false, .int .u64 0, .int .u64 0, .int .i64 0, .bool false, .int .i64 0, .int .i64 0, .int .i64 0, .int .i64 0, .int .i64 0])) (k * 10)).toList = flat encP (ls k fun _ => zeroP) := by
  have e3 : ∀ m (h : m < 10), (Value.cells (.agg #[.bool false, .int .u64 0, .int .u64 0, .int .i64 0, .bool false, .int .i64 0, .int .i64 0, .int .i64 0, .int .i64 0, .int .i64 0]))[m]! = (encP zeroP)[m]'h := fun m h => by
    have : m = 0 ∨ m = 1 ∨ m = 2 ∨ m = 3 ∨ m = 4 ∨ m = 5 ∨ m = 6 ∨ m = 7 ∨ m = 8 ∨ m = 9 := by omega
    rcases this with rfl | rfl | rfl | rfl | rfl | rfl | rfl | rfl | rfl | rfl <;> rfl
  refine List.ext_getElem (by rw [flat_len encP_len, ls_length]; simp [size_madeCells]) fun j h1 h2 => ?_
  rw [flat_len encP_len, ls_length] at h2
  have hq : j / 10 < k := (Nat.div_lt_iff_lt_mul (by decide)).2 h2
  have e := flat_at encP_len (ls k fun _ => zeroP) (j / 10) (j % 10) (by rw [ls_length]; exact hq) (Nat.mod_lt _ (by decide))
  rw [show j / 10 * 10 + j % 10 = j by omega, List.getElem?_eq_getElem (by rw [flat_len encP_len, ls_length]; exact h2), ls_get] at e
  have hm : j % 10 < 10 := Nat.mod_lt _ (by decide)
  have e4 : (madeCells (Value.cells (.agg #[.bool false, .int .u64 0, .int .u64 0, .int .i64 0, .bool false, .int .i64 0, .int .i64 0, .int .i64 0, .int .i64 0, .int .i64 0])) (k * 10)).toList[j]? = some ((encP zeroP)[j % 10]'hm) := by
    rw [Array.getElem?_toList]
    unfold madeCells
    rw [Array.getElem?_map, Array.getElem?_range, if_pos h2]
    exact congrArg some (e3 _ hm)
  rw [Option.some.inj ((List.getElem?_eq_getElem h1).symm.trans e4)]
  rw [List.getElem?_eq_getElem hm] at e
  exact (Option.some.inj e).symm
theorem make_peers (w : World) (k : Nat) (hk : k ≤ 1000000) : (Instr.makeSlice 22 (.int .i64 k) (.int .i64 k)).run Try.prog w = .ok (.slice (some ⟨w.heap.size, 0, none⟩) k k) (w.alloc (.cells (madeCells (Value.cells (.agg #[.bool false, .int .u64 0, .int .u64 0, .int .i64 0, .bool false, .int .i64 0, .int .i64 0, .int .i64 0, .int .i64 0, .int .i64 0])) (k * 10)) 41)) := by
  have HI : (Try.prog.info? 41).map (fun i => (i.zero, i.size, i.bytes)) = some (some (.agg #[.bool false, .int .u64 0, .int .u64 0, .int .i64 0, .bool false, .int .i64 0, .int .i64 0, .int .i64 0, .int .i64 0, .int .i64 0]), 10, 80) := by kernel_rfl
  obtain ⟨i0, hi, hz0, hz1, hz2⟩ := info_parts HI
  have R1 := run_make (P := Try.prog) w 22 41 i0 _ Try.underlying22 hi hz0 .i64 .i64 (k : Int) (k : Int) (by omega) (by omega) (by rw [hz2]; omega) (by omega)
  rw [Int.toNat_natCast, hz1] at R1
  exact R1
/-- The four quotas, one after the other. -/
theorem shares_any (q : Qt) (w : World) : Calls Try.prog 51 #[.agg #[.int .i64 q.g, .int .i64 q.p, .int .i64 q.w, .int .i64 q.t]] w fun e w' => e = .returned (.agg #[.int .i64 1, .int .i64 q.g, .int .i64 2, .int .i64 q.p, .int .i64 3, .int .i64 q.w, .int .i64 4, .int .i64 q.t]) ∧ Below w.heap.size w w' := by
  have O1 : Hid (Blk ((w.alloc (.cells #[.int .i64 q.g, .int .i64 q.p, .int .i64 q.w, .int .i64 q.t] 24)).alloc (.cells #[.int .i64 0, .int .i64 0, .int .i64 0, .int .i64 0, .int .i64 0, .int .i64 0, .int .i64 0, .int .i64 0] 85)) w.heap.size 24 [.int .i64 q.g, .int .i64 q.p, .int .i64 q.w, .int .i64 q.t]) := Lib.hid ((Blk.new w #[.int .i64 q.g, .int .i64 q.p, .int .i64 q.w, .int .i64 q.t] 24).alloc _)
  have c0 := O1.out.cell (j := 0) rfl
  have c1 := O1.out.cell (j := 1) rfl
  have c2 := O1.out.cell (j := 2) rfl
  have c3 := O1.out.cell (j := 3) rfl
  go_enter Try.func51, Try.ntmps51
  go_wp2_with fail
  exact bodyPost_ret (v := .agg #[.int .i64 1, .int .i64 q.g, .int .i64 2, .int .i64 q.p, .int .i64 3, .int .i64 q.w, .int .i64 4, .int .i64 q.t]) (by simp [results, Try.results51, go_sem]) rfl ⟨rfl, Lows.alloc (Lows.alloc (Lows.self w) _) _⟩
/-- The i-th of the four. -/
theorem share_at (q : Qt) (i : Nat) (hi : i < 4) (W : World) : (Instr.index 85 (.agg #[.int .i64 1, .int .i64 q.g, .int .i64 2, .int .i64 q.p, .int .i64 3, .int .i64 q.w, .int .i64 4, .int .i64 q.t]) (.int .i64 (i : Int))).run Try.prog W = .ok (.agg #[.int .i64 ((i : Int) + 1), .int .i64 (q.by ((i : Int) + 1))]) W := by
  have : i = 0 ∨ i = 1 ∨ i = 2 ∨ i = 3 := by omega
  rcases this with rfl | rfl | rfl | rfl
  · show (Instr.index 85 (.agg #[.int .i64 1, .int .i64 q.g, .int .i64 2, .int .i64 q.p, .int .i64 3, .int .i64 q.w, .int .i64 4, .int .i64 q.t]) (.int .i64 0)).run Try.prog W = .ok (.agg #[.int .i64 1, .int .i64 q.g]) W
    simp [Instr.index, run_underlying Try.underlying85, asIntOf, go_sem]
  · show (Instr.index 85 (.agg #[.int .i64 1, .int .i64 q.g, .int .i64 2, .int .i64 q.p, .int .i64 3, .int .i64 q.w, .int .i64 4, .int .i64 q.t]) (.int .i64 1)).run Try.prog W = .ok (.agg #[.int .i64 2, .int .i64 q.p]) W
    simp [Instr.index, run_underlying Try.underlying85, asIntOf, go_sem]
  · show (Instr.index 85 (.agg #[.int .i64 1, .int .i64 q.g, .int .i64 2, .int .i64 q.p, .int .i64 3, .int .i64 q.w, .int .i64 4, .int .i64 q.t]) (.int .i64 2)).run Try.prog W = .ok (.agg #[.int .i64 3, .int .i64 q.w]) W
    simp [Instr.index, run_underlying Try.underlying85, asIntOf, go_sem]
  · show (Instr.index 85 (.agg #[.int .i64 1, .int .i64 q.g, .int .i64 2, .int .i64 q.p, .int .i64 3, .int .i64 q.w, .int .i64 4, .int .i64 q.t]) (.int .i64 3)).run Try.prog W = .ok (.agg #[.int .i64 4, .int .i64 q.t]) W
    simp [Instr.index, run_underlying Try.underlying85, asIntOf, go_sem]
theorem append_int {B : Nat} {W : World} {v : Value} {xs : List Nat} (hown : OwnN B W v xs) (y : Nat) (hlen : xs.length ≤ 1000000) (hB : B ≤ W.heap.size) :
    ∃ v' w', (Builtin.append_ #[66, 66] 66 #[v, .slice (some ⟨W.heap.size, 0, none⟩) 1 1]).run Try.prog (W.alloc (.cells #[.int .i64 (y : Int)] 3)) = .ok v' w' ∧ OwnN B w' v' (xs ++ [y]) ∧ Below B W w' := by
  have HI : (Try.prog.info? 3).map (fun i => (i.zero, i.size, i.bytes)) = some (some (.int .i64 0), 1, 8) := by kernel_rfl
  obtain ⟨v', w', h1, h2, h3⟩ := append_recs (P := Try.prog) (z := .int .i64 0) (bytes := 8) Try.underlying66 HI rfl (by decide) encN_len encN_one (hown.alloc (.cells #[.int .i64 (y : Int)] 3))
    (Recs.lit encN_len W [y] #[.int .i64 (y : Int)] 3 (by rw [flat_one]; rfl)) (by simp; omega) (by simp; omega) (Nat.le_trans hB (by simp))
  exact ⟨v', w', h1, h2, ((Below.refl B W).alloc hB _).trans h3⟩
theorem bool_at {w : World} {bb o : Nat} {n : Nat} {S : Nat → Bool} {wr : World} (hlow : Below w.heap.size w wr) (hb : bb < w.heap.size) (hcc : ∀ i (h : i < (ls n S).length) j u, (encB (ls n S)[i])[j]? = some u → w.cell? ⟨bb, o + i * 1 + j, none⟩ = some u) {i : Nat} (hi : i < n) : wr.cell? ⟨bb, o + i, none⟩ = some (.bool (S i)) := by
  have h := hcc i (by rw [ls_length]; exact hi) 0 (.bool (S i)) (by rw [ls_get]; rfl)
  rw [Nat.mul_one, Nat.add_zero] at h
  exact (hlow.cell (p := ⟨bb, o + i, none⟩) hb).trans h
set_option maxHeartbeats 8000000 in
theorem others_any (v : Value) (n : Nat) (S : Nat → Bool) (w : World) (h : BoolsI w v (ls n S)) (hn : n ≤ 1000000) :
    Calls Try.prog 40 #[v] w fun e w' => ∃ u, e = .returned u ∧ NumsI w' u (restR n S) ∧ Below w.heap.size w w' := by
  obtain ⟨A, c, rfl, hc, _, hcell⟩ := h
  have HC := Lib.hid hcell
  have HLN : Hid ((ls n S).length = n) := Lib.hid (ls_length n S)
  rw [ls_length]
  clear hcell hc
  go_enter Try.func40, Try.ntmps40
  go_wp2_with fail
  go_loopw [3, 8] (fun vr vi wr => ∃ (i : Nat), vi = .int .i64 i ∧ i ≤ n ∧ Hid (OwnN w.heap.size wr vr (restR i S)) ∧ Hid (Below w.heap.size w wr)) (fun _ vi _ => n - (intOf vi).toNat)
  case atStart => exact ⟨0, rfl, Nat.zero_le _, Lib.hid ⟨rfl, Or.inl ⟨rfl, rfl⟩⟩, Lib.hid (Below.refl _ _)⟩
  case round =>
    obtain ⟨i, rfl, hik, HO, HL⟩ := hrel
    by_cases hli : i < n
    · have hliz : (i : Int) < (n : Int) := by omega
      obtain ⟨bb, o, rfl, hb, hcc⟩ := HC.out (by rw [HLN.out]; omega)
      have c0 := bool_at HL.out hb hcc hli
      have hlen : (restR i S).length ≤ 1000000 := by have := rest_le i S; omega
      clear hcc hb
      cases hq : S i with
      | true =>
        rw [hq] at c0
        have HY : Hid (restR (i + 1) S = restR i S) := Lib.hid (rest_yes hq)
        clear hq
        go_wp2_with fail
        go_roundw
        case rel => exact ⟨i + 1, by go_num, by omega, Lib.hid (by rw [HY.out]; exact HO.out), HL⟩
        case measure => simp [intOf]; omega
      | false =>
        rw [hq] at c0
        obtain ⟨v', w', RR, HO2, hb5⟩ := append_int (B := w.heap.size) HO.out i hlen HL.out.size
        have R1 := Lib.hid RR
        have HO3 : Hid (OwnN w.heap.size w' v' (restR (i + 1) S)) := Lib.hid (by rw [rest_no hq]; exact HO2)
        have HL3 : Hid (Below w.heap.size w w') := Lib.hid (HL.out.trans hb5)
        clear RR HO2 hb5 HO HL hq
        go_wp2_with (first
          | (at_builtin; refine wpList_append_run rfl (.tmp 15) (.tmp 17) _ _ rfl rfl _ _ _ _ rfl rfl R1.out ?_)
          | fail)
        go_roundw
        case rel => exact ⟨i + 1, by go_num, by omega, HO3, HL3⟩
        case measure => simp [intOf]; omega
    · have hliz : ¬ (i : Int) < (n : Int) := by omega
      have HR := Lib.hid (recs_own encN_len (by decide) HO.out).1
      have HE : Hid (n = i) := Lib.hid (by omega)
      clear HO
      go_wp2_with fail
      go_ret
      exact ⟨_, rfl, by rw [HE.out]; exact HR.out, HL.out⟩
def inP (l : List Pr) (R : List Nat) (j : Nat) : Nat → Pr := fun p => if p < j then l[R[p]!]! else zeroP
theorem inP_next (l : List Pr) (R : List Nat) (k j : Nat) (h : j < k) : (ls k (inP l R j)).set j l[R[j]!]! = ls k (inP l R (j + 1)) := by
  rw [ls_set _ _ h]
  congr 1
  funext p
  unfold inP
  by_cases h1 : p = j
  · subst h1; rw [if_pos rfl, if_pos (by omega)]
  · rw [if_neg h1]
    by_cases h2 : p < j
    · rw [if_pos h2, if_pos (by omega)]
    · rw [if_neg h2, if_neg (by omega)]
theorem inP_done (l : List Pr) (R : List Nat) : ls R.length (inP l R R.length) = thoseR l R := by
  refine List.ext_getElem (by rw [ls_length, those_length]) fun j h1 h2 => ?_
  rw [ls_length] at h1
  rw [ls_get]
  unfold inP
  rw [if_pos h1]
  show _ = (R.map fun i => l[i]!)[j]'(by rw [List.length_map]; exact h1)
  rw [List.getElem_map, getElem!_pos R j h1]
theorem put_peer {w : World} {g : Nat} {t : TypeId} {D : List Pr} (h : Blk w g t (flat encP D)) {i : Nat} (hi : i < D.length) (x : Pr) :
    Blk (((((((((((w).setCell ⟨g, i * 10, none⟩ (.bool x.e.a.v6)).setCell ⟨g, i * 10 + 1, none⟩ (.int .u64 x.e.a.hi)).setCell ⟨g, i * 10 + 2, none⟩ (.int .u64 x.e.a.lo)).setCell ⟨g, i * 10 + 3, none⟩ (.int .i64 x.e.n)).setCell ⟨g, i * 10 + 4, none⟩ (.bool x.i)).setCell ⟨g, i * 10 + 5, none⟩ (.int .i64 x.t)).setCell ⟨g, i * 10 + 6, none⟩ (.int .i64 x.c.p)).setCell ⟨g, i * 10 + 7, none⟩ (.int .i64 x.c.a)).setCell ⟨g, i * 10 + 8, none⟩ (.int .i64 x.g)).setCell ⟨g, i * 10 + 9, none⟩ (.int .i64 x.k)) g t (flat encP (D.set i x)) ∧ Bt g w (((((((((((w).setCell ⟨g, i * 10, none⟩ (.bool x.e.a.v6)).setCell ⟨g, i * 10 + 1, none⟩ (.int .u64 x.e.a.hi)).setCell ⟨g, i * 10 + 2, none⟩ (.int .u64 x.e.a.lo)).setCell ⟨g, i * 10 + 3, none⟩ (.int .i64 x.e.n)).setCell ⟨g, i * 10 + 4, none⟩ (.bool x.i)).setCell ⟨g, i * 10 + 5, none⟩ (.int .i64 x.t)).setCell ⟨g, i * 10 + 6, none⟩ (.int .i64 x.c.p)).setCell ⟨g, i * 10 + 7, none⟩ (.int .i64 x.c.a)).setCell ⟨g, i * 10 + 8, none⟩ (.int .i64 x.g)).setCell ⟨g, i * 10 + 9, none⟩ (.int .i64 x.k)) := by
  have k := setCells_blk g t (encP x) (i * 10) w _ h (by rw [encP_len, flat_len encP_len]; omega)
  rw [← flat_one encP x, flat_splice encP_len, splice_one _ _ _ hi, flat_one] at k
  exact k
theorem Bt.cell {g : Nat} {w w' : World} (h : Bt g w w') {p : Addr} (hp : p.block ≠ g) (hl : p.block < w.heap.size) : w'.cell? p = w.cell? p := World.cell?_of_block (w := w) (h.block p.block hp hl)
theorem num_at {w wr : World} {b o : Nat} {F : List Nat} (hb : b < w.heap.size) (hcc : ∀ i (h : i < F.length) j u, (encN F[i])[j]? = some u → w.cell? ⟨b, o + i * 1 + j, none⟩ = some u) {i : Nat} (hi : i < F.length) (hL : ∀ p : Addr, p.block = b → wr.cell? p = w.cell? p) : wr.cell? ⟨b, o + i, none⟩ = some (.int .i64 (F[i]! : Int)) := by
  have h := hcc i hi 0 (.int .i64 (F[i] : Int)) rfl
  rw [Nat.mul_one, Nat.add_zero] at h
  rw [getElem!_pos F i hi]
  exact (hL ⟨b, o + i, none⟩ rfl).trans h
set_option maxHeartbeats 8000000 in
theorem those_any (v u : Value) (l : List Pr) (R : List Nat) (w : World) (h : Peers w v l) (hu : NumsI w u R) (hR : ∀ i ∈ R, i < l.length) (hl : R.length ≤ 1000000) (hl2 : l.length ≤ 1000000) :
    Calls Try.prog 53 #[v, u] w fun e w' => ∃ x, e = .returned x ∧ Peers w' x (thoseR l R) ∧ Below w.heap.size w w' := by
  obtain ⟨A, c, rfl, hc, _, hcell⟩ := h
  obtain ⟨A2, c2, rfl, hc2, _, hcell2⟩ := hu
  have HC := Lib.hid hcell
  have HC2 := Lib.hid hcell2
  have HR := Lib.hid hR
  obtain ⟨k, hk⟩ : ∃ k, k = R.length := ⟨_, rfl⟩
  rw [← hk] at hl ⊢
  have HK := Lib.hid hk
  have R1 := Lib.hid (make_peers w k hl)
  have B0 : Hid (Blk (w.alloc (.cells (madeCells (Value.cells (.agg #[.bool false, .int .u64 0, .int .u64 0, .int .i64 0, .bool false, .int .i64 0, .int .i64 0, .int .i64 0, .int .i64 0, .int .i64 0])) (k * 10)) 41)) w.heap.size 41 (flat encP (ls k (inP l R 0)))) := Lib.hid (by
    have h := Blk.new w (madeCells (Value.cells (.agg #[.bool false, .int .u64 0, .int .u64 0, .int .i64 0, .bool false, .int .i64 0, .int .i64 0, .int .i64 0, .int .i64 0, .int .i64 0])) (k * 10)) 41
    rw [made_peers] at h
    exact h)
  have L0 : Hid (Lows w (w.alloc (.cells (madeCells (Value.cells (.agg #[.bool false, .int .u64 0, .int .u64 0, .int .i64 0, .bool false, .int .i64 0, .int .i64 0, .int .i64 0, .int .i64 0, .int .i64 0])) (k * 10)) 41))) := Lib.hid (Lows.alloc (Lows.self w) _)
  generalize w.alloc (.cells (madeCells (Value.cells (.agg #[.bool false, .int .u64 0, .int .u64 0, .int .i64 0, .bool false, .int .i64 0, .int .i64 0, .int .i64 0, .int .i64 0, .int .i64 0])) (k * 10)) 41) = W4 at R1 B0 L0
  clear hcell hcell2 hR hk hc2
  go_enter Try.func53, Try.ntmps53
  go_wp2_with (first
    | (at_make; refine wpList_make_run rfl _ _ _ rfl _ _ _ _ rfl rfl R1.out ?_)
    | fail)
  go_loopw [13] (fun vi wr => ∃ j : Nat, vi = .int .i64 j ∧ j ≤ k ∧ Hid (Blk wr w.heap.size 41 (flat encP (ls k (inP l R j)))) ∧ Hid (Lows w wr)) (fun vi _ => k - (intOf vi).toNat)
  case atStart => exact ⟨0, rfl, Nat.zero_le _, B0, L0⟩
  case round =>
    obtain ⟨j, rfl, hj, HB, HL⟩ := hrel
    clear B0 L0 R1
    by_cases hlj : j < k
    · have hljz : (j : Int) < (k : Int) := by omega
      obtain ⟨b2, o2, rfl, hb2, hcc2⟩ := HC2.out (by have := HK.out; omega)
      have e1 := num_at hb2 hcc2 (i := j) (by have := HK.out; omega) (fun p hp => HL.out.cell (p := p) (by omega))
      have hrl : R[j]! < l.length := by
        have hj2 : j < R.length := by have := HK.out; omega
        rw [getElem!_pos R j hj2]; exact HR.out _ (List.getElem_mem _)
      obtain ⟨r, hr⟩ : ∃ r, r = R[j]! := ⟨_, rfl⟩
      rw [← hr] at e1 hrl
      have HRJ := Lib.hid hr
      clear hr hcc2 hb2
      have hrz : (r : Int) < (l.length : Int) := by omega
      have hrb : (r : Int) ≤ 9223372036854775807 := by omega
      obtain ⟨bb, o, rfl, hb, hcc⟩ := HC.out (by omega)
      obtain ⟨x, hx⟩ : ∃ x, x = l[r]! := ⟨_, rfl⟩
      have hlow := HL.out
      have c0 := peer_at hlow hb hcc hrl (j := 0) rfl
      have c1 := peer_at hlow hb hcc hrl (j := 1) rfl
      have c2 := peer_at hlow hb hcc hrl (j := 2) rfl
      have c3 := peer_at hlow hb hcc hrl (j := 3) rfl
      have c4 := peer_at hlow hb hcc hrl (j := 4) rfl
      have c5 := peer_at hlow hb hcc hrl (j := 5) rfl
      have c6 := peer_at hlow hb hcc hrl (j := 6) rfl
      have c7 := peer_at hlow hb hcc hrl (j := 7) rfl
      have c8 := peer_at hlow hb hcc hrl (j := 8) rfl
      have c9 := peer_at hlow hb hcc hrl (j := 9) rfl
      rw [Nat.add_zero] at c0
      rw [← hx] at c0 c1 c2 c3 c4 c5 c6 c7 c8 c9
      have HX := Lib.hid hx
      clear hx hcc hlow
      have d0 := HB.out.cell (j := j * 10 + 0) (by rw [flat_at encP_len _ j 0 (by rw [ls_length]; exact hlj) (by decide), ls_get]; unfold inP; rw [if_neg (Nat.lt_irrefl _)]; rfl)
      have df0 := HB.out.free (j * 10)
      have d1 := HB.out.cell (j := j * 10 + 1) (by rw [flat_at encP_len _ j 1 (by rw [ls_length]; exact hlj) (by decide), ls_get]; unfold inP; rw [if_neg (Nat.lt_irrefl _)]; rfl)
      have df1 := HB.out.free (j * 10 + 1)
      have d2 := HB.out.cell (j := j * 10 + 2) (by rw [flat_at encP_len _ j 2 (by rw [ls_length]; exact hlj) (by decide), ls_get]; unfold inP; rw [if_neg (Nat.lt_irrefl _)]; rfl)
      have df2 := HB.out.free (j * 10 + 2)
      have d3 := HB.out.cell (j := j * 10 + 3) (by rw [flat_at encP_len _ j 3 (by rw [ls_length]; exact hlj) (by decide), ls_get]; unfold inP; rw [if_neg (Nat.lt_irrefl _)]; rfl)
      have df3 := HB.out.free (j * 10 + 3)
      have d4 := HB.out.cell (j := j * 10 + 4) (by rw [flat_at encP_len _ j 4 (by rw [ls_length]; exact hlj) (by decide), ls_get]; unfold inP; rw [if_neg (Nat.lt_irrefl _)]; rfl)
      have df4 := HB.out.free (j * 10 + 4)
      have d5 := HB.out.cell (j := j * 10 + 5) (by rw [flat_at encP_len _ j 5 (by rw [ls_length]; exact hlj) (by decide), ls_get]; unfold inP; rw [if_neg (Nat.lt_irrefl _)]; rfl)
      have df5 := HB.out.free (j * 10 + 5)
      have d6 := HB.out.cell (j := j * 10 + 6) (by rw [flat_at encP_len _ j 6 (by rw [ls_length]; exact hlj) (by decide), ls_get]; unfold inP; rw [if_neg (Nat.lt_irrefl _)]; rfl)
      have df6 := HB.out.free (j * 10 + 6)
      have d7 := HB.out.cell (j := j * 10 + 7) (by rw [flat_at encP_len _ j 7 (by rw [ls_length]; exact hlj) (by decide), ls_get]; unfold inP; rw [if_neg (Nat.lt_irrefl _)]; rfl)
      have df7 := HB.out.free (j * 10 + 7)
      have d8 := HB.out.cell (j := j * 10 + 8) (by rw [flat_at encP_len _ j 8 (by rw [ls_length]; exact hlj) (by decide), ls_get]; unfold inP; rw [if_neg (Nat.lt_irrefl _)]; rfl)
      have df8 := HB.out.free (j * 10 + 8)
      have d9 := HB.out.cell (j := j * 10 + 9) (by rw [flat_at encP_len _ j 9 (by rw [ls_length]; exact hlj) (by decide), ls_get]; unfold inP; rw [if_neg (Nat.lt_irrefl _)]; rfl)
      have df9 := HB.out.free (j * 10 + 9)
      rw [Nat.add_zero] at d0
      have HN := Lib.hid (put_peer HB.out (i := j) (by rw [ls_length]; exact hlj) x)
      have HE : Hid ((ls k (inP l R j)).set j x = ls k (inP l R (j + 1))) := Lib.hid (by rw [HX.out, HRJ.out]; exact inP_next l R k j hlj)
      go_wp2_with fail
      go_roundw
      case rel => exact ⟨j + 1, by go_num, by omega, Lib.hid (by rw [← HE.out]; exact HN.out.1), Lib.hid (HL.out.trans (HN.out.2.low (Nat.le_refl _) HL.out.size))⟩
      case measure => simp [intOf]; omega
    · have hljz : ¬ (j : Int) < (k : Int) := by omega
      have hjk : Hid (k = j) := Lib.hid (by omega)
      have HRR : Hid (Peers wr (.slice (some ⟨w.heap.size, 0, none⟩) k k) (thoseR l R)) := Lib.hid (by
        have e := inP_done l R
        have h := HB.out
        have e2 := HK.out
        have e3 := hjk.out
        subst e3
        subst e2
        rw [e] at h
        exact h.recs encP_len (xs := thoseR l R) (m := R.length) (cap := R.length) (by rw [List.take_of_length_le (by rw [those_length]; omega)]) (by rw [those_length]; omega) (Nat.le_refl _))
      go_wp2_with fail
      go_ret
      exact ⟨_, rfl, HRR.out, HL.out⟩
end Go.Proofs.Ythmcggbmeabpmaa.Sh
/- Contracts of package shield, second part: Saved, Left, Inside. -/
namespace Go.Proofs.Ythmcggbmeabpmaa.Sh
set_option maxRecDepth 100000
open Go.ChangeShapes Go.WideShapes Go.ChangeAt Go.RowKit
open Dec Words V4 V6 Ad Ci En Sat Ha Pe Stb Gr Mi Ra Go.Deep
set_option linter.unusedVariables false
/-- A number's block is none of bools. -/
theorem num_block {w : World} {g n b o : Nat} {t : TypeId} {S : Nat → Bool} {x : Int} (h : Blk w g t (ls n (bv S))) (hc : w.cell? ⟨b, o, none⟩ = some (.int .i64 x)) : b ≠ g := fun e => by
  subst e
  rw [cell_of_row _ _ _ _ _ _ h] at hc
  have hc2 : (ls n (bv S))[o]? = some (.int .i64 x) := by simpa using hc
  obtain ⟨hlt, e⟩ := List.getElem?_eq_some_iff.1 hc2
  rw [ls_get] at e
  cases e
abbrev S19 (W3 : World) (g : Nat) (b m : Int) (w' : World) : Prop := w'.cell? ⟨g, 0, none⟩ = some (.int .i64 b) ∧ w'.cell? ⟨g, 1, none⟩ = some (.int .i64 m) ∧ Lows W3 w'
set_option maxHeartbeats 16000000 in
theorem saved_any (v : Value) (l : List Pr) (q : Qt) (s : Nat) (w : World) (h : Peers w v l) (hok : ∀ x ∈ l, x.ok) (hl : l.length ≤ 1000000) (hs : s < 18446744073709551616) :
    Calls Try.prog 41 #[v, .agg #[.int .i64 q.g, .int .i64 q.p, .int .i64 q.w, .int .i64 q.t], .int .u64 (s : Nat)] w fun e w' => ∃ u, e = .returned u ∧ BoolsI w' u (ls l.length (savedR l q s 4)) ∧ Below w.heap.size w w' := by
  have PW := Lib.hid h
  obtain ⟨A, c, rfl, hc, _, hcell⟩ := h
  have HOK := Lib.hid hok
  have HS := Lib.hid hs
  have R1 := Lib.hid (make_bools (w.alloc (.cells #[.int .i64 q.g, .int .i64 q.p, .int .i64 q.w, .int .i64 q.t] 24)) l.length hl)
  have B0 : Hid (Blk ((w.alloc (.cells #[.int .i64 q.g, .int .i64 q.p, .int .i64 q.w, .int .i64 q.t] 24)).alloc (.cells (madeCells (Value.cells (.bool false)) (l.length * 1)) 4)) (w.heap.size + 1) 4 (ls l.length (bv (savedR l q s 0)))) := Lib.hid (by
    have h := Blk.two w (.cells #[.int .i64 q.g, .int .i64 q.p, .int .i64 q.w, .int .i64 q.t] 24) (madeCells (Value.cells (.bool false)) (l.length * 1)) 4
    rw [made_bools] at h
    exact h)
  have OQ : Hid (Blk ((w.alloc (.cells #[.int .i64 q.g, .int .i64 q.p, .int .i64 q.w, .int .i64 q.t] 24)).alloc (.cells (madeCells (Value.cells (.bool false)) (l.length * 1)) 4)) w.heap.size 24 [.int .i64 q.g, .int .i64 q.p, .int .i64 q.w, .int .i64 q.t]) := Lib.hid ((Blk.new w #[.int .i64 q.g, .int .i64 q.p, .int .i64 q.w, .int .i64 q.t] 24).alloc _)
  have L0 : Hid (Below w.heap.size w ((w.alloc (.cells #[.int .i64 q.g, .int .i64 q.p, .int .i64 q.w, .int .i64 q.t] 24)).alloc (.cells (madeCells (Value.cells (.bool false)) (l.length * 1)) 4))) := Lib.hid (Lows.alloc (Lows.alloc (Lows.self w) _) _)
  rw [show (w.alloc (.cells #[.int .i64 q.g, .int .i64 q.p, .int .i64 q.w, .int .i64 q.t] 24)).heap.size = w.heap.size + 1 from by simp] at R1
  generalize (w.alloc (.cells #[.int .i64 q.g, .int .i64 q.p, .int .i64 q.w, .int .i64 q.t] 24)).alloc (.cells (madeCells (Value.cells (.bool false)) (l.length * 1)) 4) = W4 at R1 B0 L0 OQ
  have q0 := OQ.out.cell (j := 0) rfl
  have q1 := OQ.out.cell (j := 1) rfl
  have q2 := OQ.out.cell (j := 2) rfl
  have q3 := OQ.out.cell (j := 3) rfl
  have KS := Lib.hid (fun W => shares_any q W)
  clear hcell hok hs OQ
  go_enter Try.func41, Try.ntmps41
  go_wp2_with (first
    | (at_make; refine wpList_make_run rfl _ _ _ rfl _ _ _ _ rfl rfl R1.out ?_)
    | fail)
  refine (KS.out _).mono ?_; rintro e9 w2 ⟨rfl, hb2⟩
  have B2 : Hid (Blk w2 (w.heap.size + 1) 4 (ls l.length (bv (savedR l q s 0)))) := Lib.hid (B0.out.on hb2)
  have L2 : Hid (Below w.heap.size w w2) := Lib.hid (low_trans'' L0.out hb2)
  clear hb2 B0 L0 R1 KS q0 q1 q2 q3
  go_wp2_with fail
  go_loopw [18] (fun vi wr => ∃ i : Nat, vi = .int .i64 i ∧ i ≤ 4 ∧ Hid (Blk wr (w.heap.size + 1) 4 (ls l.length (bv (savedR l q s i)))) ∧ Hid (Below w.heap.size w wr)) (fun vi _ => 4 - (intOf vi).toNat)
  case atStart => exact ⟨0, rfl, Nat.zero_le _, B2, L2⟩
  case round =>
    obtain ⟨i, rfl, hi, HB, HL⟩ := hrel
    clear B2 L2
    by_cases hi4 : i < 4
    · have hi4z : (i : Int) < 4 := by omega
      obtain ⟨W, hW⟩ : ∃ W, W = wr := ⟨_, rfl⟩
      subst hW
      have RI := share_at q i hi4
      obtain ⟨b, hb⟩ : ∃ b : Int, b = (i : Int) + 1 := ⟨_, rfl⟩
      obtain ⟨m, hm⟩ : ∃ m, m = q.by b := ⟨_, rfl⟩
      rw [← hb, ← hm] at RI
      obtain ⟨S, hS⟩ : ∃ S, S = savedR l q s i := ⟨_, rfl⟩
      rw [← hS] at HB
      obtain ⟨O, hO⟩ : ∃ O, O = ordX l b s S := ⟨_, rfl⟩
      have HSN : Hid (savedR l q s (i + 1) = upto S O m.toNat) := Lib.hid (by
        show upto _ _ _ = _
        rw [hO, hm, hS, hb]; rfl)
      obtain ⟨R, hR⟩ : ∃ R, R = restR l.length S := ⟨_, rfl⟩
      have HRR : Hid (∀ x ∈ R, x < l.length) := Lib.hid fun x hx => by rw [hR] at hx; exact (rest_mem.1 hx).1
      have HRL : Hid (R.length ≤ l.length) := Lib.hid (by rw [hR]; exact rest_le _ _)
      have HOT : Hid (∀ x ∈ thoseR l R, x.ok) := Lib.hid (those_ok HOK.out HRR.out)
      have HTL : Hid ((thoseR l R).length = R.length) := Lib.hid (those_length l R)
      obtain ⟨F, hF⟩ : ∃ F, F = firstR (thoseR l R) b m s := ⟨_, rfl⟩
      have HF1 : Hid (∀ j, j < F.length → j < O.length ∧ F[j]! < R.length ∧ R[F[j]!]! = O[j]! ∧ O[j]! < l.length) := Lib.hid fun j hj => by
        rw [hF, hR] at hj
        have k := those_first_at (l := l) (b := b) (s := s) (S := S) hj
        rw [hF, hR, hO]
        exact ⟨k.1, k.2.2.1, k.2.2.2.1, k.2.2.2.2⟩
      have hFL : F.length ≤ 1000000 := by
        have k1 := ordX_le l b s S
        have k2 := those_first_length l b m s S
        rw [← hR, ← hF, List.length_take] at k2
        omega
      have HFD : Hid (upto S O F.length = upto S O m.toNat) := Lib.hid (by rw [hF, hR, hO]; exact those_first_done l b m s S)
      have KO : Hid (∀ X v, BoolsI X v (ls l.length S) → Calls Try.prog 40 #[v] X fun e w' => ∃ u, e = .returned u ∧ NumsI w' u R ∧ Below X.heap.size X w') := Lib.hid fun X v h => by rw [hR]; exact others_any v l.length S X h hl
      have KF0 : Hid (∀ X v, Peers X v (thoseR l R) → Calls Try.prog 52 #[v, .int .i64 b, .int .i64 m, .int .u64 (s : Nat)] X fun e w' => ∃ u, e = .returned u ∧ NumsI w' u F ∧ Below X.heap.size X w') := Lib.hid fun X v h => by rw [hF]; exact first_any v (thoseR l R) b m s X h HOT.out (by have := HTL.out; have := HRL.out; omega) HS.out
      have HB1 := Lib.hid (Blk.new W #[.int .i64 b, .int .i64 m] 84)
      have HB5 : Hid (Blk (W.alloc (.cells #[.int .i64 b, .int .i64 m] 84)) (w.heap.size + 1) 4 (ls l.length (bv S))) := Lib.hid (HB.out.alloc _)
      have HL5 : Hid (Below w.heap.size w (W.alloc (.cells #[.int .i64 b, .int .i64 m] 84))) := Lib.hid (low_trans'' HL.out (Lows.alloc (Lows.self W) _))
      have KO5 := Lib.hid (KO.out _ _ (bools_read HB5.out (Nat.le_refl _)))
      clear hb hm hS hO hR hF KO HB
      go_wp2_with fail
      refine KO5.out.mono ?_; rintro e9 w3 ⟨u2, rfl, hU, hb3⟩
      have HU := Lib.hid hU
      obtain ⟨A2, c2, rfl, hc2, hn2, hcell2⟩ := id hU
      have HC2 := Lib.hid hcell2
      have OB := Lib.hid (HB1.out.on hb3)
      have HB6 := Lib.hid (HB5.out.on hb3)
      have HL6 := Lib.hid (low_trans'' HL5.out hb3)
      have IN : Hid (∀ X, Lows w3 X → S19 w3 W.heap.size b m X) := Lib.hid fun X h => ⟨Blk.in OB h rfl, Blk.in OB h rfl, h⟩
      have KT : Hid (∀ X, S19 w3 W.heap.size b m X → Calls Try.prog 53 #[.slice A l.length c, .slice A2 R.length c2] X fun e w' => ∃ x, e = .returned x ∧ Peers w' x (thoseR l R) ∧ Below X.heap.size X w' ∧ S19 w3 W.heap.size b m w') := Lib.hid fun X h => (those_any _ _ l R X (PW.out.below (low_trans'' HL6.out h.2.2)) (HU.out.below h.2.2) HRR.out (by have := HRL.out; omega) hl).mono fun e w' ⟨x, he, hx, hb⟩ => ⟨x, he, hx, hb, IN.out _ (low_trans h.2.2 hb)⟩
      have KF : Hid (∀ X v, Peers X v (thoseR l R) → S19 w3 W.heap.size b m X → Calls Try.prog 52 #[v, .int .i64 b, .int .i64 m, .int .u64 (s : Nat)] X fun e w' => ∃ A3 c3, e = .returned (.slice A3 F.length c3) ∧ NumsI w' (.slice A3 F.length c3) F ∧ S19 w3 W.heap.size b m w') := Lib.hid fun X v h hs => (KF0.out X v h).mono fun e w' ⟨x, he, hx, hb⟩ => by
        obtain ⟨A3, c3, e3, _⟩ := id hx
        subst e3
        exact ⟨A3, c3, he, hx, IN.out _ (low_trans hs.2.2 hb)⟩
      have JD : Hid (∀ X, S19 w3 W.heap.size b m X → S19 w3 W.heap.size b m X.drew) := Lib.hid fun X h => IN.out _ (low_drewN h.2.2 1)
      have hk0 := IN.out _ (Lows.self _)
      have HGG : Hid (w.heap.size + 1 < w3.heap.size) := Lib.hid HB6.out.lt
      clear hU hb3 hc2 hn2 hcell2 KO5 HB1 HB5 HL5 KF0 RI
      obtain ⟨k0, k1, hsk⟩ := id hk0
      go_wp2_with fail
      go_region_held3 (fun w' => w'.cell? ⟨W.heap.size, 0, none⟩ = some (.int .i64 b) ∧ w'.cell? ⟨W.heap.size, 1, none⟩ = some (.int .i64 m) ∧ Lows w3 w')
        (first | (with_reducible assumption) | (with_reducible exact JD.out _ (by with_reducible assumption)))
        (first
          | (go_at_call 53; (with_reducible refine (KT.out _ (by with_reducible assumption)).mono ?_); rintro e w9 ⟨x, rfl, hX, hbX, hkw⟩)
          | (go_at_call 52; (with_reducible refine (KF.out _ _ hX (by with_reducible assumption)).mono ?_); rintro e w9 ⟨A3, c3, rfl, hY, hkw⟩))
      obtain ⟨A3', c3', e3, _, _, hcell3⟩ := id hY
      obtain ⟨rfl, rfl⟩ : A3 = A3' ∧ c3 = c3' := by simpa using e3
      have HC3 := Lib.hid hcell3
      have H39 := Lib.hid hkw.2.2
      have HL9 : Hid (Below w.heap.size w w9) := Lib.hid (low_trans'' HL6.out H39.out)
      have HB9 := Lib.hid (HB6.out.on H39.out)
      have HB90 : Hid (Blk w9 (w.heap.size + 1) 4 (ls l.length (bv (upto S O 0)))) := Lib.hid (by rw [upto_zero]; exact HB9.out)
      clear hY e3 hcell3 hkw hk0 hsk k0 k1 KT KF JD IN HB6 HL6 OB HU
      go_wp2_with fail
      go_loopw [33] (fun vj wr => ∃ j : Nat, vj = .int .i64 j ∧ j ≤ F.length ∧ Hid (Blk wr (w.heap.size + 1) 4 (ls l.length (bv (upto S O j)))) ∧ Hid (Bt (w.heap.size + 1) w9 wr)) (fun vj _ => F.length - (intOf vj).toNat)
      case atStart => exact ⟨0, rfl, Nat.zero_le _, HB90, Lib.hid (Bt.refl _ _)⟩
      case round =>
        obtain ⟨j, rfl, hj, HBj, HT⟩ := hrel
        clear HB90
        by_cases hjF : j < F.length
        · have hjz : (j : Int) < (F.length : Int) := by omega
          obtain ⟨hjO, hfR, hRO, hOl⟩ := HF1.out j hjF
          obtain ⟨b3, o3, rfl, hb3, hcc3⟩ := HC3.out (by omega)
          obtain ⟨b2, o2, rfl, hb2, hcc2⟩ := HC2.out (by omega)
          have n3 := num_at (wr := w9) hb3 hcc3 hjF (fun p _ => rfl)
          have n2 := num_at (wr := w9) hb2 hcc2 hfR (fun p hp => H39.out.cell (p := p) (by omega))
          have e3 := (Bt.cell HT.out (p := ⟨b3, o3 + j, none⟩) (num_block HB9.out n3) hb3).trans n3
          have e2 := (Bt.cell HT.out (p := ⟨b2, o2 + F[j]!, none⟩) (num_block HB9.out n2) (Nat.lt_of_lt_of_le hb2 H39.out.size)).trans n2
          rw [hRO] at e2
          have u0 : wr.cell? ⟨w.heap.size + 1, O[j]!, none⟩ = some (.bool (upto S O j O[j]!)) := HBj.out.cell (by rw [ls_at _ hOl])
          have u1 := HBj.out.free O[j]!
          have HN := Lib.hid (HBj.out.set O[j]! (.bool true))
          have HE := Lib.hid (upto_set (S := S) hjO rfl hOl)
          have HT2 : Hid (Bt (w.heap.size + 1) w9 (wr.setCell ⟨w.heap.size + 1, O[j]!, none⟩ (.bool true))) := Lib.hid (HT.out.trans (Bt.setCell _ _ _ _))
          rw [HE.out] at HN
          clear n3 n2 hRO hcc3 hcc2 hb3 hb2
          have hfz : ((F[j]! : Nat) : Int) < (R.length : Int) := by omega
          have hoz : ((O[j]! : Nat) : Int) < (l.length : Int) := by omega
          clear HE
          generalize F[j]! = f at *
          generalize O[j]! = o at *
          have hjb : j + 1 ≤ 1000000 := by omega
          go_wp2_with fail
          go_roundw
          case rel => exact ⟨j + 1, by go_num, by omega, HN, HT2⟩
          case measure => simp [intOf]; omega
        · have hjz : ¬ (j : Int) < (F.length : Int) := by omega
          have HE : Hid (upto S O j = savedR l q s (i + 1)) := Lib.hid (by rw [HSN.out, ← HFD.out, show j = F.length by omega])
          have HLN : Hid (Below w.heap.size w wr) := Lib.hid (HL9.out.trans (HT.out.low (Nat.le_succ _) HL9.out.size))
          go_wp2_with fail
          go_roundw
          case rel => exact ⟨i + 1, by go_num, by omega, Lib.hid (by rw [← HE.out]; exact HBj.out), HLN⟩
          case measure => simp [intOf]; omega
    · have hi4z : ¬ (i : Int) < 4 := by omega
      have HR : Hid (BoolsI wr (.slice (some ⟨w.heap.size + 1, 0, none⟩) l.length l.length) (ls l.length (savedR l q s i))) := Lib.hid (bools_read HB.out (Nat.le_refl _))
      have HE : Hid (4 = i) := Lib.hid (by omega)
      clear HB
      go_wp2_with fail
      go_ret
      exact ⟨_, rfl, by rw [HE.out]; exact HR.out, HL.out⟩
set_option maxHeartbeats 4000000 in
theorem sleft_any (v : Value) (l : List Pr) (q : Qt) (s : Nat) (w : World) (h : Peers w v l) (hok : ∀ x ∈ l, x.ok) (hl : l.length ≤ 1000000) (hs : s < 18446744073709551616) :
    Calls Try.prog 33 #[v, .agg #[.int .i64 q.g, .int .i64 q.p, .int .i64 q.w, .int .i64 q.t], .int .u64 (s : Nat)] w fun e w' => ∃ u, e = .returned u ∧ NumsI w' u (leftR l q s) ∧ Below w.heap.size w w' := by
  have L0 : Hid (Lows w (w.alloc (.cells #[.int .i64 q.g, .int .i64 q.p, .int .i64 q.w, .int .i64 q.t] 24))) := Lib.hid (Lows.alloc (Lows.self w) _)
  have KS := Lib.hid (saved_any v l q s (w.alloc (.cells #[.int .i64 q.g, .int .i64 q.p, .int .i64 q.w, .int .i64 q.t] 24)) (h.below L0.out) hok hl hs)
  have OQ := Lib.hid (Blk.new w #[.int .i64 q.g, .int .i64 q.p, .int .i64 q.w, .int .i64 q.t] 24)
  have q0 := OQ.out.cell (j := 0) rfl
  have q1 := OQ.out.cell (j := 1) rfl
  have q2 := OQ.out.cell (j := 2) rfl
  have q3 := OQ.out.cell (j := 3) rfl
  clear h hok hs OQ
  go_enter Try.func33, Try.ntmps33
  go_wp2_with fail
  refine KS.out.mono ?_; rintro e9 w1 ⟨u, rfl, hU, hb1⟩
  have KO := Lib.hid (others_any u l.length _ w1 hU hl)
  have L1 := Lib.hid (low_trans L0.out hb1)
  clear hU hb1 KS q0 q1 q2 q3
  go_wp2_with fail
  refine KO.out.mono ?_; rintro e9 w2 ⟨u2, rfl, hU, hb2⟩
  have HU := Lib.hid hU
  have L2 := Lib.hid (low_trans L1.out hb2)
  clear hU hb2 KO
  go_wp2_with fail
  go_ret
  exact ⟨_, rfl, HU.out, L2.out⟩
theorem ins_next {l : List Pr} {k j : Nat} {q : Qt} {s : Nat} {b : Int} (hb : ((j + 1 : Nat) : Int) = b) (h : ∀ c : Nat, 1 ≤ c → c ≤ j → inR l k q s ((c : Nat) : Int) = false) (hn : inR l k q s b = false) : ∀ c : Nat, 1 ≤ c → c ≤ j + 1 → inR l k q s ((c : Nat) : Int) = false := fun c h1 h2 => by
  by_cases e : c = j + 1
  · rw [e, hb]; exact hn
  · exact h c h1 (by omega)
theorem ins_yes {l : List Pr} {k j : Nat} {q : Qt} {s : Nat} {b : Int} (hb : ((j + 1 : Nat) : Int) = b) (hj : j < 4) (h : inR l k q s b = true) : insR l k q s = true := by
  subst hb
  have : j = 0 ∨ j = 1 ∨ j = 2 ∨ j = 3 := by omega
  have h1 : ((0 + 1 : Nat) : Int) = 1 := rfl
  have h2 : ((1 + 1 : Nat) : Int) = 2 := rfl
  have h3 : ((2 + 1 : Nat) : Int) = 3 := rfl
  have h4 : ((3 + 1 : Nat) : Int) = 4 := rfl
  unfold insR
  rcases this with rfl | rfl | rfl | rfl
  · rw [h1] at h; rw [h]; simp
  · rw [h2] at h; rw [h]; simp
  · rw [h3] at h; rw [h]; simp
  · rw [h4] at h; rw [h]; simp
theorem ins_no {l : List Pr} {k : Nat} {q : Qt} {s : Nat} (h : ∀ c : Nat, 1 ≤ c → c ≤ 4 → inR l k q s ((c : Nat) : Int) = false) : insR l k q s = false := by
  have h1 := h 1 (by decide) (by decide)
  have h2 := h 2 (by decide) (by decide)
  have h3 := h 3 (by decide) (by decide)
  have h4 := h 4 (by decide) (by decide)
  unfold insR
  rw [show inR l k q s 1 = false from h1, show inR l k q s 2 = false from h2, show inR l k q s 3 = false from h3, show inR l k q s 4 = false from h4]
  rfl
end Go.Proofs.Ythmcggbmeabpmaa.Sh
