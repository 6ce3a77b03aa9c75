/- Contracts of package crowd: who is younger, the numbers of the groups in a map, who is picked. -/
import Derived.Test.YtanphaahcmfkcaaCrowdMath
import Derived.Test.YtanphaahcmfkcaaPeersAll
import Derived.Test.YtanphaahcmfkcaaTail
import Derived.Test.YtanphaahcmfkcaaRef08All
import Derived.Test.YtanphaahcmfkcaaRef09All
import Derived.Deep.RegionHeld3
namespace Go.Proofs.Ytanphaahcmfkcaa.Cw
set_option maxRecDepth 100000
open Go.ChangeShapes Go.WideShapes Go.ChangeAt Go.RowKit
open Go.ChangeMaps (setBlock shut_map_nil open_string shut_string keptBut_setBlock frozen?_setBlock heap_setBlock_same heap_setBlock_other)
open Dec Words V4 V6 Ad Ci En Sat Ha Pe Stb Gr Mi Ra Go.Deep
set_option linter.unusedVariables false
abbrev netV (n : Net) : Value := .agg #[.bool n.a.v6, .int .u64 n.a.hi, .int .u64 n.a.lo, .int .i64 n.n]
/-- Entries of a map of groups: the i-th is born at k + i. -/
def mkG : Nat → Gs → List MapEntry
  | _, [] => []
  | k, p :: E => ⟨netV p.1, .int .i64 (p.2 : Int), k⟩ :: mkG (k + 1) E
/-- A map of groups with their numbers. -/
def MapC (b : Nat) (w : World) (E : Gs) : Prop := w.heap[b]? = some (.map (mkG 0 E).toArray E.length)
theorem MapC.on {b : Nat} {w w' : World} {E : Gs} (h : MapC b w E) (hb : Below w.heap.size w w') : MapC b w' E := (hb.block b (lt_of_block h)).trans h
theorem MapC.low {b B : Nat} {w w' : World} {E : Gs} (h : MapC b w E) (hb : Below B w w') (hB : b < B) : MapC b w' E := (hb.block b hB).trans h
theorem MapC.lt {b : Nat} {w : World} {E : Gs} (h : MapC b w E) : b < w.heap.size := lt_of_block h
theorem MapC.new (w : World) : MapC w.heap.size (w.alloc (.map #[] 0)) [] := by show (w.heap.push _)[w.heap.size]? = _; exact Array.getElem?_push_size
theorem mkG_len : ∀ (k : Nat) (E : Gs), (mkG k E).length = E.length
  | _, [] => rfl
  | k, p :: E => by rw [mkG, List.length_cons, List.length_cons, mkG_len]
theorem mkG_at : ∀ (k : Nat) (E : Gs) (i : Nat) (h : i < E.length), (mkG k E)[i]? = some ⟨netV E[i].1, .int .i64 (E[i].2 : Int), k + i⟩
  | k, p :: E, 0, h => rfl
  | k, p :: E, i + 1, h => by
    rw [mkG, List.getElem?_cons_succ, mkG_at (k + 1) E i (by simpa using h)]
    simp only [List.getElem_cons_succ, Option.some.injEq, MapEntry.mk.injEq, true_and]
    omega
theorem mkG_one : ∀ (k : Nat) (E : Gs) (n : Net) (c : Nat), mkG k (E ++ [(n, c)]) = mkG k E ++ [⟨netV n, .int .i64 (c : Int), k + E.length⟩]
  | k, [], n, c => rfl
  | k, p :: E, n, c => by
    rw [List.cons_append, mkG, mkG, mkG_one (k + 1) E n c, List.cons_append]
    simp only [List.length_cons]
    rw [show k + 1 + E.length = k + (E.length + 1) by omega]
theorem mkG_set : ∀ (k : Nat) (E : Gs) (i : Nat) (h : i < E.length) (n : Net) (c : Nat), E[i].1 = n → (mkG k E).modify i (fun e => { e with val := .int .i64 (c : Int) }) = mkG k (E.set i (n, c))
  | k, p :: E, 0, h, n, c, e => by
    rw [mkG, List.modify_zero_cons, List.set_cons_zero, mkG]
    have : p.1 = n := e
    rw [this]
  | k, p :: E, i + 1, h, n, c, e => by
    rw [mkG, List.modify_succ_cons, List.set_cons_succ, mkG, mkG_set (k + 1) E i (by simpa using h) n c (by simpa using e)]
theorem mkG_key : ∀ (k : Nat) (E : Gs) (i : Nat) (h : i < E.length) (n : Net), E[i].1 = n → (mkG k E).modify i (fun e => { e with key := netV n }) = mkG k E
  | k, p :: E, 0, h, n, e => by
    rw [mkG, List.modify_zero_cons]
    have : p.1 = n := e
    rw [this]
  | k, p :: E, i + 1, h, n, e => by
    rw [mkG, List.modify_succ_cons, mkG_key (k + 1) E i (by simpa using h) n (by simpa using e)]
theorem mkG_born : ∀ (k : Nat) (E : Gs) (i : Nat), i < E.length → (mkG k E).findIdx? (fun e => (e.born : Int) == ((k + i : Nat) : Int)) = some i
  | k, p :: E, 0, h => by
    rw [mkG, List.findIdx?_cons]
    simp
  | k, p :: E, i + 1, h => by
    have ih := mkG_born (k + 1) E i (by simpa using h)
    have hne : (((k : Nat) : Int) == ((k + (i + 1) : Nat) : Int)) = false := by rw [beq_eq_false_iff_ne]; omega
    rw [show k + 1 + i = k + (i + 1) by omega] at ih
    rw [mkG, List.findIdx?_cons]
    simp only [hne, Bool.false_eq_true, if_false, ih, Option.map_some]
theorem equal_net (m n : Net) (w : World) : (Op.equal 38 (netV m) (netV n)).run Try.prog w = .ok (sameN m n) w := by
  have h := eqNet m n w
  rw [run_eql_struct] at h
  show (Op.equalIn 10000 38 (netV m) (netV n)).run Try.prog w = _
  generalize (Op.equalIn 10000 38 (netV m) (netV n)).run Try.prog w = r at h ⊢
  cases r with
  | ok x w' =>
    simp only [Result.andThen_ok, Result.ok.injEq, Value.bool.injEq] at h ⊢
    exact h
  | halt x w' => cases h
theorem check_run (em : Bool) (n : Net) (w : World) : (Instr.checkKey em 10000 38 (netV n)).run Try.prog w = .ok () w := by
  cases em <;> kernel_rfl
theorem sameN_turn (m n : Net) : sameN m n = sameN n m := by rw [Bool.eq_iff_iff, sameN_iff, sameN_iff]; exact eq_comm
theorem asking_run (n : Net) (w : World) : ∀ (E : Gs) (k i : Nat), (Instr.findAsking 38 (netV n) (mkG k E) i).run Try.prog w = .ok (if ixG E n < E.length then some (i + ixG E n, .int .i64 (valG E n : Int)) else none) w
  | [], k, i => by rw [if_neg (show ¬ ixG [] n < ([] : Gs).length from Nat.not_lt_zero _)]; rfl
  | p :: E, k, i => by
    have ih := asking_run n w E (k + 1) (i + 1)
    have he : (Op.equal 38 (netV n) (netV p.1)).run Try.prog w = .ok (sameN n p.1) w := equal_net n p.1 w
    rw [mkG]
    unfold Instr.findAsking
    simp only [Sem.run_bind, he, Result.andThen_ok]
    rw [ixG_cons, valG_cons, ← sameN_turn n p.1]
    cases hs : sameN n p.1
    · simp only [Bool.false_eq_true, if_false, ih, List.length_cons]
      by_cases hl : ixG E n < E.length
      · rw [if_pos hl, if_pos (by omega)]
        congr 3; omega
      · rw [if_neg hl, if_neg (by omega)]
    · simp only [if_true, List.length_cons]
      rw [if_pos (Nat.succ_pos _)]; rfl
theorem findKey_run (n : Net) (w : World) (E : Gs) :
    (Instr.findKey 38 (netV n) (mkG 0 E)).run Try.prog w = .ok (if ixG E n < E.length then some (ixG E n, .int .i64 (valG E n : Int)) else none) w := by
  have ha := asking_run n w E 0 0
  rw [Nat.zero_add] at ha
  unfold Instr.findKey
  simp only [Sem.run_bind, run_underlying Try.underlying38, Result.andThen_ok]
  cases E with
  | nil => rw [if_neg (show ¬ ixG [] n < ([] : Gs).length from Nat.not_lt_zero _)]; rfl
  | cons p E => exact ha
theorem zero_int (w : World) : (zeroValue 3).run Try.prog w = .ok (.int .i64 0) w := by kernel_rfl
theorem lookup_run {b : Nat} {w : World} {E : Gs} (h : MapC b w E) (n : Net) :
    (Instr.lookup 42 (.map (some b)) (netV n) false).run Try.prog w = .ok (.int .i64 (valG E n : Int)) w := by
  have hf := findKey_run n w E
  have hc := check_run (mkG 0 E).toArray.isEmpty n w
  have hz := zero_int w
  unfold Instr.lookup
  simp only [Sem.run_bind, run_underlying Try.underlying42, Result.andThen_ok, MapKept.run_getObj_map h, Sem.run_pure, hc, hf]
  by_cases hi : ixG E n < E.length
  · rw [if_pos hi]; rfl
  · rw [if_neg hi]
    have e0 : valG E n = 0 := dif_neg hi
    rw [e0]
    simp [hz]
theorem same_bits (n : Net) : Instr.sameBits 10000 (netV n) (netV n) = true := by simp [Instr.sameBits]
theorem stays_run (n : Net) (w : World) : (Instr.keyThatStays (netV n) (netV n)).run Try.prog w = .ok (netV n) w := by
  unfold Instr.keyThatStays
  rw [same_bits, if_pos rfl]; rfl
theorem entry_run {b : Nat} {w : World} {E : Gs} (h : MapC b w E) (n : Net) :
    ∃ w', (Instr.mapEntry 42 (.map (some b)) (netV n)).run Try.prog w = .ok (.tuple #[.int .i64 (valG E n : Int), .int .i64 (ixG E n : Int)]) w' ∧ MapC b w' (openG E n) ∧ Bt b w w' := by
  have hf := findKey_run n w E
  have hc := check_run false n w
  have hz := zero_int w
  unfold Instr.mapEntry
  simp only [Sem.run_bind, run_underlying Try.underlying42, Result.andThen_ok, MapKept.run_getObj_map h, hc, hf]
  by_cases hi : ixG E n < E.length
  · have hk := mkG_at 0 E (ixG E n) hi
    rw [Nat.zero_add, ixG_at hi] at hk
    have hk2 : (mkG 0 E).toArray[ixG E n]? = some ⟨netV n, .int .i64 (E[ixG E n].2 : Int), ixG E n⟩ := by rw [List.getElem?_toArray]; exact hk
    have hm : (mkG 0 E).toArray.modify (ixG E n) (fun e => { e with key := netV n }) = (mkG 0 E).toArray := by
      apply Array.ext'
      rw [Array.toList_modify]
      exact mkG_key 0 E (ixG E n) hi n (ixG_at hi)
    rw [if_pos hi]
    refine ⟨setBlock w b (.map (mkG 0 E).toArray E.length), ?_, ?_, ⟨rfl, rfl, rfl, by simp [setBlock], fun k hk _ => heap_setBlock_other h _ hk⟩⟩
    · simp only [Sem.run_bind, hk2, Option.map_some, Option.getD_some, stays_run, Result.andThen_ok, hm, MapKept.run_setObj_map _ h, Sem.run_pure]
      rfl
    · show (setBlock w b _).heap[b]? = _
      unfold openG
      rw [if_pos hi]
      exact heap_setBlock_same h _
  · have hl : ixG E n = E.length := by have := ixG_le E n; omega
    have e0 : valG E n = 0 := dif_neg hi
    rw [if_neg hi]
    refine ⟨setBlock w b (.map ((mkG 0 E).toArray.push ⟨netV n, .int .i64 0, E.length⟩) (E.length + 1)), ?_, ?_, ⟨rfl, rfl, rfl, by simp [setBlock], fun k hk _ => heap_setBlock_other h _ hk⟩⟩
    · simp only [Sem.run_bind, hz, Result.andThen_ok, MapKept.run_setObj_map _ h, Sem.run_pure]
      rw [e0, hl]; rfl
    · show (setBlock w b _).heap[b]? = _
      unfold openG
      rw [if_neg hi, heap_setBlock_same h _]
      have e := mkG_one 0 E n 0
      rw [Nat.zero_add] at e
      rw [e]
      simp
theorem store_run {b : Nat} {w : World} {E : Gs} (h : MapC b w E) {n : Net} {i : Nat} (hi : i < E.length) (hn : E[i].1 = n) (c : Nat) :
    ∃ w', (Instr.entryStore 42 (.map (some b)) (.int .i64 (i : Int)) (.int .i64 (c : Int))).run Try.prog w = .ok () w' ∧ MapC b w' (E.set i (n, c)) ∧ Bt b w w' := by
  have hb := mkG_born 0 E i hi
  rw [Nat.zero_add] at hb
  have hidx : (mkG 0 E).toArray.findIdx? (fun e => (e.born : Int) == (i : Int)) = some i := by
    rw [show (mkG 0 E).toArray.findIdx? (fun e => (e.born : Int) == (i : Int)) = (mkG 0 E).findIdx? (fun e => (e.born : Int) == (i : Int)) by simp]
    exact hb
  have hm : (mkG 0 E).toArray.modify i (fun e => { e with val := .int .i64 (c : Int) }) = (mkG 0 (E.set i (n, c))).toArray := by
    apply Array.ext'
    rw [Array.toList_modify]
    exact mkG_set 0 E i hi n c hn
  refine ⟨setBlock w b (.map (mkG 0 (E.set i (n, c))).toArray E.length), ?_, ?_, ⟨rfl, rfl, rfl, by simp [setBlock], fun k hk _ => heap_setBlock_other h _ hk⟩⟩
  · simp [Instr.entryStore, MapKept.run_getObj_map h, asInt, asIntOf, hidx, hm, MapKept.run_setObj_map _ h, Result.andThen, setBlock]
  · show (setBlock w b _).heap[b]? = _
    rw [List.length_set]
    exact heap_setBlock_same h _
set_option maxHeartbeats 4000000 in
theorem groupOf_is (x : Pr) (w : World) (hx : x.ok) : Calls Try.prog 16 #[.agg #[.bool x.e.a.v6, .int .u64 x.e.a.hi, .int .u64 x.e.a.lo, .int .i64 x.e.n, .bool x.i, .int .i64 x.t, .int .i64 x.c.p, .int .i64 x.c.a, .int .i64 x.g, .int .i64 x.k]] w fun e w' => e = .returned (.agg #[.bool (gR x).a.v6, .int .u64 (gR x).a.hi, .int .u64 (gR x).a.lo, .int .i64 (gR x).n]) ∧ Below w.heap.size w w' := by
  have K := Lib.hid (fun W => groupOf_any x.e.a W hx.1.1)
  have L0 : Hid (Lows w ((w.alloc (.cells #[.bool x.e.a.v6, .int .u64 x.e.a.hi, .int .u64 x.e.a.lo, .int .i64 x.e.n, .bool x.i, .int .i64 x.t, .int .i64 x.c.p, .int .i64 x.c.a, .int .i64 x.g, .int .i64 x.k] 34)).alloc (.cells #[.bool false, .int .u64 0, .int .u64 0, .int .i64 0] 38))) := Lib.hid (Lows.alloc (Lows.alloc (Lows.self _) _) _)
  have O2 := Lib.hid (Blk.two w (.cells #[.bool x.e.a.v6, .int .u64 x.e.a.hi, .int .u64 x.e.a.lo, .int .i64 x.e.n, .bool x.i, .int .i64 x.t, .int .i64 x.c.p, .int .i64 x.c.a, .int .i64 x.g, .int .i64 x.k] 34) #[.bool false, .int .u64 0, .int .u64 0, .int .i64 0] 38)
  unfold gR
  generalize groupN x.e.a = n at *
  clear hx
  go_enter Try.func16, Try.ntmps16
  go_wp2_with fail
  refine (K.out _).mono ?_; rintro e w1 ⟨rfl, hb1⟩
  have hl := low_trans L0.out hb1
  have own := O2.out.on hb1
  have t0 := own.cell (j := 0) rfl
  have t1 := own.cell (j := 1) rfl
  have t2 := own.cell (j := 2) rfl
  have t3 := own.cell (j := 3) rfl
  have g0 := own.free 0
  have g1 := own.free 1
  have g2 := own.free 2
  have g3 := own.free 3
  clear K hb1 own O2
  go_wp2_with fail
  exact bodyPost_ret (v := .agg #[.bool n.a.v6, .int .u64 n.a.hi, .int .u64 n.a.lo, .int .i64 n.n]) (by simp [results, Try.results16, go_sem, t0, t1, t2, t3]) rfl ⟨rfl, (((Below.setCell hl (by simp) _).setCell (by simp) _).setCell (by simp) _).setCell (by simp) _⟩
set_option maxHeartbeats 8000000 in
theorem younger_any (x y : Pr) (w : World) (hx : x.ok) (hy : y.ok) : Calls Try.prog 8 #[.agg #[.bool x.e.a.v6, .int .u64 x.e.a.hi, .int .u64 x.e.a.lo, .int .i64 x.e.n, .bool x.i, .int .i64 x.t, .int .i64 x.c.p, .int .i64 x.c.a, .int .i64 x.g, .int .i64 x.k], .agg #[.bool y.e.a.v6, .int .u64 y.e.a.hi, .int .u64 y.e.a.lo, .int .i64 y.e.n, .bool y.i, .int .i64 y.t, .int .i64 y.c.p, .int .i64 y.c.a, .int .i64 y.g, .int .i64 y.k]] w fun e w' => e = .returned (.bool (youngR x y)) ∧ Below w.heap.size w w' := by
  have C1 : Hid (∀ W, Calls Try.prog 18 #[.int .i64 x.t, .int .i64 y.t] W fun e w' => e = .returned (.int .i64 (cmpI x.t y.t)) ∧ Below W.heap.size W w') := Lib.hid fun W => by
    have h := Try.cmp_Compare_int x.t y.t W
    rw [compareInt_is] at h
    exact h.mono fun e w' ⟨he, hw⟩ => ⟨he, by rw [hw]; exact Below.refl _ _⟩
  have C2 := Lib.hid (fun W => compareE_any x.e y.e W hx.1 hy.1)
  have E : youngR x y = decide (0 < cmpY x y) := rfl
  have C3 : Hid (∀ W : World, Calls Try.prog 17 #[.slice (some ⟨W.heap.size, 0, none⟩) 2 2] (W.alloc (.cells #[.int .i64 (cmpI x.t y.t), .int .i64 (cmpE x.e y.e)] 3)) fun e w' => e = .returned (.int .i64 (cmpY x y)) ∧ Lows W w') := Lib.hid fun W => by
    have hc := or_any (cmpI x.t y.t) (cmpE x.e y.e) (cmpY x y) (cmpY_or x y) W.heap.size (W.alloc (.cells #[.int .i64 (cmpI x.t y.t), .int .i64 (cmpE x.e y.e)] 3)) (by rw [cell_of_row _ _ _ _ _ _ (heap_alloc_new W _)]; rfl) (by rw [cell_of_row _ _ _ _ _ _ (heap_alloc_new W _)]; rfl)
    exact hc.mono fun e w' ⟨he, hw⟩ => ⟨he, by rw [hw]; exact Lows.alloc (Lows.self W) _⟩
  have O1 := Lib.hid ((Blk.new w #[.bool x.e.a.v6, .int .u64 x.e.a.hi, .int .u64 x.e.a.lo, .int .i64 x.e.n, .bool x.i, .int .i64 x.t, .int .i64 x.c.p, .int .i64 x.c.a, .int .i64 x.g, .int .i64 x.k] 34).alloc (.cells #[.bool y.e.a.v6, .int .u64 y.e.a.hi, .int .u64 y.e.a.lo, .int .i64 y.e.n, .bool y.i, .int .i64 y.t, .int .i64 y.c.p, .int .i64 y.c.a, .int .i64 y.g, .int .i64 y.k] 34))
  have O2 := Lib.hid (Blk.two w (.cells #[.bool x.e.a.v6, .int .u64 x.e.a.hi, .int .u64 x.e.a.lo, .int .i64 x.e.n, .bool x.i, .int .i64 x.t, .int .i64 x.c.p, .int .i64 x.c.a, .int .i64 x.g, .int .i64 x.k] 34) #[.bool y.e.a.v6, .int .u64 y.e.a.hi, .int .u64 y.e.a.lo, .int .i64 y.e.n, .bool y.i, .int .i64 y.t, .int .i64 y.c.p, .int .i64 y.c.a, .int .i64 y.g, .int .i64 y.k] 34)
  have L0 : Hid (Lows w ((w.alloc (.cells #[.bool x.e.a.v6, .int .u64 x.e.a.hi, .int .u64 x.e.a.lo, .int .i64 x.e.n, .bool x.i, .int .i64 x.t, .int .i64 x.c.p, .int .i64 x.c.a, .int .i64 x.g, .int .i64 x.k] 34)).alloc (.cells #[.bool y.e.a.v6, .int .u64 y.e.a.hi, .int .u64 y.e.a.lo, .int .i64 y.e.n, .bool y.i, .int .i64 y.t, .int .i64 y.c.p, .int .i64 y.c.a, .int .i64 y.g, .int .i64 y.k] 34))) := Lib.hid (Lows.alloc (Lows.alloc (Lows.self _) _) _)
  rw [E]
  clear E hx hy
  generalize cmpY x y = r at *
  generalize cmpI x.t y.t = r1 at *
  generalize cmpE x.e y.e = r2 at *
  go_enter Try.func8, Try.ntmps8
  go_wp2_with fail
  generalize ((w.alloc (.cells #[.bool x.e.a.v6, .int .u64 x.e.a.hi, .int .u64 x.e.a.lo, .int .i64 x.e.n, .bool x.i, .int .i64 x.t, .int .i64 x.c.p, .int .i64 x.c.a, .int .i64 x.g, .int .i64 x.k] 34)).alloc (.cells #[.bool y.e.a.v6, .int .u64 y.e.a.hi, .int .u64 y.e.a.lo, .int .i64 y.e.n, .bool y.i, .int .i64 y.t, .int .i64 y.c.p, .int .i64 y.c.a, .int .i64 y.g, .int .i64 y.k] 34)) = w2 at O1 O2 L0 ⊢
  have hne : Nonempty (Cls (Lows w2)) := ⟨⟨_, Lows.self _⟩⟩
  have f0 : ∀ nq : Cls (Lows w2), nq.w.cell? ⟨w.heap.size, 0, none⟩ = some (.bool x.e.a.v6) := fun nq => Blk.in O1 nq.h rfl
  have f1 : ∀ nq : Cls (Lows w2), nq.w.cell? ⟨w.heap.size, 1, none⟩ = some (.int .u64 x.e.a.hi) := fun nq => Blk.in O1 nq.h rfl
  have f2 : ∀ nq : Cls (Lows w2), nq.w.cell? ⟨w.heap.size, 2, none⟩ = some (.int .u64 x.e.a.lo) := fun nq => Blk.in O1 nq.h rfl
  have f3 : ∀ nq : Cls (Lows w2), nq.w.cell? ⟨w.heap.size, 3, none⟩ = some (.int .i64 x.e.n) := fun nq => Blk.in O1 nq.h rfl
  have f5 : ∀ nq : Cls (Lows w2), nq.w.cell? ⟨w.heap.size, 5, none⟩ = some (.int .i64 x.t) := fun nq => Blk.in O1 nq.h rfl
  have g0 : ∀ nq : Cls (Lows w2), nq.w.cell? ⟨w.heap.size + 1, 0, none⟩ = some (.bool y.e.a.v6) := fun nq => Blk.in O2 nq.h rfl
  have g1 : ∀ nq : Cls (Lows w2), nq.w.cell? ⟨w.heap.size + 1, 1, none⟩ = some (.int .u64 y.e.a.hi) := fun nq => Blk.in O2 nq.h rfl
  have g2 : ∀ nq : Cls (Lows w2), nq.w.cell? ⟨w.heap.size + 1, 2, none⟩ = some (.int .u64 y.e.a.lo) := fun nq => Blk.in O2 nq.h rfl
  have g3 : ∀ nq : Cls (Lows w2), nq.w.cell? ⟨w.heap.size + 1, 3, none⟩ = some (.int .i64 y.e.n) := fun nq => Blk.in O2 nq.h rfl
  have g5 : ∀ nq : Cls (Lows w2), nq.w.cell? ⟨w.heap.size + 1, 5, none⟩ = some (.int .i64 y.t) := fun nq => Blk.in O2 nq.h rfl
  refine Cls.tail (Lows w2) 10 (by kernel_rfl) (by kernel_rfl) (low_drewN (Below.refl _ _) 1) ?_
  simp only [List.take_succ_cons, List.take_zero, List.drop_succ_cons, List.drop_zero]
  repeat (go_big_quiet_step (first | fail | (with_reducible exact Cls.call ((lows_call C1).out _ (Cls.h _))) | (with_reducible exact Cls.call ((lows_call C2).out _ (Cls.h _)))))
  refine wpQuiet_nil ?_
  intro n9
  have hk9 := n9.h
  generalize n9.w = w9 at hk9 ⊢
  clear hne n9 f0 f1 f2 f3 f5 g0 g1 g2 g3 g5 C1 C2
  go_wp2_with fail
  refine (C3.out _).mono ?_; rintro e w10 ⟨rfl, hb10⟩
  have L9 := Lib.hid (low_trans L0.out (low_trans hk9 hb10))
  go_wp2_with fail
  go_ret
  exact ⟨rfl, L9.out⟩
set_option maxHeartbeats 8000000 in
theorem crowds_any (v : Value) (l : List Pr) (w : World) (h : Peers w v l) (hok : ∀ x ∈ l, x.ok) (hl : l.length ≤ 1000000) :
    Calls Try.prog 15 #[v] w fun e w' => e = .returned (.map (some w.heap.size)) ∧ ∃ E : Gs, MapC w.heap.size w' E ∧ Hid (∀ n, valG E n = cntR l n) ∧ Below w.heap.size w w' := by
  have hmm := @run_makeMap Try.prog
  obtain ⟨A, c, rfl, hc, _, hcell⟩ := h
  have HC := Lib.hid hcell
  have HOK := Lib.hid hok
  clear hcell hok
  go_enter Try.func15, Try.ntmps15
  go_wp2_with fail
  go_loopw [9] (fun vi wr => ∃ (i : Nat) (E : Gs), vi = .int .i64 i ∧ i ≤ l.length ∧ Hid (MapC w.heap.size wr E) ∧ Hid (∀ n, valG E n = cntR (l.take i) n) ∧ Hid (Below w.heap.size w wr)) (fun vi _ => l.length - (intOf vi).toNat)
  case atStart => exact ⟨0, [], rfl, Nat.zero_le _, Lib.hid (MapC.new w), Lib.hid (fun n => rfl), Lib.hid (Lows.alloc (Lows.self _) _)⟩
  case round =>
    obtain ⟨i, E, rfl, hi, HM, HV, HL⟩ := hrel
    by_cases hli : i < l.length
    · have hliz : (i : Int) < (l.length : Int) := by omega
      obtain ⟨bb, o, rfl, hb, hcc⟩ := HC.out (by omega)
      obtain ⟨x, hx⟩ : ∃ x, x = l[i]! := ⟨_, rfl⟩
      have hxo : x.ok := by rw [hx, getElem!_pos l i hli]; exact HOK.out _ (List.getElem_mem _)
      have c0 : wr.cell? ⟨bb, o + i * 10, none⟩ = some (.bool x.e.a.v6) := peer_at HL.out hb hcc hli (j := 0) (by rw [← hx]; rfl)
      have c1 : wr.cell? ⟨bb, o + i * 10 + 1, none⟩ = some (.int .u64 x.e.a.hi) := peer_at HL.out hb hcc hli (j := 1) (by rw [← hx]; rfl)
      have c2 : wr.cell? ⟨bb, o + i * 10 + 2, none⟩ = some (.int .u64 x.e.a.lo) := peer_at HL.out hb hcc hli (j := 2) (by rw [← hx]; rfl)
      have c3 : wr.cell? ⟨bb, o + i * 10 + 3, none⟩ = some (.int .i64 x.e.n) := peer_at HL.out hb hcc hli (j := 3) (by rw [← hx]; rfl)
      have c4 : wr.cell? ⟨bb, o + i * 10 + 4, none⟩ = some (.bool x.i) := peer_at HL.out hb hcc hli (j := 4) (by rw [← hx]; rfl)
      have c5 : wr.cell? ⟨bb, o + i * 10 + 5, none⟩ = some (.int .i64 x.t) := peer_at HL.out hb hcc hli (j := 5) (by rw [← hx]; rfl)
      have c6 : wr.cell? ⟨bb, o + i * 10 + 6, none⟩ = some (.int .i64 x.c.p) := peer_at HL.out hb hcc hli (j := 6) (by rw [← hx]; rfl)
      have c7 : wr.cell? ⟨bb, o + i * 10 + 7, none⟩ = some (.int .i64 x.c.a) := peer_at HL.out hb hcc hli (j := 7) (by rw [← hx]; rfl)
      have c8 : wr.cell? ⟨bb, o + i * 10 + 8, none⟩ = some (.int .i64 x.g) := peer_at HL.out hb hcc hli (j := 8) (by rw [← hx]; rfl)
      have c9 : wr.cell? ⟨bb, o + i * 10 + 9, none⟩ = some (.int .i64 x.k) := peer_at HL.out hb hcc hli (j := 9) (by rw [← hx]; rfl)
      have KG := Lib.hid (fun W => groupOf_is x W hxo)
      have HV2 : Hid (∀ n, valG (putG E (gR x) (valG E (gR x) + 1)) n = cntR (l.take (i + 1)) n) := Lib.hid (by rw [hx]; exact valG_next HV.out hli)
      have hq1 : valG E (gR x) ≤ 1000000 := by
        rw [HV.out]
        have := cnt_le (l.take i) (gR x)
        rw [List.length_take] at this
        omega
      have HI : Hid (ixG E (gR x) < (openG E (gR x)).length) := Lib.hid (ixG_open E (gR x))
      have HK : Hid (∀ h : ixG E (gR x) < (openG E (gR x)).length, (openG E (gR x))[ixG E (gR x)].1 = gR x) := Lib.hid (fun h => by
        have e := ixG_same E (gR x)
        have k := ixG_at (E := openG E (gR x)) (n := gR x) (by rw [e]; exact h)
        simpa only [e] using k)
      have HE : Hid (valG (openG E (gR x)) (gR x) = valG E (gR x)) := Lib.hid (valG_open E (gR x) (gR x))
      have HP : Hid (putG E (gR x) (valG E (gR x) + 1) = (openG E (gR x)).set (ixG E (gR x)) (gR x, valG E (gR x) + 1)) := Lib.hid rfl
      clear hcc hb hx hxo
      generalize gR x = n at *
      have KM : Hid (∀ X, Lows wr X → Calls Try.prog 16 #[.agg #[.bool x.e.a.v6, .int .u64 x.e.a.hi, .int .u64 x.e.a.lo, .int .i64 x.e.n, .bool x.i, .int .i64 x.t, .int .i64 x.c.p, .int .i64 x.c.a, .int .i64 x.g, .int .i64 x.k]] X fun e w9 => e = .returned (.agg #[.bool n.a.v6, .int .u64 n.a.hi, .int .u64 n.a.lo, .int .i64 n.n]) ∧ ∃ w10 w11, (Instr.lookup 42 (.map (some w.heap.size)) (.agg #[.bool n.a.v6, .int .u64 n.a.hi, .int .u64 n.a.lo, .int .i64 n.n]) false).run Try.prog w9 = .ok (.int .i64 (valG E n : Int)) w9 ∧
          (Instr.mapEntry 42 (.map (some w.heap.size)) (.agg #[.bool n.a.v6, .int .u64 n.a.hi, .int .u64 n.a.lo, .int .i64 n.n])).run Try.prog w9 = .ok (.tuple #[.int .i64 (valG E n : Int), .int .i64 (ixG E n : Int)]) w10 ∧
          (Instr.lookup 42 (.map (some w.heap.size)) (.agg #[.bool n.a.v6, .int .u64 n.a.hi, .int .u64 n.a.lo, .int .i64 n.n]) false).run Try.prog w10 = .ok (.int .i64 (valG E n : Int)) w10 ∧
          (Instr.entryStore 42 (.map (some w.heap.size)) (.int .i64 (ixG E n : Int)) (.int .i64 ((valG E n : Int) + 1))).run Try.prog w10 = .ok () w11 ∧ Hid (MapC w.heap.size w11 (putG E n (valG E n + 1))) ∧ Hid (Below w.heap.size w w11)) := Lib.hid fun X hX => (KG.out X).mono fun e w9 ⟨he, hb9⟩ => by
        have hb8 := low_trans hX hb9
        have hM9 := HM.out.on hb8
        have hlk := lookup_run hM9 n
        obtain ⟨w10, hen, hM10, hbt10⟩ := entry_run hM9 n
        have hlk2 := lookup_run hM10 n
        rw [HE.out] at hlk2
        obtain ⟨w11, hst, hM11, hbt11⟩ := store_run hM10 HI.out (HK.out HI.out) (valG E n + 1)
        rw [← HP.out] at hM11
        refine ⟨he, w10, w11, hlk, hen, hlk2, hst, Lib.hid hM11, Lib.hid ?_⟩
        have s9 := (low_trans'' HL.out hb8).size
        have s10 := hbt10.size
        exact (low_trans'' HL.out hb8).trans ((hbt10.low (Nat.le_refl _) s9).trans (hbt11.low (Nat.le_refl _) (Nat.le_trans s9 s10)))
      clear KG HE HP HI HK
      generalize valG E n = q at *
      generalize ixG E n = ix at *
      have hqw : IntKind.i64.wrap ((q : Int) + 1) = (q : Int) + 1 := by rw [IntKind.wrap_i64]; omega
      go_wp2_with fail
      (go_region_with (first
        | (go_at_call 16; (with_reducible refine (KM.out _ ?_).mono ?_); (exact low_drewN (Lows.alloc (Lows.self _) _) 1); rintro e w9 ⟨rfl, w10, w11, hlk, hen, hlk2, hst, HM12, HL12⟩)))
      all_goals clear KM
      all_goals
        go_wp2_with fail
        go_roundw
        case rel => exact ⟨i + 1, _, by go_num, by omega, HM12, HV2, HL12⟩
        case measure => simp [intOf]; omega
    · have hliz : ¬ (i : Int) < (l.length : Int) := by omega
      have HF : Hid (∀ n, valG E n = cntR l n) := Lib.hid (fun n => by rw [HV.out n, show i = l.length by omega, cnt_done])
      go_wp2_with fail
      exact bodyPost_ret (v := .map (some w.heap.size)) (by simp [results, Try.results15, go_sem]) rfl ⟨rfl, E, HM.out, HF, HL.out⟩
abbrev SP (w : World) (b o : Nat) (x : Pr) (w' : World) : Prop := w'.cell? ⟨b, o, none⟩ = some (.bool x.e.a.v6) ∧ w'.cell? ⟨b, o + 1, none⟩ = some (.int .u64 x.e.a.hi) ∧ w'.cell? ⟨b, o + 2, none⟩ = some (.int .u64 x.e.a.lo) ∧ w'.cell? ⟨b, o + 3, none⟩ = some (.int .i64 x.e.n) ∧ w'.cell? ⟨b, o + 4, none⟩ = some (.bool x.i) ∧ w'.cell? ⟨b, o + 5, none⟩ = some (.int .i64 x.t) ∧ w'.cell? ⟨b, o + 6, none⟩ = some (.int .i64 x.c.p) ∧ w'.cell? ⟨b, o + 7, none⟩ = some (.int .i64 x.c.a) ∧ w'.cell? ⟨b, o + 8, none⟩ = some (.int .i64 x.g) ∧ w'.cell? ⟨b, o + 9, none⟩ = some (.int .i64 x.k) ∧ Below w.heap.size w w'
theorem SP.on {w : World} {b o : Nat} {x : Pr} {w1 w2 : World} (h : SP w b o x w1) (hb : b < w.heap.size) (k : Lows w1 w2) : SP w b o x w2 := by
  obtain ⟨h0, h1, h2, h3, h4, h5, h6, h7, h8, h9, hl⟩ := h
  have hb1 : b < w1.heap.size := Nat.lt_of_lt_of_le hb hl.size
  exact ⟨(k.cell (p := ⟨b, o, none⟩) hb1).trans h0, (k.cell (p := ⟨b, o + 1, none⟩) hb1).trans h1, (k.cell (p := ⟨b, o + 2, none⟩) hb1).trans h2, (k.cell (p := ⟨b, o + 3, none⟩) hb1).trans h3, (k.cell (p := ⟨b, o + 4, none⟩) hb1).trans h4, (k.cell (p := ⟨b, o + 5, none⟩) hb1).trans h5, (k.cell (p := ⟨b, o + 6, none⟩) hb1).trans h6, (k.cell (p := ⟨b, o + 7, none⟩) hb1).trans h7, (k.cell (p := ⟨b, o + 8, none⟩) hb1).trans h8, (k.cell (p := ⟨b, o + 9, none⟩) hb1).trans h9, low_trans'' hl k⟩
set_option maxHeartbeats 8000000 in
theorem crowd_any (v : Value) (l : List Pr) (i : Int) (w : World) (h : Peers w v l) (hok : ∀ x ∈ l, x.ok) (hl : l.length ≤ 1000000) :
    Calls Try.prog 6 #[v, .int .i64 i] w fun e w' => e = .returned (.int .i64 (crowdR l i)) ∧ Below w.heap.size w w' := by
  by_cases h0 : i < 0
  · rw [crowd_off (Or.inl h0)]
    obtain ⟨A, c, rfl, hc, _, _⟩ := h
    go_enter Try.func6, Try.ntmps6
    go_wp2_with fail
    go_ret
    exact ⟨rfl, Below.refl _ _⟩
  · by_cases h1 : (l.length : Int) ≤ i
    · rw [crowd_off (Or.inr h1)]
      obtain ⟨A, c, rfl, hc, _, _⟩ := h
      go_enter Try.func6, Try.ntmps6
      go_wp2_with fail
      go_ret
      exact ⟨rfl, Below.refl _ _⟩
    · obtain ⟨k, rfl⟩ : ∃ k : Nat, i = (k : Int) := ⟨i.toNat, by omega⟩
      have hk : k < l.length := by omega
      have hkz : (k : Int) < (l.length : Int) := by omega
      rw [crowd_at hk]
      have KC0 := Lib.hid (fun (W : World) (hW : Peers W v l) => crowds_any v l W hW hok hl)
      have PW := Lib.hid h
      obtain ⟨A, c, rfl, hc, _, hcell⟩ := h
      obtain ⟨bb, o, rfl, hb, hcc⟩ := hcell (by omega)
      obtain ⟨x, hx⟩ : ∃ x, x = l[k]! := ⟨_, rfl⟩
      have hxo : x.ok := by rw [hx, getElem!_pos l k hk]; exact hok _ (List.getElem_mem _)
      have hk0 : SP w bb (o + k * 10) x w := ⟨peer_at (Below.refl _ _) hb hcc hk (j := 0) (by rw [← hx]; rfl), peer_at (Below.refl _ _) hb hcc hk (j := 1) (by rw [← hx]; rfl), peer_at (Below.refl _ _) hb hcc hk (j := 2) (by rw [← hx]; rfl), peer_at (Below.refl _ _) hb hcc hk (j := 3) (by rw [← hx]; rfl), peer_at (Below.refl _ _) hb hcc hk (j := 4) (by rw [← hx]; rfl), peer_at (Below.refl _ _) hb hcc hk (j := 5) (by rw [← hx]; rfl), peer_at (Below.refl _ _) hb hcc hk (j := 6) (by rw [← hx]; rfl), peer_at (Below.refl _ _) hb hcc hk (j := 7) (by rw [← hx]; rfl), peer_at (Below.refl _ _) hb hcc hk (j := 8) (by rw [← hx]; rfl), peer_at (Below.refl _ _) hb hcc hk (j := 9) (by rw [← hx]; rfl), Below.refl _ _⟩
      rw [← hx]
      have JD : Hid (∀ W, SP w bb (o + k * 10) x W → SP w bb (o + k * 10) x W.drew) := Lib.hid fun W h => h.on hb (low_drewN (Lows.self W) 1)
      have KC : Hid (∀ W, SP w bb (o + k * 10) x W → Calls Try.prog 15 #[.slice (some ⟨bb, o, none⟩) l.length c] W fun e w' => ∃ (b : Nat) (E : Gs), e = .returned (.map (some b)) ∧ MapC b w' E ∧ Hid (∀ n, valG E n = cntR l n) ∧ Below W.heap.size W w' ∧ SP w bb (o + k * 10) x w') := Lib.hid fun W h => (KC0.out W (PW.out.below h.2.2.2.2.2.2.2.2.2.2)).mono fun e w' ⟨he, E, h1, h2, h3⟩ => ⟨_, E, he, h1, h2, h3, h.on hb h3⟩
      have KG : Hid (∀ W, SP w bb (o + k * 10) x W → Calls Try.prog 16 #[.agg #[.bool x.e.a.v6, .int .u64 x.e.a.hi, .int .u64 x.e.a.lo, .int .i64 x.e.n, .bool x.i, .int .i64 x.t, .int .i64 x.c.p, .int .i64 x.c.a, .int .i64 x.g, .int .i64 x.k]] W fun e w' => e = .returned (.agg #[.bool (gR x).a.v6, .int .u64 (gR x).a.hi, .int .u64 (gR x).a.lo, .int .i64 (gR x).n]) ∧ Below W.heap.size W w' ∧ SP w bb (o + k * 10) x w') := Lib.hid fun W h => (groupOf_is x W hxo).mono fun e w' ⟨he, h3⟩ => ⟨he, h3, h.on hb h3⟩
      obtain ⟨k0, k1, k2, k3, k4, k5, k6, k7, k8, k9, hsk⟩ := id hk0
      generalize gR x = n at *
      clear KC0 PW hcell hcc hxo hx hok
      go_enter Try.func6, Try.ntmps6
      go_wp2_with fail
      go_region_held3 (fun w' => w'.cell? ⟨bb, o + k * 10, none⟩ = some (.bool x.e.a.v6) ∧ w'.cell? ⟨bb, o + k * 10 + 1, none⟩ = some (.int .u64 x.e.a.hi) ∧ w'.cell? ⟨bb, o + k * 10 + 2, none⟩ = some (.int .u64 x.e.a.lo) ∧ w'.cell? ⟨bb, o + k * 10 + 3, none⟩ = some (.int .i64 x.e.n) ∧ w'.cell? ⟨bb, o + k * 10 + 4, none⟩ = some (.bool x.i) ∧ w'.cell? ⟨bb, o + k * 10 + 5, none⟩ = some (.int .i64 x.t) ∧ w'.cell? ⟨bb, o + k * 10 + 6, none⟩ = some (.int .i64 x.c.p) ∧ w'.cell? ⟨bb, o + k * 10 + 7, none⟩ = some (.int .i64 x.c.a) ∧ w'.cell? ⟨bb, o + k * 10 + 8, none⟩ = some (.int .i64 x.g) ∧ w'.cell? ⟨bb, o + k * 10 + 9, none⟩ = some (.int .i64 x.k) ∧ Below w.heap.size w w')
        (first | (with_reducible assumption) | (with_reducible exact JD.out _ (by with_reducible assumption)))
        (first
          | (go_at_call 15; (with_reducible refine (KC.out _ (by with_reducible assumption)).mono ?_); rintro e w9 ⟨b, E, rfl, hM, HV, hb9, hkw⟩; (have hlk := lookup_run hM n); (rw [HV.out] at hlk))
          | (go_at_call 16; (with_reducible refine (KG.out _ (by with_reducible assumption)).mono ?_); rintro e w9 ⟨rfl, hb9, hkw⟩; (try (have hlk2 := lookup_run (hM.on hb9) n; rw [HV.out] at hlk2))))
      all_goals
        have hkf := ‹SP w bb (o + k * 10) x _›
        go_wp2_with fail
        go_ret
        exact ⟨rfl, hkf.2.2.2.2.2.2.2.2.2.2⟩
set_option maxHeartbeats 16000000 in
theorem pick_any (v : Value) (l : List Pr) (w : World) (h : Peers w v l) (hok : ∀ x ∈ l, x.ok) (hl : l.length ≤ 1000000) :
    Calls Try.prog 10 #[v] w fun e w' => e = .returned (.int .i64 (pickR l)) ∧ Below w.heap.size w w' := by
  have KC := Lib.hid (crowds_any v l w h hok hl)
  have HOK := Lib.hid hok
  obtain ⟨A, c, rfl, hc, _, hcell⟩ := h
  have HC := Lib.hid hcell
  clear hcell hok
  go_enter Try.func10, Try.ntmps10
  go_wp2_with fail
  refine KC.out.mono ?_; rintro e w1 ⟨rfl, E, hM, HV, hb1⟩
  have HM := Lib.hid hM
  have L1 := Lib.hid hb1
  clear hM hb1 KC
  go_wp2_with fail
  go_loopw [4, 5, 13] (fun vp vm vi wr => ∃ i : Nat, vi = .int .i64 i ∧ vp = .int .i64 (pickI l i) ∧ vm = .int .i64 (mostI l i : Int) ∧ i ≤ l.length ∧ Hid (Lows w1 wr)) (fun _ _ vi _ => l.length - (intOf vi).toNat)
  case atStart => exact ⟨0, rfl, rfl, rfl, Nat.zero_le _, Lib.hid (Lows.self _)⟩
  case round =>
    obtain ⟨i, rfl, rfl, rfl, hi, HL⟩ := hrel
    by_cases hli : i < l.length
    · have hliz : (i : Int) < (l.length : Int) := by omega
      obtain ⟨bb, o, rfl, hb, hcc⟩ := HC.out (by omega)
      have HLW : Hid (Below w.heap.size w wr) := Lib.hid (low_trans'' L1.out HL.out)
      have HXI : Hid (∀ p, p < l.length → (l[p]!).ok) := Lib.hid fun p hp => by rw [getElem!_pos l p hp]; exact HOK.out _ (List.getElem_mem _)
      have HR1 := Lib.hid (fun h => round_more (l := l) (i := i) hli h)
      have HR2 := Lib.hid (fun h => round_same (l := l) (i := i) hli h)
      obtain ⟨x, hx⟩ : ∃ x, x = l[i]! := ⟨_, rfl⟩
      have hxo : x.ok := by rw [hx]; exact HXI.out i hli
      have c0 : wr.cell? ⟨bb, o + i * 10, none⟩ = some (.bool x.e.a.v6) := peer_at HLW.out hb hcc hli (j := 0) (by rw [← hx]; rfl)
      have c1 : wr.cell? ⟨bb, o + i * 10 + 1, none⟩ = some (.int .u64 x.e.a.hi) := peer_at HLW.out hb hcc hli (j := 1) (by rw [← hx]; rfl)
      have c2 : wr.cell? ⟨bb, o + i * 10 + 2, none⟩ = some (.int .u64 x.e.a.lo) := peer_at HLW.out hb hcc hli (j := 2) (by rw [← hx]; rfl)
      have c3 : wr.cell? ⟨bb, o + i * 10 + 3, none⟩ = some (.int .i64 x.e.n) := peer_at HLW.out hb hcc hli (j := 3) (by rw [← hx]; rfl)
      have c4 : wr.cell? ⟨bb, o + i * 10 + 4, none⟩ = some (.bool x.i) := peer_at HLW.out hb hcc hli (j := 4) (by rw [← hx]; rfl)
      have c5 : wr.cell? ⟨bb, o + i * 10 + 5, none⟩ = some (.int .i64 x.t) := peer_at HLW.out hb hcc hli (j := 5) (by rw [← hx]; rfl)
      have c6 : wr.cell? ⟨bb, o + i * 10 + 6, none⟩ = some (.int .i64 x.c.p) := peer_at HLW.out hb hcc hli (j := 6) (by rw [← hx]; rfl)
      have c7 : wr.cell? ⟨bb, o + i * 10 + 7, none⟩ = some (.int .i64 x.c.a) := peer_at HLW.out hb hcc hli (j := 7) (by rw [← hx]; rfl)
      have c8 : wr.cell? ⟨bb, o + i * 10 + 8, none⟩ = some (.int .i64 x.g) := peer_at HLW.out hb hcc hli (j := 8) (by rw [← hx]; rfl)
      have c9 : wr.cell? ⟨bb, o + i * 10 + 9, none⟩ = some (.int .i64 x.k) := peer_at HLW.out hb hcc hli (j := 9) (by rw [← hx]; rfl)
      rw [← hx] at HR1 HR2
      have KG := Lib.hid (fun W => groupOf_is x W hxo)
      have HXO := Lib.hid hxo
      have HLK : Hid (∀ W, Lows w1 W → (Instr.lookup 42 (.map (some w.heap.size)) (netV (gR x)) false).run Try.prog W = .ok (.int .i64 (cntR l (gR x) : Int)) W) := Lib.hid fun W hW => by
        have h := lookup_run (HM.out.on hW) (gR x)
        rwa [HV.out] at h
      have HQ : Hid (cntR l (gR x) ≤ 1000000) := Lib.hid (Nat.le_trans (cnt_le _ _) hl)
      clear hx hxo
      generalize cntR l (gR x) = q at *
      generalize gR x = n at *
      generalize mostI l i = m at *
      generalize pickI l i = p1 at *
      go_wp2_with fail
      refine (KG.out _).mono ?_; rintro e w9 ⟨rfl, hb9⟩
      have hb8 := low_trans (Lows.alloc (Lows.self wr) (.cells #[.bool x.e.a.v6, .int .u64 x.e.a.hi, .int .u64 x.e.a.lo, .int .i64 x.e.n, .bool x.i, .int .i64 x.t, .int .i64 x.c.p, .int .i64 x.c.a, .int .i64 x.g, .int .i64 x.k] 34)) hb9
      have L9 : Hid (Lows w1 w9) := Lib.hid (low_trans HL.out hb8)
      have hlk := HLK.out w9 L9.out
      have OB := Lib.hid (Blk.on (Blk.new wr #[.bool x.e.a.v6, .int .u64 x.e.a.hi, .int .u64 x.e.a.lo, .int .i64 x.e.n, .bool x.i, .int .i64 x.t, .int .i64 x.c.p, .int .i64 x.c.a, .int .i64 x.g, .int .i64 x.k] 34) hb9)
      have HLW : Hid (Below w.heap.size w w9) := Lib.hid (low_trans'' HLW.out hb8)
      clear hb9 hb8 HLK KG HM c0 c1 c2 c3 c4 c5 c6 c7 c8 c9
      by_cases hm : m < q
      · have hmz : (m : Int) < (q : Int) := by omega
        have hmz2 : decide ((m : Int) < (q : Int)) = true := decide_eq_true hmz
        obtain ⟨e1, e2⟩ := HR1.out hm
        have E1 := Lib.hid e1
        have E2 := Lib.hid e2
        clear e1 e2
        clear hcc hb HR1 HR2
        have hne : Nonempty (Cls (Lows w9)) := ⟨⟨_, Lows.self _⟩⟩
        have f0 : ∀ nq : Cls (Lows w9), nq.w.cell? ⟨wr.heap.size, 0, none⟩ = some (.bool x.e.a.v6) := fun nq => Blk.in OB nq.h rfl
        have f1 : ∀ nq : Cls (Lows w9), nq.w.cell? ⟨wr.heap.size, 1, none⟩ = some (.int .u64 x.e.a.hi) := fun nq => Blk.in OB nq.h rfl
        have f2 : ∀ nq : Cls (Lows w9), nq.w.cell? ⟨wr.heap.size, 2, none⟩ = some (.int .u64 x.e.a.lo) := fun nq => Blk.in OB nq.h rfl
        have f3 : ∀ nq : Cls (Lows w9), nq.w.cell? ⟨wr.heap.size, 3, none⟩ = some (.int .i64 x.e.n) := fun nq => Blk.in OB nq.h rfl
        have f4 : ∀ nq : Cls (Lows w9), nq.w.cell? ⟨wr.heap.size, 4, none⟩ = some (.bool x.i) := fun nq => Blk.in OB nq.h rfl
        have f5 : ∀ nq : Cls (Lows w9), nq.w.cell? ⟨wr.heap.size, 5, none⟩ = some (.int .i64 x.t) := fun nq => Blk.in OB nq.h rfl
        have f6 : ∀ nq : Cls (Lows w9), nq.w.cell? ⟨wr.heap.size, 6, none⟩ = some (.int .i64 x.c.p) := fun nq => Blk.in OB nq.h rfl
        have f7 : ∀ nq : Cls (Lows w9), nq.w.cell? ⟨wr.heap.size, 7, none⟩ = some (.int .i64 x.c.a) := fun nq => Blk.in OB nq.h rfl
        have f8 : ∀ nq : Cls (Lows w9), nq.w.cell? ⟨wr.heap.size, 8, none⟩ = some (.int .i64 x.g) := fun nq => Blk.in OB nq.h rfl
        have f9 : ∀ nq : Cls (Lows w9), nq.w.cell? ⟨wr.heap.size, 9, none⟩ = some (.int .i64 x.k) := fun nq => Blk.in OB nq.h rfl
        go_wp2_with fail
        refine Cls.region (Lows w9) (by kernel_rfl) (by kernel_rfl) (low_drewN (Below.refl _ _) 1) ?_
        (try dsimp only [List.append])
        repeat (go_big_quiet_step (first | fail))
        refine wpQuiet_nil ?_
        intro n9
        have hk9 := n9.h
        generalize n9.w = w10 at hk9 ⊢
        clear hne n9 f0 f1 f2 f3 f4 f5 f6 f7 f8 f9
        go_wp2_with fail
        go_roundw
        case rel => exact ⟨i + 1, by go_num, by rw [E1.out], by rw [E2.out], by omega, Lib.hid (low_trans L9.out hk9)⟩
        case measure => simp [intOf]; omega
      · have hmz : ¬ (m : Int) < (q : Int) := by omega
        have hmz2 : decide ((m : Int) < (q : Int)) = false := decide_eq_false hmz
        have hmn : decide (m < q) = false := decide_eq_false hm
        obtain ⟨p, rfl, hpl, hy, hn⟩ := HR2.out hm
        have hplz : (p : Int) < (l.length : Int) := by omega
        obtain ⟨z, hz⟩ : ∃ z, z = l[p]! := ⟨_, rfl⟩
        rw [← hz] at hy hn
        have HY := Lib.hid (fun W => younger_any x z W HXO.out (by rw [hz]; exact HXI.out p hpl))
        have hdp : decide ((p : Int) < 0) = false := decide_eq_false (by omega)
        have hdl : decide ((l.length : Int) ≤ (p : Int)) = false := decide_eq_false (by omega)
        clear HR1 HR2
        by_cases hqm : q = m
        · have hqz : ((q : Int) == (m : Int)) = true := by rw [hqm]; simp
          cases hyb : youngR x z with
          | true =>
            rw [hyb] at HY
            obtain ⟨e1, e2⟩ := hy ⟨hqm, hyb⟩
            have E1 := Lib.hid e1
            have E2 := Lib.hid e2
            clear e1 e2
            clear hn hy hyb hqm hm
            have hne : Nonempty (Cls (Lows w9)) := ⟨⟨_, Lows.self _⟩⟩
            have f0 : ∀ nq : Cls (Lows w9), nq.w.cell? ⟨wr.heap.size, 0, none⟩ = some (.bool x.e.a.v6) := fun nq => Blk.in OB nq.h rfl
            have f1 : ∀ nq : Cls (Lows w9), nq.w.cell? ⟨wr.heap.size, 1, none⟩ = some (.int .u64 x.e.a.hi) := fun nq => Blk.in OB nq.h rfl
            have f2 : ∀ nq : Cls (Lows w9), nq.w.cell? ⟨wr.heap.size, 2, none⟩ = some (.int .u64 x.e.a.lo) := fun nq => Blk.in OB nq.h rfl
            have f3 : ∀ nq : Cls (Lows w9), nq.w.cell? ⟨wr.heap.size, 3, none⟩ = some (.int .i64 x.e.n) := fun nq => Blk.in OB nq.h rfl
            have f4 : ∀ nq : Cls (Lows w9), nq.w.cell? ⟨wr.heap.size, 4, none⟩ = some (.bool x.i) := fun nq => Blk.in OB nq.h rfl
            have f5 : ∀ nq : Cls (Lows w9), nq.w.cell? ⟨wr.heap.size, 5, none⟩ = some (.int .i64 x.t) := fun nq => Blk.in OB nq.h rfl
            have f6 : ∀ nq : Cls (Lows w9), nq.w.cell? ⟨wr.heap.size, 6, none⟩ = some (.int .i64 x.c.p) := fun nq => Blk.in OB nq.h rfl
            have f7 : ∀ nq : Cls (Lows w9), nq.w.cell? ⟨wr.heap.size, 7, none⟩ = some (.int .i64 x.c.a) := fun nq => Blk.in OB nq.h rfl
            have f8 : ∀ nq : Cls (Lows w9), nq.w.cell? ⟨wr.heap.size, 8, none⟩ = some (.int .i64 x.g) := fun nq => Blk.in OB nq.h rfl
            have f9 : ∀ nq : Cls (Lows w9), nq.w.cell? ⟨wr.heap.size, 9, none⟩ = some (.int .i64 x.k) := fun nq => Blk.in OB nq.h rfl
            have g0 : ∀ nq : Cls (Lows w9), nq.w.cell? ⟨bb, o + p * 10, none⟩ = some (.bool z.e.a.v6) := fun nq => by rw [hz]; exact peer_at (low_trans'' HLW.out nq.h) hb hcc hpl (j := 0) rfl
            have g1 : ∀ nq : Cls (Lows w9), nq.w.cell? ⟨bb, o + p * 10 + 1, none⟩ = some (.int .u64 z.e.a.hi) := fun nq => by rw [hz]; exact peer_at (low_trans'' HLW.out nq.h) hb hcc hpl (j := 1) rfl
            have g2 : ∀ nq : Cls (Lows w9), nq.w.cell? ⟨bb, o + p * 10 + 2, none⟩ = some (.int .u64 z.e.a.lo) := fun nq => by rw [hz]; exact peer_at (low_trans'' HLW.out nq.h) hb hcc hpl (j := 2) rfl
            have g3 : ∀ nq : Cls (Lows w9), nq.w.cell? ⟨bb, o + p * 10 + 3, none⟩ = some (.int .i64 z.e.n) := fun nq => by rw [hz]; exact peer_at (low_trans'' HLW.out nq.h) hb hcc hpl (j := 3) rfl
            have g4 : ∀ nq : Cls (Lows w9), nq.w.cell? ⟨bb, o + p * 10 + 4, none⟩ = some (.bool z.i) := fun nq => by rw [hz]; exact peer_at (low_trans'' HLW.out nq.h) hb hcc hpl (j := 4) rfl
            have g5 : ∀ nq : Cls (Lows w9), nq.w.cell? ⟨bb, o + p * 10 + 5, none⟩ = some (.int .i64 z.t) := fun nq => by rw [hz]; exact peer_at (low_trans'' HLW.out nq.h) hb hcc hpl (j := 5) rfl
            have g6 : ∀ nq : Cls (Lows w9), nq.w.cell? ⟨bb, o + p * 10 + 6, none⟩ = some (.int .i64 z.c.p) := fun nq => by rw [hz]; exact peer_at (low_trans'' HLW.out nq.h) hb hcc hpl (j := 6) rfl
            have g7 : ∀ nq : Cls (Lows w9), nq.w.cell? ⟨bb, o + p * 10 + 7, none⟩ = some (.int .i64 z.c.a) := fun nq => by rw [hz]; exact peer_at (low_trans'' HLW.out nq.h) hb hcc hpl (j := 7) rfl
            have g8 : ∀ nq : Cls (Lows w9), nq.w.cell? ⟨bb, o + p * 10 + 8, none⟩ = some (.int .i64 z.g) := fun nq => by rw [hz]; exact peer_at (low_trans'' HLW.out nq.h) hb hcc hpl (j := 8) rfl
            have g9 : ∀ nq : Cls (Lows w9), nq.w.cell? ⟨bb, o + p * 10 + 9, none⟩ = some (.int .i64 z.k) := fun nq => by rw [hz]; exact peer_at (low_trans'' HLW.out nq.h) hb hcc hpl (j := 9) rfl
            clear hcc hb hz
            go_wp2_with fail
            refine Cls.region (Lows w9) (by kernel_rfl) (by kernel_rfl) (low_drewN (Below.refl _ _) 1) ?_
            (try dsimp only [List.append])
            repeat (go_big_quiet_step (first | fail | (with_reducible exact Cls.call ((lows_call HY).out _ (Cls.h _)))))
            refine wpQuiet_nil ?_
            intro n9
            have hk9 := n9.h
            generalize n9.w = w10 at hk9 ⊢
            clear hne n9 f0 f1 f2 f3 f4 f5 f6 f7 f8 f9 g0 g1 g2 g3 g4 g5 g6 g7 g8 g9
            go_wp2_with fail
            go_roundw
            case rel => exact ⟨i + 1, by go_num, by rw [E1.out], by rw [E2.out], by omega, Lib.hid (low_trans L9.out hk9)⟩
            case measure => simp [intOf]; omega
          | false =>
            rw [hyb] at HY
            obtain ⟨e1, e2⟩ := hn (fun h => by rw [hyb] at h; exact Bool.noConfusion h.2)
            have E1 := Lib.hid e1
            have E2 := Lib.hid e2
            clear e1 e2
            clear hn hy hyb hm
            have hne : Nonempty (Cls (Lows w9)) := ⟨⟨_, Lows.self _⟩⟩
            have f0 : ∀ nq : Cls (Lows w9), nq.w.cell? ⟨wr.heap.size, 0, none⟩ = some (.bool x.e.a.v6) := fun nq => Blk.in OB nq.h rfl
            have f1 : ∀ nq : Cls (Lows w9), nq.w.cell? ⟨wr.heap.size, 1, none⟩ = some (.int .u64 x.e.a.hi) := fun nq => Blk.in OB nq.h rfl
            have f2 : ∀ nq : Cls (Lows w9), nq.w.cell? ⟨wr.heap.size, 2, none⟩ = some (.int .u64 x.e.a.lo) := fun nq => Blk.in OB nq.h rfl
            have f3 : ∀ nq : Cls (Lows w9), nq.w.cell? ⟨wr.heap.size, 3, none⟩ = some (.int .i64 x.e.n) := fun nq => Blk.in OB nq.h rfl
            have f4 : ∀ nq : Cls (Lows w9), nq.w.cell? ⟨wr.heap.size, 4, none⟩ = some (.bool x.i) := fun nq => Blk.in OB nq.h rfl
            have f5 : ∀ nq : Cls (Lows w9), nq.w.cell? ⟨wr.heap.size, 5, none⟩ = some (.int .i64 x.t) := fun nq => Blk.in OB nq.h rfl
            have f6 : ∀ nq : Cls (Lows w9), nq.w.cell? ⟨wr.heap.size, 6, none⟩ = some (.int .i64 x.c.p) := fun nq => Blk.in OB nq.h rfl
            have f7 : ∀ nq : Cls (Lows w9), nq.w.cell? ⟨wr.heap.size, 7, none⟩ = some (.int .i64 x.c.a) := fun nq => Blk.in OB nq.h rfl
            have f8 : ∀ nq : Cls (Lows w9), nq.w.cell? ⟨wr.heap.size, 8, none⟩ = some (.int .i64 x.g) := fun nq => Blk.in OB nq.h rfl
            have f9 : ∀ nq : Cls (Lows w9), nq.w.cell? ⟨wr.heap.size, 9, none⟩ = some (.int .i64 x.k) := fun nq => Blk.in OB nq.h rfl
            have g0 : ∀ nq : Cls (Lows w9), nq.w.cell? ⟨bb, o + p * 10, none⟩ = some (.bool z.e.a.v6) := fun nq => by rw [hz]; exact peer_at (low_trans'' HLW.out nq.h) hb hcc hpl (j := 0) rfl
            have g1 : ∀ nq : Cls (Lows w9), nq.w.cell? ⟨bb, o + p * 10 + 1, none⟩ = some (.int .u64 z.e.a.hi) := fun nq => by rw [hz]; exact peer_at (low_trans'' HLW.out nq.h) hb hcc hpl (j := 1) rfl
            have g2 : ∀ nq : Cls (Lows w9), nq.w.cell? ⟨bb, o + p * 10 + 2, none⟩ = some (.int .u64 z.e.a.lo) := fun nq => by rw [hz]; exact peer_at (low_trans'' HLW.out nq.h) hb hcc hpl (j := 2) rfl
            have g3 : ∀ nq : Cls (Lows w9), nq.w.cell? ⟨bb, o + p * 10 + 3, none⟩ = some (.int .i64 z.e.n) := fun nq => by rw [hz]; exact peer_at (low_trans'' HLW.out nq.h) hb hcc hpl (j := 3) rfl
            have g4 : ∀ nq : Cls (Lows w9), nq.w.cell? ⟨bb, o + p * 10 + 4, none⟩ = some (.bool z.i) := fun nq => by rw [hz]; exact peer_at (low_trans'' HLW.out nq.h) hb hcc hpl (j := 4) rfl
            have g5 : ∀ nq : Cls (Lows w9), nq.w.cell? ⟨bb, o + p * 10 + 5, none⟩ = some (.int .i64 z.t) := fun nq => by rw [hz]; exact peer_at (low_trans'' HLW.out nq.h) hb hcc hpl (j := 5) rfl
            have g6 : ∀ nq : Cls (Lows w9), nq.w.cell? ⟨bb, o + p * 10 + 6, none⟩ = some (.int .i64 z.c.p) := fun nq => by rw [hz]; exact peer_at (low_trans'' HLW.out nq.h) hb hcc hpl (j := 6) rfl
            have g7 : ∀ nq : Cls (Lows w9), nq.w.cell? ⟨bb, o + p * 10 + 7, none⟩ = some (.int .i64 z.c.a) := fun nq => by rw [hz]; exact peer_at (low_trans'' HLW.out nq.h) hb hcc hpl (j := 7) rfl
            have g8 : ∀ nq : Cls (Lows w9), nq.w.cell? ⟨bb, o + p * 10 + 8, none⟩ = some (.int .i64 z.g) := fun nq => by rw [hz]; exact peer_at (low_trans'' HLW.out nq.h) hb hcc hpl (j := 8) rfl
            have g9 : ∀ nq : Cls (Lows w9), nq.w.cell? ⟨bb, o + p * 10 + 9, none⟩ = some (.int .i64 z.k) := fun nq => by rw [hz]; exact peer_at (low_trans'' HLW.out nq.h) hb hcc hpl (j := 9) rfl
            clear hcc hb hz
            go_wp2_with fail
            refine Cls.region (Lows w9) (by kernel_rfl) (by kernel_rfl) (low_drewN (Below.refl _ _) 1) ?_
            (try dsimp only [List.append])
            repeat (go_big_quiet_step (first | fail | (with_reducible exact Cls.call ((lows_call HY).out _ (Cls.h _)))))
            refine wpQuiet_nil ?_
            intro n9
            have hk9 := n9.h
            generalize n9.w = w10 at hk9 ⊢
            clear hne n9 f0 f1 f2 f3 f4 f5 f6 f7 f8 f9 g0 g1 g2 g3 g4 g5 g6 g7 g8 g9
            go_wp2_with fail
            go_roundw
            case rel => exact ⟨i + 1, by go_num, by rw [E1.out], by rw [E2.out], by omega, Lib.hid (low_trans L9.out hk9)⟩
            case measure => simp [intOf]; omega
        · have hqz : ((q : Int) == (m : Int)) = false := by rw [beq_eq_false_iff_ne]; omega
          obtain ⟨e1, e2⟩ := hn (fun h => hqm h.1)
          have E1 := Lib.hid e1
          have E2 := Lib.hid e2
          clear e1 e2
          clear hn hy hm HY hcc hb hz
          have hne : Nonempty (Cls (Lows w9)) := ⟨⟨_, Lows.self _⟩⟩
          have f0 : ∀ nq : Cls (Lows w9), nq.w.cell? ⟨wr.heap.size, 0, none⟩ = some (.bool x.e.a.v6) := fun nq => Blk.in OB nq.h rfl
          have f1 : ∀ nq : Cls (Lows w9), nq.w.cell? ⟨wr.heap.size, 1, none⟩ = some (.int .u64 x.e.a.hi) := fun nq => Blk.in OB nq.h rfl
          have f2 : ∀ nq : Cls (Lows w9), nq.w.cell? ⟨wr.heap.size, 2, none⟩ = some (.int .u64 x.e.a.lo) := fun nq => Blk.in OB nq.h rfl
          have f3 : ∀ nq : Cls (Lows w9), nq.w.cell? ⟨wr.heap.size, 3, none⟩ = some (.int .i64 x.e.n) := fun nq => Blk.in OB nq.h rfl
          have f4 : ∀ nq : Cls (Lows w9), nq.w.cell? ⟨wr.heap.size, 4, none⟩ = some (.bool x.i) := fun nq => Blk.in OB nq.h rfl
          have f5 : ∀ nq : Cls (Lows w9), nq.w.cell? ⟨wr.heap.size, 5, none⟩ = some (.int .i64 x.t) := fun nq => Blk.in OB nq.h rfl
          have f6 : ∀ nq : Cls (Lows w9), nq.w.cell? ⟨wr.heap.size, 6, none⟩ = some (.int .i64 x.c.p) := fun nq => Blk.in OB nq.h rfl
          have f7 : ∀ nq : Cls (Lows w9), nq.w.cell? ⟨wr.heap.size, 7, none⟩ = some (.int .i64 x.c.a) := fun nq => Blk.in OB nq.h rfl
          have f8 : ∀ nq : Cls (Lows w9), nq.w.cell? ⟨wr.heap.size, 8, none⟩ = some (.int .i64 x.g) := fun nq => Blk.in OB nq.h rfl
          have f9 : ∀ nq : Cls (Lows w9), nq.w.cell? ⟨wr.heap.size, 9, none⟩ = some (.int .i64 x.k) := fun nq => Blk.in OB nq.h rfl
          go_wp2_with fail
          refine Cls.region (Lows w9) (by kernel_rfl) (by kernel_rfl) (low_drewN (Below.refl _ _) 1) ?_
          (try dsimp only [List.append])
          repeat (go_big_quiet_step (first | fail))
          refine wpQuiet_nil ?_
          intro n9
          have hk9 := n9.h
          generalize n9.w = w10 at hk9 ⊢
          clear hne n9 f0 f1 f2 f3 f4 f5 f6 f7 f8 f9
          go_wp2_with fail
          go_roundw
          case rel => exact ⟨i + 1, by go_num, by rw [E1.out], by rw [E2.out], by omega, Lib.hid (low_trans L9.out hk9)⟩
          case measure => simp [intOf]; omega
    · have hliz : ¬ (i : Int) < (l.length : Int) := by omega
      have e : pickI l i = pickR l := by rw [show i = l.length by omega, pickI_done]
      rw [e]
      go_wp2_with fail
      go_ret
      exact ⟨rfl, low_trans'' L1.out HL.out⟩
end Go.Proofs.Ytanphaahcmfkcaa.Cw
