/- Of the statements of layer 18 (rank): what comes in; lists of numbers compared; a place around; the example. -/
import Derived.Test.YthpimcnbfhogdaaRef18All
import Derived.Test.YthpimcnbfhogdaaRankTurns
import Derived.Test.YthpimcnbfhogdaaPeerDoor
import Derived.Test.YthpimcnbfhogdaaRecsDoor
import Derived.Test.YthpimcnbfhogdaaDoor
import Derived.Test.YthpimcnbfhogdaaBox
import Derived.Deep.CutRange
import Derived.Deep.LoopGhost
import Derived.Lib.MinMax
namespace Go.Proofs.Ythpimcnbfhogdaa
set_option maxRecDepth 100000
open Go.ChangeShapes Go.WideShapes Go.ChangeAt Go.RowKit
open Dec Words V4 V6 Ad Ci En Sat Ha Pe Stb Gr Mi Ra Go.Deep
set_option linter.unusedVariables false
/-- Peers that came in. -/
theorem open_peers {H : Type} {enc : TypeId × Value → H} {W : World} {v : Value} {d : DataW H} {ps : List MemPlace} {r : Reach} {b0 : Nat}
    (hval : Value.okWide Try.prog W r b0 22 v) (h : DataW.Trod enc Try.prog W 0 (fun _ => true) true 22 v d ps) : ∃ xs : List Pr, Peers W v xs ∧ xs.length ≤ 9223372036854775807 ∧ ∀ x ∈ xs, x.ok :=
  open_recs (encR := encP) (good := Pr.ok) Try.underlying22 (by kernel_rfl) (by decide) (fun _ _ _ hf hl => peer_cells hf hl) hval h
theorem open_asked18 {H : Type} {enc : TypeId × Value → H} {W : World} {v : Value} {d : DataW H} {ps : List MemPlace} {r : Reach} {b0 : Nat}
    (hval : Value.okWide Try.prog W r b0 25 v) (h : DataW.Trod enc Try.prog W 0 (fun _ => true) true 25 v d ps) :
    ∃ (i j k : Int) (s : Nat), (-9223372036854775808 ≤ i ∧ i ≤ 9223372036854775807) ∧ (-9223372036854775808 ≤ j ∧ j ≤ 9223372036854775807) ∧ (-9223372036854775808 ≤ k ∧ k ≤ 9223372036854775807) ∧ s < 18446744073709551616 ∧ v = .agg #[.int .i64 i, .int .i64 j, .int .i64 k, .int .u64 (s : Nat)] := by
  obtain ⟨cs, rfl, hsz⟩ := okWide_struct Try.underlying25 hval
  have hC : Try.prog.cellsOf 25 = 4 := by kernel_rfl
  obtain ⟨fuel, hf⟩ := h
  obtain ⟨l⟩ := cs
  have hl : l.length = 4 := by simpa [hC] using hsz
  match l, hl with
  | [c0, c1, c2, c3], _ =>
  obtain ⟨xs, m, _, _, _, hx, he⟩ := DataW.trod_struct Try.underlying25 hf
  have hx4 : xs.length = 4 := hx
  have k1 : Try.prog.cellsOf 3 = 1 := by kernel_rfl
  have ku : Try.prog.cellsOf 23 = 1 := by kernel_rfl
  obtain ⟨y0, e0⟩ : ∃ y, xs[0]? = some y := ⟨_, List.getElem?_eq_getElem (by omega)⟩
  obtain ⟨y1, e1⟩ : ∃ y, xs[1]? = some y := ⟨_, List.getElem?_eq_getElem (by omega)⟩
  obtain ⟨y2, e2⟩ : ∃ y, xs[2]? = some y := ⟨_, List.getElem?_eq_getElem (by omega)⟩
  obtain ⟨y3, e3⟩ : ∃ y, xs[3]? = some y := ⟨_, List.getElem?_eq_getElem (by omega)⟩
  have h0 : DataW.trod enc Try.prog W 0 (fun _ => true) true m 3 (([c0, c1, c2, c3].drop 0).take (Try.prog.cellsOf 3)) = xs[0]? := he 0 _ rfl
  have h1 : DataW.trod enc Try.prog W 0 (fun _ => true) true m 3 (([c0, c1, c2, c3].drop 1).take (Try.prog.cellsOf 3)) = xs[1]? := he 1 _ rfl
  have h2 : DataW.trod enc Try.prog W 0 (fun _ => true) true m 3 (([c0, c1, c2, c3].drop 2).take (Try.prog.cellsOf 3)) = xs[2]? := he 2 _ rfl
  have h3 : DataW.trod enc Try.prog W 0 (fun _ => true) true m 23 (([c0, c1, c2, c3].drop 3).take (Try.prog.cellsOf 23)) = xs[3]? := he 3 _ rfl
  rw [k1, e0] at h0
  rw [k1, e1] at h1
  rw [k1, e2] at h2
  rw [ku, e3] at h3
  have g0 : DataW.trod enc Try.prog W 0 (fun _ => true) true m 3 [c0] = some y0 := h0
  have g1 : DataW.trod enc Try.prog W 0 (fun _ => true) true m 3 [c1] = some y1 := h1
  have g2 : DataW.trod enc Try.prog W 0 (fun _ => true) true m 3 [c2] = some y2 := h2
  have g3 : DataW.trod enc Try.prog W 0 (fun _ => true) true m 23 [c3] = some y3 := h3
  obtain ⟨x0, j0, _, w0⟩ := DataW.trod_int Try.underlying3 g0
  obtain ⟨x1, j1, _, w1⟩ := DataW.trod_int Try.underlying3 g1
  obtain ⟨x2, j2, _, w2⟩ := DataW.trod_int Try.underlying3 g2
  obtain ⟨x3, j3, _, w3⟩ := DataW.trod_int Try.underlying23 g3
  obtain ⟨s, rfl, hs⟩ := nat_of_u64 w3
  simp only [List.cons.injEq, and_true] at j0 j1 j2 j3
  subst j0 j1 j2 j3
  exact ⟨x0, x1, x2, s, wf64 w0, wf64 w1, wf64 w2, hs, rfl⟩
theorem neqPeer_self (x : Pr) (w : World) : (binOp .neq 35 (.agg #[.bool x.e.a.v6, .int .u64 x.e.a.hi, .int .u64 x.e.a.lo, .int .i64 x.e.n, .bool x.i, .int .i64 x.t, .int .i64 x.c.p, .int .i64 x.c.a, .int .i64 x.g, .int .i64 x.k]) (.agg #[.bool x.e.a.v6, .int .u64 x.e.a.hi, .int .u64 x.e.a.lo, .int .i64 x.e.n, .bool x.i, .int .i64 x.t, .int .i64 x.c.p, .int .i64 x.c.a, .int .i64 x.g, .int .i64 x.k])).run Try.prog w = .ok (.bool false) w := by
  have h := eqPeer_self x w
  rw [run_eql_struct] at h
  rw [run_neq_struct]
  generalize (Op.equalIn 10000 35 (.agg #[.bool x.e.a.v6, .int .u64 x.e.a.hi, .int .u64 x.e.a.lo, .int .i64 x.e.n, .bool x.i, .int .i64 x.t, .int .i64 x.c.p, .int .i64 x.c.a, .int .i64 x.g, .int .i64 x.k]) (.agg #[.bool x.e.a.v6, .int .u64 x.e.a.hi, .int .u64 x.e.a.lo, .int .i64 x.e.n, .bool x.i, .int .i64 x.t, .int .i64 x.c.p, .int .i64 x.c.a, .int .i64 x.g, .int .i64 x.k])).run Try.prog w = r at h
  cases r with
  | ok x w' =>
    simp only [Result.andThen_ok, Result.ok.injEq, Value.bool.injEq] at h ⊢
    obtain ⟨rfl, rfl⟩ := h
    exact ⟨rfl, rfl⟩
  | halt x w' => cases h
set_option maxHeartbeats 4000000 in
theorem sameInts_any (u1 u2 : Value) (L : List Nat) (w : World) (h1 : NumsI w u1 L) (h2 : NumsI w u2 L) (hl : L.length ≤ 1000000) (hL : ∀ x ∈ L, x ≤ 1000000) :
    Calls Try.prog 10 #[u1, u2] w fun e w' => e = .returned (.bool true) ∧ Below w.heap.size w w' := by
  obtain ⟨A1, c1, rfl, hc1, _, hcell1⟩ := h1
  obtain ⟨A2, c2, rfl, hc2, _, hcell2⟩ := h2
  have HC1 := Lib.hid hcell1
  have HC2 := Lib.hid hcell2
  have HLL := Lib.hid hL
  have z0 : ((L.length : Int) != (L.length : Int)) = false := by simp
  clear hcell1 hcell2 hL
  go_enter Try.func10, Try.ntmps10
  go_wp2_with fail
  go_loopw [5] (fun vi wr => ∃ i : Nat, vi = .int .i64 i ∧ i ≤ L.length ∧ Hid (Lows w wr)) (fun vi _ => L.length - (intOf vi).toNat)
  case atStart => exact ⟨0, rfl, Nat.zero_le _, Lib.hid (Lows.self _)⟩
  case round =>
    obtain ⟨i, rfl, hi, HL⟩ := hrel
    by_cases hli : i < L.length
    · have hliz : (i : Int) < (L.length : Int) := by omega
      obtain ⟨b1, o1, rfl, hb1, hcc1⟩ := HC1.out (by omega)
      obtain ⟨b2, o2, rfl, hb2, hcc2⟩ := HC2.out (by omega)
      obtain ⟨x, hx⟩ : ∃ x, x = L[i] := ⟨_, rfl⟩
      have e1 := (HL.out.cell (p := ⟨b1, o1 + i * 1 + 0, none⟩) hb1).trans (hcc1 i hli 0 (.int .i64 (L[i] : Int)) rfl)
      have e2 := (HL.out.cell (p := ⟨b2, o2 + i * 1 + 0, none⟩) hb2).trans (hcc2 i hli 0 (.int .i64 (L[i] : Int)) rfl)
      rw [Nat.mul_one, Nat.add_zero, ← hx] at e1 e2
      have zx : ((x : Int) != (x : Int)) = false := by simp
      have hne : Nonempty (Cls (Lows wr)) := ⟨⟨_, Lows.self _⟩⟩
      have f1 : ∀ nq : Cls (Lows wr), nq.w.cell? ⟨b1, o1 + i, none⟩ = some (.int .i64 (x : Int)) := fun nq => (nq.h.cell (p := ⟨b1, o1 + i, none⟩) (Nat.lt_of_lt_of_le hb1 HL.out.size)).trans e1
      have f2 : ∀ nq : Cls (Lows wr), nq.w.cell? ⟨b2, o2 + i, none⟩ = some (.int .i64 (x : Int)) := fun nq => (nq.h.cell (p := ⟨b2, o2 + i, none⟩) (Nat.lt_of_lt_of_le hb2 HL.out.size)).trans e2
      clear hx hcc1 hcc2 e1 e2 hb1 hb2
      go_wp2_with fail
      refine Cls.region (Lows wr) (by kernel_rfl) (by kernel_rfl) (low_drewN (Below.refl _ _) 1) ?_
      repeat (go_big_quiet_step (first | fail))
      refine wpQuiet_nil ?_
      intro n9
      have hk9 := n9.h
      generalize n9.w = w9 at hk9 ⊢
      clear hne n9 f1 f2
      go_wp2_with fail
      go_roundw
      case rel => exact ⟨i + 1, by go_num, by omega, Lib.hid (low_trans HL.out hk9)⟩
      case measure => simp [intOf]; omega
    · have hliz : ¬ (i : Int) < (L.length : Int) := by omega
      go_wp2_with fail
      go_ret
      exact ⟨rfl, HL.out⟩
theorem around_any (n : Int) (m : Nat) (w : World) (hm : 1 ≤ m) (hm2 : m ≤ 1000000) (hn : (-9223372036854775808 ≤ n ∧ n ≤ 9223372036854775807)) :
    Calls Try.prog 15 #[.int .i64 n, .int .i64 m] w fun e w' => ∃ k : Nat, e = .returned (.int .i64 k) ∧ k < m ∧ w = w' := by
  obtain ⟨r, hr⟩ : ∃ r, r = n.tmod m := ⟨_, rfl⟩
  have h1 : r < (m : Int) := by rw [hr]; exact Int.tmod_lt_of_pos n (by omega)
  have h2 : -(m : Int) < r := by
    have h := Int.tmod_lt_of_pos (-n) (by omega : 0 < (m : Int))
    rw [Int.neg_tmod] at h
    omega
  have hmz : ¬ (m : Int) < 1 := by omega
  have hm0 : ¬ (m : Int) = 0 := by omega
  rw [show IntKind.i64 = IntKind.i64 from rfl]
  have er : n.tmod (m : Int) = r := hr.symm
  have hrb : -9223372036854775808 ≤ r ∧ r ≤ 9223372036854775807 := by omega
  clear hr
  by_cases h0 : r < 0
  · obtain ⟨k, hk⟩ : ∃ k : Nat, k = (r + m).toNat := ⟨_, rfl⟩
    have ek : r + (m : Int) = (k : Int) := by omega
    have hkm : k < m := by omega
    clear hk
    go_enter Try.func15, Try.ntmps15
    go_wp2_with fail
    go_ret
    exact ⟨k, rfl, hkm, rfl⟩
  · obtain ⟨k, rfl⟩ : ∃ k : Nat, r = (k : Int) := ⟨r.toNat, by omega⟩
    have hkm : k < m := by omega
    go_enter Try.func15, Try.ntmps15
    go_wp2_with fail
    go_ret
    exact ⟨k, rfl, hkm, rfl⟩
theorem at_any (p g : Int) (w : World) : Calls Try.prog 16 #[.int .i64 p, .int .i64 g] w fun e w' => e = .returned (.agg #[.bool false, .int .u64 0, .int .u64 1, .int .i64 p, .bool true, .int .i64 0, .int .i64 0, .int .i64 0, .int .i64 g, .int .i64 0]) ∧ Below w.heap.size w w' := by
  have L : Below w.heap.size w (w.alloc (.cells #[.bool false, .int .u64 0, .int .u64 1, .int .i64 p, .bool true, .int .i64 0, .int .i64 0, .int .i64 0, .int .i64 g, .int .i64 0] 35)) := (Below.refl _ _).alloc (Nat.le_refl _) _
  go_enter Try.func16, Try.ntmps16
  go_wp2_with fail
  exact bodyPost_ret (v := .agg #[.bool false, .int .u64 0, .int .u64 1, .int .i64 p, .bool true, .int .i64 0, .int .i64 0, .int .i64 0, .int .i64 g, .int .i64 0]) (by simp [results, Try.results16, go_sem]) rfl ⟨rfl, L⟩
def l18 : List Pr := [⟨⟨⟨false, 0, 1⟩, 1⟩, true, 0, ⟨0, 0⟩, 0, 0⟩, ⟨⟨⟨false, 0, 1⟩, 2⟩, true, 0, ⟨0, 0⟩, 5, 0⟩, ⟨⟨⟨false, 0, 1⟩, 3⟩, true, 0, ⟨0, 0⟩, 3, 0⟩]
theorem l18_ok : ∀ x ∈ l18, x.ok := by
  intro x hx
  simp only [l18, List.mem_cons, List.not_mem_nil, or_false] at hx
  rcases hx with rfl | rfl | rfl <;> exact ⟨⟨⟨by decide, by decide⟩, by decide, by decide⟩, by decide, ⟨by decide, by decide⟩, by decide, by decide⟩
theorem l18_ord : ordR l18 2 7 = [2, 1] := by
  refine ordR_is (by decide +kernel) fun x => ?_
  by_cases h : x < 3
  · have : x = 0 ∨ x = 1 ∨ x = 2 := by omega
    rcases this with rfl | rfl | rfl <;> decide +kernel
  · constructor
    · intro hx
      simp only [List.mem_cons, List.not_mem_nil, or_false] at hx
      omega
    · intro hx
      have : x < 3 := hx.1
      omega
theorem l18_first : firstR l18 2 9 7 = [2, 1] := by
  unfold firstR
  rw [l18_ord]; rfl
set_option maxHeartbeats 8000000 in
theorem awake18_any (w : World) : Calls Try.prog 5 #[] w fun e w' => e = .returned (.bool true) ∧ Below w.heap.size w w' := by
  have A1 : Hid (∀ W, Calls Try.prog 16 #[.int .i64 1, .int .i64 0] W fun e w' => e = .returned (.agg #[.bool false, .int .u64 0, .int .u64 1, .int .i64 1, .bool true, .int .i64 0, .int .i64 0, .int .i64 0, .int .i64 0, .int .i64 0]) ∧ Below W.heap.size W w') := Lib.hid fun W => at_any 1 0 W
  have A2 : Hid (∀ W, Calls Try.prog 16 #[.int .i64 2, .int .i64 5] W fun e w' => e = .returned (.agg #[.bool false, .int .u64 0, .int .u64 1, .int .i64 2, .bool true, .int .i64 0, .int .i64 0, .int .i64 0, .int .i64 5, .int .i64 0]) ∧ Below W.heap.size W w') := Lib.hid fun W => at_any 2 5 W
  have A3 : Hid (∀ W, Calls Try.prog 16 #[.int .i64 3, .int .i64 3] W fun e w' => e = .returned (.agg #[.bool false, .int .u64 0, .int .u64 1, .int .i64 3, .bool true, .int .i64 0, .int .i64 0, .int .i64 0, .int .i64 3, .int .i64 0]) ∧ Below W.heap.size W w') := Lib.hid fun W => at_any 3 3 W
  have F1 : Hid (∀ W v, Peers W v l18 → Calls Try.prog 11 #[v, .int .i64 2, .int .i64 9, .int .u64 7] W fun e w' => ∃ u, e = .returned u ∧ NumsI w' u [2, 1] ∧ Below W.heap.size W w') := Lib.hid fun W v h => by
    have k := first_any v l18 2 9 7 W h l18_ok (by decide) (by decide)
    rwa [l18_first] at k
  have K1 : Hid (∀ W v, Peers W v l18 → Calls Try.prog 13 #[v, .int .i64 1, .int .i64 2, .int .u64 7] W fun e w' => e = .returned (.int .i64 1) ∧ Below W.heap.size W w') := Lib.hid fun W v h => by
    have k := rank_any v l18 1 2 7 W h l18_ok (by decide) (by decide)
    rwa [show rankR l18 1 2 7 = 1 from by decide +kernel] at k
  have N1 : Hid (∀ W, Calls Try.prog 6 #[.agg #[.bool false, .int .u64 0, .int .u64 1, .int .i64 1, .bool true, .int .i64 0, .int .i64 0, .int .i64 0, .int .i64 0, .int .i64 0], .int .i64 2] W fun e w' => e = .returned (.bool false) ∧ Below W.heap.size W w') := Lib.hid fun W => by
    have k := counts_any (⟨⟨⟨false, 0, 1⟩, 1⟩, true, 0, ⟨0, 0⟩, 0, 0⟩ : Pr) 2 W
    rwa [show countsR (⟨⟨⟨false, 0, 1⟩, 1⟩, true, 0, ⟨0, 0⟩, 0, 0⟩ : Pr) 2 = false from by decide +kernel] at k
  go_enter Try.func5, Try.ntmps5
  go_wp2_with fail
  refine (A1.out _).mono ?_; rintro e w1 ⟨rfl, hb1⟩
  have L1 := Lib.hid hb1
  clear hb1
  go_wp2_with fail
  refine (A2.out _).mono ?_; rintro e w2 ⟨rfl, hb2⟩
  have L2 := Lib.hid (low_trans L1.out hb2)
  clear hb2 L1
  go_wp2_with fail
  refine (A3.out _).mono ?_; rintro e w3 ⟨rfl, hb3⟩
  have L3 := Lib.hid (low_trans L2.out hb3)
  have L4 : Hid (Below w.heap.size w (w3.alloc (.cells #[.bool false, .int .u64 0, .int .u64 1, .int .i64 1, .bool true, .int .i64 0, .int .i64 0, .int .i64 0, .int .i64 0, .int .i64 0, .bool false, .int .u64 0, .int .u64 1, .int .i64 2, .bool true, .int .i64 0, .int .i64 0, .int .i64 0, .int .i64 5, .int .i64 0, .bool false, .int .u64 0, .int .u64 1, .int .i64 3, .bool true, .int .i64 0, .int .i64 0, .int .i64 0, .int .i64 3, .int .i64 0] 35))) := Lib.hid (Lows.alloc L3.out _)
  have PE0 : Hid (Peers (w3.alloc (.cells #[.bool false, .int .u64 0, .int .u64 1, .int .i64 1, .bool true, .int .i64 0, .int .i64 0, .int .i64 0, .int .i64 0, .int .i64 0, .bool false, .int .u64 0, .int .u64 1, .int .i64 2, .bool true, .int .i64 0, .int .i64 0, .int .i64 0, .int .i64 5, .int .i64 0, .bool false, .int .u64 0, .int .u64 1, .int .i64 3, .bool true, .int .i64 0, .int .i64 0, .int .i64 0, .int .i64 3, .int .i64 0] 35)) (.slice (some ⟨w3.heap.size, 0, none⟩) 3 3) l18) := Lib.hid (Recs.lit (k := 10) (enc := encP) (fun _ => rfl) w3 l18 #[.bool false, .int .u64 0, .int .u64 1, .int .i64 1, .bool true, .int .i64 0, .int .i64 0, .int .i64 0, .int .i64 0, .int .i64 0, .bool false, .int .u64 0, .int .u64 1, .int .i64 2, .bool true, .int .i64 0, .int .i64 0, .int .i64 0, .int .i64 5, .int .i64 0, .bool false, .int .u64 0, .int .u64 1, .int .i64 3, .bool true, .int .i64 0, .int .i64 0, .int .i64 0, .int .i64 3, .int .i64 0] 35 rfl)
  have FF := Lib.hid (F1.out _ _ PE0.out)
  have HB0 := Lib.hid (Blk.new w3 #[.bool false, .int .u64 0, .int .u64 1, .int .i64 1, .bool true, .int .i64 0, .int .i64 0, .int .i64 0, .int .i64 0, .int .i64 0, .bool false, .int .u64 0, .int .u64 1, .int .i64 2, .bool true, .int .i64 0, .int .i64 0, .int .i64 0, .int .i64 5, .int .i64 0, .bool false, .int .u64 0, .int .u64 1, .int .i64 3, .bool true, .int .i64 0, .int .i64 0, .int .i64 0, .int .i64 3, .int .i64 0] 35)
  clear hb3 L2 L3 A1 A2 A3 F1
  go_wp2_with fail
  refine FF.out.mono ?_; rintro e w4 ⟨u, rfl, hN, hb4⟩
  have L5 := Lib.hid (low_trans L4.out hb4)
  obtain ⟨A, c, rfl, hc, _, hcell⟩ := hN
  obtain ⟨fb, fo, rfl, hfb, hcc⟩ := hcell (by decide)
  have n0 := hcc 0 (by decide) 0 _ rfl
  have n1 := hcc 1 (by decide) 0 _ rfl
  have KK := Lib.hid (K1.out _ _ (PE0.out.below hb4))
  have HB1 := Lib.hid (HB0.out.on hb4)
  have p0 := HB1.out.cell (j := 0) rfl
  have p1 := HB1.out.cell (j := 1) rfl
  have p2 := HB1.out.cell (j := 2) rfl
  have p3 := HB1.out.cell (j := 3) rfl
  have p4 := HB1.out.cell (j := 4) rfl
  have p5 := HB1.out.cell (j := 5) rfl
  have p6 := HB1.out.cell (j := 6) rfl
  have p7 := HB1.out.cell (j := 7) rfl
  have p8 := HB1.out.cell (j := 8) rfl
  have p9 := HB1.out.cell (j := 9) rfl
  simp only [List.getElem_cons_zero, List.getElem_cons_succ, Nat.zero_mul, Nat.one_mul, Nat.add_zero] at n0 n1
  have n0' : w4.cell? ⟨fb, fo, none⟩ = some (.int .i64 2) := n0
  have n1' : w4.cell? ⟨fb, fo + 1, none⟩ = some (.int .i64 1) := n1
  clear hb4 L4 FF hcell hcc K1 PE0 n0 n1
  go_wp2_with fail
  refine KK.out.mono ?_; rintro e w5 ⟨rfl, hb5⟩
  have HB2 := HB1.out.on hb5
  have q0 := HB2.cell (j := 0) rfl
  have q1 := HB2.cell (j := 1) rfl
  have q2 := HB2.cell (j := 2) rfl
  have q3 := HB2.cell (j := 3) rfl
  have q4 := HB2.cell (j := 4) rfl
  have q5 := HB2.cell (j := 5) rfl
  have q6 := HB2.cell (j := 6) rfl
  have q7 := HB2.cell (j := 7) rfl
  have q8 := HB2.cell (j := 8) rfl
  have q9 := HB2.cell (j := 9) rfl
  have L6 := Lib.hid (low_trans L5.out hb5)
  clear hb5 L5 KK HB1 HB2 n0' n1' p0 p1 p2 p3 p4 p5 p6 p7 p8 p9
  go_wp2_with fail
  refine (N1.out _).mono ?_; rintro e w6 ⟨rfl, hb6⟩
  go_wp2_with fail
  go_ret
  exact ⟨rfl, low_trans L6.out hb6⟩
end Go.Proofs.Ythpimcnbfhogdaa
