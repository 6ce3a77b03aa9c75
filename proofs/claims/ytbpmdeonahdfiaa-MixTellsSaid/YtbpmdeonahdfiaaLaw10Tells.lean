/- The first statement of layer 10, proved: numbers and subnets are mixed, and brought below a number, as the document says; for all keys, lists of numbers and subnets. -/
import Derived.Test.YtbpmdeonahdfiaaLaw10
import Derived.Test.YtbpmdeonahdfiaaMixDoor
import Derived.Test.YtbpmdeonahdfiaaCidrDoor
namespace Go.Proofs.Ytbpmdeonahdfiaa
set_option maxRecDepth 100000
open Go.ChangeShapes Go.WideShapes Go.ChangeAt Go.RowKit
open Ad Ci Mi
set_option linter.unusedVariables false
set_option maxHeartbeats 2000000 in
theorem tells_long (w : World) (key : Nat) (v : Value) (l : List Nat) (h : Nums w v l) (hl : 100 < l.length) (n : Net) :
    Calls Try.prog 3 #[.int .u64 key, v, .agg #[.bool n.a.v6, .int .u64 n.a.hi, .int .u64 n.a.lo, .int .i64 n.n]] w fun e w' => e = .returned (.bool true) ∧ Below w.heap.size w w' := by
  obtain ⟨A, c, rfl, _, _, _⟩ := h
  have hd : (100 : Int) < (l.length : Int) := by omega
  have T2 := Lib.hid awake10_any
  go_enter Try.func3, Try.ntmps3
  go_wp2_with fail
  (with_reducible refine (T2.out _).mono ?_)
  rintro e w1 ⟨rfl, rfl⟩
  go_wp2_with fail
  go_ret
  exact ⟨rfl, (Below.refl _ _).alloc (Nat.le_refl _) _⟩
set_option maxHeartbeats 8000000 in
theorem tells_short (w : World) (key : Nat) (hk : key < 18446744073709551616) (v : Value) (l : List Nat) (h0 : Nums w v l) (hl : l.length ≤ 100) (n : Net) :
    Calls Try.prog 3 #[.int .u64 key, v, .agg #[.bool n.a.v6, .int .u64 n.a.hi, .int .u64 n.a.lo, .int .i64 n.n]] w fun e w' => e = .returned (.bool true) ∧ Below w.heap.size w w' := by
  have hn0 : ∀ W, ST n w W → Nums W v l := fun W h => h0.below (ST.low h)
  have hl47 : l.length ≤ 140737488355328 := by omega
  obtain ⟨A, c, rfl, _, _, _⟩ := h0
  have hn : ∀ W, ST n w W → Nums W (.slice A l.length c) l := hn0
  have K1 : Hid (∀ W, ST n w W → Calls Try.prog 7 #[.int .u64 key] W fun e w' => e = .returned (.int .u64 (one key)) ∧ ST n w w') := Lib.hid fun W h => (one_any key W hk).mono fun e w' ⟨he, hw⟩ => ⟨he, by rw [hw]; exact h⟩
  have K2 : Hid (∀ W, ST n w W → Calls Try.prog 8 #[.int .u64 key] W fun e w' => e = .returned (.int .u64 (one key)) ∧ ST n w w') := Lib.hid fun W h => (rone_any key W hk).mono fun e w' ⟨he, hw⟩ => ⟨he, by rw [hw]; exact h⟩
  have K3 : Hid (∀ W, ST n w W → Calls Try.prog 9 #[.int .u64 key, .slice A l.length c] W fun e w' => e = .returned (.int .u64 (mix key l)) ∧ ST n w w') := Lib.hid fun W h => (of_any key _ l W hk (hn W h) hl47).mono fun e w' ⟨he, hw⟩ => ⟨he, by rw [hw]; exact h⟩
  have K4 : Hid (∀ W, ST n w W → Calls Try.prog 10 #[.int .u64 key, .slice A l.length c] W fun e w' => e = .returned (.int .u64 (mix key l)) ∧ ST n w w') := Lib.hid fun W h => (rof_any key _ l W hk (hn W h) hl47).mono fun e w' ⟨he, hw⟩ => ⟨he, by rw [hw]; exact h⟩
  have K5 : Hid (∀ W, ST n w W → Calls Try.prog 11 #[.int .u64 key, .agg #[.bool n.a.v6, .int .u64 n.a.hi, .int .u64 n.a.lo, .int .i64 n.n]] W fun e w' => e = .returned (.int .u64 (mixN key n)) ∧ ST n w w') := Lib.hid fun W h => (net_any key n W hk).mono fun e w' ⟨he, hb⟩ => ⟨he, ST.on h hb⟩
  have K6 : Hid (∀ W, ST n w W → Calls Try.prog 12 #[.int .u64 key, .agg #[.bool n.a.v6, .int .u64 n.a.hi, .int .u64 n.a.lo, .int .i64 n.n]] W fun e w' => e = .returned (.int .u64 (mixN key n)) ∧ ST n w w') := Lib.hid fun W h => (rnet_any key n W hk).mono fun e w' ⟨he, hb⟩ => ⟨he, ST.on h hb⟩
  have K7 : Hid (∀ W, ST n w W → Calls Try.prog 13 #[.int .u64 key, .int .i64 n.n] W fun e w' => e = .returned (.int .i64 (below key n.n)) ∧ ST n w w') := Lib.hid fun W h => (below_any key n.n W hk).mono fun e w' ⟨he, hw⟩ => ⟨he, by rw [hw]; exact h⟩
  have K8 : Hid (∀ W, ST n w W → Calls Try.prog 14 #[.int .u64 key, .int .i64 n.n] W fun e w' => e = .returned (.int .i64 (below key n.n)) ∧ ST n w w') := Lib.hid fun W h => (rbelow_any key n.n W hk).mono fun e w' ⟨he, hw⟩ => ⟨he, by rw [hw]; exact h⟩
  have K9 : Hid (∀ W, ST n w W → Calls Try.prog 6 #[] W fun e w' => e = .returned (.bool true) ∧ ST n w w') := Lib.hid fun W h => (awake10_any W).mono fun e w' ⟨he, hw⟩ => ⟨he, by rw [hw]; exact h⟩
  have hk0 : ST n w (w.alloc (.cells #[.bool n.a.v6, .int .u64 n.a.hi, .int .u64 n.a.lo, .int .i64 n.n] 27)) := ST.of (Below.refl _ _)
  have hd : (l.length : Int) ≤ 100 := by omega
  clear hn hn0
  go_enter Try.func3, Try.ntmps3
  go_wp2_with fail
  have hne : Nonempty (Cls (ST n w)) := ⟨⟨_, hk0⟩⟩
  have f0 : ∀ q : Cls (ST n w), q.w.cell? ⟨w.heap.size, 0, none⟩ = some (.bool n.a.v6) := fun q => q.h.1
  have f1 : ∀ q : Cls (ST n w), q.w.cell? ⟨w.heap.size, 1, none⟩ = some (.int .u64 n.a.hi) := fun q => q.h.2.1
  have f2 : ∀ q : Cls (ST n w), q.w.cell? ⟨w.heap.size, 2, none⟩ = some (.int .u64 n.a.lo) := fun q => q.h.2.2.1
  have f3 : ∀ q : Cls (ST n w), q.w.cell? ⟨w.heap.size, 3, none⟩ = some (.int .i64 n.n) := fun q => q.h.2.2.2.1
  refine Cls.region (ST n w) (by kernel_rfl) (by kernel_rfl) (ST.of (low_drewN hk0.2.2.2.2 1)) ?_
  repeat (go_big_quiet_step (first | (with_reducible exact Cls.call (K1.out _ (Cls.h _))) | (with_reducible exact Cls.call (K2.out _ (Cls.h _))) | (with_reducible exact Cls.call (K3.out _ (Cls.h _))) | (with_reducible exact Cls.call (K4.out _ (Cls.h _))) | (with_reducible exact Cls.call (K5.out _ (Cls.h _))) | (with_reducible exact Cls.call (K6.out _ (Cls.h _))) | (with_reducible exact Cls.call (K7.out _ (Cls.h _))) | (with_reducible exact Cls.call (K8.out _ (Cls.h _))) | (with_reducible exact Cls.call (K9.out _ (Cls.h _)))))
  refine wpQuiet_nil ?_
  intro n9
  have hk9 := n9.h
  generalize n9.w = w9 at hk9 ⊢
  clear hne n9 f0 f1 f2 f3
  go_wp2
  go_ret
  exact ⟨rfl, ST.low hk9⟩
theorem mixTells_walk (w : World) (key : Nat) (hk : key < 18446744073709551616) (v : Value) (l : List Nat) (h : Nums w v l) (hN : l.length ≤ 9223372036854775807) (hs : ∀ x ∈ l, x < 18446744073709551616) (n : Net) (hn : n.ok) :
    Calls Try.prog 3 #[.int .u64 key, v, .agg #[.bool n.a.v6, .int .u64 n.a.hi, .int .u64 n.a.lo, .int .i64 n.n]] w fun e w' => e = .returned (.bool true) ∧ Below w.heap.size w w' := by
  by_cases hl : l.length ≤ 100
  · exact tells_short w key hk v l h hl n
  · exact tells_long w key v l h (by omega) n
namespace mixTells
theorem contract (H : Type) (enc : TypeId × Value → H) (W : World) (base : Nat) (args : Array Value) (ds gs : List (DataW H)) (before : List MemPlace)
    (hval0 : ∀ (j : Nat) t v, Try.f3.params[j]? = some t → args[j]? = some v → Value.okWide Try.prog W .any base t v)
    (hW : DataW.Whole enc Try.prog Try.f3.params.toList Rows.mixTellsSpec.vars false W args.toList ds gs before) (hSh : W.ShapedOpen Try.prog) :
    Calls Try.prog 3 args W fun e W' => ∃ v, e = .returned v ∧ Rows.mixTellsSpec.post enc Try.prog Try.f3 false true false false W args v W' := by
  have hval : ∀ (j : Nat) t v, Try.f3.params[j]? = some t → args[j]? = some v → Value.okWide Try.prog W .any base t v := hval0
  have hW' := hW
  obtain ⟨p, q, hA0, hV, _, _, _⟩ := hW
  have hA : DataW.TrodAll enc Try.prog W 0 (fun _ => true) true Try.f3.params.toList args.toList ds p := hA0
  rw [Try.params3] at hA hval
  obtain ⟨v0, vs0, d0, ds0, p0, q0, hargs, rfl, rfl, h0, r0⟩ := trodAll_cons hA
  obtain ⟨v1, vs1, d1, ds1, p1, q1, rfl, rfl, rfl, h1, r1⟩ := trodAll_cons r0
  obtain ⟨v2, vs2, d2, ds2, p2, q2, rfl, rfl, rfl, h2, r2⟩ := trodAll_cons r1
  obtain ⟨rfl, rfl, rfl⟩ := trodAll_nil r2
  obtain rfl : args = #[v0, v1, v2] := by cases args; simp_all
  obtain ⟨rfl, rfl⟩ := trodVars_none hV
  obtain ⟨b0, rfl, rfl, rfl, w0⟩ := open_int Try.underlying22 (hval 0 22 v0 rfl rfl) h0
  obtain ⟨a0, rfl, z0⟩ := nat_of_u64 w0
  obtain ⟨l1, t1, n1, s1⟩ := open_nums Try.underlying23 Try.underlying22 (by kernel_rfl) (hval 1 23 v1 rfl rfl) h1
  obtain ⟨a2, z2, rfl, rfl, rfl⟩ := open_net (ta := 25) (tb := 4) (tu := 22) (ti := 3) Try.underlying27 rfl rfl Try.underlying25 (by kernel_rfl) rfl rfl (by kernel_rfl) (by kernel_rfl) (by kernel_rfl) rfl rfl rfl Try.underlying4 Try.underlying22 Try.underlying3 (hval 2 27 v2 rfl rfl) h2
  clear hA0 hval0
  refine (mixTells_walk W a0 z0 v1 l1 t1 n1 s1 a2 z2).mono fun e W' ⟨he, hg⟩ => ?_
  subst he
  exact ⟨_, rfl, post_law laidOut (by kernel_rfl) (by kernel_rfl) Try.underlying4 rfl hW' rfl rfl rfl hg⟩
set_option maxRecDepth 100000 in
theorem lifted (os : Os) (started : os.Started) (H : Type) (enc : TypeId × Value → H) (F : Stop.Interp) :
    ReturnsInHanded {} Try.checked os 3 .any ((OpenSpec.ofChange Rows.mixTellsSpec).preRow enc Try.prog Try.f3 Rows.mixTellsRow.domain false Rows.mixTellsRow.laid) (((OpenSpec.ofChange Rows.mixTellsSpec).at F).post enc Try.prog Try.f3 false true false false) := by
  refine returnsInHanded_of_row (C := Try.checked) (s := OpenSpec.ofChange Rows.mixTellsSpec) own started (by kernel_rfl) Try.func3
    (witness_laid (enc := enc) (C := Try.checked) (s := OpenSpec.ofChange Rows.mixTellsSpec) (laid := Rows.mixTellsRow.laid) #[.int .u64 0, .slice none 0 0, .agg #[.bool false, .int .u64 0, .int .u64 0, .int .i64 0]] (World.shaped_of_ZipB (by kernel_rfl) (by kernel_rfl)) (by kernel_rfl)
      (OpenSpec.preRow_of_cond 8 (x := ([.lit (.int .u64 0), .nil, .agg [.agg [.lit (.bool false), .lit (.int .u64 0), .lit (.int .u64 0)], .lit (.int .i64 0)]], [], [])) (by kernel_rfl) (by kernel_rfl) (fun k hk => by cases hk) (by kernel_rfl)
        (by rw [MakeChecks.laidMetH_plain _ _ _ (by kernel_rfl)]; exact laidMet_laidAll _ (by kernel_rfl) (by kernel_rfl)))) ?_
  intro W base args ds gs before hval hW _ hcond _ _ hsh _
  exact contract H enc W base args ds gs before hval hW hsh
theorem over : Rows.mixTellsRow.holds Try.pinned (OpenSpec.ofChange Rows.mixTellsSpec) :=
  OpenClaim.holds_of_cond 3 Try.f3 rfl rfl rfl rfl rfl rfl rfl ⟨rfl, rfl, rfl, rfl, rfl⟩ rfl rfl rfl rfl rfl (by kernel_rfl) Try.func3 (by kernel_rfl)
    (of_decide_eq_true (by kernel_rfl)) (by unfold Func.isWrapper; first | (rw [if_pos (by decide +kernel)]; kernel_rfl) | (rw [if_neg (by decide +kernel)]; exact ⟨rfl, rfl⟩))
    (fun os started H enc _ F => by rw [OpenClaim.pre_eq_preRow]; exact lifted os started H enc F)
/-- ████ THE STATEMENT ████ -/
theorem proved : Rows.MixTellsSaid := over
end mixTells
end Go.Proofs.Ytbpmdeonahdfiaa
