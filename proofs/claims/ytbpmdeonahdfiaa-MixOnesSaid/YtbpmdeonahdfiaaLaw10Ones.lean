/- The second statement of layer 10, proved: numbers are mixed to one number just if they are one, alone and as the last of a list; for all numbers and lists. -/
import Derived.Test.YtbpmdeonahdfiaaLaw10
import Derived.Test.YtbpmdeonahdfiaaMixDoor
namespace Go.Proofs.Ytbpmdeonahdfiaa
set_option maxRecDepth 100000
open Go.ChangeShapes Go.WideShapes Go.ChangeAt Go.RowKit
open Ad Ci Mi
set_option linter.unusedVariables false
set_option maxHeartbeats 2000000 in
theorem ones_long (w : World) (a : Nat) (b : Nat) (v : Value) (l : List Nat) (h : Nums w v l) (hl : 100 < l.length) :
    Calls Try.prog 4 #[.int .u64 a, .int .u64 b, v] w fun e w' => e = .returned (.bool true) ∧ Below w.heap.size w w' := by
  obtain ⟨A, c, rfl, _, _, _⟩ := h
  have hd : (100 : Int) < (l.length : Int) := by omega
  have T2 := Lib.hid awake10_any
  go_enter Try.func4, Try.ntmps4
  go_wp2_with fail
  (with_reducible refine (T2.out _).mono ?_)
  rintro e w1 ⟨rfl, rfl⟩
  go_wp2_with fail
  go_ret
  exact ⟨rfl, Below.refl _ _⟩
set_option maxHeartbeats 8000000 in
theorem ones_short (w : World) (a : Nat) (ha : a < 18446744073709551616) (b : Nat) (hb : b < 18446744073709551616) (v : Value) (l : List Nat) (h : Nums w v l) (hl : l.length ≤ 100) :
    Calls Try.prog 4 #[.int .u64 a, .int .u64 b, v] w fun e w' => e = .returned (.bool true) ∧ Below w.heap.size w w' := by
  obtain ⟨v1, w1, v2, w2, r1, r2, n2, b2⟩ := list_last w v l a h hl
  obtain ⟨v3, w3, v4, w4, r3, r4, n4, b4⟩ := list_last w2 v l b (h.below b2) hl
  have T1 := Lib.hid awake10_any
  have O1 := Lib.hid (fun W => one_any a W ha)
  have O2 := Lib.hid (fun W => one_any b W hb)
  have M1 : Hid (Calls Try.prog 9 #[.int .u64 7, v2] w4 fun e w' => e = .returned (.int .u64 (mix 7 (l ++ [a]) : Nat)) ∧ w' = w4) := Lib.hid (of_any 7 v2 (l ++ [a]) w4 (by decide) (n2.below b4) (by simp; omega))
  have M2 : Hid (Calls Try.prog 9 #[.int .u64 7, v4] w4 fun e w' => e = .returned (.int .u64 (mix 7 (l ++ [b]) : Nat)) ∧ w' = w4) := Lib.hid (of_any 7 v4 (l ++ [b]) w4 (by decide) n4 (by simp; omega))
  have E1 : (((one a : Nat) : Int) == ((one b : Nat) : Int)) = ((a : Int) == (b : Int)) := by rw [Bool.eq_iff_iff, beq_iff_eq, beq_iff_eq]; have := one_iff ha hb; omega
  have E2 : (((mix 7 (l ++ [a]) : Nat) : Int) == ((mix 7 (l ++ [b]) : Nat) : Int)) = ((a : Int) == (b : Int)) := by rw [Bool.eq_iff_iff, beq_iff_eq, beq_iff_eq]; have := mix_iff 7 l ha hb; omega
  have hlow : Hid (Below w.heap.size w w4) := Lib.hid (low_trans b2 b4)
  obtain ⟨A, c, rfl, _, _, _⟩ := h
  have hd : (l.length : Int) ≤ 100 := by omega
  have R1 := Lib.hid r1
  have R2 := Lib.hid r2
  have R3 := Lib.hid r3
  have R4 := Lib.hid r4
  clear n2 n4 b2 b4 r1 r2 r3 r4
  go_enter Try.func4, Try.ntmps4
  go_wp2_with (first
    | (at_builtin; refine wpList_append_run rfl (.tmp 13) (.tmp 14) _ _ rfl rfl _ _ _ _ rfl rfl R1.out ?_)
    | (at_builtin; refine wpList_append_run rfl (.tmp 15) (.tmp 17) _ _ rfl rfl _ _ _ _ rfl rfl R2.out ?_)
    | (at_builtin; refine wpList_append_run rfl (.tmp 19) (.tmp 20) _ _ rfl rfl _ _ _ _ rfl rfl R3.out ?_)
    | (at_builtin; refine wpList_append_run rfl (.tmp 21) (.tmp 23) _ _ rfl rfl _ _ _ _ rfl rfl R4.out ?_)
    | fail)
  (with_reducible refine (O1.out _).mono ?_)
  rintro e w5 ⟨rfl, rfl⟩
  go_wp2_with fail
  (with_reducible refine (O2.out _).mono ?_)
  rintro e w6 ⟨rfl, rfl⟩
  go_wp2_with fail
  (with_reducible refine M1.out.mono ?_)
  rintro e w7 ⟨rfl, rfl⟩
  go_wp2_with fail
  (with_reducible refine M2.out.mono ?_)
  rintro e w8 ⟨rfl, rfl⟩
  go_wp2_with fail
  (with_reducible refine (T1.out _).mono ?_)
  rintro e w9 ⟨rfl, rfl⟩
  go_wp2_with fail
  go_ret
  exact ⟨rfl, hlow.out⟩
theorem mixOnes_walk (w : World) (a : Nat) (ha : a < 18446744073709551616) (b : Nat) (hb : b < 18446744073709551616) (v : Value) (l : List Nat) (h : Nums w v l) (hN : l.length ≤ 9223372036854775807) (hs : ∀ x ∈ l, x < 18446744073709551616) :
    Calls Try.prog 4 #[.int .u64 a, .int .u64 b, v] w fun e w' => e = .returned (.bool true) ∧ Below w.heap.size w w' := by
  by_cases hl : l.length ≤ 100
  · exact ones_short w a ha b hb v l h hl
  · exact ones_long w a b v l h (by omega)
namespace mixOnes
theorem contract (H : Type) (enc : TypeId × Value → H) (W : World) (base : Nat) (args : Array Value) (ds gs : List (DataW H)) (before : List MemPlace)
    (hval0 : ∀ (j : Nat) t v, Try.f4.params[j]? = some t → args[j]? = some v → Value.okWide Try.prog W .any base t v)
    (hW : DataW.Whole enc Try.prog Try.f4.params.toList Rows.mixOnesSpec.vars false W args.toList ds gs before) (hSh : W.ShapedOpen Try.prog) :
    Calls Try.prog 4 args W fun e W' => ∃ v, e = .returned v ∧ Rows.mixOnesSpec.post enc Try.prog Try.f4 false true false false W args v W' := by
  have hval : ∀ (j : Nat) t v, Try.f4.params[j]? = some t → args[j]? = some v → Value.okWide Try.prog W .any base t v := hval0
  have hW' := hW
  obtain ⟨p, q, hA0, hV, _, _, _⟩ := hW
  have hA : DataW.TrodAll enc Try.prog W 0 (fun _ => true) true Try.f4.params.toList args.toList ds p := hA0
  rw [Try.params4] at hA hval
  obtain ⟨v0, vs0, d0, ds0, p0, q0, hargs, rfl, rfl, h0, r0⟩ := trodAll_cons hA
  obtain ⟨v1, vs1, d1, ds1, p1, q1, rfl, rfl, rfl, h1, r1⟩ := trodAll_cons r0
  obtain ⟨v2, vs2, d2, ds2, p2, q2, rfl, rfl, rfl, h2, r2⟩ := trodAll_cons r1
  obtain ⟨rfl, rfl, rfl⟩ := trodAll_nil r2
  obtain rfl : args = #[v0, v1, v2] := by cases args; simp_all
  obtain ⟨rfl, rfl⟩ := trodVars_none hV
  obtain ⟨b0, rfl, rfl, rfl, w0⟩ := open_int Try.underlying22 (hval 0 22 v0 rfl rfl) h0
  obtain ⟨a0, rfl, z0⟩ := nat_of_u64 w0
  obtain ⟨b1, rfl, rfl, rfl, w1⟩ := open_int Try.underlying22 (hval 1 22 v1 rfl rfl) h1
  obtain ⟨a1, rfl, z1⟩ := nat_of_u64 w1
  obtain ⟨l2, t2, n2, s2⟩ := open_nums Try.underlying23 Try.underlying22 (by kernel_rfl) (hval 2 23 v2 rfl rfl) h2
  clear hA0 hval0
  refine (mixOnes_walk W a0 z0 a1 z1 v2 l2 t2 n2 s2).mono fun e W' ⟨he, hg⟩ => ?_
  subst he
  exact ⟨_, rfl, post_law laidOut (by kernel_rfl) (by kernel_rfl) Try.underlying4 rfl hW' rfl rfl rfl hg⟩
set_option maxRecDepth 100000 in
theorem lifted (os : Os) (started : os.Started) (H : Type) (enc : TypeId × Value → H) (F : Stop.Interp) :
    ReturnsInHanded {} Try.checked os 4 .any ((OpenSpec.ofChange Rows.mixOnesSpec).preRow enc Try.prog Try.f4 Rows.mixOnesRow.domain false Rows.mixOnesRow.laid) (((OpenSpec.ofChange Rows.mixOnesSpec).at F).post enc Try.prog Try.f4 false true false false) := by
  refine returnsInHanded_of_row (C := Try.checked) (s := OpenSpec.ofChange Rows.mixOnesSpec) own started (by kernel_rfl) Try.func4
    (witness_laid (enc := enc) (C := Try.checked) (s := OpenSpec.ofChange Rows.mixOnesSpec) (laid := Rows.mixOnesRow.laid) #[.int .u64 0, .int .u64 0, .slice none 0 0] (World.shaped_of_ZipB (by kernel_rfl) (by kernel_rfl)) (by kernel_rfl)
      (OpenSpec.preRow_of_cond 8 (x := ([.lit (.int .u64 0), .lit (.int .u64 0), .nil], [], [])) (by kernel_rfl) (by kernel_rfl) (fun k hk => by cases hk) (by kernel_rfl)
        (by rw [MakeChecks.laidMetH_plain _ _ _ (by kernel_rfl)]; exact laidMet_laidAll _ (by kernel_rfl) (by kernel_rfl)))) ?_
  intro W base args ds gs before hval hW _ hcond _ _ hsh _
  exact contract H enc W base args ds gs before hval hW hsh
theorem over : Rows.mixOnesRow.holds Try.pinned (OpenSpec.ofChange Rows.mixOnesSpec) :=
  OpenClaim.holds_of_cond 4 Try.f4 rfl rfl rfl rfl rfl rfl rfl ⟨rfl, rfl, rfl, rfl, rfl⟩ rfl rfl rfl rfl rfl (by kernel_rfl) Try.func4 (by kernel_rfl)
    (of_decide_eq_true (by kernel_rfl)) (by unfold Func.isWrapper; first | (rw [if_pos (by decide +kernel)]; kernel_rfl) | (rw [if_neg (by decide +kernel)]; exact ⟨rfl, rfl⟩))
    (fun os started H enc _ F => by rw [OpenClaim.pre_eq_preRow]; exact lifted os started H enc F)
/-- ████ THE STATEMENT ████ -/
theorem proved : Rows.MixOnesSaid := over
end mixOnes
end Go.Proofs.Ytbpmdeonahdfiaa
