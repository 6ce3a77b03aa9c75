/- Of the statements of layer 10: the example. -/
import Derived.Test.YtbpmdeonahdfiaaMixNet
import Derived.Test.YtbpmdeonahdfiaaCls
import Derived.Deep.RegionHeld3
namespace Go.Proofs.Ytbpmdeonahdfiaa
set_option maxRecDepth 100000
open Go.ChangeShapes Go.WideShapes Go.ChangeAt Go.RowKit
open Ad Ci Mi
set_option linter.unusedVariables false
set_option maxHeartbeats 2000000 in
theorem awake10_any (w : World) : Calls Try.prog 6 #[] w fun e w' => e = .returned (.bool true) ∧ w' = w := by
  have T0 : Hid (∀ W, Calls Try.prog 7 #[.int .u64 0] W fun e w' => e = .returned (.int .u64 0) ∧ w' = W) := Lib.hid (fun W => by have h := one_any 0 W (by decide); rw [show one 0 = 0 from by decide +kernel] at h; exact h)
  have T1 : Hid (∀ W, Calls Try.prog 7 #[.int .u64 1] W fun e w' => e = .returned (.int .u64 6238072747940578789) ∧ w' = W) := Lib.hid (fun W => by have h := one_any 1 W (by decide); rw [show one 1 = 6238072747940578789 from by decide +kernel] at h; exact h)
  have T2 : Hid (∀ W, Calls Try.prog 7 #[.int .u64 2] W fun e w' => e = .returned (.int .u64 15839785061582574730) ∧ w' = W) := Lib.hid (fun W => by have h := one_any 2 W (by decide); rw [show one 2 = 15839785061582574730 from by decide +kernel] at h; exact h)
  have T3 : Hid (∀ W, Calls Try.prog 13 #[.int .u64 9223372036854775808, .int .i64 10] W fun e w' => e = .returned (.int .i64 5) ∧ w' = W) := Lib.hid (fun W => by have h := below_any 9223372036854775808 10 W (by decide); rw [show below 9223372036854775808 10 = 5 from by decide +kernel] at h; exact h)
  have T4 : Hid (∀ W, Calls Try.prog 9 #[.int .u64 1, .slice none 0 0] W fun e w' => e = .returned (.int .u64 10451216379200822465) ∧ w' = W) := Lib.hid (fun W => by have h := of_any 1 _ [] W (by decide) (Nums.nil W) (by decide); rw [show mix 1 [] = 10451216379200822465 from by decide +kernel] at h; exact h)
  have T5 : Hid (∀ W, Calls Try.prog 9 #[.int .u64 2, .slice none 0 0] W fun e w' => e = .returned (.int .u64 10905525725756348110) ∧ w' = W) := Lib.hid (fun W => by have h := of_any 2 _ [] W (by decide) (Nums.nil W) (by decide); rw [show mix 2 [] = 10905525725756348110 from by decide +kernel] at h; exact h)
  go_enter Try.func6, Try.ntmps6
  go_wp2_with fail
  (with_reducible refine (T0.out _).mono ?_)
  rintro e w0 ⟨rfl, rfl⟩
  go_wp2_with fail
  (with_reducible refine (T1.out _).mono ?_)
  rintro e w1 ⟨rfl, rfl⟩
  go_wp2_with fail
  (with_reducible refine (T2.out _).mono ?_)
  rintro e w2 ⟨rfl, rfl⟩
  go_wp2_with fail
  (with_reducible refine (T3.out _).mono ?_)
  rintro e w3 ⟨rfl, rfl⟩
  go_wp2_with fail
  (with_reducible refine (T4.out _).mono ?_)
  rintro e w4 ⟨rfl, rfl⟩
  go_wp2_with fail
  (with_reducible refine (T5.out _).mono ?_)
  rintro e w5 ⟨rfl, rfl⟩
  go_wp2_with fail
  go_ret
  exact ⟨rfl, rfl⟩
end Go.Proofs.Ytbpmdeonahdfiaa
