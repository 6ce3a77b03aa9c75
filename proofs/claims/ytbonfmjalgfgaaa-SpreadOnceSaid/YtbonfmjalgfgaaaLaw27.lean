/- Of the statements of layer 27 (spread): the example. -/
import Derived.Test.YtbonfmjalgfgaaaSpreadFree
import Derived.Test.YtbonfmjalgfgaaaRef27Take
import Derived.Test.YtbonfmjalgfgaaaRef27Free
import Derived.Test.YtbonfmjalgfgaaaLaw26
import Derived.Test.YtbonfmjalgfgaaaAddrDoor
import Derived.Deep.RegionHeld3
namespace Go.Proofs.Ytbonfmjalgfgaaa
set_option maxRecDepth 100000
open Go.ChangeShapes Go.WideShapes Go.ChangeAt Go.RowKit
open Ad Ci En Gr Pe Et Ra Bo Sp Go.Deep
set_option linter.unusedVariables false
def e27 : Ey := ⟨⟨⟨false, 0, 167838211⟩, 80⟩, 2, 0, 0⟩
theorem e27_ok : e27.ok := ⟨⟨⟨by decide, by decide⟩, by decide, by decide⟩, by unfold Bk.i64B; decide, by unfold Bk.i64B; decide, by unfold Bk.i64B; decide⟩
theorem e27_all : ∀ x ∈ [e27], x.ok := fun x hx => by rw [List.mem_singleton] at hx; subst hx; exact e27_ok
theorem none_all : ∀ x ∈ ([] : List Pe.Pr), x.ok := fun x hx => absurd hx List.not_mem_nil
set_option maxHeartbeats 8000000 in
theorem awake27_any (w : World) : Calls Try.prog 5 #[] w fun e w' => e = .returned (.bool true) ∧ Below w.heap.size w w' := by
  have L0 : Hid (Below w.heap.size w (w.alloc (.cells #[.bool false, .int .u64 0, .int .u64 167838211, .int .i64 80, .int .i64 2, .int .i64 0, .int .i64 0] 36))) := Lib.hid ((Below.refl _ _).alloc (Nat.le_refl _) _)
  have HB : Hid (∀ W, Below (w.alloc (.cells #[.bool false, .int .u64 0, .int .u64 167838211, .int .i64 80, .int .i64 2, .int .i64 0, .int .i64 0] 36)).heap.size (w.alloc (.cells #[.bool false, .int .u64 0, .int .u64 167838211, .int .i64 80, .int .i64 2, .int .i64 0, .int .i64 0] 36)) W → Books W (.slice (some ⟨w.heap.size, 0, none⟩) 1 1) [e27]) := Lib.hid fun W k => Recs.below (Blk.reads (m := 1) encY_len7 (Blk.new w #[.bool false, .int .u64 0, .int .u64 167838211, .int .i64 80, .int .i64 2, .int .i64 0, .int .i64 0] 36) (by rfl) rfl (Nat.le_refl _)) k
  have K1 : Hid (∀ W, Below (w.alloc (.cells #[.bool false, .int .u64 0, .int .u64 167838211, .int .i64 80, .int .i64 2, .int .i64 0, .int .i64 0] 36)).heap.size (w.alloc (.cells #[.bool false, .int .u64 0, .int .u64 167838211, .int .i64 80, .int .i64 2, .int .i64 0, .int .i64 0] 36)) W → Calls Try.prog 7 #[.slice none 0 0, .slice (some ⟨w.heap.size, 0, none⟩) 1 1] W fun e w' => ∃ A c, e = .returned (.slice A 1 c) ∧ Below W.heap.size W w') := Lib.hid fun W k => by
    refine (takenN_any (.slice none 0 0) _ [] [e27] W (Recs.nil _ _ _) (HB.out W k) (by decide) (by decide) none_all e27_all).mono ?_
    rintro e w' ⟨u, he, hn, hb⟩
    rw [show takR [] [e27] = [groupN e27.e.a] from by decide +kernel] at hn
    obtain ⟨A, c, rfl, _⟩ := hn
    exact ⟨A, c, he, hb⟩
  have K2 : Hid (∀ W (a : Adr) (q : Bool), a.ok → freeR [] [e27] a = q → Below (w.alloc (.cells #[.bool false, .int .u64 0, .int .u64 167838211, .int .i64 80, .int .i64 2, .int .i64 0, .int .i64 0] 36)).heap.size (w.alloc (.cells #[.bool false, .int .u64 0, .int .u64 167838211, .int .i64 80, .int .i64 2, .int .i64 0, .int .i64 0] 36)) W → Calls Try.prog 9 #[.slice none 0 0, .slice (some ⟨w.heap.size, 0, none⟩) 1 1, .agg #[.bool a.v6, .int .u64 a.hi, .int .u64 a.lo]] W fun e w' => e = .returned (.bool q) ∧ Below W.heap.size W w') := Lib.hid fun W a q ha hq k => by
    rw [← hq]
    exact freeN_any (.slice none 0 0) _ [] [e27] a W (Recs.nil _ _ _) (HB.out W k) (by decide) (by decide) none_all e27_all ha
  have K3 : Hid (∀ W, Below (w.alloc (.cells #[.bool false, .int .u64 0, .int .u64 167838211, .int .i64 80, .int .i64 2, .int .i64 0, .int .i64 0] 36)).heap.size (w.alloc (.cells #[.bool false, .int .u64 0, .int .u64 167838211, .int .i64 80, .int .i64 2, .int .i64 0, .int .i64 0] 36)) W → Calls Try.prog 9 #[.slice none 0 0, .slice (some ⟨w.heap.size, 0, none⟩) 1 1, .agg #[.bool false, .int .u64 0, .int .u64 167840009]] W fun e w' => e = .returned (.bool false) ∧ Below W.heap.size W w') := Lib.hid fun W k => K2.out W ⟨false, 0, 167840009⟩ false ⟨by decide, by decide⟩ (by decide +kernel) k
  have K4 : Hid (∀ W, Below (w.alloc (.cells #[.bool false, .int .u64 0, .int .u64 167838211, .int .i64 80, .int .i64 2, .int .i64 0, .int .i64 0] 36)).heap.size (w.alloc (.cells #[.bool false, .int .u64 0, .int .u64 167838211, .int .i64 80, .int .i64 2, .int .i64 0, .int .i64 0] 36)) W → Calls Try.prog 9 #[.slice none 0 0, .slice (some ⟨w.heap.size, 0, none⟩) 1 1, .agg #[.bool false, .int .u64 0, .int .u64 167903233]] W fun e w' => e = .returned (.bool true) ∧ Below W.heap.size W w') := Lib.hid fun W k => K2.out W ⟨false, 0, 167903233⟩ true ⟨by decide, by decide⟩ (by decide +kernel) k
  have M1 := Lib.hid (K1.out _ (Below.refl _ _))
  clear K1 K2 HB
  go_enter Try.func5, Try.ntmps5
  go_wp2_with fail
  refine M1.out.mono ?_; rintro e w1 ⟨A, c, rfl, hb1⟩
  have M2 := Lib.hid (K3.out _ hb1)
  have L1 := Lib.hid hb1
  clear hb1 M1 K3
  go_wp2_with fail
  refine M2.out.mono ?_; rintro e w2 ⟨rfl, hb2⟩
  have L2 := Lib.hid (low_trans L1.out hb2)
  have M3 := Lib.hid (K4.out _ L2.out)
  clear hb2 M2 K4 L1
  go_wp2_with fail
  refine M3.out.mono ?_; rintro e w3 ⟨rfl, hb3⟩
  have L3 := Lib.hid (low_trans L0.out (low_trans L2.out hb3))
  clear hb3 M3 L2
  go_wp2_with fail
  go_ret
  exact ⟨rfl, L3.out⟩
end Go.Proofs.Ytbonfmjalgfgaaa
