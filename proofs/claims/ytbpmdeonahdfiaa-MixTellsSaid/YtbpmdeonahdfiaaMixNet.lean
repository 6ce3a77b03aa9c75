/- Contracts of package mix, and of the document's own answers for layer 10: subnets that are mixed. -/
import Derived.Test.YtbpmdeonahdfiaaMix
import Derived.Test.YtbpmdeonahdfiaaCidrAll
import Derived.Deep.RegionHeld3
namespace Go.Proofs.Ytbpmdeonahdfiaa.Mi
set_option maxRecDepth 100000
open Go.ChangeShapes Go.WideShapes Go.ChangeAt Go.RowKit
open Ad Ci
set_option linter.unusedVariables false
def kindN (v6 : Bool) : Nat := if v6 then 6 else 4
def bitsN (n : Int) : Nat := (n % 18446744073709551616).toNat
def mixN (key : Nat) (n : Net) : Nat := mix key [kindN n.a.v6, n.a.hi, n.a.lo, bitsN n.n]
theorem mixN_lt (key : Nat) (n : Net) : mixN key n < 18446744073709551616 := mix_lt _ _
theorem bits_walk (n : Int) : IntKind.u64.wrap n = ((bitsN n : Nat) : Int) := by rw [IntKind.wrap_u64]; unfold bitsN; omega
theorem kind_any (a : Adr) (w : World) : Calls Try.prog 16 #[.agg #[.bool a.v6, .int .u64 a.hi, .int .u64 a.lo]] w fun e w' => e = .returned (.int .u64 (kindN a.v6)) ∧ Below w.heap.size w w' := by
  obtain ⟨v, hi, lo⟩ := a
  cases v
  · go_enter Try.func16, Try.ntmps16
    go_wp2_with fail
    go_ret
    exact ⟨rfl, (Below.refl _ _).alloc (Nat.le_refl _) _⟩
  · go_enter Try.func16, Try.ntmps16
    go_wp2_with fail
    go_ret
    exact ⟨rfl, (Below.refl _ _).alloc (Nat.le_refl _) _⟩
theorem ST.low {n : Net} {w w1 : World} (h : ST n w w1) : Below w.heap.size w w1 := ((Below.refl _ _).alloc (Nat.le_refl _) _).trans (h.2.2.2.2.mono (by simp))
theorem ST.on {n : Net} {w w1 w2 : World} (h : ST n w w1) (k : Below w1.heap.size w1 w2) : ST n w w2 := ST.of (low_trans h.2.2.2.2 k)
theorem nums4 (W : World) (a b c d : Nat) : Nums (W.alloc (.cells #[.int .u64 a, .int .u64 b, .int .u64 c, .int .u64 d] 22)) (.slice (some ⟨W.heap.size, 0, none⟩) 4 4) [a, b, c, d] := Nums.lit W [a, b, c, d] _ _ rfl
set_option maxHeartbeats 2000000 in
theorem net_any (key : Nat) (n : Net) (w : World) (hkey : key < 18446744073709551616) : Calls Try.prog 11 #[.int .u64 key, .agg #[.bool n.a.v6, .int .u64 n.a.hi, .int .u64 n.a.lo, .int .i64 n.n]] w fun e w' => e = .returned (.int .u64 (mixN key n)) ∧ Below w.heap.size w w' := by
  have K1 : Hid (∀ W, ST n w W → Calls Try.prog 16 #[.agg #[.bool n.a.v6, .int .u64 n.a.hi, .int .u64 n.a.lo]] W fun e w' => e = .returned (.int .u64 (kindN n.a.v6)) ∧ ST n w w') := Lib.hid fun W h => (kind_any n.a W).mono fun e w' ⟨he, hb⟩ => ⟨he, ST.on h hb⟩
  have K2 : Hid (∀ W : World, ST n w W → Calls Try.prog 9 #[.int .u64 key, .slice (some ⟨W.heap.size, 0, none⟩) 4 4] (W.alloc (.cells #[.int .u64 (kindN n.a.v6), .int .u64 n.a.hi, .int .u64 n.a.lo, .int .u64 (bitsN n.n)] 22)) fun e w' => e = .returned (.int .u64 (mixN key n)) ∧ ST n w w') := Lib.hid fun W h =>
    (of_any key _ _ _ hkey (nums4 W _ _ _ _) (by simp)).mono fun e w' ⟨he, hw⟩ => ⟨he, by rw [hw]; exact ST.on h ((Below.refl _ _).alloc (Nat.le_refl _) _)⟩
  have JD : Hid (∀ W, ST n w W → ST n w W.drew) := Lib.hid fun W h => ST.of (low_drewN h.2.2.2.2 1)
  have JA : Hid (∀ W o, ST n w W → ST n w (W.alloc o)) := Lib.hid fun W o h => ST.of (Below.alloc h.2.2.2.2 (Below.size h.2.2.2.2) o)
  have e0 := bits_walk n.n
  have hk0 : ST n w (w.alloc (.cells #[.bool n.a.v6, .int .u64 n.a.hi, .int .u64 n.a.lo, .int .i64 n.n] 27)) := ST.of (Below.refl _ _)
  obtain ⟨c0, c1, c2, c3, hs⟩ := id hk0
  go_enter Try.func11, Try.ntmps11
  go_wp2_with fail
  go_region_held3 (fun w' => w'.cell? ⟨w.heap.size, 0, none⟩ = some (.bool n.a.v6) ∧ w'.cell? ⟨w.heap.size, 1, none⟩ = some (.int .u64 n.a.hi) ∧ w'.cell? ⟨w.heap.size, 2, none⟩ = some (.int .u64 n.a.lo) ∧ w'.cell? ⟨w.heap.size, 3, none⟩ = some (.int .i64 n.n) ∧ Stays (w.alloc (.cells #[.bool n.a.v6, .int .u64 n.a.hi, .int .u64 n.a.lo, .int .i64 n.n] 27)) w')
    (first | assumption | exact JD.out _ ‹_› | exact JA.out _ _ ‹_›)
    (first
      | (go_at_call 16; (with_reducible refine (K1.out _ ‹_›).mono ?_); rintro e w9 ⟨rfl, hkw⟩)
      | (go_at_call 9; refine (K2.out _ ‹_›).mono ?_; rintro e w9 ⟨rfl, hkw⟩))
  all_goals (go_wp2; go_ret; exact ⟨rfl, ST.low (‹ST n w _›)⟩)
set_option maxHeartbeats 2000000 in
theorem rnet_any (key : Nat) (n : Net) (w : World) (hkey : key < 18446744073709551616) : Calls Try.prog 12 #[.int .u64 key, .agg #[.bool n.a.v6, .int .u64 n.a.hi, .int .u64 n.a.lo, .int .i64 n.n]] w fun e w' => e = .returned (.int .u64 (mixN key n)) ∧ Below w.heap.size w w' := by
  obtain ⟨⟨v, hi, lo⟩, m⟩ := n
  have e0 := bits_walk m
  have K2 : Hid (∀ (W : World) (b : Nat), b = W.heap.size → Calls Try.prog 10 #[.int .u64 key, .slice (some ⟨b, 0, none⟩) 4 4] (W.alloc (.cells #[.int .u64 (kindN v), .int .u64 hi, .int .u64 lo, .int .u64 (bitsN m)] 22)) fun e w' => e = .returned (.int .u64 (mixN key ⟨⟨v, hi, lo⟩, m⟩)) ∧ Below W.heap.size W w') := Lib.hid fun W b hb => by
    subst hb
    exact (rof_any key _ _ _ hkey (nums4 W _ _ _ _) (by simp)).mono fun e w' ⟨he, hw⟩ => ⟨he, by rw [hw]; exact (Below.refl _ _).alloc (Nat.le_refl _) _⟩
  cases v
  · rw [show ((kindN false : Nat) : Int) = 4 from rfl] at K2
    go_enter Try.func12, Try.ntmps12
    go_wp2_with fail
    (with_reducible refine (K2.out _ _ (by simp)).mono ?_)
    rintro e w1 ⟨rfl, hb⟩
    go_wp2_with fail
    go_ret
    exact ⟨rfl, low_trans ((Below.refl _ _).alloc (Nat.le_refl _) _) hb⟩
  · rw [show ((kindN true : Nat) : Int) = 6 from rfl] at K2
    go_enter Try.func12, Try.ntmps12
    go_wp2_with fail
    (with_reducible refine (K2.out _ _ (by simp)).mono ?_)
    rintro e w1 ⟨rfl, hb⟩
    go_wp2_with fail
    go_ret
    exact ⟨rfl, low_trans ((Below.refl _ _).alloc (Nat.le_refl _) _) hb⟩
end Go.Proofs.Ytbpmdeonahdfiaa.Mi
