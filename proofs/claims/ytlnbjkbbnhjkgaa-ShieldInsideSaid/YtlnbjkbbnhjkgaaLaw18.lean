/- Of the statements of layer 18 (rank): what comes in; lists of numbers compared; a place around; the example. -/
import Derived.Test.YtlnbjkbbnhjkgaaRef18All
import Derived.Test.YtlnbjkbbnhjkgaaRankTurns
import Derived.Test.YtlnbjkbbnhjkgaaPeerDoor
import Derived.Test.YtlnbjkbbnhjkgaaRecsDoor
import Derived.Test.YtlnbjkbbnhjkgaaDoor
import Derived.Test.YtlnbjkbbnhjkgaaBox
import Derived.Deep.CutRange
import Derived.Deep.LoopGhost
import Derived.Lib.MinMax
namespace Go.Proofs.Ytlnbjkbbnhjkgaa
set_option maxRecDepth 100000
open Go.ChangeShapes Go.WideShapes Go.ChangeAt Go.RowKit
open Dec Words V4 V6 Ad Ci En Sat Ha Pe Stb Gr Mi Ra Go.Deep
set_option linter.unusedVariables false
/-- Peers that came in. -/
theorem open_peers {H : Type} {enc : TypeId × Value → H} {W : World} {v : Value} {d : DataW H} {ps : List MemPlace} {r : Reach} {b0 : Nat}
    (hval : Value.okWide Try.prog W r b0 22 v) (h : DataW.Trod enc Try.prog W 0 (fun _ => true) true 22 v d ps) : ∃ xs : List Pr, Peers W v xs ∧ xs.length ≤ 9223372036854775807 ∧ ∀ x ∈ xs, x.ok :=
  open_recs (encR := encP) (good := Pr.ok) Try.underlying22 (by kernel_rfl) (by decide) (fun _ _ _ hf hl => peer_cells hf hl) hval h
theorem neqPeer_self (x : Pr) (w : World) : (binOp .neq 42 (.agg #[.bool x.e.a.v6, .int .u64 x.e.a.hi, .int .u64 x.e.a.lo, .int .i64 x.e.n, .bool x.i, .int .i64 x.t, .int .i64 x.c.p, .int .i64 x.c.a, .int .i64 x.g, .int .i64 x.k]) (.agg #[.bool x.e.a.v6, .int .u64 x.e.a.hi, .int .u64 x.e.a.lo, .int .i64 x.e.n, .bool x.i, .int .i64 x.t, .int .i64 x.c.p, .int .i64 x.c.a, .int .i64 x.g, .int .i64 x.k])).run Try.prog w = .ok (.bool false) w := by
  have h := eqPeer_self x w
  rw [run_eql_struct] at h
  rw [run_neq_struct]
  generalize (Op.equalIn 10000 42 (.agg #[.bool x.e.a.v6, .int .u64 x.e.a.hi, .int .u64 x.e.a.lo, .int .i64 x.e.n, .bool x.i, .int .i64 x.t, .int .i64 x.c.p, .int .i64 x.c.a, .int .i64 x.g, .int .i64 x.k]) (.agg #[.bool x.e.a.v6, .int .u64 x.e.a.hi, .int .u64 x.e.a.lo, .int .i64 x.e.n, .bool x.i, .int .i64 x.t, .int .i64 x.c.p, .int .i64 x.c.a, .int .i64 x.g, .int .i64 x.k])).run Try.prog w = r at h
  cases r with
  | ok x w' =>
    simp only [Result.andThen_ok, Result.ok.injEq, Value.bool.injEq] at h ⊢
    obtain ⟨rfl, rfl⟩ := h
    exact ⟨rfl, rfl⟩
  | halt x w' => cases h
set_option maxHeartbeats 4000000 in
theorem sameInts_any (u1 u2 : Value) (L : List Nat) (w : World) (h1 : NumsI w u1 L) (h2 : NumsI w u2 L) (hl : L.length ≤ 1000000) (hL : ∀ x ∈ L, x ≤ 1000000) :
    Calls Try.prog 12 #[u1, u2] w fun e w' => e = .returned (.bool true) ∧ Below w.heap.size w w' := by
  obtain ⟨A1, c1, rfl, hc1, _, hcell1⟩ := h1
  obtain ⟨A2, c2, rfl, hc2, _, hcell2⟩ := h2
  have HC1 := Lib.hid hcell1
  have HC2 := Lib.hid hcell2
  have HLL := Lib.hid hL
  have z0 : ((L.length : Int) != (L.length : Int)) = false := by simp
  clear hcell1 hcell2 hL
  go_enter Try.func12, Try.ntmps12
  go_wp2_with fail
  go_loopw [5] (fun vi wr => ∃ i : Nat, vi = .int .i64 i ∧ i ≤ L.length ∧ Hid (Lows w wr)) (fun vi _ => L.length - (intOf vi).toNat)
  case atStart => exact ⟨0, rfl, Nat.zero_le _, Lib.hid (Lows.self _)⟩
  case round =>
    obtain ⟨i, rfl, hi, HL⟩ := hrel
    by_cases hli : i < L.length
    · have hliz : (i : Int) < (L.length : Int) := by omega
      obtain ⟨b1, o1, rfl, hb1, hcc1⟩ := HC1.out (by omega)
      obtain ⟨b2, o2, rfl, hb2, hcc2⟩ := HC2.out (by omega)
      obtain ⟨x, hx⟩ : ∃ x, x = L[i] := ⟨_, rfl⟩
      have e1 := (HL.out.cell (p := ⟨b1, o1 + i * 1 + 0, none⟩) hb1).trans (hcc1 i hli 0 (.int .i64 (L[i] : Int)) rfl)
      have e2 := (HL.out.cell (p := ⟨b2, o2 + i * 1 + 0, none⟩) hb2).trans (hcc2 i hli 0 (.int .i64 (L[i] : Int)) rfl)
      rw [Nat.mul_one, Nat.add_zero, ← hx] at e1 e2
      have zx : ((x : Int) != (x : Int)) = false := by simp
      have hne : Nonempty (Cls (Lows wr)) := ⟨⟨_, Lows.self _⟩⟩
      have f1 : ∀ nq : Cls (Lows wr), nq.w.cell? ⟨b1, o1 + i, none⟩ = some (.int .i64 (x : Int)) := fun nq => (nq.h.cell (p := ⟨b1, o1 + i, none⟩) (Nat.lt_of_lt_of_le hb1 HL.out.size)).trans e1
      have f2 : ∀ nq : Cls (Lows wr), nq.w.cell? ⟨b2, o2 + i, none⟩ = some (.int .i64 (x : Int)) := fun nq => (nq.h.cell (p := ⟨b2, o2 + i, none⟩) (Nat.lt_of_lt_of_le hb2 HL.out.size)).trans e2
      clear hx hcc1 hcc2 e1 e2 hb1 hb2
      go_wp2_with fail
      refine Cls.region (Lows wr) (by kernel_rfl) (by kernel_rfl) (low_drewN (Below.refl _ _) 1) ?_
      repeat (go_big_quiet_step (first | fail))
      refine wpQuiet_nil ?_
      intro n9
      have hk9 := n9.h
      generalize n9.w = w9 at hk9 ⊢
      clear hne n9 f1 f2
      go_wp2_with fail
      go_roundw
      case rel => exact ⟨i + 1, by go_num, by omega, Lib.hid (low_trans HL.out hk9)⟩
      case measure => simp [intOf]; omega
    · have hliz : ¬ (i : Int) < (L.length : Int) := by omega
      go_wp2_with fail
      go_ret
      exact ⟨rfl, HL.out⟩
def l18 : List Pr := [⟨⟨⟨false, 0, 1⟩, 1⟩, true, 0, ⟨0, 0⟩, 0, 0⟩, ⟨⟨⟨false, 0, 1⟩, 2⟩, true, 0, ⟨0, 0⟩, 5, 0⟩, ⟨⟨⟨false, 0, 1⟩, 3⟩, true, 0, ⟨0, 0⟩, 3, 0⟩]
theorem l18_ok : ∀ x ∈ l18, x.ok := by
  intro x hx
  simp only [l18, List.mem_cons, List.not_mem_nil, or_false] at hx
  rcases hx with rfl | rfl | rfl <;> exact ⟨⟨⟨by decide, by decide⟩, by decide, by decide⟩, by decide, ⟨by decide, by decide⟩, by decide, by decide⟩
theorem l18_ord : ordR l18 2 7 = [2, 1] := by
  refine ordR_is (by decide +kernel) fun x => ?_
  by_cases h : x < 3
  · have : x = 0 ∨ x = 1 ∨ x = 2 := by omega
    rcases this with rfl | rfl | rfl <;> decide +kernel
  · constructor
    · intro hx
      simp only [List.mem_cons, List.not_mem_nil, or_false] at hx
      omega
    · intro hx
      have : x < 3 := hx.1
      omega
theorem l18_first : firstR l18 2 9 7 = [2, 1] := by
  unfold firstR
  rw [l18_ord]; rfl
end Go.Proofs.Ytlnbjkbbnhjkgaa
