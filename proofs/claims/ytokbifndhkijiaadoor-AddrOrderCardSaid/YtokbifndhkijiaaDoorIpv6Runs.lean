/- Contracts of package ipv6: groups and numbers. -/
import Derived.Test.YtokbifndhkijiaaDoorIpv6Low
import Derived.Deep.MidRow
namespace Go.Proofs.YtokbifndhkijiaaDoor.V6
set_option maxRecDepth 100000
open Go.ChangeShapes Go.WideShapes Go.ChangeAt Go.RowKit
open Dec Words V4
set_option linter.unusedVariables false
theorem and16 (m : Nat) (h : m < 18446744073709551616) : wrap64 (bits .and .u64 (m : Int) 65535) = ((m % 65536 : Nat) : Int) := by
  have e := u64_and_nat m 65535 h (by omega)
  have e2 : m &&& 65535 = m % 65536 := Nat.and_two_pow_sub_one_eq_mod m 16
  rw [show ((65535 : Nat) : Int) = 65535 from rfl] at e
  rw [e, e2]
  unfold wrap64; omega
theorem gr_walk (hi lo : Nat) (h1 : hi < 18446744073709551616) (h2 : lo < 18446744073709551616) :
    (#[Value.int IntKind.i64 (wrap64 (bits BinOp.and IntKind.u64 ((hi : Int) / 65536 / 65536 / 65536) 65535)), Value.int IntKind.i64 (wrap64 (bits BinOp.and IntKind.u64 ((hi : Int) / 65536 / 65536) 65535)),
      Value.int IntKind.i64 (wrap64 (bits BinOp.and IntKind.u64 ((hi : Int) / 65536) 65535)), Value.int IntKind.i64 (wrap64 (bits BinOp.and IntKind.u64 (hi : Int) 65535)),
      Value.int IntKind.i64 (wrap64 (bits BinOp.and IntKind.u64 ((lo : Int) / 65536 / 65536 / 65536) 65535)), Value.int IntKind.i64 (wrap64 (bits BinOp.and IntKind.u64 ((lo : Int) / 65536 / 65536) 65535)),
      Value.int IntKind.i64 (wrap64 (bits BinOp.and IntKind.u64 ((lo : Int) / 65536) 65535)), Value.int IntKind.i64 (wrap64 (bits BinOp.and IntKind.u64 (lo : Int) 65535))] : Array Value) = ((gr hi lo).map intV).toArray := by
  have e (a : Nat) (h : a < 18446744073709551616) : wrap64 (bits BinOp.and IntKind.u64 ((a : Int) / 65536 / 65536 / 65536) 65535) = ((a / 281474976710656 % 65536 : Nat) : Int) ∧ wrap64 (bits BinOp.and IntKind.u64 ((a : Int) / 65536 / 65536) 65535) = ((a / 4294967296 % 65536 : Nat) : Int)
      ∧ wrap64 (bits BinOp.and IntKind.u64 ((a : Int) / 65536) 65535) = ((a / 65536 % 65536 : Nat) : Int) ∧ wrap64 (bits BinOp.and IntKind.u64 (a : Int) 65535) = ((a % 65536 : Nat) : Int) := by
    refine ⟨?_, ?_, ?_, and16 a h⟩
    · rw [show ((a : Int) / 65536 / 65536 / 65536) = ((a / 281474976710656 : Nat) : Int) by omega]; exact and16 _ (by omega)
    · rw [show ((a : Int) / 65536 / 65536) = ((a / 4294967296 : Nat) : Int) by omega]; exact and16 _ (by omega)
    · rw [show ((a : Int) / 65536) = ((a / 65536 : Nat) : Int) by omega]; exact and16 _ (by omega)
  obtain ⟨a1, a2, a3, a4⟩ := e hi h1
  obtain ⟨b1, b2, b3, b4⟩ := e lo h2
  rw [a1, a2, a3, a4, b1, b2, b3, b4]
  rfl
set_option maxHeartbeats 2000000 in
theorem apart_any (hi lo : Nat) (w : World) (h1 : hi < 18446744073709551616) (h2 : lo < 18446744073709551616) : Calls Tryd.prog 44 #[.int .u64 hi, .int .u64 lo] w fun e w' => e = .returned (.agg ((gr hi lo).map intV).toArray) ∧ Below w.heap.size w w' := by
  rw [← gr_walk hi lo h1 h2]
  go_enter Tryd.func44, Tryd.ntmps44
  go_wp2
  go_rounds 5
  go_returns
  exact ⟨rfl, ((Below.refl _ _).alloc (Nat.le_refl _) _).alloc (by simp) _⟩
theorem gs_index (gs : List Int) (cs : Array Value) (hcs : cs = (gs.map intV).toArray) (k : Nat) (hk : k < gs.length) (h8 : gs.length = 8) (w : World) : (Instr.index 58 (.agg cs) (.int .i64 k)).run Tryd.prog w = .ok (.int .i64 gs[k]) w := by
  subst hcs
  have hu := Tryd.underlying58
  have hlt : k < 8 := by omega
  simp [Instr.index, run_underlying hu, asIntOf, hlt, List.getElem?_eq_getElem hk, intV, go_sem]
theorem cst_bd (p : List Bool) : ∀ k, (cst p k).1 ≤ k + 1 ∧ (cst p k).2.1 ≤ k ∧ (cst p k).2.2.1 ≤ k ∧ (cst p k).2.2.2 ≤ k
  | 0 => by simp [cst]
  | k + 1 => by
    have ih := cst_bd p k
    simp only [cst]
    split <;> split <;> simp only [] <;> omega
theorem cst_yes {p : List Bool} {k x y f t : Nat} (h : cst p k = (x, y, f, t)) (hz : p.getD k false = true) (hx : x < y + 1) : cst p (k + 1) = (y + 1, y + 1, k - y, k + 1) := by
  simp only [cst, h, hz, if_true, if_pos hx, Nat.add_sub_add_right]
theorem cst_stay {p : List Bool} {k x y f t : Nat} (h : cst p k = (x, y, f, t)) (hz : p.getD k false = true) (hx : ¬ x < y + 1) : cst p (k + 1) = (x, y + 1, f, t) := by
  simp only [cst, h, hz, if_true, if_neg hx]
theorem cst_no {p : List Bool} {k x y f t : Nat} (h : cst p k = (x, y, f, t)) (hz : p.getD k false = false) : cst p (k + 1) = (x, 0, f, t) := by
  simp only [cst, h, hz]
  rfl
theorem zp_get (gs : List Int) (k : Nat) (hk : k < gs.length) : (zp gs).getD k false = (gs[k] == 0) := by
  unfold zp
  rw [List.getD, List.getElem?_map, List.getElem?_eq_getElem hk]; rfl
set_option maxHeartbeats 2000000 in
theorem zeros_any (gs : List Int) (w : World) (h8 : gs.length = 8) (h : ∀ g ∈ gs, 0 ≤ g ∧ g ≤ 65535) : Calls Tryd.prog 46 #[.agg (gs.map intV).toArray] w fun e w' => e = .returned (.tuple #[.int .i64 (from6 gs : Nat), .int .i64 (to6 gs : Nat)]) ∧ Below w.heap.size w w' := by
  obtain ⟨a0, a1, a2, a3, a4, a5, a6, a7, e⟩ : ∃ a0 a1 a2 a3 a4 a5 a6 a7, gs = [a0, a1, a2, a3, a4, a5, a6, a7] := by
    match gs, h8 with
    | [a0, a1, a2, a3, a4, a5, a6, a7], _ => exact ⟨_, _, _, _, _, _, _, _, rfl⟩
  have ecs : (gs.map intV).toArray = #[.int .i64 a0, .int .i64 a1, .int .i64 a2, .int .i64 a3, .int .i64 a4, .int .i64 a5, .int .i64 a6, .int .i64 a7] := by rw [e]; rfl
  rw [ecs]
  have EC := Lib.hid ecs.symm
  have H8 := Lib.hid h8
  have HB := Lib.hid h
  clear e ecs h8 h
  go_enter Tryd.func46, Tryd.ntmps46
  go_wp2
  go_loop [2, 3, 4, 5, 9] (fun fr to lg ln i => ∃ k x y f t : Nat, k ≤ 8 ∧ i = .int .i64 k ∧ fr = .int .i64 f ∧ to = .int .i64 t ∧ lg = .int .i64 x ∧ ln = .int .i64 y ∧ Hid (cst (zp gs) k = (x, y, f, t)) ∧ x ≤ k + 1 ∧ y ≤ k) (fun _ _ _ _ i => 8 - (intOf i).toNat)
  case atStart => exact ⟨0, 1, 0, 0, 0, by omega, rfl, rfl, rfl, rfl, rfl, Lib.hid rfl, by omega, by omega⟩
  case round =>
    obtain ⟨k, x, y, f, t, hk, rfl, rfl, rfl, rfl, rfl, HE, hx, hy⟩ := hrel
    by_cases hlt : k < 8
    · have hlt2 : k < gs.length := by rw [H8.out]; exact hlt
      have hidx := gs_index gs _ EC.out k hlt2 H8.out
      have hbd := cst_bd (zp gs) (k + 1)
      have hzp := zp_get gs k hlt2
      by_cases hz : gs[k] = 0
      · have h0 : (gs[k] != 0) = false := by rw [hz]; rfl
        rw [hz] at hzp
        by_cases hxy : x < y + 1
        · have E := Lib.hid (cst_yes HE.out hzp hxy)
          have hb2 := hbd; rw [E.out] at hb2; simp only [] at hb2
          clear hzp hz hbd
          go_wp2
          go_round
          case rel => exact ⟨k + 1, y + 1, y + 1, k - y, k + 1, by omega, by go_num, by go_num, by go_num, by go_num, by go_num, E, by omega, by omega⟩
          case measure => simp [intOf]; omega
        · have E := Lib.hid (cst_stay HE.out hzp hxy)
          clear hzp hz hbd
          go_wp2
          go_round
          case rel => exact ⟨k + 1, x, y + 1, f, t, by omega, by go_num, rfl, rfl, rfl, by go_num, E, by omega, by omega⟩
          case measure => simp [intOf]; omega
      · have h0 : (gs[k] != 0) = true := by simpa using hz
        have E := Lib.hid (cst_no HE.out (by rw [hzp]; simpa using hz))
        clear hzp hz hbd
        go_wp2
        go_round
        case rel => exact ⟨k + 1, x, 0, f, t, by omega, by go_num, rfl, rfl, rfl, by go_num, E, by omega, by omega⟩
        case measure => simp [intOf]; omega
    · have hk8 : k = 8 := by omega
      subst hk8
      have E1 : Hid (f = from6 gs) := Lib.hid (by unfold from6; rw [HE.out])
      have E2 : Hid (t = to6 gs) := Lib.hid (by unfold to6; rw [HE.out])
      go_wp2
      go_ret2
      exact ⟨by rw [← E1.out, ← E2.out]; rfl, (Below.refl _ _).alloc (Nat.le_refl _) _⟩
end Go.Proofs.YtokbifndhkijiaaDoor.V6
