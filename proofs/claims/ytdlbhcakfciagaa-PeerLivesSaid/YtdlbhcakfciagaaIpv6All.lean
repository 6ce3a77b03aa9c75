/- Contracts of package ipv6: groups and numbers. -/
import Derived.Test.YtdlbhcakfciagaaMath
import Derived.Test.YtdlbhcakfciagaaDecAll
import Derived.Test.YtdlbhcakfciagaaWordsAll
import Derived.Deep.OwnRows
import Derived.OwnWalk
import Derived.Laws.BitsAllLaws
import Derived.Deep.MidRow
import Derived.Deep.RegionHeld3
import Derived.Test.YtdlbhcakfciagaaIpv4
import Derived.Laws.CopyOwn
import Derived.Lib.LastIndexByte
import Derived.IntWalk
namespace Go.Proofs.Ytdlbhcakfciagaa.V6
set_option maxRecDepth 100000
open Go.ChangeShapes Go.WideShapes Go.ChangeAt Go.RowKit
open Dec Words V4
set_option linter.unusedVariables false
theorem val_take_lt (gs : List Int) (h : ∀ g ∈ gs, 0 ≤ g ∧ g ≤ 65535) : ∀ k, k ≤ 3 → val (gs.take k) < 65536 ^ k := by
  intro k
  induction k with
  | zero => intro _; simp [val]
  | succ k ih =>
    intro hk
    have ih := ih (by omega)
    by_cases hlt : k < gs.length
    · rw [List.take_succ_eq_append_getElem hlt, val_snoc]
      have := h gs[k] (List.getElem_mem hlt)
      rw [Nat.pow_succ]
      have h3 : (65536 : Nat) ^ k ≤ 65536 ^ 2 := Nat.pow_le_pow_right (by omega) (by omega)
      have h4 : (65536 : Nat) ^ 2 = 4294967296 := by decide
      omega
    · rw [List.take_of_length_le (by omega)] at ih ⊢
      exact Nat.lt_of_lt_of_le ih (Nat.pow_le_pow_right (by omega) (by omega))
theorem val_step (gs : List Int) (h : ∀ g ∈ gs, 0 ≤ g ∧ g ≤ 65535) (k : Nat) (hk : k ≤ 3) (hlt : k < gs.length) :
    Value.int .u64 (bits .or .u64 ((val (gs.take k) : Nat) * 65536 : Int) gs[k]) = .int .u64 (val (gs.take (k + 1)) : Nat) := by
  have hv := val_take_lt gs h k hk
  have h3 : (65536 : Nat) ^ k ≤ 65536 ^ 3 := Nat.pow_le_pow_right (by omega) (by omega)
  have h4 : (65536 : Nat) ^ 3 = 281474976710656 := by decide
  have hp := h gs[k] (List.getElem_mem hlt)
  obtain ⟨b, hb⟩ := Int.eq_ofNat_of_zero_le hp.1
  have e : ((val (gs.take k) : Nat) * 65536 : Int) = ((val (gs.take k) * 65536 : Nat) : Int) := by omega
  rw [List.take_succ_eq_append_getElem hlt, val_snoc, hb, e, u64_or_nat _ _ (by omega) (by omega), Int.toNat_natCast]
  have h5 : (val (gs.take k) * 65536) ||| b = 65536 * val (gs.take k) + b := by
    rw [Nat.mul_comm]; exact (Nat.two_pow_add_eq_or_of_lt (i := 16) (by omega) _).symm
  rw [h5]; congr 2; omega
/-- A list of ints in memory. -/
def Ints (w : World) (v : Value) (gs : List Int) : Prop :=
  ∃ A c, v = .slice A gs.length c ∧ gs.length ≤ c ∧ (0 < gs.length → ∃ b o, A = some ⟨b, o, none⟩ ∧ b < w.heap.size ∧ ∀ j (h : j < gs.length), w.cell? ⟨b, o + j, none⟩ = some (.int .i64 gs[j]))
theorem Ints.below {w w1 : World} {v : Value} {gs : List Int} (h : Ints w v gs) (hb : Below w.heap.size w w1) : Ints w1 v gs := by
  obtain ⟨A, c, h1, h2, h3⟩ := h
  refine ⟨A, c, h1, h2, fun hp => ?_⟩
  obtain ⟨b, o, e, hlt, hc⟩ := h3 hp
  exact ⟨b, o, e, Nat.lt_of_lt_of_le hlt hb.size, fun j hj => (hb.cell (p := ⟨b, o + j, none⟩) hlt).trans (hc j hj)⟩
theorem Ints.nil (w : World) : Ints w (.slice none 0 0) [] := ⟨none, 0, rfl, Nat.le_refl _, fun h => absurd h (by simp)⟩
theorem Try.infoInt : (Try.prog.info? 3).map (fun i => (i.zero, i.size, i.bytes)) = some (some (.int .i64 0), 1, 8) := by kernel_rfl
def intV (g : Int) : Value := .int .i64 g
theorem ints_one (gs : List Int) : ∀ u ∈ gs.map intV, u.oneCell' = true := by
  intro u hu
  obtain ⟨g, _, rfl⟩ := List.mem_map.1 hu
  rfl
theorem Ints.own {w : World} {base e : Nat} {v : Value} {gs : List Int} (h : w.ownsRow base e 1 v gs.length (gs.map intV)) : Ints w v gs := by
  rcases h.2 with ⟨rfl, h0⟩ | ⟨g, cap, cur, rfl, _, hh, hnc, _, _, hcur⟩
  · exact ⟨none, 0, by rw [h0], by omega, fun hp => absurd hp (by omega)⟩
  · refine ⟨some ⟨g, 0, none⟩, cap, rfl, hnc, fun hp => ⟨g, 0, rfl, ?_, fun j hj => ?_⟩⟩
    · rcases Nat.lt_or_ge g w.heap.size with hlt | hge
      · exact hlt
      · rw [Array.getElem?_eq_none hge] at hh; cases hh
    · have := h.cells (g := g) rfl j (intV gs[j]) (by rw [List.getElem?_map, List.getElem?_eq_getElem hj]; rfl)
      rw [show (⟨g, 0, none⟩ : Addr).add j = ⟨g, 0 + j, none⟩ from by unfold Addr.add; split <;> simp_all] at this
      exact this
/-- What a list of the call's own owns, behind a callee that only made memory. -/
theorem own_below {w w1 : World} {base e size n : Nat} {v : Value} {xs : List Value} (h : w.ownsRow base e size v n xs) (hb : Below w.heap.size w w1) : w1.ownsRow base e size v n xs := by
  refine ⟨h.1, ?_⟩
  rcases h.2 with h2 | ⟨g, cap, cur, h1, h2, hh, h3⟩
  · exact Or.inl h2
  · refine Or.inr ⟨g, cap, cur, h1, h2, ?_, h3⟩
    rw [hb.block g ?_]; exact hh
    rcases Nat.lt_or_ge g w.heap.size with hlt | hge
    · exact hlt
    · rw [Array.getElem?_eq_none hge] at hh; cases hh
theorem own_form {w : World} {base e size n : Nat} {v : Value} {xs : List Value} (h : w.ownsRow base e size v n xs) : ∃ A c, v = .slice A n c := by
  rcases h.2 with ⟨rfl, rfl⟩ | ⟨g, cap, cur, rfl, _⟩
  · exact ⟨none, 0, rfl⟩
  · exact ⟨some ⟨g, 0, none⟩, cap, rfl⟩
theorem int_cell {w : World} {v u : Value} {e : Nat} (j : Nat) (h : [v][j]? = some u) : (w.alloc (.cells #[v] e)).cell? ((⟨w.heap.size, 0, none⟩ : Addr).add j) = some u := by
  match j, h with
  | 0, h =>
    simp at h; subst h
    rw [show (⟨w.heap.size, 0, none⟩ : Addr).add 0 = ⟨w.heap.size, 0, none⟩ from rfl, World.cell?_alloc_mark]
    rfl
  | j + 1, h => simp at h
/-- What read returns: all groups, or nothing. -/
def Read6 (l : List UInt8) (w : World) (e : Ending) (w' : World) : Prop := ∃ v, e = .returned (.tuple #[v, .bool (allHex (parts l))]) ∧ Ints w' v (if allHex (parts l) then nums (parts l) else []) ∧ Below w.heap.size w w'
theorem read6_no {l : List UInt8} {w w' : World} {e : Ending} (h : allHex (parts l) = false) (he : e = .returned (.tuple #[.slice none 0 0, .bool false])) (hb : Below w.heap.size w w') : Read6 l w e w' :=
  ⟨.slice none 0 0, by rw [h]; exact he, by rw [h]; exact Ints.nil _, hb⟩
theorem read6_yes {l : List UInt8} {w w' : World} {e : Ending} {v : Value} (h : allHex (parts l) = true) (hi : Ints w' v (nums (parts l))) (he : e = .returned (.tuple #[v, .bool true])) (hb : Below w.heap.size w w') : Read6 l w e w' :=
  ⟨v, by rw [h]; exact he, by rw [h]; exact hi, hb⟩
theorem allHex_bad {ps : List (List UInt8)} (k : Nat) (hk : k < ps.length) (h : hexB ps[k] = false) : allHex ps = false := by
  unfold allHex
  rw [List.all_eq_false]
  exact ⟨ps[k], List.getElem_mem hk, by simp [h]⟩
end Go.Proofs.Ytdlbhcakfciagaa.V6
/- Contracts of package ipv6: groups and numbers. -/
namespace Go.Proofs.Ytdlbhcakfciagaa.V6
set_option maxRecDepth 100000
open Go.ChangeShapes Go.WideShapes Go.ChangeAt Go.RowKit
open Dec Words V4
set_option linter.unusedVariables false
theorem and16 (m : Nat) (h : m < 18446744073709551616) : wrap64 (bits .and .u64 (m : Int) 65535) = ((m % 65536 : Nat) : Int) := by
  have e := u64_and_nat m 65535 h (by omega)
  have e2 : m &&& 65535 = m % 65536 := Nat.and_two_pow_sub_one_eq_mod m 16
  rw [show ((65535 : Nat) : Int) = 65535 from rfl] at e
  rw [e, e2]
  unfold wrap64; omega
theorem gr_walk (hi lo : Nat) (h1 : hi < 18446744073709551616) (h2 : lo < 18446744073709551616) :
    (#[Value.int IntKind.i64 (wrap64 (bits BinOp.and IntKind.u64 ((hi : Int) / 65536 / 65536 / 65536) 65535)), Value.int IntKind.i64 (wrap64 (bits BinOp.and IntKind.u64 ((hi : Int) / 65536 / 65536) 65535)),
      Value.int IntKind.i64 (wrap64 (bits BinOp.and IntKind.u64 ((hi : Int) / 65536) 65535)), Value.int IntKind.i64 (wrap64 (bits BinOp.and IntKind.u64 (hi : Int) 65535)),
      Value.int IntKind.i64 (wrap64 (bits BinOp.and IntKind.u64 ((lo : Int) / 65536 / 65536 / 65536) 65535)), Value.int IntKind.i64 (wrap64 (bits BinOp.and IntKind.u64 ((lo : Int) / 65536 / 65536) 65535)),
      Value.int IntKind.i64 (wrap64 (bits BinOp.and IntKind.u64 ((lo : Int) / 65536) 65535)), Value.int IntKind.i64 (wrap64 (bits BinOp.and IntKind.u64 (lo : Int) 65535))] : Array Value) = ((gr hi lo).map intV).toArray := by
  have e (a : Nat) (h : a < 18446744073709551616) : wrap64 (bits BinOp.and IntKind.u64 ((a : Int) / 65536 / 65536 / 65536) 65535) = ((a / 281474976710656 % 65536 : Nat) : Int) ∧ wrap64 (bits BinOp.and IntKind.u64 ((a : Int) / 65536 / 65536) 65535) = ((a / 4294967296 % 65536 : Nat) : Int)
      ∧ wrap64 (bits BinOp.and IntKind.u64 ((a : Int) / 65536) 65535) = ((a / 65536 % 65536 : Nat) : Int) ∧ wrap64 (bits BinOp.and IntKind.u64 (a : Int) 65535) = ((a % 65536 : Nat) : Int) := by
    refine ⟨?_, ?_, ?_, and16 a h⟩
    · rw [show ((a : Int) / 65536 / 65536 / 65536) = ((a / 281474976710656 : Nat) : Int) by omega]; exact and16 _ (by omega)
    · rw [show ((a : Int) / 65536 / 65536) = ((a / 4294967296 : Nat) : Int) by omega]; exact and16 _ (by omega)
    · rw [show ((a : Int) / 65536) = ((a / 65536 : Nat) : Int) by omega]; exact and16 _ (by omega)
  obtain ⟨a1, a2, a3, a4⟩ := e hi h1
  obtain ⟨b1, b2, b3, b4⟩ := e lo h2
  rw [a1, a2, a3, a4, b1, b2, b3, b4]
  rfl
set_option maxHeartbeats 2000000 in
theorem apart_any (hi lo : Nat) (w : World) (h1 : hi < 18446744073709551616) (h2 : lo < 18446744073709551616) : Calls Try.prog 56 #[.int .u64 hi, .int .u64 lo] w fun e w' => e = .returned (.agg ((gr hi lo).map intV).toArray) ∧ Below w.heap.size w w' := by
  rw [← gr_walk hi lo h1 h2]
  go_enter Try.func56, Try.ntmps56
  go_wp2
  go_rounds 5
  go_returns
  exact ⟨rfl, ((Below.refl _ _).alloc (Nat.le_refl _) _).alloc (by simp) _⟩
theorem gs_index (gs : List Int) (cs : Array Value) (hcs : cs = (gs.map intV).toArray) (k : Nat) (hk : k < gs.length) (h8 : gs.length = 8) (w : World) : (Instr.index 79 (.agg cs) (.int .i64 k)).run Try.prog w = .ok (.int .i64 gs[k]) w := by
  subst hcs
  have hu := Try.underlying79
  have hlt : k < 8 := by omega
  simp [Instr.index, run_underlying hu, asIntOf, hlt, List.getElem?_eq_getElem hk, intV, go_sem]
theorem cst_bd (p : List Bool) : ∀ k, (cst p k).1 ≤ k + 1 ∧ (cst p k).2.1 ≤ k ∧ (cst p k).2.2.1 ≤ k ∧ (cst p k).2.2.2 ≤ k
  | 0 => by simp [cst]
  | k + 1 => by
    have ih := cst_bd p k
    simp only [cst]
    split <;> split <;> simp only [] <;> omega
theorem cst_yes {p : List Bool} {k x y f t : Nat} (h : cst p k = (x, y, f, t)) (hz : p.getD k false = true) (hx : x < y + 1) : cst p (k + 1) = (y + 1, y + 1, k - y, k + 1) := by
  simp only [cst, h, hz, if_true, if_pos hx, Nat.add_sub_add_right]
theorem cst_stay {p : List Bool} {k x y f t : Nat} (h : cst p k = (x, y, f, t)) (hz : p.getD k false = true) (hx : ¬ x < y + 1) : cst p (k + 1) = (x, y + 1, f, t) := by
  simp only [cst, h, hz, if_true, if_neg hx]
theorem cst_no {p : List Bool} {k x y f t : Nat} (h : cst p k = (x, y, f, t)) (hz : p.getD k false = false) : cst p (k + 1) = (x, 0, f, t) := by
  simp only [cst, h, hz]
  rfl
theorem zp_get (gs : List Int) (k : Nat) (hk : k < gs.length) : (zp gs).getD k false = (gs[k] == 0) := by
  unfold zp
  rw [List.getD, List.getElem?_map, List.getElem?_eq_getElem hk]; rfl
set_option maxHeartbeats 2000000 in
theorem zeros_any (gs : List Int) (w : World) (h8 : gs.length = 8) (h : ∀ g ∈ gs, 0 ≤ g ∧ g ≤ 65535) : Calls Try.prog 58 #[.agg (gs.map intV).toArray] w fun e w' => e = .returned (.tuple #[.int .i64 (from6 gs : Nat), .int .i64 (to6 gs : Nat)]) ∧ Below w.heap.size w w' := by
  obtain ⟨a0, a1, a2, a3, a4, a5, a6, a7, e⟩ : ∃ a0 a1 a2 a3 a4 a5 a6 a7, gs = [a0, a1, a2, a3, a4, a5, a6, a7] := by
    match gs, h8 with
    | [a0, a1, a2, a3, a4, a5, a6, a7], _ => exact ⟨_, _, _, _, _, _, _, _, rfl⟩
  have ecs : (gs.map intV).toArray = #[.int .i64 a0, .int .i64 a1, .int .i64 a2, .int .i64 a3, .int .i64 a4, .int .i64 a5, .int .i64 a6, .int .i64 a7] := by rw [e]; rfl
  rw [ecs]
  have EC := Lib.hid ecs.symm
  have H8 := Lib.hid h8
  have HB := Lib.hid h
  clear e ecs h8 h
  go_enter Try.func58, Try.ntmps58
  go_wp2
  go_loop [2, 3, 4, 5, 9] (fun fr to lg ln i => ∃ k x y f t : Nat, k ≤ 8 ∧ i = .int .i64 k ∧ fr = .int .i64 f ∧ to = .int .i64 t ∧ lg = .int .i64 x ∧ ln = .int .i64 y ∧ Hid (cst (zp gs) k = (x, y, f, t)) ∧ x ≤ k + 1 ∧ y ≤ k) (fun _ _ _ _ i => 8 - (intOf i).toNat)
  case atStart => exact ⟨0, 1, 0, 0, 0, by omega, rfl, rfl, rfl, rfl, rfl, Lib.hid rfl, by omega, by omega⟩
  case round =>
    obtain ⟨k, x, y, f, t, hk, rfl, rfl, rfl, rfl, rfl, HE, hx, hy⟩ := hrel
    by_cases hlt : k < 8
    · have hlt2 : k < gs.length := by rw [H8.out]; exact hlt
      have hidx := gs_index gs _ EC.out k hlt2 H8.out
      have hbd := cst_bd (zp gs) (k + 1)
      have hzp := zp_get gs k hlt2
      by_cases hz : gs[k] = 0
      · have h0 : (gs[k] != 0) = false := by rw [hz]; rfl
        rw [hz] at hzp
        by_cases hxy : x < y + 1
        · have E := Lib.hid (cst_yes HE.out hzp hxy)
          have hb2 := hbd; rw [E.out] at hb2; simp only [] at hb2
          clear hzp hz hbd
          go_wp2
          go_round
          case rel => exact ⟨k + 1, y + 1, y + 1, k - y, k + 1, by omega, by go_num, by go_num, by go_num, by go_num, by go_num, E, by omega, by omega⟩
          case measure => simp [intOf]; omega
        · have E := Lib.hid (cst_stay HE.out hzp hxy)
          clear hzp hz hbd
          go_wp2
          go_round
          case rel => exact ⟨k + 1, x, y + 1, f, t, by omega, by go_num, rfl, rfl, rfl, by go_num, E, by omega, by omega⟩
          case measure => simp [intOf]; omega
      · have h0 : (gs[k] != 0) = true := by simpa using hz
        have E := Lib.hid (cst_no HE.out (by rw [hzp]; simpa using hz))
        clear hzp hz hbd
        go_wp2
        go_round
        case rel => exact ⟨k + 1, x, 0, f, t, by omega, by go_num, rfl, rfl, rfl, by go_num, E, by omega, by omega⟩
        case measure => simp [intOf]; omega
    · have hk8 : k = 8 := by omega
      subst hk8
      have E1 : Hid (f = from6 gs) := Lib.hid (by unfold from6; rw [HE.out])
      have E2 : Hid (t = to6 gs) := Lib.hid (by unfold to6; rw [HE.out])
      go_wp2
      go_ret2
      exact ⟨by rw [← E1.out, ← E2.out]; rfl, (Below.refl _ _).alloc (Nat.le_refl _) _⟩
end Go.Proofs.Ytdlbhcakfciagaa.V6
/- Contract of package ipv6: an address's text. -/
namespace Go.Proofs.Ytdlbhcakfciagaa.V6
set_option maxRecDepth 100000
open Go.ChangeShapes Go.WideShapes Go.ChangeAt Go.RowKit
open Dec Words V4
set_option linter.unusedVariables false
theorem zeros_arr (gs : List Int) (cs : Array Value) (hcs : cs = (gs.map intV).toArray) (w : World) (h8 : gs.length = 8) (h : ∀ g ∈ gs, 0 ≤ g ∧ g ≤ 65535) : Calls Try.prog 58 #[.agg cs] w fun e w' => e = .returned (.tuple #[.int .i64 (from6 gs : Nat), .int .i64 (to6 gs : Nat)]) ∧ Below w.heap.size w w' := by
  rw [hcs]; exact zeros_any gs w h8 h
theorem slice8 (g : Nat) (W : World) : (Instr.sliceAt 81 (.pointer (some ⟨g, 0, none⟩)) none none none).run Try.prog W = .ok (.slice (some ⟨g, 0, none⟩) 8 8) W := by
  have e1 : Try.prog.arrayLen 81 = 8 := by kernel_rfl
  have e2 : Try.prog.elem 81 = 9 := by kernel_rfl
  have e3 : (sizeOf 9).run Try.prog W = .ok 1 W := by kernel_rfl
  rw [run_sliceAt_array_all W 81 _ (by rw [e1, e2]; kernel_rfl), e1, e2, e3]
  rfl
theorem slice8h (g k : Nat) (hk : k ≤ 8) (W : World) : (Instr.sliceAt 81 (.pointer (some ⟨g, 0, none⟩)) none (some (.int .i64 (k : Int))) none).run Try.prog W = .ok (.slice (some ⟨g, 0, none⟩) k 8) W := by
  have e1 : Try.prog.arrayLen 81 = 8 := by kernel_rfl
  have e2 : Try.prog.elem 81 = 9 := by kernel_rfl
  have e3 : (sizeOf 9).run Try.prog W = .ok 1 W := by kernel_rfl
  rw [run_sliceAt_array_h W 81 _ (by rw [e1, e2]; kernel_rfl) .i64 k (by omega) (by rw [e1]; omega), e1, e2, e3]
  simp [Result.andThen, slicedAt, Addr.add]
/-- Where the rest of a row begins. -/
def restA (g k : Nat) : Option Addr := if k = 8 then some ⟨g, 0, none⟩ else some ⟨g, k, none⟩
theorem slice8l (g k : Nat) (hk : k ≤ 8) (W : World) : (Instr.sliceAt 81 (.pointer (some ⟨g, 0, none⟩)) (some (.int .i64 (k : Int))) none none).run Try.prog W = .ok (.slice (restA g k) (8 - k) (8 - k)) W := by
  have e1 : Try.prog.arrayLen 81 = 8 := by kernel_rfl
  have e2 : Try.prog.elem 81 = 9 := by kernel_rfl
  have e3 : (sizeOf 9).run Try.prog W = .ok 1 W := by kernel_rfl
  rw [run_sliceAt_array_l W 81 _ (by rw [e1, e2]; kernel_rfl) .i64 k (by omega) (by rw [e1]; omega), e1, e2, e3]
  simp only [Result.andThen, slicedAt, Int.toNat_natCast, Nat.mul_one]
  unfold restA
  by_cases h : k = 8
  · rw [if_pos h.symm, if_pos h]
  · rw [if_neg (by omega), if_neg h]
    congr 3
    unfold Addr.add; split <;> simp_all
/-- The texts of the groups that are written so far. -/
def cells8 (gs : List Int) (k : Nat) (i : Nat) : Value := if i < k then .string ⟨((hexes gs).getD i []).toArray⟩ else .string ⟨#[]⟩
theorem empty8 (gs : List Int) (i : Nat) (hi : i < 8) : (#[Value.string ⟨#[]⟩, .string ⟨#[]⟩, .string ⟨#[]⟩, .string ⟨#[]⟩, .string ⟨#[]⟩, .string ⟨#[]⟩, .string ⟨#[]⟩, .string ⟨#[]⟩] : Array Value)[i]? = some (cells8 gs 0 i) := by
  have e : (#[Value.string ⟨#[]⟩, .string ⟨#[]⟩, .string ⟨#[]⟩, .string ⟨#[]⟩, .string ⟨#[]⟩, .string ⟨#[]⟩, .string ⟨#[]⟩, .string ⟨#[]⟩] : Array Value) = Array.replicate 8 (.string ⟨#[]⟩) := rfl
  rw [e, Array.getElem?_replicate, if_pos hi]
  unfold cells8
  rw [if_neg (by omega)]
theorem cells8_next (gs : List Int) (k : Nat) (h : k < gs.length) (i : Nat) : (if i = k then Value.string ⟨(hex gs[k]).toArray⟩ else cells8 gs k i) = cells8 gs (k + 1) i := by
  unfold cells8
  by_cases e : i = k
  · subst e
    rw [if_pos rfl, if_pos (by omega)]
    unfold hexes
    rw [List.getD, List.getElem?_map, List.getElem?_eq_getElem h]; rfl
  · rw [if_neg e]
    by_cases e2 : i < k
    · rw [if_pos e2, if_pos (by omega)]
    · rw [if_neg e2, if_neg (by omega)]
theorem txts8 {w : World} {g : Nat} {gs : List Int} (h8 : gs.length = 8) (h : w.rowIs g 81 8 (cells8 gs 8)) : Txts w (.slice (some ⟨g, 0, none⟩) 8 8) (hexes gs) := by
  have hl : (hexes gs).length = 8 := by unfold hexes; simpa using h8
  refine ⟨some ⟨g, 0, none⟩, 8, by rw [hl], by omega, fun _ => ⟨g, 0, rfl, h.lt, fun j hj => ?_⟩⟩
  rw [Nat.zero_add, h.cell (by omega)]
  unfold cells8
  rw [if_pos (by omega), List.getD, List.getElem?_eq_getElem hj]; rfl
theorem txts8h {w : World} {g k : Nat} {gs : List Int} (h8 : gs.length = 8) (hk : k ≤ 8) (h : w.rowIs g 81 8 (cells8 gs 8)) : Txts w (.slice (some ⟨g, 0, none⟩) k 8) ((hexes gs).take k) := by
  have hl : (hexes gs).length = 8 := by unfold hexes; simpa using h8
  have hl2 : ((hexes gs).take k).length = k := by rw [List.length_take]; omega
  refine ⟨some ⟨g, 0, none⟩, 8, by rw [hl2], by omega, fun _ => ⟨g, 0, rfl, h.lt, fun j hj => ?_⟩⟩
  rw [Nat.zero_add, h.cell (by omega)]
  unfold cells8
  rw [if_pos (by omega), List.getD, List.getElem?_eq_getElem (by omega), List.getElem_take]; rfl
theorem txts8l {w : World} {g k : Nat} {gs : List Int} (h8 : gs.length = 8) (hk : k ≤ 8) (h : w.rowIs g 81 8 (cells8 gs 8)) : Txts w (.slice (restA g k) (8 - k) (8 - k)) ((hexes gs).drop k) := by
  have hl : (hexes gs).length = 8 := by unfold hexes; simpa using h8
  have hl2 : ((hexes gs).drop k).length = 8 - k := by rw [List.length_drop]; omega
  refine ⟨restA g k, 8 - k, by rw [hl2], by omega, fun hp => ⟨g, k, by unfold restA; rw [if_neg (by omega)], h.lt, fun j hj => ?_⟩⟩
  rw [h.cell (by omega)]
  unfold cells8
  rw [if_pos (by omega), List.getD, List.getElem?_eq_getElem (by omega), List.getElem_drop]; rfl
theorem join_hexes (gs : List Int) : ∀ ps : List (List UInt8), (∀ x ∈ ps, x ∈ hexes gs) → ps.length ≤ 8 → ps.length ≤ 140737488355328 ∧ (glue 58 ps).length ≤ 140737488355328 := by
  intro ps h hl
  have := glue_sum (c := 58) (fun x hx => hexes_len4 gs x (h x hx))
  omega
theorem size_mk (l : List UInt8) : (⟨l.toArray⟩ : ByteArray).size = l.length := by rw [← len_size, str_back]
/-- What is left of a world. -/
def Kept (W w : World) : Prop := Below W.heap.size W w
theorem cat_gap (a b : List UInt8) : Value.string (⟨a.toArray⟩ ++ ⟨#[58, 58]⟩ ++ ⟨b.toArray⟩) = .string ⟨(a ++ 58 :: 58 :: b).toArray⟩ := by
  show Value.string (⟨a.toArray⟩ ++ ⟨[58, 58].toArray⟩ ++ ⟨b.toArray⟩) = _
  simp only [ByteArray.mk_append_mk]
  simp
set_option maxHeartbeats 4000000 in
theorem text6_any (hi lo : Nat) (w : World) (h1 : hi < 18446744073709551616) (h2 : lo < 18446744073709551616) :
    Calls Try.prog 48 #[.int .u64 hi, .int .u64 lo] w fun e w' => e = .returned (.string ⟨(text6 hi lo).toArray⟩) ∧ Below w.heap.size w w' := by
  obtain ⟨gs, hgs⟩ : ∃ gs, gs = gr hi lo := ⟨_, rfl⟩
  have h8 : gs.length = 8 := by rw [hgs]; rfl
  have hbd : ∀ x ∈ gs, 0 ≤ x ∧ x ≤ 65535 := by rw [hgs]; exact gr_bd hi lo
  have HAp := Lib.hid (apart_any hi lo w h1 h2)
  have ET : Hid (text6 hi lo = textG gs) := Lib.hid (by rw [hgs]; rfl)
  rw [← hgs] at HAp
  clear hgs
  obtain ⟨a0, a1, a2, a3, a4, a5, a6, a7, e⟩ : ∃ a0 a1 a2 a3 a4 a5 a6 a7, gs = [a0, a1, a2, a3, a4, a5, a6, a7] := by
    match gs, h8 with
    | [a0, a1, a2, a3, a4, a5, a6, a7], _ => exact ⟨_, _, _, _, _, _, _, _, rfl⟩
  have ecs : (gs.map intV).toArray = #[.int .i64 a0, .int .i64 a1, .int .i64 a2, .int .i64 a3, .int .i64 a4, .int .i64 a5, .int .i64 a6, .int .i64 a7] := by rw [e]; rfl
  rw [ecs] at HAp
  have EC := Lib.hid ecs.symm
  have H8 := Lib.hid h8
  have HB := Lib.hid hbd
  have hr6 := run6 h8
  have hr1 := hr6.1
  have hr2 := hr6.2.1
  clear e ecs h8 hbd hr6
  go_enter Try.func48, Try.ntmps48
  go_wp2_with fail
  refine HAp.out.mono ?_
  rintro e w1 ⟨rfl, hb1⟩
  go_wp2
  go_loopw [15] (fun i wr => ∃ k : Nat, k ≤ 8 ∧ i = .int .i64 k ∧ wr.rowIs (w1.heap.size + 1) 81 8 (cells8 gs k) ∧ Below (w1.heap.size + 1) (w1.alloc (.cells #[.int .i64 a0, .int .i64 a1, .int .i64 a2, .int .i64 a3, .int .i64 a4, .int .i64 a5, .int .i64 a6, .int .i64 a7] 79)) wr) (fun i _ => 8 - (intOf i).toNat)
  case atStart => exact ⟨0, by omega, rfl, by
    have := World.rowIs_alloc (w1.alloc (.cells #[.int .i64 a0, .int .i64 a1, .int .i64 a2, .int .i64 a3, .int .i64 a4, .int .i64 a5, .int .i64 a6, .int .i64 a7] 79)) _ 81 (cells8 gs 0) (fun i hi => empty8 gs i hi)
    simpa using this, (Below.refl _ _).alloc (by simp) _⟩
  case round =>
    obtain ⟨k, hk, rfl, hrow, hbel⟩ := hrel
    have hsz := hbel.size
    by_cases hlt : k < 8
    · have hlt2 : k < gs.length := by rw [H8.out]; exact hlt
      have hidx := gs_index gs _ EC.out k hlt2 H8.out
      have hg := HB.out gs[k] (List.getElem_mem hlt2)
      go_wp2_with fail
      refine (hex_any gs[k] _ (by omega) (by omega)).mono ?_
      rintro e w2 ⟨rfl, hb2⟩
      have hrow2 := hrow.of_block (hb2.block _ hrow.lt)
      have hcell := hrow2.cell (i := k) (by omega)
      have hfro := hrow2.frozen k
      have hs := (hrow2.set k (.string ⟨(hex gs[k]).toArray⟩)).congr (g := cells8 gs (k + 1)) (fun i _ => cells8_next gs k hlt2 i)
      have hb3 := (hbel.trans (hb2.mono (Nat.le_of_lt hrow.lt))).setCell (p := ⟨w1.heap.size + 1, k, none⟩) (Nat.le_refl _) (.string ⟨(hex gs[k]).toArray⟩)
      go_wp2
      go_roundw
      case rel => exact ⟨k + 1, by omega, by go_num, hs, hb3⟩
      case measure => simp [intOf]; omega
    · have hk8 : k = 8 := by omega
      subst hk8
      have hld : wr.rangeAt w1.heap.size 0 [.int .i64 a0, .int .i64 a1, .int .i64 a2, .int .i64 a3, .int .i64 a4, .int .i64 a5, .int .i64 a6, .int .i64 a7] := by
        intro j v hj
        rw [hbel.cell (p := ⟨w1.heap.size, 0 + j, none⟩) (by simp), cell_of_row _ _ _ _ _ _ (heap_alloc_new w1 _), Nat.zero_add, ← Array.getElem?_toList]
        exact hj
      have HLD := Lib.hid hld
      clear hld
      go_wp2_with (refine wpList_load_mid rfl 79 _ rfl w1.heap.size 0 rfl _ _ HLD.out Try.underlying79 rfl (by kernel_rfl) ?_)
      refine (zeros_arr gs _ EC.out wr H8.out HB.out).mono ?_
      rintro e w2 ⟨rfl, hb2⟩
      have hrow2 := hrow.of_block (hb2.block _ hrow.lt)
      have hb1' : Below w.heap.size w (w1.alloc (.cells #[.int .i64 a0, .int .i64 a1, .int .i64 a2, .int .i64 a3, .int .i64 a4, .int .i64 a5, .int .i64 a6, .int .i64 a7] 79)) := hb1.alloc hb1.size _
      have hb3 : Below w.heap.size w w2 := hb1'.trans ((hbel.trans (hb2.mono (Nat.le_of_lt hrow.lt))).mono (by have := hb1.size; omega))
      by_cases hr : from6 gs = to6 gs
      · have hq : ((from6 gs : Int) == (to6 gs : Int)) = true := by rw [hr]; simp
        have E : Hid (text6 hi lo = glue 58 (hexes gs)) := Lib.hid (by rw [ET.out]; unfold textG; rw [if_pos hr])
        have hsl := slice8 (w1.heap.size + 1) w2
        have HT := Lib.hid (txts8 H8.out hrow2)
        have hj := join_hexes gs (hexes gs) (fun _ h => h) (by unfold hexes; rw [List.length_map, H8.out]; exact Nat.le_refl _)
        clear hr
        go_wp2_with fail
        refine (join_any _ (hexes gs) 58 _ HT.out hj.1 hj.2).mono ?_
        rintro e w3 ⟨rfl, hb4⟩
        go_wp2
        go_ret
        exact ⟨ret_s E.out.symm, low_trans hb3 hb4⟩
      · have hq : ((from6 gs : Int) == (to6 gs : Int)) = false := by rw [beq_eq_false_iff_ne]; omega
        have E : Hid (text6 hi lo = glue 58 ((hexes gs).take (from6 gs)) ++ 58 :: 58 :: glue 58 ((hexes gs).drop (to6 gs))) := Lib.hid (by rw [ET.out]; unfold textG; rw [if_neg hr])
        have hsh := fun W => slice8h (w1.heap.size + 1) (from6 gs) (by omega) W
        have hsl := fun W => slice8l (w1.heap.size + 1) (to6 gs) hr2 W
        have HT1 := Lib.hid (txts8h H8.out (by omega : from6 gs ≤ 8) hrow2)
        have HT2 := Lib.hid (txts8l H8.out hr2 hrow2)
        have hl : (hexes gs).length = 8 := by unfold hexes; rw [List.length_map]; exact H8.out
        have hj1 := join_hexes gs ((hexes gs).take (from6 gs)) (fun _ h => List.mem_of_mem_take h) (by rw [List.length_take]; omega)
        have hj2 := join_hexes gs ((hexes gs).drop (to6 gs)) (fun _ h => List.mem_of_mem_drop h) (by rw [List.length_drop]; omega)
        have HJ1 : Hid (∀ W, Kept w2 W → Calls Try.prog 38 #[.slice (some ⟨w1.heap.size + 1, 0, none⟩) (from6 gs) 8, .int .u8 58] W fun e w' => e = .returned (.string ⟨(glue 58 ((hexes gs).take (from6 gs))).toArray⟩) ∧ Kept w2 w') :=
          fun W h => (join_any _ _ 58 W (HT1.out.below h) hj1.1 hj1.2).mono fun e w' ⟨he, hb⟩ => ⟨he, low_trans h hb⟩
        have HJ2 : Hid (∀ W, Kept w2 W → Calls Try.prog 38 #[.slice (restA (w1.heap.size + 1) (to6 gs)) (8 - to6 gs) (8 - to6 gs), .int .u8 58] W fun e w' => e = .returned (.string ⟨(glue 58 ((hexes gs).drop (to6 gs))).toArray⟩) ∧ Kept w2 w') :=
          fun W h => (join_any _ _ 58 W (HT2.out.below h) hj2.1 hj2.2).mono fun e w' ⟨he, hb⟩ => ⟨he, low_trans h hb⟩
        have hk0 : Kept w2 w2 := Below.refl _ _
        have hz1 := hj1.2
        have hz2 := hj2.2
        have hc1 : ∀ W, (Op.stringOp .add (⟨(glue 58 ((hexes gs).take (from6 gs))).toArray⟩ : ByteArray) ⟨#[58, 58]⟩).run Try.prog W = .ok (.string (⟨(glue 58 ((hexes gs).take (from6 gs))).toArray⟩ ++ ⟨#[58, 58]⟩)) W :=
          fun W => run_string_add_sum W _ _ (by rw [size_mk]; show _ + 2 ≤ _; omega)
        have hc2 : ∀ W, (Op.stringOp .add ((⟨(glue 58 ((hexes gs).take (from6 gs))).toArray⟩ : ByteArray) ++ ⟨#[58, 58]⟩) ⟨(glue 58 ((hexes gs).drop (to6 gs))).toArray⟩).run Try.prog W = .ok (.string (⟨(glue 58 ((hexes gs).take (from6 gs))).toArray⟩ ++ ⟨#[58, 58]⟩ ++ ⟨(glue 58 ((hexes gs).drop (to6 gs))).toArray⟩)) W :=
          fun W => run_string_add_sum W _ _ (by
            have e1 := size_mk (glue 58 ((hexes gs).take (from6 gs)))
            have e2 := size_mk (glue 58 ((hexes gs).drop (to6 gs)))
            have e3 : (⟨#[58, 58]⟩ : ByteArray).size = 2 := rfl
            rw [ByteArray.size_append]; omega)
        clear hr hl hj1 hj2 HT1 HT2 hrow hrow2 hbel hb2 hb1' HLD
        go_wp2_with fail
        go_region_held3 (fun w' => Kept w2 w') (first | assumption | exact low_drewN ‹_› 1)
          (first
            | (go_at_call 38; refine (HJ1.out _ ‹_›).mono ?_; rintro e w' ⟨rfl, hkw⟩)
            | (go_at_call 38; refine (HJ2.out _ ‹_›).mono ?_; rintro e w' ⟨rfl, hkw⟩))
        all_goals go_wp2
        all_goals go_ret
        all_goals exact ⟨by rw [E.out]; exact congrArg Ending.returned (cat_gap _ _), low_trans hb3 ‹Kept w2 _›⟩
end Go.Proofs.Ytdlbhcakfciagaa.V6
/- Contract of package ipv6: an address is read. -/
namespace Go.Proofs.Ytdlbhcakfciagaa.V6
set_option maxRecDepth 100000
open Go.ChangeShapes Go.WideShapes Go.ChangeAt Go.RowKit
open Dec Words V4
set_option linter.unusedVariables false
/-! Where the last colon stands. -/
theorem last_at (l : List UInt8) : Lib.lastIndexByte ⟨l.toArray⟩ 58 + 1 = ((l.length - (lastP l).length : Nat) : Int) := by
  obtain ⟨ps, e1, h1, h2⟩ := last_split l
  have hs : (⟨l.toArray⟩ : ByteArray).size = l.length := size_mk l
  have hat : ∀ j (h : j < l.length), (⟨l.toArray⟩ : ByteArray).data[j]! = l[j] := by
    intro j h
    simp [h]
  have hle := lastP_le l
  rcases Lib.lastIndexByte_spec ⟨l.toArray⟩ 58 with ⟨e, hn⟩ | ⟨i, hi, e, hc, hn⟩
  · rw [e]
    rcases h2 with ⟨_, h2⟩ | ⟨hp, h2⟩
    · have := congrArg List.length h2; omega
    · exfalso
      have hk : (glue 58 ps).length < l.length := by have := congrArg List.length h2; simp at this; omega
      refine hn (glue 58 ps).length (by omega) ?_
      rw [hat _ hk]
      have h5 : l[(glue 58 ps).length]? = some 58 := by rw [h2, List.getElem?_append_right (Nat.le_refl _)]; simp
      rw [List.getElem?_eq_getElem hk] at h5
      simp at h5; rw [h5]; rfl
  · rw [e]
    rw [hs] at hi hn
    rw [hat i hi] at hc
    have hci : l[i] = 58 := by
      rw [← UInt8.toNat_inj]; have : (58 : UInt8).toNat = 58 := rfl
      omega
    rcases h2 with ⟨_, h2⟩ | ⟨hp, h2⟩
    · exfalso; apply h1; rw [← h2, ← hci]; exact List.getElem_mem hi
    · have hlen := congrArg List.length h2
      simp at hlen
      have hk : (glue 58 ps).length < l.length := by omega
      have h5 : l[(glue 58 ps).length]? = some 58 := by rw [h2, List.getElem?_append_right (Nat.le_refl _)]; simp
      rw [List.getElem?_eq_getElem hk] at h5
      simp at h5
      have h6 : ¬ i < (glue 58 ps).length := by
        intro hlt
        refine hn _ hlt hk ?_
        rw [hat _ hk, h5]; rfl
      have h7 : ¬ (glue 58 ps).length < i := by
        intro hlt
        apply h1
        have h8 : l[i]? = some 58 := by rw [List.getElem?_eq_getElem hi, hci]
        rw [h2, List.getElem?_append_right (by omega)] at h8
        obtain ⟨k, hk⟩ : ∃ k, i - (glue 58 ps).length = k + 1 := ⟨i - (glue 58 ps).length - 1, by omega⟩
        rw [hk, List.getElem?_cons_succ] at h8
        exact List.mem_of_getElem? h8
      omega
theorem drop_last (l : List UInt8) : l.drop (l.length - (lastP l).length) = lastP l := by
  obtain ⟨ps, e1, h1, h2⟩ := last_split l
  rcases h2 with ⟨_, h2⟩ | ⟨hp, h2⟩
  · have := congrArg List.length h2
    rw [show l.length - (lastP l).length = 0 by omega]; exact h2
  · have h3 := congrArg List.length h2
    have e : l.length - (lastP l).length = (glue 58 ps).length + 1 := by simp at h3; omega
    rw [e]
    conv => lhs; rw [h2]
    rw [List.drop_append, List.drop_of_length_le (by omega)]
    simp
theorem and16u (m : Nat) (h : m < 4294967296) : bits .and .u32 (m : Int) 65535 = ((m % 65536 : Nat) : Int) := by
  have e := u32_and_nat m 65535 h (by omega)
  have e2 : m &&& 65535 = m % 65536 := Nat.and_two_pow_sub_one_eq_mod m 16
  rw [show ((65535 : Nat) : Int) = 65535 from rfl] at e
  rw [e, e2]
theorem slice_to (l : List UInt8) (k : Nat) : (⟨l.toArray⟩ : ByteArray).extract 0 k = ⟨(l.take k).toArray⟩ := by
  rw [← str_same ((⟨l.toArray⟩ : ByteArray).extract 0 k), Lib.extract_data, str_back]; simp
theorem slice_from (l : List UInt8) (k n : Nat) (h : l.length ≤ n) : (⟨l.toArray⟩ : ByteArray).extract k n = ⟨(l.drop k).toArray⟩ := by
  rw [← str_same ((⟨l.toArray⟩ : ByteArray).extract k n), Lib.extract_data, str_back, ← List.drop_take, List.take_of_length_le h]
theorem spelled_len (l : List UInt8) : (spelled l).length ≤ l.length + 9 := by
  unfold spelled
  have h1 := hex_len ((num4 (lastP l) / 65536 : Nat) : Int)
  have h2 := hex_len ((num4 (lastP l) % 65536 : Nat) : Int)
  split
  · simp [hi4, lo4] at *; omega
  · omega
theorem below_drewN {a w : World} {n : Nat} (h : Below (a.drewN n).heap.size (a.drewN n) w) : Below a.heap.size a w := ⟨h.os, h.tape, h.output, h.size, h.block⟩
/-! The whole. -/
def Parse6 (l : List UInt8) (w : World) (e : Ending) (w' : World) : Prop := e = .returned (.tuple #[.int .u64 (hi6 l : Nat), .int .u64 (lo6 l : Nat), .bool (ok6 l)]) ∧ Below w.heap.size w w'
theorem parse6_no {l : List UInt8} {w w' : World} {e : Ending} (h : groups l = none) (he : e = .returned (.tuple #[.int .u64 0, .int .u64 0, .bool false])) (hb : Below w.heap.size w w') : Parse6 l w e w' := by
  obtain ⟨h1, h2, h3⟩ := ok6_no h
  exact ⟨by rw [h1, h2, h3]; exact he, hb⟩
theorem parse6_yes {l : List UInt8} {w w' : World} {e : Ending} {g : List Int} {a b : Nat} (h : groups l = some g) (ha : a = val (g.take 4)) (hb' : b = val (g.drop 4)) (he : e = .returned (.tuple #[.int .u64 a, .int .u64 b, .bool true])) (hb : Below w.heap.size w w') : Parse6 l w e w' := by
  obtain ⟨h1, h2, h3⟩ := ok6_of h
  exact ⟨by rw [h1, h2, h3, ← ha, ← hb']; exact he, hb⟩
/-- Do the groups on two sides of a gap fit? -/
def fits (n : Nat) (short : Bool) : Bool := if short then decide ((n : Int) < 8) else (n : Int) == 8
theorem fits_yes (n : Nat) : fits n true = true ↔ n < 8 := by unfold fits; simp; omega
theorem fits_no (n : Nat) : fits n false = true ↔ n = 8 := by unfold fits; simp; omega
theorem index_gap {l b a : List UInt8} (h : gap l = some (b, a)) : Lib.index l [58, 58] = b.length := by
  obtain ⟨e, hn⟩ := gap_some.1 h
  refine Lib.index_first (by rw [e]; simp) ?_ ?_
  · unfold Lib.occAt; rw [e, List.drop_left]; rfl
  · intro j hj
    have h2 := hn j hj
    unfold Lib.occAt
    have hlt : j + 1 < l.length := by rw [e]; simp; omega
    rw [List.drop_eq_getElem_cons (by omega), List.drop_eq_getElem_cons hlt]
    unfold two at h2
    rw [List.getElem?_eq_getElem (by omega), List.getElem?_eq_getElem hlt] at h2
    simp only [List.isPrefixOf, Bool.and_true]
    rw [Bool.and_eq_false_iff]
    by_cases c : l[j] = 58
    · right
      simp only [beq_eq_false_iff_ne]; intro e2
      exact h2 ⟨by rw [c], by rw [e2]⟩
    · left
      simp only [beq_eq_false_iff_ne]; intro e2; exact c e2.symm
theorem index_nogap : ∀ {l : List UInt8}, gap l = none → Lib.index l [58, 58] = -1
  | [], _ => rfl
  | b :: l, h => by
    rw [gap] at h
    by_cases h0 : two (b :: l) 0
    · rw [if_pos h0] at h; cases h
    · rw [if_neg h0, Option.map_eq_none_iff] at h
      have ih := index_nogap h
      have hp : ([58, 58] : List UInt8).isPrefixOf (b :: l) = false := by
        unfold two at h0
        cases l with
        | nil => simp [List.isPrefixOf]
        | cons c t =>
          simp at h0
          simp [List.isPrefixOf]
          intro e1 e2; exact h0 e1.symm e2.symm
      rw [Lib.index, hp, ih]; simp
theorem cut_of_gap {l : List UInt8} : Lib.cut l [58, 58] = match gap l with | some (b, a) => (b, a, true) | none => (l, [], false) := by
  cases h : gap l with
  | none => unfold Lib.cut; rw [index_nogap h]; rfl
  | some p =>
    obtain ⟨b, a⟩ := p
    unfold Lib.cut
    rw [index_gap h, if_pos (by omega), Int.toNat_natCast]
    obtain ⟨e, _⟩ := gap_some.1 h
    simp only []
    have h1 : l.take b.length = b := by rw [e]; exact List.take_left' rfl
    have h2 : l.drop (b.length + 2) = a := by rw [e, ← List.drop_drop, List.drop_left]; rfl
    rw [h1]
    show (b, l.drop (b.length + 2), true) = _
    rw [h2]
/-- What is read, by the two sides that the library's cut leaves. -/
theorem groups_cut {l b a : List UInt8} {short : Bool} (h : Lib.cut (spelled l) [58, 58] = (b, a, short)) :
    groups l = if allHex (parts b) = true ∧ allHex (parts a) = true ∧ fits ((parts b).length + (parts a).length) short = true then some (nums (parts b) ++ List.replicate (8 - (parts b).length - (parts a).length) 0 ++ nums (parts a)) else none := by
  rw [cut_of_gap] at h
  rw [groups_code]
  cases hg : gap (spelled l) with
  | none =>
    rw [hg] at h
    simp only [Prod.mk.injEq] at h
    obtain ⟨rfl, rfl, rfl⟩ := h
    have h0 : parts [] = [] := rfl
    rw [h0]
    simp only [fits_no]
    by_cases h8 : (parts (spelled l)).length = 8
    · simp [h8, allHex, nums]
    · simp [h8, allHex]
  | some p =>
    obtain ⟨x, y⟩ := p
    rw [hg] at h
    simp only [Prod.mk.injEq] at h
    obtain ⟨rfl, rfl, rfl⟩ := h
    simp only [fits_yes]
theorem cut_len6 {l b a : List UInt8} {short : Bool} (h : Lib.cut l [58, 58] = (b, a, short)) : b.length ≤ l.length ∧ a.length ≤ l.length := by
  unfold Lib.cut at h
  split at h
  · simp only [Prod.mk.injEq] at h
    obtain ⟨rfl, rfl, _⟩ := h
    exact ⟨List.length_take_le' _ _, by rw [List.length_drop]; omega⟩
  · simp only [Prod.mk.injEq] at h
    obtain ⟨rfl, rfl, _⟩ := h
    simp
/-- The list of the groups, laid part by part. -/
theorem laid8 {H T : List Int} (h : H.length + T.length ≤ 8) : splice (splice (List.replicate 8 (intV 0)) 0 (H.map intV)) (8 - T.length) (T.map intV) = (H ++ List.replicate (8 - H.length - T.length) 0 ++ T).map intV := by
  unfold splice
  have a1 : List.take 0 (List.replicate 8 (intV 0)) ++ (H.map intV ++ List.drop (0 + (H.map intV).length) (List.replicate 8 (intV 0))) = H.map intV ++ List.replicate (8 - H.length) (intV 0) := by
    rw [List.take_zero, List.nil_append, Nat.zero_add, List.drop_replicate, List.length_map]
  rw [a1, List.take_append, List.take_of_length_le (by simp; omega), List.take_replicate, List.drop_eq_nil_of_le (by simp; omega), List.append_nil, List.map_append, List.map_append, List.map_replicate]
  congr 3
  simp; omega
theorem slice8i (g : Nat) (W : World) : (Instr.sliceAt 79 (.pointer (some ⟨g, 0, none⟩)) none none none).run Try.prog W = .ok (.slice (some ⟨g, 0, none⟩) 8 8) W := by
  have e1 : Try.prog.arrayLen 79 = 8 := by kernel_rfl
  have e2 : Try.prog.elem 79 = 3 := by kernel_rfl
  have e3 : (sizeOf 3).run Try.prog W = .ok 1 W := by kernel_rfl
  rw [run_sliceAt_array_all W 79 _ (by rw [e1, e2]; kernel_rfl), e1, e2, e3]
  rfl
theorem slice8ih (g k : Nat) (hk : k ≤ 8) (W : World) : (Instr.sliceAt 79 (.pointer (some ⟨g, 0, none⟩)) none (some (.int .i64 (k : Int))) none).run Try.prog W = .ok (.slice (some ⟨g, 0, none⟩) k 8) W := by
  have e1 : Try.prog.arrayLen 79 = 8 := by kernel_rfl
  have e2 : Try.prog.elem 79 = 3 := by kernel_rfl
  have e3 : (sizeOf 3).run Try.prog W = .ok 1 W := by kernel_rfl
  rw [run_sliceAt_array_h W 79 _ (by rw [e1, e2]; kernel_rfl) .i64 k (by omega) (by rw [e1]; omega), e1, e2, e3]
  simp [Result.andThen, slicedAt, Addr.add]
theorem slice8il (g k : Nat) (z : Int) (hz : z = (k : Int)) (hk : k ≤ 8) (W : World) : (Instr.sliceAt 79 (.pointer (some ⟨g, 0, none⟩)) (some (.int .i64 z)) none none).run Try.prog W = .ok (.slice (restA g k) (8 - k) (8 - k)) W := by
  subst hz
  have e1 : Try.prog.arrayLen 79 = 8 := by kernel_rfl
  have e2 : Try.prog.elem 79 = 3 := by kernel_rfl
  have e3 : (sizeOf 3).run Try.prog W = .ok 1 W := by kernel_rfl
  rw [run_sliceAt_array_l W 79 _ (by rw [e1, e2]; kernel_rfl) .i64 k (by omega) (by rw [e1]; omega), e1, e2, e3]
  simp only [Result.andThen, slicedAt, Int.toNat_natCast, Nat.mul_one]
  unfold restA
  by_cases h : k = 8
  · rw [if_pos h.symm, if_pos h]
  · rw [if_neg (by omega), if_neg h]
    congr 3
    unfold Addr.add; split <;> simp_all
def NoInts (w : World) (e : Ending) (w' : World) : Prop := ∃ A c, e = .returned (.tuple #[.slice A 0 c, .bool false]) ∧ Below w.heap.size w w'
def SomeInts (gs : List Int) (w : World) (e : Ending) (w' : World) : Prop := ∃ A c, e = .returned (.tuple #[.slice A gs.length c, .bool true]) ∧ (0 < gs.length → ∃ b o, A = some ⟨b, o, none⟩ ∧ b < w'.heap.size ∧ ∀ j (h : j < gs.length), w'.cell? ⟨b, o + j, none⟩ = some (.int .i64 gs[j])) ∧ Below w.heap.size w w'
end Go.Proofs.Ytdlbhcakfciagaa.V6
