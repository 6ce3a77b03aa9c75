/- Contracts of package ipv6: groups and numbers. -/
import Derived.Test.YtefkolkagebffaaGreatDoorMath
import Derived.Test.YtefkolkagebffaaGreatDoorDecAll
import Derived.Test.YtefkolkagebffaaGreatDoorWordsAll
import Derived.Deep.OwnRows
import Derived.OwnWalk
import Derived.Laws.BitsAllLaws
import Derived.Deep.MidRow
import Derived.Deep.RegionHeld3
import Derived.Test.YtefkolkagebffaaGreatDoorIpv4
import Derived.Laws.CopyOwn
import Derived.Lib.LastIndexByte
import Derived.IntWalk
namespace Go.Proofs.YtefkolkagebffaaGreatDoor.V6
set_option maxRecDepth 100000
open Go.ChangeShapes Go.WideShapes Go.ChangeAt Go.RowKit
open Dec Words V4
set_option linter.unusedVariables false
theorem fill_any (n : Int) (b : Bool) (w : World) : Calls Tryz.prog 89 #[.int .i64 n, .bool b] w fun e w' => e = .returned (.bool (if b then decide (n < 8) else n == 8)) ∧ w = w' := by
  cases b
  · go_enter Tryz.func89, Tryz.ntmps89
    go_wp2
    go_ret
    exact ⟨rfl, rfl⟩
  · go_enter Tryz.func89, Tryz.ntmps89
    go_wp2
    go_ret
    exact ⟨rfl, rfl⟩
theorem val_take_lt (gs : List Int) (h : ∀ g ∈ gs, 0 ≤ g ∧ g ≤ 65535) : ∀ k, k ≤ 3 → val (gs.take k) < 65536 ^ k := by
  intro k
  induction k with
  | zero => intro _; simp [val]
  | succ k ih =>
    intro hk
    have ih := ih (by omega)
    by_cases hlt : k < gs.length
    · rw [List.take_succ_eq_append_getElem hlt, val_snoc]
      have := h gs[k] (List.getElem_mem hlt)
      rw [Nat.pow_succ]
      have h3 : (65536 : Nat) ^ k ≤ 65536 ^ 2 := Nat.pow_le_pow_right (by omega) (by omega)
      have h4 : (65536 : Nat) ^ 2 = 4294967296 := by decide
      omega
    · rw [List.take_of_length_le (by omega)] at ih ⊢
      exact Nat.lt_of_lt_of_le ih (Nat.pow_le_pow_right (by omega) (by omega))
theorem val_step (gs : List Int) (h : ∀ g ∈ gs, 0 ≤ g ∧ g ≤ 65535) (k : Nat) (hk : k ≤ 3) (hlt : k < gs.length) :
    Value.int .u64 (bits .or .u64 ((val (gs.take k) : Nat) * 65536 : Int) gs[k]) = .int .u64 (val (gs.take (k + 1)) : Nat) := by
  have hv := val_take_lt gs h k hk
  have h3 : (65536 : Nat) ^ k ≤ 65536 ^ 3 := Nat.pow_le_pow_right (by omega) (by omega)
  have h4 : (65536 : Nat) ^ 3 = 281474976710656 := by decide
  have hp := h gs[k] (List.getElem_mem hlt)
  obtain ⟨b, hb⟩ := Int.eq_ofNat_of_zero_le hp.1
  have e : ((val (gs.take k) : Nat) * 65536 : Int) = ((val (gs.take k) * 65536 : Nat) : Int) := by omega
  rw [List.take_succ_eq_append_getElem hlt, val_snoc, hb, e, u64_or_nat _ _ (by omega) (by omega), Int.toNat_natCast]
  have h5 : (val (gs.take k) * 65536) ||| b = 65536 * val (gs.take k) + b := by
    rw [Nat.mul_comm]; exact (Nat.two_pow_add_eq_or_of_lt (i := 16) (by omega) _).symm
  rw [h5]; congr 2; omega
set_option maxHeartbeats 1000000 in
theorem number_any (gs : List Int) (b o cap : Nat) (w : World) (h4 : gs.length = 4) (hc : ∀ j (h : j < gs.length), w.cell? ⟨b, o + j, none⟩ = some (.int .i64 gs[j])) (hcap : 4 ≤ cap) (h : ∀ g ∈ gs, 0 ≤ g ∧ g ≤ 65535) :
    Calls Tryz.prog 90 #[.slice (some ⟨b, o, none⟩) 4 cap] w fun e w' => e = .returned (.int .u64 (val gs : Nat)) ∧ w = w' := by
  have H4 := Lib.hid h4
  have HC := Lib.hid hc
  have HB := Lib.hid h
  clear h4 hc h
  go_enter Tryz.func90, Tryz.ntmps90
  go_wp2
  go_loop [3, 8] (fun n i => ∃ k : Nat, k ≤ 4 ∧ i = .int .i64 k ∧ n = .int .u64 (val (gs.take k) : Nat)) (fun _ i => 4 - (intOf i).toNat)
  case atStart => exact ⟨0, by omega, rfl, rfl⟩
  case round =>
    obtain ⟨k, hk, rfl, rfl⟩ := hrel
    by_cases hlt : k < 4
    · have hlt2 : k < gs.length := by rw [H4.out]; exact hlt
      have h1 := HC.out k hlt2
      have hg := HB.out gs[k] (List.getElem_mem hlt2)
      have HS := Lib.hid (val_step gs HB.out k (by omega) hlt2)
      have hv := val_take_lt gs HB.out k (by omega)
      have h3 : (65536 : Nat) ^ k ≤ 65536 ^ 3 := Nat.pow_le_pow_right (by omega) (by omega)
      have h4 : (65536 : Nat) ^ 3 = 281474976710656 := by decide
      have hv2 : val (gs.take k) < 281474976710656 := by omega
      clear h3 h4 hv
      go_wp2
      go_round
      case rel => exact ⟨k + 1, by omega, by go_num, HS.out⟩
      case measure => simp [intOf]; omega
    · have E : Hid (gs.take k = gs) := Lib.hid (List.take_of_length_le (by rw [H4.out]; omega))
      go_wp2
      go_ret
      exact ⟨by rw [E.out]; rfl, rfl⟩
/-- A list of ints in memory. -/
def Ints (w : World) (v : Value) (gs : List Int) : Prop :=
  ∃ A c, v = .slice A gs.length c ∧ gs.length ≤ c ∧ (0 < gs.length → ∃ b o, A = some ⟨b, o, none⟩ ∧ b < w.heap.size ∧ ∀ j (h : j < gs.length), w.cell? ⟨b, o + j, none⟩ = some (.int .i64 gs[j]))
theorem Ints.below {w w1 : World} {v : Value} {gs : List Int} (h : Ints w v gs) (hb : Below w.heap.size w w1) : Ints w1 v gs := by
  obtain ⟨A, c, h1, h2, h3⟩ := h
  refine ⟨A, c, h1, h2, fun hp => ?_⟩
  obtain ⟨b, o, e, hlt, hc⟩ := h3 hp
  exact ⟨b, o, e, Nat.lt_of_lt_of_le hlt hb.size, fun j hj => (hb.cell (p := ⟨b, o + j, none⟩) hlt).trans (hc j hj)⟩
theorem Ints.nil (w : World) : Ints w (.slice none 0 0) [] := ⟨none, 0, rfl, Nat.le_refl _, fun h => absurd h (by simp)⟩
theorem Tryz.infoInt : (Tryz.prog.info? 3).map (fun i => (i.zero, i.size, i.bytes)) = some (some (.int .i64 0), 1, 8) := by kernel_rfl
def intV (g : Int) : Value := .int .i64 g
theorem ints_one (gs : List Int) : ∀ u ∈ gs.map intV, u.oneCell' = true := by
  intro u hu
  obtain ⟨g, _, rfl⟩ := List.mem_map.1 hu
  rfl
theorem Ints.own {w : World} {base e : Nat} {v : Value} {gs : List Int} (h : w.ownsRow base e 1 v gs.length (gs.map intV)) : Ints w v gs := by
  rcases h.2 with ⟨rfl, h0⟩ | ⟨g, cap, cur, rfl, _, hh, hnc, _, _, hcur⟩
  · exact ⟨none, 0, by rw [h0], by omega, fun hp => absurd hp (by omega)⟩
  · refine ⟨some ⟨g, 0, none⟩, cap, rfl, hnc, fun hp => ⟨g, 0, rfl, ?_, fun j hj => ?_⟩⟩
    · rcases Nat.lt_or_ge g w.heap.size with hlt | hge
      · exact hlt
      · rw [Array.getElem?_eq_none hge] at hh; cases hh
    · have := h.cells (g := g) rfl j (intV gs[j]) (by rw [List.getElem?_map, List.getElem?_eq_getElem hj]; rfl)
      rw [show (⟨g, 0, none⟩ : Addr).add j = ⟨g, 0 + j, none⟩ from by unfold Addr.add; split <;> simp_all] at this
      exact this
/-- What a list of the call's own owns, behind a callee that only made memory. -/
theorem own_below {w w1 : World} {base e size n : Nat} {v : Value} {xs : List Value} (h : w.ownsRow base e size v n xs) (hb : Below w.heap.size w w1) : w1.ownsRow base e size v n xs := by
  refine ⟨h.1, ?_⟩
  rcases h.2 with h2 | ⟨g, cap, cur, h1, h2, hh, h3⟩
  · exact Or.inl h2
  · refine Or.inr ⟨g, cap, cur, h1, h2, ?_, h3⟩
    rw [hb.block g ?_]; exact hh
    rcases Nat.lt_or_ge g w.heap.size with hlt | hge
    · exact hlt
    · rw [Array.getElem?_eq_none hge] at hh; cases hh
theorem own_form {w : World} {base e size n : Nat} {v : Value} {xs : List Value} (h : w.ownsRow base e size v n xs) : ∃ A c, v = .slice A n c := by
  rcases h.2 with ⟨rfl, rfl⟩ | ⟨g, cap, cur, rfl, _⟩
  · exact ⟨none, 0, rfl⟩
  · exact ⟨some ⟨g, 0, none⟩, cap, rfl⟩
theorem int_cell {w : World} {v u : Value} {e : Nat} (j : Nat) (h : [v][j]? = some u) : (w.alloc (.cells #[v] e)).cell? ((⟨w.heap.size, 0, none⟩ : Addr).add j) = some u := by
  match j, h with
  | 0, h =>
    simp at h; subst h
    rw [show (⟨w.heap.size, 0, none⟩ : Addr).add 0 = ⟨w.heap.size, 0, none⟩ from rfl, World.cell?_alloc_mark]
    rfl
  | j + 1, h => simp at h
/-- What read returns: all groups, or nothing. -/
def Read6 (l : List UInt8) (w : World) (e : Ending) (w' : World) : Prop := ∃ v, e = .returned (.tuple #[v, .bool (allHex (parts l))]) ∧ Ints w' v (if allHex (parts l) then nums (parts l) else []) ∧ Below w.heap.size w w'
theorem read6_no {l : List UInt8} {w w' : World} {e : Ending} (h : allHex (parts l) = false) (he : e = .returned (.tuple #[.slice none 0 0, .bool false])) (hb : Below w.heap.size w w') : Read6 l w e w' :=
  ⟨.slice none 0 0, by rw [h]; exact he, by rw [h]; exact Ints.nil _, hb⟩
theorem read6_yes {l : List UInt8} {w w' : World} {e : Ending} {v : Value} (h : allHex (parts l) = true) (hi : Ints w' v (nums (parts l))) (he : e = .returned (.tuple #[v, .bool true])) (hb : Below w.heap.size w w') : Read6 l w e w' :=
  ⟨v, by rw [h]; exact he, by rw [h]; exact hi, hb⟩
theorem parseHex_list (l : List UInt8) (w : World) (hs : l.length ≤ 9223372036854775807) :
    Calls Tryz.prog 130 #[.string ⟨l.toArray⟩] w fun e w' => e = .returned (.tuple #[.int .i64 (hexN l), .bool (hexB l)]) ∧ w = w' := by
  have := parseHex_any ⟨l.toArray⟩ w (by rw [← len_size, str_back]; exact hs)
  rwa [str_back] at this
theorem allHex_bad {ps : List (List UInt8)} (k : Nat) (hk : k < ps.length) (h : hexB ps[k] = false) : allHex ps = false := by
  unfold allHex
  rw [List.all_eq_false]
  exact ⟨ps[k], List.getElem_mem hk, by simp [h]⟩
set_option maxHeartbeats 2000000 in
theorem read_any (l : List UInt8) (w : World) (hl : l.length < 4294967281) : Calls Tryz.prog 88 #[.string ⟨l.toArray⟩] w (Read6 l w) := by
  by_cases h0 : l = []
  · subst h0
    go_enter Tryz.func88, Tryz.ntmps88
    go_wp2
    go_ret2
    exact read6_yes (by decide) (Ints.nil _) rfl (Below.refl _ _)
  · obtain ⟨i0, hi, hz0, hz1, hz2⟩ := info_parts Tryz.infoInt
    have hp : parts l = cut 58 l := by unfold parts; rw [if_neg h0]
    have HP := Lib.hid hp
    have HL : Hid (∀ p ∈ cut 58 l, p.length < 4294967281) := fun p hp => Nat.lt_of_le_of_lt (cut_part_le 58 l p hp) hl
    have hcl : (cut 58 l).length ≤ 4294967281 := by have := List.count_le_length (a := (58 : UInt8)) (l := l); rw [cut_len]; omega
    have hl0 : ¬ l.length = 0 := by simpa using h0
    clear hp
    have hb0 : (l == []) = false := by simpa using h0
    clear h0
    go_enter Tryz.func88, Tryz.ntmps88
    go_wp2_with fail
    refine (split_list l 58 _ hl).mono ?_
    rintro e w1 ⟨v, rfl, hv, hb1⟩
    obtain ⟨A, c, rfl, hcap, hcell⟩ := hv
    have HC := Lib.hid hcell
    clear hcell
    go_wp2
    go_loopw [4, 14] (fun v i wr => ∃ k : Nat, k ≤ (cut 58 l).length ∧ i = .int .i64 k ∧ Hid (allHex ((cut 58 l).take k) = true) ∧ wr.ownsRow w1.heap.size 3 1 v k ((nums ((cut 58 l).take k)).map intV) ∧ Below w1.heap.size w1 wr) (fun _ i _ => (cut 58 l).length - (intOf i).toNat)
    case atStart => exact ⟨0, Nat.zero_le _, rfl, Lib.hid rfl, ⟨by simp [nums], .inl ⟨rfl, rfl⟩⟩, Below.refl _ _⟩
    case round =>
      obtain ⟨k, hk, rfl, HA, hown, hbel⟩ := hrel
      have hsz := hbel.size
      by_cases hlt : k < (cut 58 l).length
      · obtain ⟨b, o, rfl, hb, hc⟩ := HC.out (by omega)
        have h1 := (hbel.cell (p := ⟨b, o + k, none⟩) hb).trans (hc k hlt)
        have hpl := HL.out _ (List.getElem_mem hlt)
        clear hc
        have HX := Lib.hid (parseHex_list (cut 58 l)[k] wr (by omega))
        have hbd := hexN_bd (cut 58 l)[k]
        cases hpb : hexB (cut 58 l)[k]
        · have E : Hid (allHex (parts l) = false) := by rw [HP.out]; exact Lib.hid (allHex_bad k hlt hpb)
          rw [hpb] at HX
          clear hpb
          go_wp2_with fail
          refine HX.out.mono ?_
          rintro e w2 ⟨rfl, rfl⟩
          go_wp2
          go_ret2
          exact read6_no E.out rfl (low_trans hb1 hbel)
        · have HA2 : Hid (allHex ((cut 58 l).take (k + 1)) = true) := Lib.hid (by rw [List.take_succ_eq_append_getElem hlt, allHex_append, HA.out]; simp [allHex, hpb])
          have HN : Hid ((nums ((cut 58 l).take (k + 1))).map intV = (nums ((cut 58 l).take k)).map intV ++ [.int .i64 (hexN (cut 58 l)[k])]) := Lib.hid (by rw [List.take_succ_eq_append_getElem hlt, nums_append]; simp [nums, intV])
          rw [hpb] at HX
          clear hpb
          go_wp2_with fail
          refine HX.out.mono ?_
          rintro e w2 ⟨rfl, rfl⟩
          go_wp2_with (at_builtin; refine wpList_append_own _ rfl _ _ 128 rfl w1.heap.size 3 i0 (.int .i64 0) 1 8 Tryz.underlying128 hi hz0 hz1 hz2 rfl (by decide) _ _ _ rfl (hown.alloc _) ⟨wr.heap.size, 0, none⟩ 1 1 [.int .i64 (hexN (cut 58 l)[k])] rfl rfl ?c1 ?c2 ?c3 ?c4 ?c5 ?_)
          case c1 => exact fun j u h => int_cell j h
          case c2 => intro u hu; simp at hu; subst hu; rfl
          case c3 => unfold maxLen; omega
          case c4 => omega
          case c5 => simp; omega
          · intro v' w3 hown' hgrow _
            have hb3 := (hbel.alloc hsz (.cells #[.int .i64 (hexN (cut 58 l)[k])] 3)).grown hgrow (by simp; omega) (fun q hq => (hown.lt q hq).1)
            clear hgrow hown hbel
            go_wp2
            go_roundw
            case rel => exact ⟨k + 1, by omega, by go_num, HA2, by rw [HN.out]; exact hown', hb3⟩
            case measure => simp [intOf]; omega
      · have E : Hid (k = (cut 58 l).length) := Lib.hid (by omega)
        have E1 : Hid (allHex (parts l) = true) := by
          have := HA.out
          rw [List.take_of_length_le (by omega)] at this
          rw [HP.out]; exact Lib.hid this
        have HO : Hid (Ints wr u4 (nums (parts l))) := by
          have h9 := hown
          rw [List.take_of_length_le (by omega)] at h9
          rw [HP.out]
          refine Lib.hid (Ints.own (base := w1.heap.size) (e := 3) ?_)
          have : (nums (cut 58 l)).length = k := by rw [E.out]; simp [nums]
          rw [this]; exact h9
        go_wp2
        go_ret2
        exact read6_yes E1.out HO.out rfl (low_trans hb1 hbel)
end Go.Proofs.YtefkolkagebffaaGreatDoor.V6
/- Contracts of package ipv6: groups and numbers. -/
namespace Go.Proofs.YtefkolkagebffaaGreatDoor.V6
set_option maxRecDepth 100000
open Go.ChangeShapes Go.WideShapes Go.ChangeAt Go.RowKit
open Dec Words V4
set_option linter.unusedVariables false
theorem and16 (m : Nat) (h : m < 18446744073709551616) : wrap64 (bits .and .u64 (m : Int) 65535) = ((m % 65536 : Nat) : Int) := by
  have e := u64_and_nat m 65535 h (by omega)
  have e2 : m &&& 65535 = m % 65536 := Nat.and_two_pow_sub_one_eq_mod m 16
  rw [show ((65535 : Nat) : Int) = 65535 from rfl] at e
  rw [e, e2]
  unfold wrap64; omega
theorem gr_walk (hi lo : Nat) (h1 : hi < 18446744073709551616) (h2 : lo < 18446744073709551616) :
    (#[Value.int IntKind.i64 (wrap64 (bits BinOp.and IntKind.u64 ((hi : Int) / 65536 / 65536 / 65536) 65535)), Value.int IntKind.i64 (wrap64 (bits BinOp.and IntKind.u64 ((hi : Int) / 65536 / 65536) 65535)),
      Value.int IntKind.i64 (wrap64 (bits BinOp.and IntKind.u64 ((hi : Int) / 65536) 65535)), Value.int IntKind.i64 (wrap64 (bits BinOp.and IntKind.u64 (hi : Int) 65535)),
      Value.int IntKind.i64 (wrap64 (bits BinOp.and IntKind.u64 ((lo : Int) / 65536 / 65536 / 65536) 65535)), Value.int IntKind.i64 (wrap64 (bits BinOp.and IntKind.u64 ((lo : Int) / 65536 / 65536) 65535)),
      Value.int IntKind.i64 (wrap64 (bits BinOp.and IntKind.u64 ((lo : Int) / 65536) 65535)), Value.int IntKind.i64 (wrap64 (bits BinOp.and IntKind.u64 (lo : Int) 65535))] : Array Value) = ((gr hi lo).map intV).toArray := by
  have e (a : Nat) (h : a < 18446744073709551616) : wrap64 (bits BinOp.and IntKind.u64 ((a : Int) / 65536 / 65536 / 65536) 65535) = ((a / 281474976710656 % 65536 : Nat) : Int) ∧ wrap64 (bits BinOp.and IntKind.u64 ((a : Int) / 65536 / 65536) 65535) = ((a / 4294967296 % 65536 : Nat) : Int)
      ∧ wrap64 (bits BinOp.and IntKind.u64 ((a : Int) / 65536) 65535) = ((a / 65536 % 65536 : Nat) : Int) ∧ wrap64 (bits BinOp.and IntKind.u64 (a : Int) 65535) = ((a % 65536 : Nat) : Int) := by
    refine ⟨?_, ?_, ?_, and16 a h⟩
    · rw [show ((a : Int) / 65536 / 65536 / 65536) = ((a / 281474976710656 : Nat) : Int) by omega]; exact and16 _ (by omega)
    · rw [show ((a : Int) / 65536 / 65536) = ((a / 4294967296 : Nat) : Int) by omega]; exact and16 _ (by omega)
    · rw [show ((a : Int) / 65536) = ((a / 65536 : Nat) : Int) by omega]; exact and16 _ (by omega)
  obtain ⟨a1, a2, a3, a4⟩ := e hi h1
  obtain ⟨b1, b2, b3, b4⟩ := e lo h2
  rw [a1, a2, a3, a4, b1, b2, b3, b4]
  rfl
set_option maxHeartbeats 2000000 in
theorem apart_any (hi lo : Nat) (w : World) (h1 : hi < 18446744073709551616) (h2 : lo < 18446744073709551616) : Calls Tryz.prog 141 #[.int .u64 hi, .int .u64 lo] w fun e w' => e = .returned (.agg ((gr hi lo).map intV).toArray) ∧ Below w.heap.size w w' := by
  rw [← gr_walk hi lo h1 h2]
  go_enter Tryz.func141, Tryz.ntmps141
  go_wp2
  go_rounds 5
  go_returns
  exact ⟨rfl, ((Below.refl _ _).alloc (Nat.le_refl _) _).alloc (by simp) _⟩
theorem gs_index (gs : List Int) (cs : Array Value) (hcs : cs = (gs.map intV).toArray) (k : Nat) (hk : k < gs.length) (h8 : gs.length = 8) (w : World) : (Instr.index 132 (.agg cs) (.int .i64 k)).run Tryz.prog w = .ok (.int .i64 gs[k]) w := by
  subst hcs
  have hu := Tryz.underlying132
  have hlt : k < 8 := by omega
  simp [Instr.index, run_underlying hu, asIntOf, hlt, List.getElem?_eq_getElem hk, intV, go_sem]
theorem cst_bd (p : List Bool) : ∀ k, (cst p k).1 ≤ k + 1 ∧ (cst p k).2.1 ≤ k ∧ (cst p k).2.2.1 ≤ k ∧ (cst p k).2.2.2 ≤ k
  | 0 => by simp [cst]
  | k + 1 => by
    have ih := cst_bd p k
    simp only [cst]
    split <;> split <;> simp only [] <;> omega
theorem cst_yes {p : List Bool} {k x y f t : Nat} (h : cst p k = (x, y, f, t)) (hz : p.getD k false = true) (hx : x < y + 1) : cst p (k + 1) = (y + 1, y + 1, k - y, k + 1) := by
  simp only [cst, h, hz, if_true, if_pos hx, Nat.add_sub_add_right]
theorem cst_stay {p : List Bool} {k x y f t : Nat} (h : cst p k = (x, y, f, t)) (hz : p.getD k false = true) (hx : ¬ x < y + 1) : cst p (k + 1) = (x, y + 1, f, t) := by
  simp only [cst, h, hz, if_true, if_neg hx]
theorem cst_no {p : List Bool} {k x y f t : Nat} (h : cst p k = (x, y, f, t)) (hz : p.getD k false = false) : cst p (k + 1) = (x, 0, f, t) := by
  simp only [cst, h, hz]
  rfl
theorem zp_get (gs : List Int) (k : Nat) (hk : k < gs.length) : (zp gs).getD k false = (gs[k] == 0) := by
  unfold zp
  rw [List.getD, List.getElem?_map, List.getElem?_eq_getElem hk]; rfl
set_option maxHeartbeats 2000000 in
theorem zeros_any (gs : List Int) (w : World) (h8 : gs.length = 8) (h : ∀ g ∈ gs, 0 ≤ g ∧ g ≤ 65535) : Calls Tryz.prog 142 #[.agg (gs.map intV).toArray] w fun e w' => e = .returned (.tuple #[.int .i64 (from6 gs : Nat), .int .i64 (to6 gs : Nat)]) ∧ Below w.heap.size w w' := by
  obtain ⟨a0, a1, a2, a3, a4, a5, a6, a7, e⟩ : ∃ a0 a1 a2 a3 a4 a5 a6 a7, gs = [a0, a1, a2, a3, a4, a5, a6, a7] := by
    match gs, h8 with
    | [a0, a1, a2, a3, a4, a5, a6, a7], _ => exact ⟨_, _, _, _, _, _, _, _, rfl⟩
  have ecs : (gs.map intV).toArray = #[.int .i64 a0, .int .i64 a1, .int .i64 a2, .int .i64 a3, .int .i64 a4, .int .i64 a5, .int .i64 a6, .int .i64 a7] := by rw [e]; rfl
  rw [ecs]
  have EC := Lib.hid ecs.symm
  have H8 := Lib.hid h8
  have HB := Lib.hid h
  clear e ecs h8 h
  go_enter Tryz.func142, Tryz.ntmps142
  go_wp2
  go_loop [2, 3, 4, 5, 9] (fun fr to lg ln i => ∃ k x y f t : Nat, k ≤ 8 ∧ i = .int .i64 k ∧ fr = .int .i64 f ∧ to = .int .i64 t ∧ lg = .int .i64 x ∧ ln = .int .i64 y ∧ Hid (cst (zp gs) k = (x, y, f, t)) ∧ x ≤ k + 1 ∧ y ≤ k) (fun _ _ _ _ i => 8 - (intOf i).toNat)
  case atStart => exact ⟨0, 1, 0, 0, 0, by omega, rfl, rfl, rfl, rfl, rfl, Lib.hid rfl, by omega, by omega⟩
  case round =>
    obtain ⟨k, x, y, f, t, hk, rfl, rfl, rfl, rfl, rfl, HE, hx, hy⟩ := hrel
    by_cases hlt : k < 8
    · have hlt2 : k < gs.length := by rw [H8.out]; exact hlt
      have hidx := gs_index gs _ EC.out k hlt2 H8.out
      have hbd := cst_bd (zp gs) (k + 1)
      have hzp := zp_get gs k hlt2
      by_cases hz : gs[k] = 0
      · have h0 : (gs[k] != 0) = false := by rw [hz]; rfl
        rw [hz] at hzp
        by_cases hxy : x < y + 1
        · have E := Lib.hid (cst_yes HE.out hzp hxy)
          have hb2 := hbd; rw [E.out] at hb2; simp only [] at hb2
          clear hzp hz hbd
          go_wp2
          go_round
          case rel => exact ⟨k + 1, y + 1, y + 1, k - y, k + 1, by omega, by go_num, by go_num, by go_num, by go_num, by go_num, E, by omega, by omega⟩
          case measure => simp [intOf]; omega
        · have E := Lib.hid (cst_stay HE.out hzp hxy)
          clear hzp hz hbd
          go_wp2
          go_round
          case rel => exact ⟨k + 1, x, y + 1, f, t, by omega, by go_num, rfl, rfl, rfl, by go_num, E, by omega, by omega⟩
          case measure => simp [intOf]; omega
      · have h0 : (gs[k] != 0) = true := by simpa using hz
        have E := Lib.hid (cst_no HE.out (by rw [hzp]; simpa using hz))
        clear hzp hz hbd
        go_wp2
        go_round
        case rel => exact ⟨k + 1, x, 0, f, t, by omega, by go_num, rfl, rfl, rfl, by go_num, E, by omega, by omega⟩
        case measure => simp [intOf]; omega
    · have hk8 : k = 8 := by omega
      subst hk8
      have E1 : Hid (f = from6 gs) := Lib.hid (by unfold from6; rw [HE.out])
      have E2 : Hid (t = to6 gs) := Lib.hid (by unfold to6; rw [HE.out])
      go_wp2
      go_ret2
      exact ⟨by rw [← E1.out, ← E2.out]; rfl, (Below.refl _ _).alloc (Nat.le_refl _) _⟩
end Go.Proofs.YtefkolkagebffaaGreatDoor.V6
/- Contract of package ipv6: an address's text. -/
namespace Go.Proofs.YtefkolkagebffaaGreatDoor.V6
set_option maxRecDepth 100000
open Go.ChangeShapes Go.WideShapes Go.ChangeAt Go.RowKit
open Dec Words V4
set_option linter.unusedVariables false
theorem zeros_arr (gs : List Int) (cs : Array Value) (hcs : cs = (gs.map intV).toArray) (w : World) (h8 : gs.length = 8) (h : ∀ g ∈ gs, 0 ≤ g ∧ g ≤ 65535) : Calls Tryz.prog 142 #[.agg cs] w fun e w' => e = .returned (.tuple #[.int .i64 (from6 gs : Nat), .int .i64 (to6 gs : Nat)]) ∧ Below w.heap.size w w' := by
  rw [hcs]; exact zeros_any gs w h8 h
theorem slice8 (g : Nat) (W : World) : (Instr.sliceAt 165 (.pointer (some ⟨g, 0, none⟩)) none none none).run Tryz.prog W = .ok (.slice (some ⟨g, 0, none⟩) 8 8) W := by
  have e1 : Tryz.prog.arrayLen 165 = 8 := by kernel_rfl
  have e2 : Tryz.prog.elem 165 = 9 := by kernel_rfl
  have e3 : (sizeOf 9).run Tryz.prog W = .ok 1 W := by kernel_rfl
  rw [run_sliceAt_array_all W 165 _ (by rw [e1, e2]; kernel_rfl), e1, e2, e3]
  rfl
theorem slice8h (g k : Nat) (hk : k ≤ 8) (W : World) : (Instr.sliceAt 165 (.pointer (some ⟨g, 0, none⟩)) none (some (.int .i64 (k : Int))) none).run Tryz.prog W = .ok (.slice (some ⟨g, 0, none⟩) k 8) W := by
  have e1 : Tryz.prog.arrayLen 165 = 8 := by kernel_rfl
  have e2 : Tryz.prog.elem 165 = 9 := by kernel_rfl
  have e3 : (sizeOf 9).run Tryz.prog W = .ok 1 W := by kernel_rfl
  rw [run_sliceAt_array_h W 165 _ (by rw [e1, e2]; kernel_rfl) .i64 k (by omega) (by rw [e1]; omega), e1, e2, e3]
  simp [Result.andThen, slicedAt, Addr.add]
/-- Where the rest of a row begins. -/
def restA (g k : Nat) : Option Addr := if k = 8 then some ⟨g, 0, none⟩ else some ⟨g, k, none⟩
theorem slice8l (g k : Nat) (hk : k ≤ 8) (W : World) : (Instr.sliceAt 165 (.pointer (some ⟨g, 0, none⟩)) (some (.int .i64 (k : Int))) none none).run Tryz.prog W = .ok (.slice (restA g k) (8 - k) (8 - k)) W := by
  have e1 : Tryz.prog.arrayLen 165 = 8 := by kernel_rfl
  have e2 : Tryz.prog.elem 165 = 9 := by kernel_rfl
  have e3 : (sizeOf 9).run Tryz.prog W = .ok 1 W := by kernel_rfl
  rw [run_sliceAt_array_l W 165 _ (by rw [e1, e2]; kernel_rfl) .i64 k (by omega) (by rw [e1]; omega), e1, e2, e3]
  simp only [Result.andThen, slicedAt, Int.toNat_natCast, Nat.mul_one]
  unfold restA
  by_cases h : k = 8
  · rw [if_pos h.symm, if_pos h]
  · rw [if_neg (by omega), if_neg h]
    congr 3
    unfold Addr.add; split <;> simp_all
/-- The texts of the groups that are written so far. -/
def cells8 (gs : List Int) (k : Nat) (i : Nat) : Value := if i < k then .string ⟨((hexes gs).getD i []).toArray⟩ else .string ⟨#[]⟩
theorem empty8 (gs : List Int) (i : Nat) (hi : i < 8) : (#[Value.string ⟨#[]⟩, .string ⟨#[]⟩, .string ⟨#[]⟩, .string ⟨#[]⟩, .string ⟨#[]⟩, .string ⟨#[]⟩, .string ⟨#[]⟩, .string ⟨#[]⟩] : Array Value)[i]? = some (cells8 gs 0 i) := by
  have e : (#[Value.string ⟨#[]⟩, .string ⟨#[]⟩, .string ⟨#[]⟩, .string ⟨#[]⟩, .string ⟨#[]⟩, .string ⟨#[]⟩, .string ⟨#[]⟩, .string ⟨#[]⟩] : Array Value) = Array.replicate 8 (.string ⟨#[]⟩) := rfl
  rw [e, Array.getElem?_replicate, if_pos hi]
  unfold cells8
  rw [if_neg (by omega)]
theorem cells8_next (gs : List Int) (k : Nat) (h : k < gs.length) (i : Nat) : (if i = k then Value.string ⟨(hex gs[k]).toArray⟩ else cells8 gs k i) = cells8 gs (k + 1) i := by
  unfold cells8
  by_cases e : i = k
  · subst e
    rw [if_pos rfl, if_pos (by omega)]
    unfold hexes
    rw [List.getD, List.getElem?_map, List.getElem?_eq_getElem h]; rfl
  · rw [if_neg e]
    by_cases e2 : i < k
    · rw [if_pos e2, if_pos (by omega)]
    · rw [if_neg e2, if_neg (by omega)]
theorem txts8 {w : World} {g : Nat} {gs : List Int} (h8 : gs.length = 8) (h : w.rowIs g 165 8 (cells8 gs 8)) : Txts w (.slice (some ⟨g, 0, none⟩) 8 8) (hexes gs) := by
  have hl : (hexes gs).length = 8 := by unfold hexes; simpa using h8
  refine ⟨some ⟨g, 0, none⟩, 8, by rw [hl], by omega, fun _ => ⟨g, 0, rfl, h.lt, fun j hj => ?_⟩⟩
  rw [Nat.zero_add, h.cell (by omega)]
  unfold cells8
  rw [if_pos (by omega), List.getD, List.getElem?_eq_getElem hj]; rfl
theorem txts8h {w : World} {g k : Nat} {gs : List Int} (h8 : gs.length = 8) (hk : k ≤ 8) (h : w.rowIs g 165 8 (cells8 gs 8)) : Txts w (.slice (some ⟨g, 0, none⟩) k 8) ((hexes gs).take k) := by
  have hl : (hexes gs).length = 8 := by unfold hexes; simpa using h8
  have hl2 : ((hexes gs).take k).length = k := by rw [List.length_take]; omega
  refine ⟨some ⟨g, 0, none⟩, 8, by rw [hl2], by omega, fun _ => ⟨g, 0, rfl, h.lt, fun j hj => ?_⟩⟩
  rw [Nat.zero_add, h.cell (by omega)]
  unfold cells8
  rw [if_pos (by omega), List.getD, List.getElem?_eq_getElem (by omega), List.getElem_take]; rfl
theorem txts8l {w : World} {g k : Nat} {gs : List Int} (h8 : gs.length = 8) (hk : k ≤ 8) (h : w.rowIs g 165 8 (cells8 gs 8)) : Txts w (.slice (restA g k) (8 - k) (8 - k)) ((hexes gs).drop k) := by
  have hl : (hexes gs).length = 8 := by unfold hexes; simpa using h8
  have hl2 : ((hexes gs).drop k).length = 8 - k := by rw [List.length_drop]; omega
  refine ⟨restA g k, 8 - k, by rw [hl2], by omega, fun hp => ⟨g, k, by unfold restA; rw [if_neg (by omega)], h.lt, fun j hj => ?_⟩⟩
  rw [h.cell (by omega)]
  unfold cells8
  rw [if_pos (by omega), List.getD, List.getElem?_eq_getElem (by omega), List.getElem_drop]; rfl
theorem join_hexes (gs : List Int) : ∀ ps : List (List UInt8), (∀ x ∈ ps, x ∈ hexes gs) → ps.length ≤ 8 → ps.length ≤ 140737488355328 ∧ (glue 58 ps).length ≤ 140737488355328 := by
  intro ps h hl
  have := glue_sum (c := 58) (fun x hx => hexes_len4 gs x (h x hx))
  omega
theorem size_mk (l : List UInt8) : (⟨l.toArray⟩ : ByteArray).size = l.length := by rw [← len_size, str_back]
/-- What is left of a world. -/
def Kept (W w : World) : Prop := Below W.heap.size W w
theorem cat_gap (a b : List UInt8) : Value.string (⟨a.toArray⟩ ++ ⟨#[58, 58]⟩ ++ ⟨b.toArray⟩) = .string ⟨(a ++ 58 :: 58 :: b).toArray⟩ := by
  show Value.string (⟨a.toArray⟩ ++ ⟨[58, 58].toArray⟩ ++ ⟨b.toArray⟩) = _
  simp only [ByteArray.mk_append_mk]
  simp
set_option maxHeartbeats 4000000 in
theorem text6_any (hi lo : Nat) (w : World) (h1 : hi < 18446744073709551616) (h2 : lo < 18446744073709551616) :
    Calls Tryz.prog 121 #[.int .u64 hi, .int .u64 lo] w fun e w' => e = .returned (.string ⟨(text6 hi lo).toArray⟩) ∧ Below w.heap.size w w' := by
  obtain ⟨gs, hgs⟩ : ∃ gs, gs = gr hi lo := ⟨_, rfl⟩
  have h8 : gs.length = 8 := by rw [hgs]; rfl
  have hbd : ∀ x ∈ gs, 0 ≤ x ∧ x ≤ 65535 := by rw [hgs]; exact gr_bd hi lo
  have HAp := Lib.hid (apart_any hi lo w h1 h2)
  have ET : Hid (text6 hi lo = textG gs) := Lib.hid (by rw [hgs]; rfl)
  rw [← hgs] at HAp
  clear hgs
  obtain ⟨a0, a1, a2, a3, a4, a5, a6, a7, e⟩ : ∃ a0 a1 a2 a3 a4 a5 a6 a7, gs = [a0, a1, a2, a3, a4, a5, a6, a7] := by
    match gs, h8 with
    | [a0, a1, a2, a3, a4, a5, a6, a7], _ => exact ⟨_, _, _, _, _, _, _, _, rfl⟩
  have ecs : (gs.map intV).toArray = #[.int .i64 a0, .int .i64 a1, .int .i64 a2, .int .i64 a3, .int .i64 a4, .int .i64 a5, .int .i64 a6, .int .i64 a7] := by rw [e]; rfl
  rw [ecs] at HAp
  have EC := Lib.hid ecs.symm
  have H8 := Lib.hid h8
  have HB := Lib.hid hbd
  have hr6 := run6 h8
  have hr1 := hr6.1
  have hr2 := hr6.2.1
  clear e ecs h8 hbd hr6
  go_enter Tryz.func121, Tryz.ntmps121
  go_wp2_with fail
  refine HAp.out.mono ?_
  rintro e w1 ⟨rfl, hb1⟩
  go_wp2
  go_loopw [15] (fun i wr => ∃ k : Nat, k ≤ 8 ∧ i = .int .i64 k ∧ wr.rowIs (w1.heap.size + 1) 165 8 (cells8 gs k) ∧ Below (w1.heap.size + 1) (w1.alloc (.cells #[.int .i64 a0, .int .i64 a1, .int .i64 a2, .int .i64 a3, .int .i64 a4, .int .i64 a5, .int .i64 a6, .int .i64 a7] 132)) wr) (fun i _ => 8 - (intOf i).toNat)
  case atStart => exact ⟨0, by omega, rfl, by
    have := World.rowIs_alloc (w1.alloc (.cells #[.int .i64 a0, .int .i64 a1, .int .i64 a2, .int .i64 a3, .int .i64 a4, .int .i64 a5, .int .i64 a6, .int .i64 a7] 132)) _ 165 (cells8 gs 0) (fun i hi => empty8 gs i hi)
    simpa using this, (Below.refl _ _).alloc (by simp) _⟩
  case round =>
    obtain ⟨k, hk, rfl, hrow, hbel⟩ := hrel
    have hsz := hbel.size
    by_cases hlt : k < 8
    · have hlt2 : k < gs.length := by rw [H8.out]; exact hlt
      have hidx := gs_index gs _ EC.out k hlt2 H8.out
      have hg := HB.out gs[k] (List.getElem_mem hlt2)
      go_wp2_with fail
      refine (hex_any gs[k] _ (by omega) (by omega)).mono ?_
      rintro e w2 ⟨rfl, hb2⟩
      have hrow2 := hrow.of_block (hb2.block _ hrow.lt)
      have hcell := hrow2.cell (i := k) (by omega)
      have hfro := hrow2.frozen k
      have hs := (hrow2.set k (.string ⟨(hex gs[k]).toArray⟩)).congr (g := cells8 gs (k + 1)) (fun i _ => cells8_next gs k hlt2 i)
      have hb3 := (hbel.trans (hb2.mono (Nat.le_of_lt hrow.lt))).setCell (p := ⟨w1.heap.size + 1, k, none⟩) (Nat.le_refl _) (.string ⟨(hex gs[k]).toArray⟩)
      go_wp2
      go_roundw
      case rel => exact ⟨k + 1, by omega, by go_num, hs, hb3⟩
      case measure => simp [intOf]; omega
    · have hk8 : k = 8 := by omega
      subst hk8
      have hld : wr.rangeAt w1.heap.size 0 [.int .i64 a0, .int .i64 a1, .int .i64 a2, .int .i64 a3, .int .i64 a4, .int .i64 a5, .int .i64 a6, .int .i64 a7] := by
        intro j v hj
        rw [hbel.cell (p := ⟨w1.heap.size, 0 + j, none⟩) (by simp), cell_of_row _ _ _ _ _ _ (heap_alloc_new w1 _), Nat.zero_add, ← Array.getElem?_toList]
        exact hj
      have HLD := Lib.hid hld
      clear hld
      go_wp2_with (refine wpList_load_mid rfl 132 _ rfl w1.heap.size 0 rfl _ _ HLD.out Tryz.underlying132 rfl (by kernel_rfl) ?_)
      refine (zeros_arr gs _ EC.out wr H8.out HB.out).mono ?_
      rintro e w2 ⟨rfl, hb2⟩
      have hrow2 := hrow.of_block (hb2.block _ hrow.lt)
      have hb1' : Below w.heap.size w (w1.alloc (.cells #[.int .i64 a0, .int .i64 a1, .int .i64 a2, .int .i64 a3, .int .i64 a4, .int .i64 a5, .int .i64 a6, .int .i64 a7] 132)) := hb1.alloc hb1.size _
      have hb3 : Below w.heap.size w w2 := hb1'.trans ((hbel.trans (hb2.mono (Nat.le_of_lt hrow.lt))).mono (by have := hb1.size; omega))
      by_cases hr : from6 gs = to6 gs
      · have hq : ((from6 gs : Int) == (to6 gs : Int)) = true := by rw [hr]; simp
        have E : Hid (text6 hi lo = glue 58 (hexes gs)) := Lib.hid (by rw [ET.out]; unfold textG; rw [if_pos hr])
        have hsl := slice8 (w1.heap.size + 1) w2
        have HT := Lib.hid (txts8 H8.out hrow2)
        have hj := join_hexes gs (hexes gs) (fun _ h => h) (by unfold hexes; rw [List.length_map, H8.out]; exact Nat.le_refl _)
        clear hr
        go_wp2_with fail
        refine (join_any _ (hexes gs) 58 _ HT.out hj.1 hj.2).mono ?_
        rintro e w3 ⟨rfl, hb4⟩
        go_wp2
        go_ret
        exact ⟨ret_s E.out.symm, low_trans hb3 hb4⟩
      · have hq : ((from6 gs : Int) == (to6 gs : Int)) = false := by rw [beq_eq_false_iff_ne]; omega
        have E : Hid (text6 hi lo = glue 58 ((hexes gs).take (from6 gs)) ++ 58 :: 58 :: glue 58 ((hexes gs).drop (to6 gs))) := Lib.hid (by rw [ET.out]; unfold textG; rw [if_neg hr])
        have hsh := fun W => slice8h (w1.heap.size + 1) (from6 gs) (by omega) W
        have hsl := fun W => slice8l (w1.heap.size + 1) (to6 gs) hr2 W
        have HT1 := Lib.hid (txts8h H8.out (by omega : from6 gs ≤ 8) hrow2)
        have HT2 := Lib.hid (txts8l H8.out hr2 hrow2)
        have hl : (hexes gs).length = 8 := by unfold hexes; rw [List.length_map]; exact H8.out
        have hj1 := join_hexes gs ((hexes gs).take (from6 gs)) (fun _ h => List.mem_of_mem_take h) (by rw [List.length_take]; omega)
        have hj2 := join_hexes gs ((hexes gs).drop (to6 gs)) (fun _ h => List.mem_of_mem_drop h) (by rw [List.length_drop]; omega)
        have HJ1 : Hid (∀ W, Kept w2 W → Calls Tryz.prog 70 #[.slice (some ⟨w1.heap.size + 1, 0, none⟩) (from6 gs) 8, .int .u8 58] W fun e w' => e = .returned (.string ⟨(glue 58 ((hexes gs).take (from6 gs))).toArray⟩) ∧ Kept w2 w') :=
          fun W h => (join_any _ _ 58 W (HT1.out.below h) hj1.1 hj1.2).mono fun e w' ⟨he, hb⟩ => ⟨he, low_trans h hb⟩
        have HJ2 : Hid (∀ W, Kept w2 W → Calls Tryz.prog 70 #[.slice (restA (w1.heap.size + 1) (to6 gs)) (8 - to6 gs) (8 - to6 gs), .int .u8 58] W fun e w' => e = .returned (.string ⟨(glue 58 ((hexes gs).drop (to6 gs))).toArray⟩) ∧ Kept w2 w') :=
          fun W h => (join_any _ _ 58 W (HT2.out.below h) hj2.1 hj2.2).mono fun e w' ⟨he, hb⟩ => ⟨he, low_trans h hb⟩
        have hk0 : Kept w2 w2 := Below.refl _ _
        have hz1 := hj1.2
        have hz2 := hj2.2
        have hc1 : ∀ W, (Op.stringOp .add (⟨(glue 58 ((hexes gs).take (from6 gs))).toArray⟩ : ByteArray) ⟨#[58, 58]⟩).run Tryz.prog W = .ok (.string (⟨(glue 58 ((hexes gs).take (from6 gs))).toArray⟩ ++ ⟨#[58, 58]⟩)) W :=
          fun W => run_string_add_sum W _ _ (by rw [size_mk]; show _ + 2 ≤ _; omega)
        have hc2 : ∀ W, (Op.stringOp .add ((⟨(glue 58 ((hexes gs).take (from6 gs))).toArray⟩ : ByteArray) ++ ⟨#[58, 58]⟩) ⟨(glue 58 ((hexes gs).drop (to6 gs))).toArray⟩).run Tryz.prog W = .ok (.string (⟨(glue 58 ((hexes gs).take (from6 gs))).toArray⟩ ++ ⟨#[58, 58]⟩ ++ ⟨(glue 58 ((hexes gs).drop (to6 gs))).toArray⟩)) W :=
          fun W => run_string_add_sum W _ _ (by
            have e1 := size_mk (glue 58 ((hexes gs).take (from6 gs)))
            have e2 := size_mk (glue 58 ((hexes gs).drop (to6 gs)))
            have e3 : (⟨#[58, 58]⟩ : ByteArray).size = 2 := rfl
            rw [ByteArray.size_append]; omega)
        clear hr hl hj1 hj2 HT1 HT2 hrow hrow2 hbel hb2 hb1' HLD
        go_wp2_with fail
        go_region_held3 (fun w' => Kept w2 w') (first | assumption | exact low_drewN ‹_› 1)
          (first
            | (go_at_call 70; refine (HJ1.out _ ‹_›).mono ?_; rintro e w' ⟨rfl, hkw⟩)
            | (go_at_call 70; refine (HJ2.out _ ‹_›).mono ?_; rintro e w' ⟨rfl, hkw⟩))
        all_goals go_wp2
        all_goals go_ret
        all_goals exact ⟨by rw [E.out]; exact congrArg Ending.returned (cat_gap _ _), low_trans hb3 ‹Kept w2 _›⟩
end Go.Proofs.YtefkolkagebffaaGreatDoor.V6
/- Contract of package ipv6: an address is read. -/
namespace Go.Proofs.YtefkolkagebffaaGreatDoor.V6
set_option maxRecDepth 100000
open Go.ChangeShapes Go.WideShapes Go.ChangeAt Go.RowKit
open Dec Words V4
set_option linter.unusedVariables false
/-- The library's variable that its search looks at is there. -/
def Lens (w : World) : Prop := ∃ m : Int, w.cell? ⟨Tryz.lays145_ren.g 1, 0, none⟩ = some (.int .i64 m)
theorem Lens.below {w w' : World} (h : Lens w) (hb : Below w.heap.size w w') : Lens w' := by
  obtain ⟨m, hm⟩ := h
  exact ⟨m, (hb.cell (p := ⟨Tryz.lays145_ren.g 1, 0, none⟩) (World.block_lt_of_cell? _ _ hm)).trans hm⟩
theorem Lens.start {w : World} (h : w.ShapedOpen Tryz.prog) : Lens w := Tryz.laysM145.s1_3 w h
/-! Where the last colon stands. -/
theorem last_at (l : List UInt8) : Lib.lastIndexByte ⟨l.toArray⟩ 58 + 1 = ((l.length - (lastP l).length : Nat) : Int) := by
  obtain ⟨ps, e1, h1, h2⟩ := last_split l
  have hs : (⟨l.toArray⟩ : ByteArray).size = l.length := size_mk l
  have hat : ∀ j (h : j < l.length), (⟨l.toArray⟩ : ByteArray).data[j]! = l[j] := by
    intro j h
    simp [h]
  have hle := lastP_le l
  rcases Lib.lastIndexByte_spec ⟨l.toArray⟩ 58 with ⟨e, hn⟩ | ⟨i, hi, e, hc, hn⟩
  · rw [e]
    rcases h2 with ⟨_, h2⟩ | ⟨hp, h2⟩
    · have := congrArg List.length h2; omega
    · exfalso
      have hk : (glue 58 ps).length < l.length := by have := congrArg List.length h2; simp at this; omega
      refine hn (glue 58 ps).length (by omega) ?_
      rw [hat _ hk]
      have h5 : l[(glue 58 ps).length]? = some 58 := by rw [h2, List.getElem?_append_right (Nat.le_refl _)]; simp
      rw [List.getElem?_eq_getElem hk] at h5
      simp at h5; rw [h5]; rfl
  · rw [e]
    rw [hs] at hi hn
    rw [hat i hi] at hc
    have hci : l[i] = 58 := by
      rw [← UInt8.toNat_inj]; have : (58 : UInt8).toNat = 58 := rfl
      omega
    rcases h2 with ⟨_, h2⟩ | ⟨hp, h2⟩
    · exfalso; apply h1; rw [← h2, ← hci]; exact List.getElem_mem hi
    · have hlen := congrArg List.length h2
      simp at hlen
      have hk : (glue 58 ps).length < l.length := by omega
      have h5 : l[(glue 58 ps).length]? = some 58 := by rw [h2, List.getElem?_append_right (Nat.le_refl _)]; simp
      rw [List.getElem?_eq_getElem hk] at h5
      simp at h5
      have h6 : ¬ i < (glue 58 ps).length := by
        intro hlt
        refine hn _ hlt hk ?_
        rw [hat _ hk, h5]; rfl
      have h7 : ¬ (glue 58 ps).length < i := by
        intro hlt
        apply h1
        have h8 : l[i]? = some 58 := by rw [List.getElem?_eq_getElem hi, hci]
        rw [h2, List.getElem?_append_right (by omega)] at h8
        obtain ⟨k, hk⟩ : ∃ k, i - (glue 58 ps).length = k + 1 := ⟨i - (glue 58 ps).length - 1, by omega⟩
        rw [hk, List.getElem?_cons_succ] at h8
        exact List.mem_of_getElem? h8
      omega
theorem drop_last (l : List UInt8) : l.drop (l.length - (lastP l).length) = lastP l := by
  obtain ⟨ps, e1, h1, h2⟩ := last_split l
  rcases h2 with ⟨_, h2⟩ | ⟨hp, h2⟩
  · have := congrArg List.length h2
    rw [show l.length - (lastP l).length = 0 by omega]; exact h2
  · have h3 := congrArg List.length h2
    have e : l.length - (lastP l).length = (glue 58 ps).length + 1 := by simp at h3; omega
    rw [e]
    conv => lhs; rw [h2]
    rw [List.drop_append, List.drop_of_length_le (by omega)]
    simp
theorem and16u (m : Nat) (h : m < 4294967296) : bits .and .u32 (m : Int) 65535 = ((m % 65536 : Nat) : Int) := by
  have e := u32_and_nat m 65535 h (by omega)
  have e2 : m &&& 65535 = m % 65536 := Nat.and_two_pow_sub_one_eq_mod m 16
  rw [show ((65535 : Nat) : Int) = 65535 from rfl] at e
  rw [e, e2]
theorem slice_to (l : List UInt8) (k : Nat) : (⟨l.toArray⟩ : ByteArray).extract 0 k = ⟨(l.take k).toArray⟩ := by
  rw [← str_same ((⟨l.toArray⟩ : ByteArray).extract 0 k), Lib.extract_data, str_back]; simp
theorem slice_from (l : List UInt8) (k n : Nat) (h : l.length ≤ n) : (⟨l.toArray⟩ : ByteArray).extract k n = ⟨(l.drop k).toArray⟩ := by
  rw [← str_same ((⟨l.toArray⟩ : ByteArray).extract k n), Lib.extract_data, str_back, ← List.drop_take, List.take_of_length_le h]
theorem spelled_len (l : List UInt8) : (spelled l).length ≤ l.length + 9 := by
  unfold spelled
  have h1 := hex_len ((num4 (lastP l) / 65536 : Nat) : Int)
  have h2 := hex_len ((num4 (lastP l) % 65536 : Nat) : Int)
  split
  · simp [hi4, lo4] at *; omega
  · omega
set_option maxHeartbeats 4000000 in
theorem spelled_any (l : List UInt8) (w : World) (hl : l.length < 4294967000) :
    Calls Tryz.prog 87 #[.string ⟨l.toArray⟩] w fun e w' => e = .returned (.string ⟨(spelled l).toArray⟩) ∧ Below w.heap.size w w' := by
  have hsz := size_mk l
  have HL := Lib.hid (Tryz.strings_LastIndexByte ⟨l.toArray⟩ 58 (by rw [hsz]; omega))
  have HA := Lib.hid (last_at l)
  have hle := lastP_le l
  obtain ⟨n, hn⟩ : ∃ n, n = l.length - (lastP l).length := ⟨_, rfl⟩
  have HD : Hid (l.drop n = lastP l) := Lib.hid (by rw [hn]; exact drop_last l)
  rw [← hn] at HA
  have hnl : n ≤ l.length := by omega
  have ha0 : Lib.lastIndexByte ⟨l.toArray⟩ 58 = (n : Int) - 1 := by have := HA.out; omega
  rw [ha0] at HL
  have HN := Lib.hid hn
  have HS := Lib.hid hsz
  clear hn ha0 HA
  have hsl : ∀ W, (Instr.slice 9 (.string ⟨l.toArray⟩) (some (.int .i64 (n : Int))) none none).run Tryz.prog W = .ok (.string ⟨(lastP l).toArray⟩) W := by
    intro W
    rw [run_slice_string_l W 9 _ Tryz.underlying9 .i64 n (by omega) (by rw [HS.out]; omega), Int.toNat_natCast, HS.out, slice_from l n _ (Nat.le_refl _), HD.out]
  have HP := Lib.hid (parse4_any (lastP l) w (by omega))
  unfold Parse4 at HP
  cases hk : ok4 (lastP l)
  · have E : Hid (spelled l = l) := Lib.hid (by unfold spelled; rw [if_neg (by simp [hk])])
    rw [hk] at HP
    clear hk
    go_enter Tryz.func87, Tryz.ntmps87
    go_wp2_with fail
    refine (HL.out _).mono ?_
    rintro e w1 ⟨rfl, rfl⟩
    go_wp2_with fail
    refine HP.out.mono ?_
    rintro e w2 ⟨rfl, hb2⟩
    go_wp2_with fail
    go_ret
    exact ⟨ret_s E.out.symm, hb2⟩
  · have E : Hid (spelled l = l.take n ++ (hi4 (lastP l) ++ 58 :: lo4 (lastP l))) := Lib.hid (by unfold spelled; rw [if_pos hk, HN.out])
    rw [hk] at HP
    clear hk
    obtain ⟨m, hm⟩ : ∃ m, m = num4 (lastP l) := ⟨_, rfl⟩
    have hmlt : m < 4294967296 := by rw [hm]; exact num4_lt _
    have EH1 : Hid (hi4 (lastP l) = hex ((m / 65536 : Nat) : Int)) := Lib.hid (by rw [hm]; rfl)
    have EH2 : Hid (lo4 (lastP l) = hex ((m % 65536 : Nat) : Int)) := Lib.hid (by rw [hm]; rfl)
    rw [← hm] at HP
    clear hm
    have hand : bits .and .u32 (m : Int) 65535 = (m : Int) % 65536 := by rw [and16u m hmlt]; omega
    have hm1 : m / 65536 < 65536 := by omega
    have hm2 : m % 65536 < 65536 := by omega
    obtain ⟨a, ha⟩ : ∃ a, a = hi4 (lastP l) := ⟨_, rfl⟩
    obtain ⟨b, hb⟩ : ∃ b, b = lo4 (lastP l) := ⟨_, rfl⟩
    rw [← ha] at EH1 E
    rw [← hb] at EH2 E
    have hal : a.length ≤ 4 := by rw [ha]; exact hex_len _
    have hbl : b.length ≤ 4 := by rw [hb]; exact hex_len _
    clear ha hb
    have hto : ∀ W, (Instr.slice 9 (.string ⟨l.toArray⟩) none (some (.int .i64 (n : Int))) none).run Tryz.prog W = .ok (.string ⟨(l.take n).toArray⟩) W := by
      intro W
      rw [run_slice_string_h W 9 _ Tryz.underlying9 .i64 n (by omega) (by rw [HS.out]; omega), Int.toNat_natCast, slice_to]
    have htl : (l.take n).length ≤ l.length := List.length_take_le' _ _
    have hcc : ∀ W, (Op.stringOp .add (⟨(l.take n).toArray⟩ : ByteArray) ⟨(a ++ 58 :: b).toArray⟩).run Tryz.prog W = .ok (.string (⟨(l.take n).toArray⟩ ++ ⟨(a ++ 58 :: b).toArray⟩)) W :=
      fun W => run_string_add_sum W _ _ (by rw [size_mk, size_mk]; simp only [List.length_append, List.length_cons]; omega)
    go_enter Tryz.func87, Tryz.ntmps87
    go_wp2_with fail
    refine (HL.out _).mono ?_
    rintro e w1 ⟨rfl, rfl⟩
    go_wp2_with fail
    refine HP.out.mono ?_
    rintro e w2 ⟨rfl, hb2⟩
    have hk0 : Kept w2 w2 := Below.refl _ _
    have HX1 : Hid (∀ W, Kept w2 W → Calls Tryz.prog 129 #[.int .i64 ((m : Int) / 65536)] W fun e w' => e = .returned (.string ⟨a.toArray⟩) ∧ Kept w2 w') :=
      fun W h => by
        have := hex_any ((m / 65536 : Nat) : Int) W (by omega) (by omega)
        rw [← EH1.out] at this
        exact this.mono fun e w' ⟨he, hb⟩ => ⟨he, low_trans h hb⟩
    have HX2 : Hid (∀ W, Kept w2 W → Calls Tryz.prog 129 #[.int .i64 ((m : Int) % 65536)] W fun e w' => e = .returned (.string ⟨b.toArray⟩) ∧ Kept w2 w') :=
      fun W h => by
        have := hex_any ((m % 65536 : Nat) : Int) W (by omega) (by omega)
        rw [← EH2.out] at this
        exact this.mono fun e w' ⟨he, hb⟩ => ⟨he, low_trans h hb⟩
    have HJ : Hid (∀ W : World, Kept w2 W → Calls Tryz.prog 70 #[.slice (some ⟨W.heap.size, 0, none⟩) 2 2, .int .u8 58] (W.alloc (.cells #[.string ⟨a.toArray⟩, .string ⟨b.toArray⟩] 9)) fun e w' => e = .returned (.string ⟨(a ++ 58 :: b).toArray⟩) ∧ Kept w2 w') :=
      fun W h => (join_any _ [a, b] 58 _ (Txts.lit W [a, b] #[.string ⟨a.toArray⟩, .string ⟨b.toArray⟩] 9 rfl) (by simp) (by simp [glue]; omega)).mono fun e w' ⟨he, hb⟩ => ⟨he, low_trans (Below.alloc h h.size _) hb⟩
    have q1 : IntKind.i64.wrap ((m : Int) / 65536) = (m : Int) / 65536 := IntWalk.i64_in _ (by omega)
    have q2 : IntKind.i64.wrap ((m : Int) % 65536) = (m : Int) % 65536 := IntWalk.i64_in _ (by omega)
    go_wp2_with fail
    go_region_held3 (fun w' => Kept w2 w') (first | assumption | exact low_drewN ‹_› 1 | exact Below.alloc ‹Kept w2 _› (Below.size ‹Kept w2 _›) _)
      (first
        | (go_at_call 129; (with_reducible refine (HX1.out _ ‹_›).mono ?_); rintro e w' ⟨rfl, hkw⟩)
        | (go_at_call 129; (with_reducible refine (HX2.out _ ‹_›).mono ?_); rintro e w' ⟨rfl, hkw⟩)
        | (go_at_call 70; refine (HJ.out _ ‹_›).mono ?_; rintro e w' ⟨rfl, hkw⟩))
    all_goals (clear q1 q2; go_wp2; go_ret; exact ⟨by rw [E.out]; exact cat_s rfl, low_trans hb2 ‹Kept w2 _›⟩)
theorem below_drewN {a w : World} {n : Nat} (h : Below (a.drewN n).heap.size (a.drewN n) w) : Below a.heap.size a w := ⟨h.os, h.tape, h.output, h.size, h.block⟩
/-! The whole. -/
def Parse6 (l : List UInt8) (w : World) (e : Ending) (w' : World) : Prop := e = .returned (.tuple #[.int .u64 (hi6 l : Nat), .int .u64 (lo6 l : Nat), .bool (ok6 l)]) ∧ Below w.heap.size w w'
theorem parse6_no {l : List UInt8} {w w' : World} {e : Ending} (h : groups l = none) (he : e = .returned (.tuple #[.int .u64 0, .int .u64 0, .bool false])) (hb : Below w.heap.size w w') : Parse6 l w e w' := by
  obtain ⟨h1, h2, h3⟩ := ok6_no h
  exact ⟨by rw [h1, h2, h3]; exact he, hb⟩
theorem parse6_yes {l : List UInt8} {w w' : World} {e : Ending} {g : List Int} {a b : Nat} (h : groups l = some g) (ha : a = val (g.take 4)) (hb' : b = val (g.drop 4)) (he : e = .returned (.tuple #[.int .u64 a, .int .u64 b, .bool true])) (hb : Below w.heap.size w w') : Parse6 l w e w' := by
  obtain ⟨h1, h2, h3⟩ := ok6_of h
  exact ⟨by rw [h1, h2, h3, ← ha, ← hb']; exact he, hb⟩
/-- Do the groups on two sides of a gap fit? -/
def fits (n : Nat) (short : Bool) : Bool := if short then decide ((n : Int) < 8) else (n : Int) == 8
theorem fits_yes (n : Nat) : fits n true = true ↔ n < 8 := by unfold fits; simp; omega
theorem fits_no (n : Nat) : fits n false = true ↔ n = 8 := by unfold fits; simp; omega
theorem index_gap {l b a : List UInt8} (h : gap l = some (b, a)) : Lib.index l [58, 58] = b.length := by
  obtain ⟨e, hn⟩ := gap_some.1 h
  refine Lib.index_first (by rw [e]; simp) ?_ ?_
  · unfold Lib.occAt; rw [e, List.drop_left]; rfl
  · intro j hj
    have h2 := hn j hj
    unfold Lib.occAt
    have hlt : j + 1 < l.length := by rw [e]; simp; omega
    rw [List.drop_eq_getElem_cons (by omega), List.drop_eq_getElem_cons hlt]
    unfold two at h2
    rw [List.getElem?_eq_getElem (by omega), List.getElem?_eq_getElem hlt] at h2
    simp only [List.isPrefixOf, Bool.and_true]
    rw [Bool.and_eq_false_iff]
    by_cases c : l[j] = 58
    · right
      simp only [beq_eq_false_iff_ne]; intro e2
      exact h2 ⟨by rw [c], by rw [e2]⟩
    · left
      simp only [beq_eq_false_iff_ne]; intro e2; exact c e2.symm
theorem index_nogap : ∀ {l : List UInt8}, gap l = none → Lib.index l [58, 58] = -1
  | [], _ => rfl
  | b :: l, h => by
    rw [gap] at h
    by_cases h0 : two (b :: l) 0
    · rw [if_pos h0] at h; cases h
    · rw [if_neg h0, Option.map_eq_none_iff] at h
      have ih := index_nogap h
      have hp : ([58, 58] : List UInt8).isPrefixOf (b :: l) = false := by
        unfold two at h0
        cases l with
        | nil => simp [List.isPrefixOf]
        | cons c t =>
          simp at h0
          simp [List.isPrefixOf]
          intro e1 e2; exact h0 e1.symm e2.symm
      rw [Lib.index, hp, ih]; simp
theorem cut_of_gap {l : List UInt8} : Lib.cut l [58, 58] = match gap l with | some (b, a) => (b, a, true) | none => (l, [], false) := by
  cases h : gap l with
  | none => unfold Lib.cut; rw [index_nogap h]; rfl
  | some p =>
    obtain ⟨b, a⟩ := p
    unfold Lib.cut
    rw [index_gap h, if_pos (by omega), Int.toNat_natCast]
    obtain ⟨e, _⟩ := gap_some.1 h
    simp only []
    have h1 : l.take b.length = b := by rw [e]; exact List.take_left' rfl
    have h2 : l.drop (b.length + 2) = a := by rw [e, ← List.drop_drop, List.drop_left]; rfl
    rw [h1]
    show (b, l.drop (b.length + 2), true) = _
    rw [h2]
/-- What is read, by the two sides that the library's cut leaves. -/
theorem groups_cut {l b a : List UInt8} {short : Bool} (h : Lib.cut (spelled l) [58, 58] = (b, a, short)) :
    groups l = if allHex (parts b) = true ∧ allHex (parts a) = true ∧ fits ((parts b).length + (parts a).length) short = true then some (nums (parts b) ++ List.replicate (8 - (parts b).length - (parts a).length) 0 ++ nums (parts a)) else none := by
  rw [cut_of_gap] at h
  rw [groups_code]
  cases hg : gap (spelled l) with
  | none =>
    rw [hg] at h
    simp only [Prod.mk.injEq] at h
    obtain ⟨rfl, rfl, rfl⟩ := h
    have h0 : parts [] = [] := rfl
    rw [h0]
    simp only [fits_no]
    by_cases h8 : (parts (spelled l)).length = 8
    · simp [h8, allHex, nums]
    · simp [h8, allHex]
  | some p =>
    obtain ⟨x, y⟩ := p
    rw [hg] at h
    simp only [Prod.mk.injEq] at h
    obtain ⟨rfl, rfl, rfl⟩ := h
    simp only [fits_yes]
theorem cut_len6 {l b a : List UInt8} {short : Bool} (h : Lib.cut l [58, 58] = (b, a, short)) : b.length ≤ l.length ∧ a.length ≤ l.length := by
  unfold Lib.cut at h
  split at h
  · simp only [Prod.mk.injEq] at h
    obtain ⟨rfl, rfl, _⟩ := h
    exact ⟨List.length_take_le' _ _, by rw [List.length_drop]; omega⟩
  · simp only [Prod.mk.injEq] at h
    obtain ⟨rfl, rfl, _⟩ := h
    simp
/-- The list of the groups, laid part by part. -/
theorem laid8 {H T : List Int} (h : H.length + T.length ≤ 8) : splice (splice (List.replicate 8 (intV 0)) 0 (H.map intV)) (8 - T.length) (T.map intV) = (H ++ List.replicate (8 - H.length - T.length) 0 ++ T).map intV := by
  unfold splice
  have a1 : List.take 0 (List.replicate 8 (intV 0)) ++ (H.map intV ++ List.drop (0 + (H.map intV).length) (List.replicate 8 (intV 0))) = H.map intV ++ List.replicate (8 - H.length) (intV 0) := by
    rw [List.take_zero, List.nil_append, Nat.zero_add, List.drop_replicate, List.length_map]
  rw [a1, List.take_append, List.take_of_length_le (by simp; omega), List.take_replicate, List.drop_eq_nil_of_le (by simp; omega), List.append_nil, List.map_append, List.map_append, List.map_replicate]
  congr 3
  simp; omega
theorem slice8i (g : Nat) (W : World) : (Instr.sliceAt 132 (.pointer (some ⟨g, 0, none⟩)) none none none).run Tryz.prog W = .ok (.slice (some ⟨g, 0, none⟩) 8 8) W := by
  have e1 : Tryz.prog.arrayLen 132 = 8 := by kernel_rfl
  have e2 : Tryz.prog.elem 132 = 3 := by kernel_rfl
  have e3 : (sizeOf 3).run Tryz.prog W = .ok 1 W := by kernel_rfl
  rw [run_sliceAt_array_all W 132 _ (by rw [e1, e2]; kernel_rfl), e1, e2, e3]
  rfl
theorem slice8ih (g k : Nat) (hk : k ≤ 8) (W : World) : (Instr.sliceAt 132 (.pointer (some ⟨g, 0, none⟩)) none (some (.int .i64 (k : Int))) none).run Tryz.prog W = .ok (.slice (some ⟨g, 0, none⟩) k 8) W := by
  have e1 : Tryz.prog.arrayLen 132 = 8 := by kernel_rfl
  have e2 : Tryz.prog.elem 132 = 3 := by kernel_rfl
  have e3 : (sizeOf 3).run Tryz.prog W = .ok 1 W := by kernel_rfl
  rw [run_sliceAt_array_h W 132 _ (by rw [e1, e2]; kernel_rfl) .i64 k (by omega) (by rw [e1]; omega), e1, e2, e3]
  simp [Result.andThen, slicedAt, Addr.add]
theorem slice8il (g k : Nat) (z : Int) (hz : z = (k : Int)) (hk : k ≤ 8) (W : World) : (Instr.sliceAt 132 (.pointer (some ⟨g, 0, none⟩)) (some (.int .i64 z)) none none).run Tryz.prog W = .ok (.slice (restA g k) (8 - k) (8 - k)) W := by
  subst hz
  have e1 : Tryz.prog.arrayLen 132 = 8 := by kernel_rfl
  have e2 : Tryz.prog.elem 132 = 3 := by kernel_rfl
  have e3 : (sizeOf 3).run Tryz.prog W = .ok 1 W := by kernel_rfl
  rw [run_sliceAt_array_l W 132 _ (by rw [e1, e2]; kernel_rfl) .i64 k (by omega) (by rw [e1]; omega), e1, e2, e3]
  simp only [Result.andThen, slicedAt, Int.toNat_natCast, Nat.mul_one]
  unfold restA
  by_cases h : k = 8
  · rw [if_pos h.symm, if_pos h]
  · rw [if_neg (by omega), if_neg h]
    congr 3
    unfold Addr.add; split <;> simp_all
def NoInts (w : World) (e : Ending) (w' : World) : Prop := ∃ A c, e = .returned (.tuple #[.slice A 0 c, .bool false]) ∧ Below w.heap.size w w'
theorem read_no {l : List UInt8} (h : allHex (parts l) = false) (w : World) (hl : l.length < 4294967281) : Calls Tryz.prog 88 #[.string ⟨l.toArray⟩] w (NoInts w) := by
  refine (read_any l w hl).mono ?_
  rintro e w' ⟨v, he, hi, hb⟩
  rw [h] at he hi
  obtain ⟨A, c, rfl, h2, h3⟩ := hi
  exact ⟨A, c, he, hb⟩
def SomeInts (gs : List Int) (w : World) (e : Ending) (w' : World) : Prop := ∃ A c, e = .returned (.tuple #[.slice A gs.length c, .bool true]) ∧ (0 < gs.length → ∃ b o, A = some ⟨b, o, none⟩ ∧ b < w'.heap.size ∧ ∀ j (h : j < gs.length), w'.cell? ⟨b, o + j, none⟩ = some (.int .i64 gs[j])) ∧ Below w.heap.size w w'
theorem read_yes {l : List UInt8} (h : allHex (parts l) = true) (w : World) (hl : l.length < 4294967281) : Calls Tryz.prog 88 #[.string ⟨l.toArray⟩] w (SomeInts (nums (parts l)) w) := by
  refine (read_any l w hl).mono ?_
  rintro e w' ⟨v, he, hi, hb⟩
  rw [h] at he hi
  obtain ⟨A, c, rfl, h2, h3⟩ := hi
  exact ⟨A, c, he, h3, hb⟩
theorem cut_any (l : List UInt8) (w : World) (hl : l.length < 4294967281) (hL : Lens w) : Calls Tryz.prog 86 #[.string ⟨l.toArray⟩, .string ⟨#[58, 58]⟩] w
    fun e w' => e = .returned (.tuple #[.string ⟨(Lib.cut l [58, 58]).1.toArray⟩, .string ⟨(Lib.cut l [58, 58]).2.1.toArray⟩, .bool (Lib.cut l [58, 58]).2.2]) ∧ ∃ n, w' = w.drewN n := by
  obtain ⟨m, hm⟩ := hL
  have := Tryz.strings_Cut ⟨l.toArray⟩ ⟨#[58, 58]⟩ m w (by rw [size_mk]; exact hl) hm
  simp only at this
  exact this
set_option maxHeartbeats 4000000 in
theorem parse6_any (l : List UInt8) (w : World) (hl : l.length < 4294967000) (hL : Lens w) : Calls Tryz.prog 52 #[.string ⟨l.toArray⟩] w (Parse6 l w) := by
  obtain ⟨b, a, short, hcut⟩ : ∃ b a short, Lib.cut (spelled l) [58, 58] = (b, a, short) := ⟨_, _, _, rfl⟩
  have HG := Lib.hid (groups_cut hcut)
  have hsl := spelled_len l
  have hcl := cut_len6 hcut
  have hcl1 := hcl.1
  have hcl2 := hcl.2
  have HC : Hid (∀ W, Lens W → Calls Tryz.prog 86 #[.string ⟨(spelled l).toArray⟩, .string ⟨#[58, 58]⟩] W fun e w' => e = .returned (.tuple #[.string ⟨b.toArray⟩, .string ⟨a.toArray⟩, .bool short]) ∧ ∃ n, w' = W.drewN n) := by
    intro W h
    have := cut_any (spelled l) W (by omega) h
    rw [hcut] at this
    exact this
  clear hcut hcl
  cases hA : allHex (parts b)
  · have E : Hid (groups l = none) := Lib.hid (by rw [HG.out, hA, if_neg (by simp)])
    have HR := Lib.hid (read_no hA)
    clear hA HG
    go_enter Tryz.func52, Tryz.ntmps52
    go_wp2_with fail
    refine (spelled_any l _ hl).mono ?_
    rintro e w1 ⟨rfl, hb1⟩
    go_wp2_with fail
    refine (HC.out _ (hL.below hb1)).mono ?_
    rintro e w2 ⟨rfl, q, rfl⟩
    go_wp2_with fail
    refine (HR.out _ (by omega)).mono ?_
    rintro e w3 ⟨A, c, rfl, hb3⟩
    go_wp2_with fail
    refine (read_any a _ (by omega)).mono ?_
    rintro e w4 ⟨v4, rfl, hi4, hb4⟩
    clear hi4
    go_wp2
    all_goals go_ret3
    all_goals exact parse6_no E.out rfl (low_trans hb1 (low_trans (below_drewN hb3) hb4))
  · cases hB : allHex (parts a)
    · have E : Hid (groups l = none) := Lib.hid (by rw [HG.out, hB, if_neg (by simp)])
      have HR := Lib.hid (read_yes hA)
      have HR2 := Lib.hid (read_no hB)
      clear hA hB HG
      go_enter Tryz.func52, Tryz.ntmps52
      go_wp2_with fail
      refine (spelled_any l _ hl).mono ?_
      rintro e w1 ⟨rfl, hb1⟩
      go_wp2_with fail
      refine (HC.out _ (hL.below hb1)).mono ?_
      rintro e w2 ⟨rfl, q, rfl⟩
      go_wp2_with fail
      refine (HR.out _ (by omega)).mono ?_
      rintro e w3 ⟨A, c, rfl, hc3, hb3⟩
      clear hc3
      go_wp2_with fail
      refine (HR2.out _ (by omega)).mono ?_
      rintro e w4 ⟨A4, c4, rfl, hb4⟩
      go_wp2
      go_ret3
      exact parse6_no E.out rfl (low_trans hb1 (low_trans (below_drewN hb3) hb4))
    · have HR := Lib.hid (read_yes hA)
      have HR2 := Lib.hid (read_yes hB)
      have hcb : (parts b).length ≤ 4294967400 := by
        unfold parts; split
        · simp
        · have := List.count_le_length (a := (58 : UInt8)) (l := b); rw [cut_len]; omega
      have hca : (parts a).length ≤ 4294967400 := by
        unfold parts; split
        · simp
        · have := List.count_le_length (a := (58 : UInt8)) (l := a); rw [cut_len]; omega
      obtain ⟨H, hH⟩ : ∃ H, H = nums (parts b) := ⟨_, rfl⟩
      obtain ⟨T, hT⟩ : ∃ T, T = nums (parts a) := ⟨_, rfl⟩
      have lH : H.length = (parts b).length := by rw [hH]; simp [nums]
      have lT : T.length = (parts a).length := by rw [hT]; simp [nums]
      have HBD : Hid (∀ x ∈ H ++ List.replicate (8 - H.length - T.length) 0 ++ T, 0 ≤ x ∧ x ≤ 65535) := by
        intro x hx
        rcases List.mem_append.1 hx with hx | hx
        · rcases List.mem_append.1 hx with hx | hx
          · rw [hH] at hx; exact nums_bd x hx
          · have := List.eq_of_mem_replicate hx; omega
        · rw [hT] at hx; exact nums_bd x hx
      rw [← hH] at HR
      rw [← hT] at HR2
      have lH2 : H.length ≤ 4294967400 := by omega
      have lT2 : T.length ≤ 4294967400 := by omega
      have HFill := Lib.hid (fill_any (((H.length + T.length : Nat) : Int)) short)
      cases hF : fits (H.length + T.length) short
      · have E : Hid (groups l = none) := Lib.hid (by rw [HG.out, if_neg]; rintro ⟨_, _, h⟩; rw [← lH, ← lT, hF] at h; cases h)
        have hfl : (if short then decide (((H.length + T.length : Nat) : Int) < 8) else ((H.length + T.length : Nat) : Int) == 8) = false := hF
        rw [hfl] at HFill
        clear hA hB HG hF hfl hH hT lH lT hcb hca
        go_enter Tryz.func52, Tryz.ntmps52
        go_wp2_with fail
        refine (spelled_any l _ hl).mono ?_
        rintro e w1 ⟨rfl, hb1⟩
        go_wp2_with fail
        refine (HC.out _ (hL.below hb1)).mono ?_
        rintro e w2 ⟨rfl, q, rfl⟩
        go_wp2_with fail
        refine (HR.out _ (by omega)).mono ?_
        rintro e w3 ⟨A, c, rfl, hc3, hb3⟩
        clear hc3
        go_wp2_with fail
        refine (HR2.out _ (by omega)).mono ?_
        rintro e w4 ⟨A4, c4, rfl, hc4, hb4⟩
        clear hc4
        go_wp2_with fail
        refine (HFill.out _).mono ?_
        rintro e w5 ⟨rfl, rfl⟩
        go_wp2
        go_ret3
        exact parse6_no E.out rfl (low_trans hb1 (low_trans (below_drewN hb3) hb4))
      · have hle : H.length + T.length ≤ 8 := by
          cases short
          · have := (fits_no _).1 hF; omega
          · have := (fits_yes _).1 hF; omega
        have E : Hid (groups l = some (H ++ List.replicate (8 - H.length - T.length) 0 ++ T)) := Lib.hid (by rw [HG.out, if_pos ⟨hA, hB, by rw [← lH, ← lT]; exact hF⟩, lH, lT, hH, hT])
        have hfl : (if short then decide (((H.length + T.length : Nat) : Int) < 8) else ((H.length + T.length : Nat) : Int) == 8) = true := hF
        rw [hfl] at HFill
        have HL8 := Lib.hid (laid8 hle)
        obtain ⟨G, hG⟩ : ∃ G, G = H ++ List.replicate (8 - H.length - T.length) 0 ++ T := ⟨_, rfl⟩
        have lG : G.length = 8 := by rw [hG]; simp; omega
        rw [← hG] at HL8 E HBD
        have HLG := Lib.hid lG
        obtain ⟨HM, hHM⟩ : ∃ HM, HM = H.map intV := ⟨_, rfl⟩
        obtain ⟨TM, hTM⟩ : ∃ TM, TM = T.map intV := ⟨_, rfl⟩
        rw [← hHM, ← hTM] at HL8
        have hHl : HM.length = H.length := by rw [hHM]; simp
        have hTl : TM.length = T.length := by rw [hTM]; simp
        have hH1 : ∀ v ∈ HM, v.oneCell' = true := by rw [hHM]; exact ints_one H
        have hT1 : ∀ v ∈ TM, v.oneCell' = true := by rw [hTM]; exact ints_one T
        have hHc : ∀ j v, HM[j]? = some v → ∃ h : j < H.length, v = .int .i64 H[j] := by
          intro j v hj
          rw [hHM, List.getElem?_map] at hj
          obtain ⟨x, hx, rfl⟩ := Option.map_eq_some_iff.1 hj
          obtain ⟨h, rfl⟩ := List.getElem?_eq_some_iff.1 hx
          exact ⟨h, rfl⟩
        have hTc : ∀ j v, TM[j]? = some v → ∃ h : j < T.length, v = .int .i64 T[j] := by
          intro j v hj
          rw [hTM, List.getElem?_map] at hj
          obtain ⟨x, hx, rfl⟩ := Option.map_eq_some_iff.1 hj
          obtain ⟨h, rfl⟩ := List.getElem?_eq_some_iff.1 hx
          exact ⟨h, rfl⟩
        have KHl := Lib.hid hHl
        have KTl := Lib.hid hTl
        have KH1 := Lib.hid hH1
        have KT1 := Lib.hid hT1
        have KHc := Lib.hid hHc
        have KTc := Lib.hid hTc
        clear hHM hTM hHl hTl hH1 hT1 hHc hTc
        have hT8 : T.length ≤ 8 := by omega
        have hH8 : H.length ≤ 8 := by omega
        clear hA hB HG hF hfl hH hT lH lT hcb hca hG lG
        go_enter Tryz.func52, Tryz.ntmps52
        go_wp2_with fail
        refine (spelled_any l _ hl).mono ?_
        rintro e w1 ⟨rfl, hb1⟩
        go_wp2_with fail
        refine (HC.out _ (hL.below hb1)).mono ?_
        rintro e w2 ⟨rfl, q, rfl⟩
        go_wp2_with fail
        refine (HR.out _ (by omega)).mono ?_
        rintro e w3 ⟨A, c, rfl, hc3, hb3⟩
        have HC3 := Lib.hid hc3
        clear hc3
        go_wp2_with fail
        refine (HR2.out _ (by omega)).mono ?_
        rintro e w4 ⟨A4, c4, rfl, hc4, hb4⟩
        have HC4 := Lib.hid hc4
        clear hc4
        go_wp2_with fail
        refine (HFill.out _).mono ?_
        rintro e w5 ⟨rfl, rfl⟩
        have hsall := fun W => slice8i w4.heap.size W
        have hsl2 := fun W => slice8il w4.heap.size (8 - T.length) (8 - (T.length : Int)) (by omega) (by omega) W
        go_wp2_with (with_reducible refine wpList_copy_splice rfl _ _ 128 128 rfl 3 Tryz.underlying128 (by kernel_rfl) (some ⟨w4.heap.size, 0, none⟩) A 8 8 H.length c rfl rfl w4.heap.size 0 (List.replicate 8 (intV 0)) 132 ?hg1 HM ?hn1 ?hp1 ?hf1 KH1.out w4.heap.size w4 ?hb1 (Nat.le_refl _) ?_)
        case hg1 => exact heap_alloc_new w4 _
        case hn1 => rw [KHl.out]; show H.length = min H.length 8; omega
        case hp1 =>
          intro hp
          rw [KHl.out] at hp
          obtain ⟨bb, o, rfl, hlt, hc⟩ := HC3.out hp
          refine ⟨_, rfl, fun j v hj => ?_⟩
          obtain ⟨h, rfl⟩ := KHc.out j v hj
          rw [add_plain, (((hb4.alloc hb4.size _)).cell (p := ⟨bb, o + j, none⟩) hlt)]
          exact hc j h
        case hf1 => rw [KHl.out]; simp; omega
        case hb1 => exact (Below.refl _ _).alloc (Nat.le_refl _) _
        intro w6 HG6 hb6
        have hsl3 := hsl2 w6
        clear hsl2 hsall
        go_wp2_with (with_reducible refine wpList_copy_splice rfl _ _ 128 128 rfl 3 Tryz.underlying128 (by kernel_rfl) (restA w4.heap.size (8 - T.length)) A4 (8 - (8 - T.length)) (8 - (8 - T.length)) T.length c4 rfl rfl w4.heap.size (8 - T.length) _ 132 HG6.out TM ?hn2 ?hp2 ?hf2 KT1.out w4.heap.size w4 hb6 (Nat.le_refl _) ?_)
        case hn2 => rw [KTl.out]; show T.length = min T.length (8 - (8 - T.length)); omega
        case hp2 =>
          intro hp
          rw [KTl.out] at hp
          obtain ⟨bb, o, rfl, hlt, hc⟩ := HC4.out hp
          refine ⟨(by unfold restA; rw [if_neg (by omega)]), _, rfl, fun j v hj => ?_⟩
          obtain ⟨h, rfl⟩ := KTc.out j v hj
          rw [add_plain, hb6.cell (p := ⟨bb, o + j, none⟩) hlt]
          exact hc j h
        case hf2 => rw [KTl.out, length_splice _ _ _ (by rw [KHl.out]; simp; omega)]; simp; omega
        intro w7 HG7 hb7
        have HG8 : Hid (w7.heap[w4.heap.size]? = some (.cells (G.map intV).toArray 132 (0, 0))) := by rw [← HL8.out]; exact HG7
        clear HG6 HG7 hb6 hsl3
        have hcell : Hid (∀ j (h : j < G.length), w7.cell? ⟨w4.heap.size, j, none⟩ = some (.int .i64 G[j])) := by
          intro j h
          rw [cell_of_row _ _ _ _ _ _ HG8.out, List.getElem?_toArray, List.getElem?_map, List.getElem?_eq_getElem h]; rfl
        have hs1 : ∀ W, (Instr.sliceAt 132 (.pointer (some ⟨w4.heap.size, 0, none⟩)) none (some (.int .i64 4)) none).run Tryz.prog W = .ok (.slice (some ⟨w4.heap.size, 0, none⟩) 4 8) W := fun W => slice8ih w4.heap.size 4 (by omega) W
        have hs2 : ∀ W, (Instr.sliceAt 132 (.pointer (some ⟨w4.heap.size, 0, none⟩)) (some (.int .i64 4)) none none).run Tryz.prog W = .ok (.slice (some ⟨w4.heap.size, 4, none⟩) 4 4) W := fun W => slice8il w4.heap.size 4 4 rfl (by omega) W
        have N1 : Hid (∀ n, Calls Tryz.prog 90 #[.slice (some ⟨w4.heap.size, 0, none⟩) 4 8] (w7.drewN n) fun e w' => e = .returned (.int .u64 (val (G.take 4) : Nat)) ∧ ∃ q, w' = (w7.drewN n).drewN q) := by
          intro n
          refine (number_any (G.take 4) w4.heap.size 0 8 (w7.drewN n) (by rw [List.length_take, HLG.out]; rfl) (fun j h => ?_) (by omega) (fun g hg => HBD.out g (List.mem_of_mem_take hg))).mono ?_
          · rw [List.getElem_take, Nat.zero_add]
            exact hcell.out j (by rw [List.length_take] at h; omega)
          · rintro e w' ⟨rfl, rfl⟩; exact ⟨rfl, 0, rfl⟩
        have N2 : Hid (∀ n, Calls Tryz.prog 90 #[.slice (some ⟨w4.heap.size, 4, none⟩) 4 4] (w7.drewN n) fun e w' => e = .returned (.int .u64 (val (G.drop 4) : Nat)) ∧ ∃ q, w' = (w7.drewN n).drewN q) := by
          intro n
          refine (number_any (G.drop 4) w4.heap.size 4 4 (w7.drewN n) (by rw [List.length_drop, HLG.out]) (fun j h => ?_) (by omega) (fun g hg => HBD.out g (List.mem_of_mem_drop hg))).mono ?_
          · rw [List.getElem_drop]
            exact hcell.out (4 + j) (by rw [List.length_drop] at h; omega)
          · rintro e w' ⟨rfl, rfl⟩; exact ⟨rfl, 0, rfl⟩
        go_wp2_with fail
        go_quiet ((first | (go_at_call 90; with_reducible exact Calls.quiet_of (N1.out _)) | (go_at_call 90; with_reducible exact Calls.quiet_of (N2.out _))))
        go_wp2
        go_ret3
        exact parse6_yes E.out rfl rfl rfl (low_drewN (low_trans hb1 (low_trans (below_drewN hb3) (low_trans hb4 hb7))) _)
end Go.Proofs.YtefkolkagebffaaGreatDoor.V6
