/- Contracts of package ipv6: groups and numbers. -/
import Derived.Test.YtokbifndhkijiaaDoorIpv6Text
import Derived.Test.YtokbifndhkijiaaDoorDecHex
import Derived.Test.YtokbifndhkijiaaDoorWordsJoin
import Derived.Deep.OwnRows
import Derived.OwnWalk
import Derived.Laws.BitsAllLaws
namespace Go.Proofs.YtokbifndhkijiaaDoor.V6
set_option maxRecDepth 100000
open Go.ChangeShapes Go.WideShapes Go.ChangeAt Go.RowKit
open Dec Words V4
set_option linter.unusedVariables false
theorem fill_any (n : Int) (b : Bool) (w : World) : Calls Tryd.prog 36 #[.int .i64 n, .bool b] w fun e w' => e = .returned (.bool (if b then decide (n < 8) else n == 8)) ∧ w = w' := by
  cases b
  · go_enter Tryd.func36, Tryd.ntmps36
    go_wp2
    go_ret
    exact ⟨rfl, rfl⟩
  · go_enter Tryd.func36, Tryd.ntmps36
    go_wp2
    go_ret
    exact ⟨rfl, rfl⟩
theorem val_take_lt (gs : List Int) (h : ∀ g ∈ gs, 0 ≤ g ∧ g ≤ 65535) : ∀ k, k ≤ 3 → val (gs.take k) < 65536 ^ k := by
  intro k
  induction k with
  | zero => intro _; simp [val]
  | succ k ih =>
    intro hk
    have ih := ih (by omega)
    by_cases hlt : k < gs.length
    · rw [List.take_succ_eq_append_getElem hlt, val_snoc]
      have := h gs[k] (List.getElem_mem hlt)
      rw [Nat.pow_succ]
      have h3 : (65536 : Nat) ^ k ≤ 65536 ^ 2 := Nat.pow_le_pow_right (by omega) (by omega)
      have h4 : (65536 : Nat) ^ 2 = 4294967296 := by decide
      omega
    · rw [List.take_of_length_le (by omega)] at ih ⊢
      exact Nat.lt_of_lt_of_le ih (Nat.pow_le_pow_right (by omega) (by omega))
theorem val_step (gs : List Int) (h : ∀ g ∈ gs, 0 ≤ g ∧ g ≤ 65535) (k : Nat) (hk : k ≤ 3) (hlt : k < gs.length) :
    Value.int .u64 (bits .or .u64 ((val (gs.take k) : Nat) * 65536 : Int) gs[k]) = .int .u64 (val (gs.take (k + 1)) : Nat) := by
  have hv := val_take_lt gs h k hk
  have h3 : (65536 : Nat) ^ k ≤ 65536 ^ 3 := Nat.pow_le_pow_right (by omega) (by omega)
  have h4 : (65536 : Nat) ^ 3 = 281474976710656 := by decide
  have hp := h gs[k] (List.getElem_mem hlt)
  obtain ⟨b, hb⟩ := Int.eq_ofNat_of_zero_le hp.1
  have e : ((val (gs.take k) : Nat) * 65536 : Int) = ((val (gs.take k) * 65536 : Nat) : Int) := by omega
  rw [List.take_succ_eq_append_getElem hlt, val_snoc, hb, e, u64_or_nat _ _ (by omega) (by omega), Int.toNat_natCast]
  have h5 : (val (gs.take k) * 65536) ||| b = 65536 * val (gs.take k) + b := by
    rw [Nat.mul_comm]; exact (Nat.two_pow_add_eq_or_of_lt (i := 16) (by omega) _).symm
  rw [h5]; congr 2; omega
set_option maxHeartbeats 1000000 in
theorem number_any (gs : List Int) (b o cap : Nat) (w : World) (h4 : gs.length = 4) (hc : ∀ j (h : j < gs.length), w.cell? ⟨b, o + j, none⟩ = some (.int .i64 gs[j])) (hcap : 4 ≤ cap) (h : ∀ g ∈ gs, 0 ≤ g ∧ g ≤ 65535) :
    Calls Tryd.prog 37 #[.slice (some ⟨b, o, none⟩) 4 cap] w fun e w' => e = .returned (.int .u64 (val gs : Nat)) ∧ w = w' := by
  have H4 := Lib.hid h4
  have HC := Lib.hid hc
  have HB := Lib.hid h
  clear h4 hc h
  go_enter Tryd.func37, Tryd.ntmps37
  go_wp2
  go_loop [3, 8] (fun n i => ∃ k : Nat, k ≤ 4 ∧ i = .int .i64 k ∧ n = .int .u64 (val (gs.take k) : Nat)) (fun _ i => 4 - (intOf i).toNat)
  case atStart => exact ⟨0, by omega, rfl, rfl⟩
  case round =>
    obtain ⟨k, hk, rfl, rfl⟩ := hrel
    by_cases hlt : k < 4
    · have hlt2 : k < gs.length := by rw [H4.out]; exact hlt
      have h1 := HC.out k hlt2
      have hg := HB.out gs[k] (List.getElem_mem hlt2)
      have HS := Lib.hid (val_step gs HB.out k (by omega) hlt2)
      have hv := val_take_lt gs HB.out k (by omega)
      have h3 : (65536 : Nat) ^ k ≤ 65536 ^ 3 := Nat.pow_le_pow_right (by omega) (by omega)
      have h4 : (65536 : Nat) ^ 3 = 281474976710656 := by decide
      have hv2 : val (gs.take k) < 281474976710656 := by omega
      clear h3 h4 hv
      go_wp2
      go_round
      case rel => exact ⟨k + 1, by omega, by go_num, HS.out⟩
      case measure => simp [intOf]; omega
    · have E : Hid (gs.take k = gs) := Lib.hid (List.take_of_length_le (by rw [H4.out]; omega))
      go_wp2
      go_ret
      exact ⟨by rw [E.out]; rfl, rfl⟩
/-- A list of ints in memory. -/
def Ints (w : World) (v : Value) (gs : List Int) : Prop :=
  ∃ A c, v = .slice A gs.length c ∧ gs.length ≤ c ∧ (0 < gs.length → ∃ b o, A = some ⟨b, o, none⟩ ∧ b < w.heap.size ∧ ∀ j (h : j < gs.length), w.cell? ⟨b, o + j, none⟩ = some (.int .i64 gs[j]))
theorem Ints.below {w w1 : World} {v : Value} {gs : List Int} (h : Ints w v gs) (hb : Below w.heap.size w w1) : Ints w1 v gs := by
  obtain ⟨A, c, h1, h2, h3⟩ := h
  refine ⟨A, c, h1, h2, fun hp => ?_⟩
  obtain ⟨b, o, e, hlt, hc⟩ := h3 hp
  exact ⟨b, o, e, Nat.lt_of_lt_of_le hlt hb.size, fun j hj => (hb.cell (p := ⟨b, o + j, none⟩) hlt).trans (hc j hj)⟩
theorem Ints.nil (w : World) : Ints w (.slice none 0 0) [] := ⟨none, 0, rfl, Nat.le_refl _, fun h => absurd h (by simp)⟩
theorem Tryd.infoInt : (Tryd.prog.info? 3).map (fun i => (i.zero, i.size, i.bytes)) = some (some (.int .i64 0), 1, 8) := by kernel_rfl
def intV (g : Int) : Value := .int .i64 g
theorem ints_one (gs : List Int) : ∀ u ∈ gs.map intV, u.oneCell' = true := by
  intro u hu
  obtain ⟨g, _, rfl⟩ := List.mem_map.1 hu
  rfl
theorem Ints.own {w : World} {base e : Nat} {v : Value} {gs : List Int} (h : w.ownsRow base e 1 v gs.length (gs.map intV)) : Ints w v gs := by
  rcases h.2 with ⟨rfl, h0⟩ | ⟨g, cap, cur, rfl, _, hh, hnc, _, _, hcur⟩
  · exact ⟨none, 0, by rw [h0], by omega, fun hp => absurd hp (by omega)⟩
  · refine ⟨some ⟨g, 0, none⟩, cap, rfl, hnc, fun hp => ⟨g, 0, rfl, ?_, fun j hj => ?_⟩⟩
    · rcases Nat.lt_or_ge g w.heap.size with hlt | hge
      · exact hlt
      · rw [Array.getElem?_eq_none hge] at hh; cases hh
    · have := h.cells (g := g) rfl j (intV gs[j]) (by rw [List.getElem?_map, List.getElem?_eq_getElem hj]; rfl)
      rw [show (⟨g, 0, none⟩ : Addr).add j = ⟨g, 0 + j, none⟩ from by unfold Addr.add; split <;> simp_all] at this
      exact this
/-- What a list of the call's own owns, behind a callee that only made memory. -/
theorem own_below {w w1 : World} {base e size n : Nat} {v : Value} {xs : List Value} (h : w.ownsRow base e size v n xs) (hb : Below w.heap.size w w1) : w1.ownsRow base e size v n xs := by
  refine ⟨h.1, ?_⟩
  rcases h.2 with h2 | ⟨g, cap, cur, h1, h2, hh, h3⟩
  · exact Or.inl h2
  · refine Or.inr ⟨g, cap, cur, h1, h2, ?_, h3⟩
    rw [hb.block g ?_]; exact hh
    rcases Nat.lt_or_ge g w.heap.size with hlt | hge
    · exact hlt
    · rw [Array.getElem?_eq_none hge] at hh; cases hh
theorem own_form {w : World} {base e size n : Nat} {v : Value} {xs : List Value} (h : w.ownsRow base e size v n xs) : ∃ A c, v = .slice A n c := by
  rcases h.2 with ⟨rfl, rfl⟩ | ⟨g, cap, cur, rfl, _⟩
  · exact ⟨none, 0, rfl⟩
  · exact ⟨some ⟨g, 0, none⟩, cap, rfl⟩
theorem int_cell {w : World} {v u : Value} {e : Nat} (j : Nat) (h : [v][j]? = some u) : (w.alloc (.cells #[v] e)).cell? ((⟨w.heap.size, 0, none⟩ : Addr).add j) = some u := by
  match j, h with
  | 0, h =>
    simp at h; subst h
    rw [show (⟨w.heap.size, 0, none⟩ : Addr).add 0 = ⟨w.heap.size, 0, none⟩ from rfl, World.cell?_alloc_mark]
    rfl
  | j + 1, h => simp at h
/-- What read returns: all groups, or nothing. -/
def Read6 (l : List UInt8) (w : World) (e : Ending) (w' : World) : Prop := ∃ v, e = .returned (.tuple #[v, .bool (allHex (parts l))]) ∧ Ints w' v (if allHex (parts l) then nums (parts l) else []) ∧ Below w.heap.size w w'
theorem read6_no {l : List UInt8} {w w' : World} {e : Ending} (h : allHex (parts l) = false) (he : e = .returned (.tuple #[.slice none 0 0, .bool false])) (hb : Below w.heap.size w w') : Read6 l w e w' :=
  ⟨.slice none 0 0, by rw [h]; exact he, by rw [h]; exact Ints.nil _, hb⟩
theorem read6_yes {l : List UInt8} {w w' : World} {e : Ending} {v : Value} (h : allHex (parts l) = true) (hi : Ints w' v (nums (parts l))) (he : e = .returned (.tuple #[v, .bool true])) (hb : Below w.heap.size w w') : Read6 l w e w' :=
  ⟨v, by rw [h]; exact he, by rw [h]; exact hi, hb⟩
theorem parseHex_list (l : List UInt8) (w : World) (hs : l.length ≤ 9223372036854775807) :
    Calls Tryd.prog 58 #[.string ⟨l.toArray⟩] w fun e w' => e = .returned (.tuple #[.int .i64 (hexN l), .bool (hexB l)]) ∧ w = w' := by
  have := parseHex_any ⟨l.toArray⟩ w (by rw [← len_size, str_back]; exact hs)
  rwa [str_back] at this
theorem allHex_bad {ps : List (List UInt8)} (k : Nat) (hk : k < ps.length) (h : hexB ps[k] = false) : allHex ps = false := by
  unfold allHex
  rw [List.all_eq_false]
  exact ⟨ps[k], List.getElem_mem hk, by simp [h]⟩
set_option maxHeartbeats 2000000 in
theorem read_any (l : List UInt8) (w : World) (hl : l.length < 4294967281) : Calls Tryd.prog 35 #[.string ⟨l.toArray⟩] w (Read6 l w) := by
  by_cases h0 : l = []
  · subst h0
    go_enter Tryd.func35, Tryd.ntmps35
    go_wp2
    go_ret2
    exact read6_yes (by decide) (Ints.nil _) rfl (Below.refl _ _)
  · obtain ⟨i0, hi, hz0, hz1, hz2⟩ := info_parts Tryd.infoInt
    have hp : parts l = cut 58 l := by unfold parts; rw [if_neg h0]
    have HP := Lib.hid hp
    have HL : Hid (∀ p ∈ cut 58 l, p.length < 4294967281) := fun p hp => Nat.lt_of_le_of_lt (cut_part_le 58 l p hp) hl
    have hcl : (cut 58 l).length ≤ 4294967281 := by have := List.count_le_length (a := (58 : UInt8)) (l := l); rw [cut_len]; omega
    have hl0 : ¬ l.length = 0 := by simpa using h0
    clear hp
    have hb0 : (l == []) = false := by simpa using h0
    clear h0
    go_enter Tryd.func35, Tryd.ntmps35
    go_wp2_with fail
    refine (split_list l 58 _ hl).mono ?_
    rintro e w1 ⟨v, rfl, hv, hb1⟩
    obtain ⟨A, c, rfl, hcap, hcell⟩ := hv
    have HC := Lib.hid hcell
    clear hcell
    go_wp2
    go_loopw [4, 14] (fun v i wr => ∃ k : Nat, k ≤ (cut 58 l).length ∧ i = .int .i64 k ∧ Hid (allHex ((cut 58 l).take k) = true) ∧ wr.ownsRow w1.heap.size 3 1 v k ((nums ((cut 58 l).take k)).map intV) ∧ Below w1.heap.size w1 wr) (fun _ i _ => (cut 58 l).length - (intOf i).toNat)
    case atStart => exact ⟨0, Nat.zero_le _, rfl, Lib.hid rfl, ⟨by simp [nums], .inl ⟨rfl, rfl⟩⟩, Below.refl _ _⟩
    case round =>
      obtain ⟨k, hk, rfl, HA, hown, hbel⟩ := hrel
      have hsz := hbel.size
      by_cases hlt : k < (cut 58 l).length
      · obtain ⟨b, o, rfl, hb, hc⟩ := HC.out (by omega)
        have h1 := (hbel.cell (p := ⟨b, o + k, none⟩) hb).trans (hc k hlt)
        have hpl := HL.out _ (List.getElem_mem hlt)
        clear hc
        have HX := Lib.hid (parseHex_list (cut 58 l)[k] wr (by omega))
        have hbd := hexN_bd (cut 58 l)[k]
        cases hpb : hexB (cut 58 l)[k]
        · have E : Hid (allHex (parts l) = false) := by rw [HP.out]; exact Lib.hid (allHex_bad k hlt hpb)
          rw [hpb] at HX
          clear hpb
          go_wp2_with fail
          refine HX.out.mono ?_
          rintro e w2 ⟨rfl, rfl⟩
          go_wp2
          go_ret2
          exact read6_no E.out rfl (low_trans hb1 hbel)
        · have HA2 : Hid (allHex ((cut 58 l).take (k + 1)) = true) := Lib.hid (by rw [List.take_succ_eq_append_getElem hlt, allHex_append, HA.out]; simp [allHex, hpb])
          have HN : Hid ((nums ((cut 58 l).take (k + 1))).map intV = (nums ((cut 58 l).take k)).map intV ++ [.int .i64 (hexN (cut 58 l)[k])]) := Lib.hid (by rw [List.take_succ_eq_append_getElem hlt, nums_append]; simp [nums, intV])
          rw [hpb] at HX
          clear hpb
          go_wp2_with fail
          refine HX.out.mono ?_
          rintro e w2 ⟨rfl, rfl⟩
          go_wp2_with (at_builtin; refine wpList_append_own _ rfl _ _ 54 rfl w1.heap.size 3 i0 (.int .i64 0) 1 8 Tryd.underlying54 hi hz0 hz1 hz2 rfl (by decide) _ _ _ rfl (hown.alloc _) ⟨wr.heap.size, 0, none⟩ 1 1 [.int .i64 (hexN (cut 58 l)[k])] rfl rfl ?c1 ?c2 ?c3 ?c4 ?c5 ?_)
          case c1 => exact fun j u h => int_cell j h
          case c2 => intro u hu; simp at hu; subst hu; rfl
          case c3 => unfold maxLen; omega
          case c4 => omega
          case c5 => simp; omega
          · intro v' w3 hown' hgrow _
            have hb3 := (hbel.alloc hsz (.cells #[.int .i64 (hexN (cut 58 l)[k])] 3)).grown hgrow (by simp; omega) (fun q hq => (hown.lt q hq).1)
            clear hgrow hown hbel
            go_wp2
            go_roundw
            case rel => exact ⟨k + 1, by omega, by go_num, HA2, by rw [HN.out]; exact hown', hb3⟩
            case measure => simp [intOf]; omega
      · have E : Hid (k = (cut 58 l).length) := Lib.hid (by omega)
        have E1 : Hid (allHex (parts l) = true) := by
          have := HA.out
          rw [List.take_of_length_le (by omega)] at this
          rw [HP.out]; exact Lib.hid this
        have HO : Hid (Ints wr u4 (nums (parts l))) := by
          have h9 := hown
          rw [List.take_of_length_le (by omega)] at h9
          rw [HP.out]
          refine Lib.hid (Ints.own (base := w1.heap.size) (e := 3) ?_)
          have : (nums (cut 58 l)).length = k := by rw [E.out]; simp [nums]
          rw [this]; exact h9
        go_wp2
        go_ret2
        exact read6_yes E1.out HO.out rfl (low_trans hb1 hbel)
end Go.Proofs.YtokbifndhkijiaaDoor.V6
