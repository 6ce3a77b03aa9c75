/- Contracts: whether lists are the same. -/
import Derived.Test.YtdopmhbhhbejpaaDoorWords
import Derived.Deep.RegionWith
namespace Go.Proofs.YtdopmhbhhbejpaaDoor
open Go.ChangeShapes Go.WideShapes Go.ChangeAt Go.RowKit
set_option linter.unusedVariables false
/-- Are two lists one? -/
def sameB (xs ys : List (List UInt8)) : Bool := decide (xs = ys)
theorem sameB_len {xs ys : List (List UInt8)} (h : xs.length ≠ ys.length) : sameB xs ys = false := by unfold sameB; exact decide_eq_false fun e => h (by rw [e])
theorem sameB_at {xs ys : List (List UInt8)} (k : Nat) (h1 : k < xs.length) (h2 : k < ys.length) (h : xs[k] ≠ ys[k]) : sameB xs ys = false := by
  unfold sameB; refine decide_eq_false fun e => h ?_
  subst e; rfl
theorem sameB_take {xs ys : List (List UInt8)} (k : Nat) (hl : xs.length = ys.length) (hk : xs.length ≤ k) (h : xs.take k = ys.take k) : sameB xs ys = true := by
  unfold sameB; refine decide_eq_true ?_
  rwa [List.take_of_length_le hk, List.take_of_length_le (by omega)] at h
theorem sameB_refl (xs : List (List UInt8)) : sameB xs xs = true := by unfold sameB; exact decide_eq_true rfl
theorem take_succ_same {xs ys : List (List UInt8)} {k : Nat} (h1 : k < xs.length) (h2 : k < ys.length) (h : xs.take k = ys.take k) (e : xs[k] = ys[k]) : xs.take (k + 1) = ys.take (k + 1) := by
  rw [List.take_succ_eq_append_getElem h1, List.take_succ_eq_append_getElem h2, h, e]
set_option maxHeartbeats 2000000 in
theorem texts_any (va vb : Value) (xs ys : List (List UInt8)) (w : World) (ha : Txts w va xs) (hb : Txts w vb ys) (hla : xs.length ≤ 9223372036854775807) :
    Calls Tryd.prog 8 #[va, vb] w fun e w' => e = .returned (.bool (sameB xs ys)) ∧ Below w.heap.size w w' := by
  obtain ⟨A, ca, rfl, hca, hcella⟩ := ha
  obtain ⟨B, cb, rfl, hcb, hcellb⟩ := hb
  by_cases hl : xs.length = ys.length
  · have HL := Lib.hid hl
    have hle : xs.length ≤ ys.length := by omega
    have hge : ys.length ≤ xs.length := by omega
    have hq : (((xs.length : Nat) : Int) != ((ys.length : Nat) : Int)) = false := by rw [hl]; simp
    clear hl
    have HCA := Lib.hid hcella
    have HCB := Lib.hid hcellb
    clear hcella hcellb
    go_enter Tryd.func8, Tryd.ntmps8
    go_wp2
    go_loopw [5] (fun i wr => ∃ k : Nat, k ≤ xs.length ∧ i = .int .i64 k ∧ Hid (xs.take k = ys.take k) ∧ Below w.heap.size w wr) (fun i _ => xs.length - (intOf i).toNat)
    case atStart => exact ⟨0, Nat.zero_le _, rfl, Lib.hid rfl, Below.refl _ _⟩
    case round =>
      obtain ⟨k, hk, rfl, HT, hbel⟩ := hrel
      by_cases hlt : k < xs.length
      · have hlt2 : k < ys.length := by omega
        obtain ⟨b, o, rfl, hb, hc⟩ := HCA.out (by omega)
        obtain ⟨b2, o2, rfl, hb2, hc2⟩ := HCB.out (by omega)
        have h1 := (hbel.cell (p := ⟨b, o + k, none⟩) hb).trans (hc k hlt)
        have h2 := (hbel.cell (p := ⟨b2, o2 + k, none⟩) hb2).trans (hc2 k hlt2)
        clear hc hc2
        by_cases e : xs[k] = ys[k]
        · have HT2 := Lib.hid (take_succ_same hlt hlt2 HT.out e)
          rw [e] at h1
          clear e
          go_wp2
          go_quiet (fail)
          go_wp2
          go_roundw
          case rel => exact ⟨k + 1, by omega, by go_num, HT2, low_drewN hbel _⟩
          case measure => simp [intOf]; omega
        · have he : (xs[k] == ys[k]) = false := by rw [beq_eq_false_iff_ne]; exact e
          have E := Lib.hid (sameB_at k hlt hlt2 e)
          clear e
          go_wp2
          go_quiet (fail)
          go_wp2
          go_ret
          exact ⟨ret_b E.out.symm, low_drewN hbel _⟩
      · have E := Lib.hid (sameB_take k HL.out (by omega) HT.out)
        go_wp2
        go_ret
        exact ⟨ret_b E.out.symm, hbel⟩
  · have E := Lib.hid (sameB_len hl)
    have hq : (((xs.length : Nat) : Int) != ((ys.length : Nat) : Int)) = true := by rw [bne_iff_ne]; omega
    clear hcella hcellb hl
    go_enter Tryd.func8, Tryd.ntmps8
    go_wp2
    go_ret
    exact ⟨ret_b E.out.symm, Below.refl _ _⟩
end Go.Proofs.YtdopmhbhhbejpaaDoor
