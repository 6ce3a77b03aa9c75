/- Contracts of package ipv4. -/
import Derived.Test.YtdlbhcakfciagaaMath
import Derived.Test.YtdlbhcakfciagaaDecAll
import Derived.Test.YtdlbhcakfciagaaWordsAll
import Derived.Deep.OwnRows
import Derived.Laws.BitsAllLaws
namespace Go.Proofs.Ytdlbhcakfciagaa.V4
set_option maxRecDepth 100000
open Go.ChangeShapes Go.WideShapes Go.ChangeAt Go.RowKit
open Dec Words
set_option linter.unusedVariables false
def Parse4 (l : List UInt8) (w : World) (e : Ending) (w' : World) : Prop := e = .returned (.tuple #[.int .u32 (num4 l), .bool (ok4 l)]) ∧ Below w.heap.size w w'
theorem parse4_no {l : List UInt8} {w w' : World} {e : Ending} (h : ok4 l = false) (he : e = .returned (.tuple #[.int .u32 0, .bool false])) (hb : Below w.heap.size w w') : Parse4 l w e w' :=
  ⟨by rw [num4_no h, h]; exact he, hb⟩
theorem parse4_yes {l : List UInt8} {w w' : World} {e : Ending} {n : Nat} (h : ok4 l = true) (hn : n = val4 (cut 46 l)) (he : e = .returned (.tuple #[.int .u32 n, .bool true])) (hb : Below w.heap.size w w') : Parse4 l w e w' :=
  ⟨by rw [num4_of h, h, ← hn]; exact he, hb⟩
theorem parse4_is {l : List UInt8} {w w' : World} {e : Ending} {n : Nat} (h : ok4 l = true) (hn : num4 l = n) (he : e = .returned (.tuple #[.int .u32 n, .bool true])) (hb : Below w.heap.size w w') : Parse4 l w e w' :=
  ⟨by rw [hn, h]; exact he, hb⟩
theorem step4 (ps : List (List UInt8)) (k : Nat) (hlt : k < ps.length) (h3 : k ≤ 3) :
    Value.int .u32 (bits .or .u32 ((val4 (ps.take k) : Nat) * 256 : Int) (parN ps[k] 255)) = .int .u32 (val4 (ps.take (k + 1)) : Nat) := by
  have hv := val4_take_lt ps k h3
  have hp := parN255 ps[k]
  obtain ⟨b, hb⟩ := Int.eq_ofNat_of_zero_le hp.1
  have e : ((val4 (ps.take k) : Nat) * 256 : Int) = ((val4 (ps.take k) * 256 : Nat) : Int) := by omega
  rw [List.take_succ_eq_append_getElem hlt, val4_snoc, hb, e, u32_or_nat _ _ (by omega) (by omega), shl_or (by omega), Int.toNat_natCast]
/-- The parts that are written so far, from the end on. -/
def cells4 (n k : Nat) (i : Nat) : Value := if 4 - k ≤ i then .string ⟨((parts4 n).getD i []).toArray⟩ else .string ⟨#[]⟩
theorem empty4 (i : Nat) (hi : i < 4) : (#[Value.string ⟨#[]⟩, .string ⟨#[]⟩, .string ⟨#[]⟩, .string ⟨#[]⟩] : Array Value)[i]? = some (cells4 0 0 i) := by
  have e : (#[Value.string ⟨#[]⟩, .string ⟨#[]⟩, .string ⟨#[]⟩, .string ⟨#[]⟩] : Array Value) = Array.replicate 4 (.string ⟨#[]⟩) := rfl
  rw [e, Array.getElem?_replicate, if_pos hi]
  unfold cells4
  rw [if_neg (by omega)]
theorem slice4 (g : Nat) (W : World) : (Instr.sliceAt 84 (.pointer (some ⟨g, 0, none⟩)) none none none).run Try.prog W = .ok (.slice (some ⟨g, 0, none⟩) 4 4) W := by
  have e1 : Try.prog.arrayLen 84 = 4 := by kernel_rfl
  have e2 : Try.prog.elem 84 = 9 := by kernel_rfl
  have e3 : (sizeOf 9).run Try.prog W = .ok 1 W := by kernel_rfl
  rw [run_sliceAt_array_all W 84 _ (by rw [e1, e2]; kernel_rfl), e1, e2, e3]
  rfl
theorem and255 (m : Nat) (h : m < 4294967296) : wrap64 (bits .and .u32 (m : Int) 255) = ((m % 256 : Nat) : Int) := by
  have e := u32_and_nat m 255 h (by omega)
  have e2 : m &&& 255 = m % 256 := Nat.and_two_pow_sub_one_eq_mod m 8
  rw [show ((255 : Nat) : Int) = 255 from rfl] at e
  rw [e, e2]
  unfold wrap64; omega
theorem parts4_at (n k : Nat) (h : k < 4) : (parts4 n).getD (3 - k) [] = text ((n / 256 ^ k % 256 : Nat) : Int) := by
  have : k = 0 ∨ k = 1 ∨ k = 2 ∨ k = 3 := by omega
  rcases this with rfl | rfl | rfl | rfl <;> simp [parts4]
theorem cells4_next (n k : Nat) (h : k < 4) (i : Nat) : (if i = 3 - k then Value.string ⟨(text ((n / 256 ^ k % 256 : Nat) : Int)).toArray⟩ else cells4 n k i) = cells4 n (k + 1) i := by
  by_cases e : i = 3 - k
  · subst e
    rw [if_pos rfl, ← parts4_at n k h]
    unfold cells4
    rw [if_pos (by omega)]
  · rw [if_neg e]
    unfold cells4
    by_cases e2 : 4 - k ≤ i
    · rw [if_pos e2, if_pos (by omega)]
    · rw [if_neg e2, if_neg (by omega)]
theorem cells4_all (n : Nat) : ∀ j (h : j < (parts4 n).length), cells4 n 4 j = .string ⟨(parts4 n)[j].toArray⟩ := by
  intro j h
  unfold cells4
  rw [if_pos (by omega), List.getD, List.getElem?_eq_getElem h]; rfl
set_option maxHeartbeats 2000000 in
theorem text4_any (n : Nat) (w : World) (hn : n < 4294967296) :
    Calls Try.prog 49 #[.int .u32 n] w fun e w' => e = .returned (.string ⟨(text4 n).toArray⟩) ∧ Below w.heap.size w w' := by
  go_enter Try.func49, Try.ntmps49
  go_wp2
  go_loopw [0, 5] (fun v0 i wr => ∃ k m : Nat, k ≤ 4 ∧ i = .int .i64 k ∧ v0 = .int .u32 m ∧ m < 4294967296 ∧ Hid (m = n / 256 ^ k) ∧ wr.rowIs w.heap.size 84 4 (cells4 n k) ∧ Below w.heap.size w wr) (fun _ i _ => 4 - (intOf i).toNat)
  case atStart => exact ⟨0, n, by omega, rfl, rfl, hn, Lib.hid (by simp), (World.rowIs_alloc _ _ _ (cells4 0 0) (fun i hi => empty4 i hi)).congr (fun i hi => by have hi' : i < 4 := hi; unfold cells4; rw [if_neg (by omega), if_neg (by omega)]), (Below.refl _ _).alloc (Nat.le_refl _) _⟩
  case round =>
    obtain ⟨k, m, hk, rfl, rfl, hm, HM, hrow, hbel⟩ := hrel
    by_cases hlt : k < 4
    · go_wp2_with fail
      rw [and255 m hm]
      refine (text_any ((m % 256 : Nat) : Int) _ (by omega) (by omega)).mono ?_
      rintro e w2 ⟨rfl, hb2⟩
      have hrow2 := hrow.of_block (hb2.block _ hrow.lt)
      have hcell := hrow2.cell (i := 3 - k) (by omega)
      have hfro := hrow2.frozen (3 - k)
      have hs := (hrow2.set (3 - k) (.string ⟨(text ((m : Int) % 256)).toArray⟩)).congr (g := cells4 n (k + 1)) (fun i _ => by
        show (if i = 3 - k then Value.string ⟨(text ((m % 256 : Nat) : Int)).toArray⟩ else cells4 n k i) = _
        rw [HM.out]; exact cells4_next n k hlt i)
      have hb3 := (hbel.trans (hb2.mono hbel.size)).setCell (p := ⟨w.heap.size, 3 - k, none⟩) (Nat.le_refl _) (.string ⟨(text ((m : Int) % 256)).toArray⟩)
      have HM2 : Hid (m / 256 = n / 256 ^ (k + 1)) := Lib.hid (by rw [HM.out, Nat.pow_succ, Nat.div_div_eq_div_mul])
      go_wp2
      go_roundw
      case rel => exact ⟨k + 1, m / 256, by omega, by go_num, by simp, by omega, HM2, hs, hb3⟩
      case measure => simp [intOf]; omega
    · obtain rfl : k = 4 := by omega
      have hsl := slice4 w.heap.size wr
      have ht : Txts wr (.slice (some ⟨w.heap.size, 0, none⟩) 4 4) (parts4 n) := ⟨some ⟨w.heap.size, 0, none⟩, 4, rfl, Nat.le_refl _, fun _ => ⟨w.heap.size, 0, rfl, hrow.lt, fun j hj => by rw [Nat.zero_add, hrow.cell (by exact hj), cells4_all n j hj]⟩⟩
      have HT := Lib.hid ht
      clear ht
      go_wp2_with fail
      refine (join_any _ (parts4 n) 46 _ HT.out (by simp [parts4]) (Nat.le_trans (text4_len n) (by omega))).mono ?_
      rintro e w3 ⟨rfl, hb3⟩
      go_wp2
      go_ret
      exact ⟨rfl, hbel.trans (hb3.mono (Nat.le_of_lt hrow.lt))⟩
end Go.Proofs.Ytdlbhcakfciagaa.V4
