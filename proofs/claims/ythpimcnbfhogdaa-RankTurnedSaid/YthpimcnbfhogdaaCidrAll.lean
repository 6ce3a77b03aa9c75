/- Contracts of package cidr. -/
import Derived.Test.YthpimcnbfhogdaaCidrLow
import Derived.Test.YthpimcnbfhogdaaCidrFull
namespace Go.Proofs.Ythpimcnbfhogdaa.Ci
set_option maxRecDepth 100000
open Go.ChangeShapes Go.WideShapes Go.ChangeAt Go.RowKit
open Dec Words V4 V6 Ad
set_option linter.unusedVariables false
end Go.Proofs.Ythpimcnbfhogdaa.Ci
namespace Go.Proofs.Ythpimcnbfhogdaa.Ci
set_option maxRecDepth 100000
open Go.ChangeShapes Go.WideShapes Go.ChangeAt Go.RowKit
open Dec Words V4 V6 Ad
set_option linter.unusedVariables false
theorem cut_pre : ∀ l : List UInt8, cut 47 l = pre l :: (if slash l then cut 47 (post l) else [])
  | [] => by simp [cut, pre, slash]
  | b :: l => by
    by_cases e : b = 47
    · subst e
      rw [cut_hit]
      have h1 : pre (47 :: l) = [] := by simp [pre]
      have h2 : slash (47 :: l) = true := by simp [slash]
      have h3 : post (47 :: l) = l := by simp [post]
      rw [h1, h2, h3]; simp
    · obtain ⟨x, r, e1, e2⟩ := cut_off e l
      have ih := cut_pre l
      rw [e1] at ih
      have h1 : pre (b :: l) = b :: pre l := by unfold pre; rw [List.takeWhile_cons, if_pos (by simpa using e)]
      have h2 : slash (b :: l) = slash l := by unfold slash; rw [List.contains_cons]; simp [show (47 : UInt8) ≠ b from fun h => e h.symm]
      have h3 : post (b :: l) = post l := by unfold post; rw [List.dropWhile_cons, if_pos (by simpa using e)]
      rw [e2, h1, h2, h3]
      injection ih with i1 i2
      rw [i1, i2]
theorem pre_le (l : List UInt8) : (pre l).length ≤ l.length := by unfold pre; exact (List.takeWhile_sublist _).length_le
theorem post_le (l : List UInt8) : (post l).length ≤ l.length := by
  unfold post
  rw [List.length_drop]
  have := (List.dropWhile_sublist (l := l) (· != 47)).length_le
  omega
theorem cut_none_slash {l : List UInt8} (h : slash l = false) : cut 47 l = [pre l] := by rw [cut_pre, h]; rfl
theorem cut_one_slash {l : List UInt8} (h : slash l = true) (h2 : slash (post l) = false) : cut 47 l = [pre l, post l] := by
  rw [cut_pre, h, if_pos rfl, cut_pre (post l), h2]
  have h47 : (47 : UInt8) ∉ post l := by unfold slash at h2; simpa using h2
  rw [(pre_none h47).1]; rfl
theorem cut_more_slash {l : List UInt8} (h : slash l = true) (h2 : slash (post l) = true) : 2 < (cut 47 l).length := by
  rw [cut_pre, h, if_pos rfl, cut_pre (post l), h2, if_pos rfl, List.length_cons, List.length_cons]
  have := List.length_pos_iff.2 (cut_ne 47 (post (post l)))
  omega
theorem parB_slash {l : List UInt8} (h : slash l = true) (most : Int) : parB l most = false := parB_bad (c := 47) most (by unfold slash at h; simpa using h) (by decide)
def markN (hi lo : Nat) (i : Int) : Net := if 96 ≤ i then makeN (v6A hi lo) (i - 96) else makeN (firstA ⟨true, hi, lo⟩ i.toNat) i
def markB (hi lo : Nat) (i : Int) : Bool := if 96 ≤ i then makeB (v6A hi lo) (i - 96) else makeB (firstA ⟨true, hi, lo⟩ i.toNat) i
def ParseN (l : List UInt8) (w : World) (e : Ending) (w' : World) : Prop := e = .returned (.tuple #[.agg #[.bool (parseN l).a.v6, .int .u64 (parseN l).a.hi, .int .u64 (parseN l).a.lo, .int .i64 (parseN l).n], .bool (okN l)]) ∧ Below w.heap.size w w'
theorem parseN_mk {l : List UInt8} {w w' : World} {e : Ending} {n : Net} {b : Bool} (hn : parseN l = n) (hb : okN l = b) (he : e = .returned (.tuple #[.agg #[.bool n.a.v6, .int .u64 n.a.hi, .int .u64 n.a.lo, .int .i64 n.n], .bool b])) (h : Below w.heap.size w w') : ParseN l w e w' := by
  subst hn hb; exact ⟨he, h⟩
theorem okN_noA {l : List UInt8} (h : okA (pre l) = false) : okN l = false := by unfold okN; rw [h]; rfl
theorem okN_noB {l : List UInt8} (h : slash l = true) (h2 : parB (post l) 128 = false) : okN l = false := by unfold okN; rw [h, h2]; simp
theorem okN_full {l : List UInt8} (h : okA (pre l) = true) (h2 : slash l = false) : okN l = true ∧ parseN l = fullN (parseA (pre l)) := by
  have e : okN l = true := by unfold okN; rw [h, h2]; rfl
  refine ⟨e, ?_⟩
  unfold parseN; rw [e, h2]; rfl
theorem okN_mark {l : List UInt8} (h : slash l = true) (h2 : parB (post l) 128 = true) (h3 : marked (pre l) = true) : okN l = true ∧ parseN l = markN (hi6 (pre l)) (lo6 (pre l)) (bitsT l) ∧ markB (hi6 (pre l)) (lo6 (pre l)) (bitsT l) = true := by
  have hb := bitsT_bd l
  have h1 : okA (pre l) = true := by unfold okA; rw [(marked_is h3).1]; simp
  have e : okN l = true := (okN_iff l).2 ⟨h1, fun _ => ⟨h2, fun hm => by rw [h3] at hm; cases hm⟩⟩
  have m := marked_is h3
  refine ⟨e, ?_, ?_⟩
  · unfold parseN markN
    rw [if_pos e, if_pos h, if_pos h3]
    by_cases h96 : bitsT l < 96
    · rw [if_pos h96, if_neg (by omega), (marked_low _ _ hb.1 h96).2]
    · rw [if_neg h96, if_pos (by omega), m.2.2.2.1]
  · unfold markB
    by_cases h96 : bitsT l < 96
    · rw [if_neg (by omega)]; exact (marked_low _ _ hb.1 h96).1
    · rw [if_pos (by omega), ← m.2.2.2.1]; exact marked_make h3 (by omega) hb.2
theorem okN_make {l : List UInt8} (h1 : okA (pre l) = true) (h : slash l = true) (h2 : parB (post l) 128 = true) (h3 : marked (pre l) = false) : okN l = makeB (parseA (pre l)) (bitsT l) ∧ parseN l = makeN (parseA (pre l)) (bitsT l) := by
  have e : okN l = makeB (parseA (pre l)) (bitsT l) := by unfold okN; rw [h1, h, h2, h3]; simp
  refine ⟨e, ?_⟩
  cases hm : makeB (parseA (pre l)) (bitsT l)
  · rw [parseN_no (e.trans hm)]; unfold makeN; rw [hm]; rfl
  · unfold parseN; rw [e, hm, h, h3]; rfl
theorem Txts.cons {w : World} {v : Value} {x : List UInt8} {ls : List (List UInt8)} (h : Txts w v (x :: ls)) : ∃ b o c, v = .slice (some ⟨b, o, none⟩) (x :: ls).length c ∧ b < w.heap.size ∧ ls.length + 1 ≤ c ∧ w.cell? ⟨b, o, none⟩ = some (.string ⟨x.toArray⟩) ∧ ∀ y, ls[0]? = some y → w.cell? ⟨b, o + 1, none⟩ = some (.string ⟨y.toArray⟩) := by
  obtain ⟨A, c, rfl, hcap, h⟩ := h
  obtain ⟨b, o, rfl, hb, hc⟩ := h (by simp)
  refine ⟨b, o, c, rfl, hb, by simpa using hcap, by have := hc 0 (by simp); simpa only [Nat.add_zero, List.getElem_cons_zero] using this, fun y hy => ?_⟩
  obtain ⟨hlt, he⟩ := List.getElem?_eq_some_iff.1 hy
  rw [hc 1 (by simp; omega)]
  simp [he]
end Go.Proofs.Ythpimcnbfhogdaa.Ci
