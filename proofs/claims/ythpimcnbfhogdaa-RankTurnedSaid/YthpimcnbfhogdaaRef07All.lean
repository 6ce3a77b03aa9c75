/- Contracts of the document's answers for layer 7: what needs no text. -/
import Derived.Test.YthpimcnbfhogdaaCidrAll
import Derived.Test.YthpimcnbfhogdaaRef07Low
import Derived.Test.YthpimcnbfhogdaaRef07Right
import Derived.Test.YthpimcnbfhogdaaRef07Full
namespace Go.Proofs.Ythpimcnbfhogdaa.Ci
set_option maxRecDepth 100000
open Go.ChangeShapes Go.WideShapes Go.ChangeAt Go.RowKit
open Dec Words V4 V6 Ad
set_option linter.unusedVariables false
end Go.Proofs.Ythpimcnbfhogdaa.Ci
namespace Go.Proofs.Ythpimcnbfhogdaa.Ci
set_option maxRecDepth 100000
open Go.ChangeShapes Go.WideShapes Go.ChangeAt Go.RowKit
open Dec Words V4 V6 Ad
set_option linter.unusedVariables false
/-- Where the first slash at k or behind it stands; the end, if none does. -/
def atF (l : List UInt8) (k : Nat) : Nat := k + (pre (l.drop k)).length
theorem atF_end (l : List UInt8) : atF l l.length = l.length := by unfold atF; simp [pre]
theorem atF_le (l : List UInt8) {k : Nat} (h : k ≤ l.length) : atF l k ≤ l.length := by
  unfold atF
  have := pre_le (l.drop k)
  rw [List.length_drop] at this
  omega
theorem atF_hit {l : List UInt8} {k : Nat} (h : k < l.length) (e : l[k] = 47) : atF l k = k := by
  unfold atF
  rw [List.drop_eq_getElem_cons h, e]; simp [pre]
theorem atF_off {l : List UInt8} {k : Nat} (h : k < l.length) (e : l[k] ≠ 47) : atF l k = atF l (k + 1) := by
  unfold atF
  rw [List.drop_eq_getElem_cons h]
  have : pre (l[k] :: l.drop (k + 1)) = l[k] :: pre (l.drop (k + 1)) := by unfold pre; rw [List.takeWhile_cons, if_pos (by simpa using e)]
  rw [this, List.length_cons]; omega
theorem atF_zero (l : List UInt8) : atF l 0 = (pre l).length := by unfold atF; simp
theorem pre_take (l : List UInt8) : l.take (pre l).length = pre l := by
  unfold pre
  have h := List.takeWhile_append_dropWhile (p := fun b : UInt8 => b != 47) (l := l)
  conv => lhs; rw [← h]
  rw [List.takeWhile_append_dropWhile]
  conv => lhs; arg 2; rw [← h]
  exact List.take_left' rfl
theorem post_drop (l : List UInt8) : l.drop ((pre l).length + 1) = post l := by
  unfold pre post
  have h := List.takeWhile_append_dropWhile (p := fun b : UInt8 => b != 47) (l := l)
  rw [← List.drop_drop]
  congr 1
  conv => lhs; arg 2; rw [← h]
  exact List.drop_left' rfl
theorem slash_len (l : List UInt8) : (slash l = true → (pre l).length < l.length) ∧ (slash l = false → (pre l).length = l.length) := by
  have h := cut_pre l
  constructor
  · intro hs
    refine Nat.lt_of_le_of_ne (pre_le l) fun e => ?_
    have h2 := pre_take l
    rw [e, List.take_of_length_le (Nat.le_refl _)] at h2
    have hm : (47 : UInt8) ∈ l := by unfold slash at hs; simpa using hs
    rw [h2] at hm
    exact cut_parts 47 l (pre l) (by rw [h]; simp) hm
  · intro hs
    have hn : (47 : UInt8) ∉ l := by unfold slash at hs; simpa using hs
    rw [(pre_none hn).1]
theorem byte47 {l : List UInt8} {k : Nat} (h : k < l.length) (e : l[k] = 47) : ((l[k].toNat : Int) == 47) = true ∧ ((l[k].toNat : Int) != 47) = false := by rw [e]; decide
theorem byteno {l : List UInt8} {k : Nat} (h : k < l.length) (e : l[k] ≠ 47) : ((l[k].toNat : Int) == 47) = false ∧ ((l[k].toNat : Int) != 47) = true := by
  have : ¬ ((l[k].toNat : Int) = 47) := fun h2 => e (by
    have h3 : l[k].toNat = (47 : UInt8).toNat := by have : (47 : UInt8).toNat = 47 := rfl; omega
    exact UInt8.toNat_inj.1 h3)
  refine ⟨?_, ?_⟩
  · rw [beq_eq_false_iff_ne]; exact this
  · rw [bne_iff_ne]; exact this
end Go.Proofs.Ythpimcnbfhogdaa.Ci
