/- Contracts of the document's answers for layer 9: who is right, texts, one order. -/
import Derived.Test.YtefkolkagebffaaGreatDoorEndpAll
import Derived.Test.YtefkolkagebffaaGreatDoorRef06All
namespace Go.Proofs.YtefkolkagebffaaGreatDoor.En
set_option maxRecDepth 100000
open Go.ChangeShapes Go.WideShapes Go.ChangeAt Go.RowKit
open Dec Words V4 V6 Ad
set_option linter.unusedVariables false
end Go.Proofs.YtefkolkagebffaaGreatDoor.En
/- Contracts of the document's answers for layer 9: what is read. -/
namespace Go.Proofs.YtefkolkagebffaaGreatDoor.En
set_option maxRecDepth 100000
open Go.ChangeShapes Go.WideShapes Go.ChangeAt Go.RowKit
open Dec Words V4 V6 Ad
set_option linter.unusedVariables false
theorem split_at {l : List UInt8} {k : Nat} (h : k < l.length) {c : UInt8} (e : l[k] = c) : l.take k ++ c :: l.drop (k + 1) = l := by
  rw [← e, List.getElem_cons_drop, List.take_append_drop]
theorem good_ok {l : List UInt8} {k : Nat} (h : k < l.length) (e : l[k] = 58) (g1 : hostB (l.take k) = true) (g2 : portB (l.drop (k + 1)) = true) : okE l = true ∧ parseE l = ⟨parseA (inner (l.take k)), parN (l.drop (k + 1)) 65535⟩ := by
  have := okE_mid g1 g2
  rwa [split_at h e] at this
/-- Not at this place: no colon, or no host ahead of it, or no port behind it. -/
def off (l : List UInt8) (k : Nat) : Prop := ∀ h : k < l.length, l[k] = 58 → ¬ (hostB (l.take k) = true ∧ portB (l.drop (k + 1)) = true)
theorem mid_facts {l u v : List UInt8} (e : l = u ++ 58 :: v) : l[u.length]? = some 58 ∧ l.take u.length = u ∧ l.drop (u.length + 1) = v := by
  subst e
  refine ⟨?_, ?_, ?_⟩
  · rw [List.getElem?_append_right (Nat.le_refl _)]; simp
  · rw [List.take_append, List.take_of_length_le (Nat.le_refl _)]; simp
  · rw [List.drop_append, List.drop_of_length_le (by omega)]; simp
theorem bad_all {l : List UInt8} (h : ∀ k, k < l.length → off l k) : okE l = false := by
  rw [← Bool.not_eq_true]
  intro hk
  obtain ⟨h0, h1, h2⟩ := (okE_iff l).1 hk
  obtain ⟨e, hn⟩ := at_split h0
  have hle := at58_le l
  have hlt : (head58 l).length < l.length := by omega
  obtain ⟨g, t1, t2⟩ := mid_facts e
  rw [List.getElem?_eq_getElem hlt, Option.some.injEq] at g
  exact h _ hlt hlt g ⟨by rw [t1]; exact h1, by rw [t2]; exact h2⟩
theorem framed_take {l : List UInt8} {k : Nat} (h : k ≤ l.length) : framed (l.take k) = true ↔ 2 ≤ k ∧ l[0]? = some 91 ∧ l[k - 1]? = some 93 := by
  constructor
  · intro hf
    have h2 := framed_len hf
    rw [List.length_take] at h2
    unfold framed at hf
    rw [Bool.and_eq_true, beq_iff_eq, beq_iff_eq, List.head?_take, List.getLast?_take, if_neg (by omega), if_neg (by omega)] at hf
    refine ⟨by omega, by rw [← List.head?_eq_getElem?]; exact hf.1, ?_⟩
    have h3 := hf.2
    rw [List.getElem?_eq_getElem (by omega : k - 1 < l.length)] at h3 ⊢
    simpa using h3
  · rintro ⟨h2, h0, h1⟩
    unfold framed
    rw [Bool.and_eq_true, beq_iff_eq, beq_iff_eq, List.head?_take, List.getLast?_take, if_neg (by omega), if_neg (by omega), List.head?_eq_getElem?]
    refine ⟨h0, ?_⟩
    rw [h1]; rfl
theorem inner_take {l : List UInt8} {k : Nat} (h : k ≤ l.length) (hf : framed (l.take k) = true) : (l.take (k - 1)).drop 1 = inner (l.take k) := by
  have := inner_slice hf
  rw [List.length_take, List.take_take] at this
  rw [← this]
  congr 2; omega
theorem index_at (l : List UInt8) (k : Nat) (i : Int) (hi : i = (k : Int)) (h : k < l.length) (W : World) : (Instr.index 9 (.string ⟨l.toArray⟩) (.int .i64 i)).run Tryz.prog W = .ok (.int .u8 (l[k].toNat : Int)) W := by
  subst hi
  rw [run_index_string (h := Tryz.underlying9), dif_pos ⟨by omega, by rw [size_mk]; omega⟩]
  simp [ByteArray.getElem_eq_getElem_data]
theorem byte_on {x c : UInt8} {n : Int} (hn : (c.toNat : Int) = n) (h : x = c) : ((x.toNat : Int) == n) = true ∧ ((x.toNat : Int) != n) = false := by
  subst h hn; simp
theorem byte_no {x c : UInt8} {n : Int} (hn : (c.toNat : Int) = n) (h : x ≠ c) : ((x.toNat : Int) == n) = false ∧ ((x.toNat : Int) != n) = true := by
  have : ¬ ((x.toNat : Int) = n) := fun e => h (UInt8.toNat_inj.1 (by omega))
  refine ⟨?_, ?_⟩
  · rw [beq_eq_false_iff_ne]; exact this
  · rw [bne_iff_ne]; exact this
end Go.Proofs.YtefkolkagebffaaGreatDoor.En
