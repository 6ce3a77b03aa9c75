/- Contract of package addr: may an address be? -/
import Derived.Test.YtokbifndhkijiaaDoorAddr
namespace Go.Proofs.YtokbifndhkijiaaDoor.Ad
set_option maxRecDepth 100000
open Go.ChangeShapes Go.WideShapes Go.ChangeAt Go.RowKit
set_option linter.unusedVariables false
theorem right_six (hi lo : Nat) : rightA ⟨true, hi, lo⟩ = sameA ⟨true, hi, lo⟩ (v6A hi lo) := by
  unfold rightA v6A
  cases stands hi lo <;> simp [sameA]
theorem right_four (hi lo : Nat) : rightA ⟨false, hi, lo⟩ = sameA ⟨false, hi, lo⟩ (v4A (lo % 4294967296)) := by
  unfold rightA v4A sameA
  rw [Bool.eq_iff_iff]
  simp only [Bool.false_eq_true, if_false, Bool.and_eq_true, decide_eq_true_eq, beq_iff_eq, beq_self_eq_true, true_and]
  omega
/-- What is left of a world in which an address was laid. -/
def Stays (W w : World) : Prop := Below W.heap.size W w
abbrev Boxed (v : Bool) (hi lo : Nat) (w W : World) : Prop := W.cell? ⟨w.heap.size, 0, none⟩ = some (.bool v) ∧ W.cell? ⟨w.heap.size, 1, none⟩ = some (.int .u64 hi) ∧ W.cell? ⟨w.heap.size, 2, none⟩ = some (.int .u64 lo) ∧ Stays (w.alloc (.cells #[.bool v, .int .u64 hi, .int .u64 lo] 24)) W
theorem box_left {v : Bool} {hi lo : Nat} {w W : World} (h : Stays (w.alloc (.cells #[.bool v, .int .u64 hi, .int .u64 lo] 24)) W) :
    W.cell? ⟨w.heap.size, 0, none⟩ = some (.bool v) ∧ W.cell? ⟨w.heap.size, 1, none⟩ = some (.int .u64 hi) ∧ W.cell? ⟨w.heap.size, 2, none⟩ = some (.int .u64 lo) ∧ Stays (w.alloc (.cells #[.bool v, .int .u64 hi, .int .u64 lo] 24)) W := by
  obtain ⟨hc, _⟩ := old h
  refine ⟨?_, ?_, ?_, h⟩ <;> (rw [hc _ _ (by simp), cell_of_row _ _ _ _ _ _ (heap_alloc_new w _)]; rfl)
set_option maxHeartbeats 1000000 in
theorem right_any (a : Adr) (w : World) (ha : a.ok) :
    Calls Tryd.prog 9 #[.agg #[.bool a.v6, .int .u64 a.hi, .int .u64 a.lo]] w fun e w' => e = .returned (.bool (rightA a)) ∧ Below w.heap.size w w' := by
  obtain ⟨v, hi, lo⟩ := a
  obtain ⟨h1, h2⟩ := ha
  simp only [] at h1 h2
  cases v
  · rw [right_four]
    have EQ := fun W => eqAdr ⟨false, hi, lo⟩ (v4A (lo % 4294967296)) W
    simp only [] at EQ
    have V : Hid (∀ W, Boxed false hi lo w W → Calls Tryd.prog 21 #[.int .u32 ((lo : Int) % 4294967296)] W fun e w' => e = .returned (.agg #[.bool (v4A (lo % 4294967296)).v6, .int .u64 (v4A (lo % 4294967296)).hi, .int .u64 (v4A (lo % 4294967296)).lo]) ∧ Boxed false hi lo w w') := by
      intro W h
      have hc : Calls Tryd.prog 21 #[.int .u32 ((lo : Int) % 4294967296)] W fun e w' => e = .returned (.agg #[.bool (v4A (lo % 4294967296)).v6, .int .u64 (v4A (lo % 4294967296)).hi, .int .u64 (v4A (lo % 4294967296)).lo]) ∧ Below W.heap.size W w' := by rw [show ((lo : Int) % 4294967296) = ((lo % 4294967296 : Nat) : Int) from by omega]; exact v4_any (lo % 4294967296) W (by omega)
      exact hc.mono fun e w' ⟨he, hb⟩ => ⟨he, box_left (low_trans h.2.2.2 hb)⟩
    have q1 : IntKind.u32.wrap (lo : Int) = (lo : Int) % 4294967296 := IntKind.wrap_u32 _
    have hk0 : Boxed false hi lo w (w.alloc (.cells #[.bool false, .int .u64 hi, .int .u64 lo] 24)) := box_left (Below.refl _ _)
    go_enter Tryd.func9, Tryd.ntmps9
    go_wp2_with fail
    go_region_held3 (fun w' => w'.cell? ⟨w.heap.size, 0, none⟩ = some (.bool false) ∧ w'.cell? ⟨w.heap.size, 1, none⟩ = some (.int .u64 hi) ∧ w'.cell? ⟨w.heap.size, 2, none⟩ = some (.int .u64 lo) ∧ Stays (w.alloc (.cells #[.bool false, .int .u64 hi, .int .u64 lo] 24)) w')
      (first | assumption | exact box_left (Below.refl _ _) | exact box_left (low_drewN (‹Boxed false hi lo w _›).2.2.2 1))
      (first | (go_at_call 21; (with_reducible refine (V.out _ ‹_›).mono ?_); rintro e w5 ⟨rfl, hkw⟩))
    go_wp2
    go_ret
    exact ⟨rfl, ((Below.refl _ _).alloc (Nat.le_refl _) _).trans ((‹Boxed false hi lo w _›).2.2.2.mono (by simp))⟩
  · rw [right_six]
    have EQ := fun W => eqAdr ⟨true, hi, lo⟩ (v6A hi lo) W
    simp only [] at EQ
    have V : Hid (∀ W, Boxed true hi lo w W → Calls Tryd.prog 17 #[.int .u64 hi, .int .u64 lo] W fun e w' => e = .returned (.agg #[.bool (v6A hi lo).v6, .int .u64 (v6A hi lo).hi, .int .u64 (v6A hi lo).lo]) ∧ Boxed true hi lo w w') := by
      intro W h
      have hc : Calls Tryd.prog 17 #[.int .u64 hi, .int .u64 lo] W fun e w' => e = .returned (.agg #[.bool (v6A hi lo).v6, .int .u64 (v6A hi lo).hi, .int .u64 (v6A hi lo).lo]) ∧ Below W.heap.size W w' := by exact v6_any hi lo W h1 h2
      exact hc.mono fun e w' ⟨he, hb⟩ => ⟨he, box_left (low_trans h.2.2.2 hb)⟩
    have hk0 : Boxed true hi lo w (w.alloc (.cells #[.bool true, .int .u64 hi, .int .u64 lo] 24)) := box_left (Below.refl _ _)
    go_enter Tryd.func9, Tryd.ntmps9
    go_wp2_with fail
    go_region_held3 (fun w' => w'.cell? ⟨w.heap.size, 0, none⟩ = some (.bool true) ∧ w'.cell? ⟨w.heap.size, 1, none⟩ = some (.int .u64 hi) ∧ w'.cell? ⟨w.heap.size, 2, none⟩ = some (.int .u64 lo) ∧ Stays (w.alloc (.cells #[.bool true, .int .u64 hi, .int .u64 lo] 24)) w')
      (first | assumption | exact box_left (Below.refl _ _) | exact box_left (low_drewN (‹Boxed true hi lo w _›).2.2.2 1))
      (first | (go_at_call 17; (with_reducible refine (V.out _ ‹_›).mono ?_); rintro e w5 ⟨rfl, hkw⟩))
    go_wp2
    go_ret
    exact ⟨rfl, ((Below.refl _ _).alloc (Nat.le_refl _) _).trans ((‹Boxed true hi lo w _›).2.2.2.mono (by simp))⟩
end Go.Proofs.YtokbifndhkijiaaDoor.Ad
