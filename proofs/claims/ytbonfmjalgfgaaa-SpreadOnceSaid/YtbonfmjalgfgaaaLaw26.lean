/- Of the statements of layer 26 (book): books and ends that came in; the example. -/
import Derived.Test.YtbonfmjalgfgaaaRef26All
import Derived.Deep.RegionHeld3
namespace Go.Proofs.Ytbonfmjalgfgaaa
set_option maxRecDepth 100000
open Go.ChangeShapes Go.WideShapes Go.ChangeAt Go.RowKit
open Ad Ci En Sat Bk Et Bo Go.Deep
set_option linter.unusedVariables false
/-- Entries that came in. -/
theorem open_book {H : Type} {enc : TypeId × Value → H} {W : World} {v : Value} {d : DataW H} {ps : List MemPlace} {r : Reach} {b0 : Nat}
    (hval : Value.okWide Try.prog W r b0 23 v) (h : DataW.Trod enc Try.prog W 0 (fun _ => true) true 23 v d ps) : ∃ xs : List Ey, Books W v xs ∧ xs.length ≤ 9223372036854775807 ∧ ∀ x ∈ xs, x.ok :=
  open_recs (encR := encY) (good := Ey.ok) Try.underlying23 (by kernel_rfl) (by decide) (fun _ _ _ hf hl => entry_cells hf hl) hval h
theorem end_cells {H : Type} {enc : TypeId × Value → H} {W : World} {fuel : Nat} {cs : List Value} {y : DataW H × List MemPlace}
    (hf : DataW.trod enc Try.prog W 0 (fun _ => true) true fuel 34 cs = some y) (hl : cs.length = 4) : ∃ x : Endp, cs = encD x ∧ x.ok := by
  match cs, hl with
  | [c0, c1, c2, c3], _ =>
  obtain ⟨N, hN, jN⟩ := net_cells (ta := 26) (tb := 4) (tu := 24) (ti := 3) Try.underlying34 rfl rfl Try.underlying26 (by kernel_rfl) rfl rfl (by kernel_rfl) (by kernel_rfl) (by kernel_rfl) rfl rfl rfl Try.underlying4 Try.underlying24 Try.underlying3 hf
  exact ⟨⟨N.a, N.n⟩, jN, hN⟩
/-- Ends that came in. -/
theorem open_ends {H : Type} {enc : TypeId × Value → H} {W : World} {v : Value} {d : DataW H} {ps : List MemPlace} {r : Reach} {b0 : Nat}
    (hval : Value.okWide Try.prog W r b0 32 v) (h : DataW.Trod enc Try.prog W 0 (fun _ => true) true 32 v d ps) : ∃ xs : List Endp, Bo.Ends W v xs ∧ xs.length ≤ 9223372036854775807 ∧ ∀ x ∈ xs, x.ok :=
  open_recs (encR := encD) (good := Endp.ok) Try.underlying32 (by kernel_rfl) (by decide) (fun _ _ _ hf hl => end_cells hf hl) hval h
def e26 : Ey := ⟨⟨⟨false, 0, 1⟩, 80⟩, 3, 0, 0⟩
theorem e26_ok : e26.ok := ⟨⟨⟨by decide, by decide⟩, by decide, by decide⟩, by unfold i64B; decide, by unfold i64B; decide, by unfold i64B; decide⟩
theorem e26_all : ∀ x ∈ [e26], x.ok := fun x hx => by rw [List.mem_singleton] at hx; subst hx; exact e26_ok
abbrev S26 (b : Nat) (W3 w' : World) : Prop := w'.cell? ⟨b, 0, none⟩ = some (.bool false) ∧ w'.cell? ⟨b, 1, none⟩ = some (.int .u64 0) ∧ w'.cell? ⟨b, 2, none⟩ = some (.int .u64 1) ∧ w'.cell? ⟨b, 3, none⟩ = some (.int .i64 80) ∧ w'.cell? ⟨b, 4, none⟩ = some (.int .i64 3) ∧ w'.cell? ⟨b, 5, none⟩ = some (.int .i64 0) ∧ w'.cell? ⟨b, 6, none⟩ = some (.int .i64 0) ∧ Lows W3 w'
end Go.Proofs.Ytbonfmjalgfgaaa
