/- The second statement of layer 11, proved: what was told of a tree stays, whatever is made of it; for all acts. -/
import Derived.Test.YtgnpnmdndlodlaaLaw11Stays
import Derived.Test.YtgnpnmdndlodlaaCidrDoor
import Derived.Test.YtgnpnmdndlodlaaTrieReal
namespace Go.Proofs.Ytgnpnmdndlodlaa
set_option maxRecDepth 100000
open Go.ChangeShapes Go.WideShapes Go.ChangeAt Go.RowKit
open Ad Ci Tr
set_option linter.unusedVariables false
theorem trieStays_walk (w : World) (v : Value) (l : List Tr.Act) (h : Acts w v l) (hok : ∀ x ∈ l, x.ok) (vm : Value) (lm : List Tr.Act) (hm : Acts w vm lm) (hokm : ∀ x ∈ lm, x.ok) :
    Calls Try.prog 4 #[v, vm] w fun e w' => e = .returned (.bool true) ∧ Below w.heap.size w w' := stays_walk api w v vm l lm h hm hok hokm
namespace trieStays
theorem contract (H : Type) (enc : TypeId × Value → H) (W : World) (base : Nat) (args : Array Value) (ds gs : List (DataW H)) (before : List MemPlace)
    (hval0 : ∀ (j : Nat) t v, Try.f4.params[j]? = some t → args[j]? = some v → Value.okWide Try.prog W .any base t v)
    (hW : DataW.Whole enc Try.prog Try.f4.params.toList Rows.trieStaysSpec.vars false W args.toList ds gs before) (hSh : W.ShapedOpen Try.prog) :
    Calls Try.prog 4 args W fun e W' => ∃ v, e = .returned v ∧ Rows.trieStaysSpec.post enc Try.prog Try.f4 false true false false W args v W' := by
  have hval : ∀ (j : Nat) t v, Try.f4.params[j]? = some t → args[j]? = some v → Value.okWide Try.prog W .any base t v := hval0
  have hW' := hW
  obtain ⟨p, q, hA0, hV, _, _, _⟩ := hW
  have hA : DataW.TrodAll enc Try.prog W 0 (fun _ => true) true Try.f4.params.toList args.toList ds p := hA0
  rw [Try.params4] at hA hval
  obtain ⟨v0, vs0, d0, ds0, p0, q0, hargs, rfl, rfl, h0, r0⟩ := trodAll_cons hA
  obtain ⟨v1, vs1, d1, ds1, p1, q1, rfl, rfl, rfl, h1, r1⟩ := trodAll_cons r0
  obtain ⟨rfl, rfl, rfl⟩ := trodAll_nil r1
  obtain rfl : args = #[v0, v1] := by cases args; simp_all
  obtain ⟨rfl, rfl⟩ := trodVars_none hV
  obtain ⟨l0, t0, n0, s0⟩ := Tr.open_acts (hval 0 22 v0 rfl rfl) h0
  obtain ⟨l1, t1, n1, s1⟩ := Tr.open_acts (hval 1 22 v1 rfl rfl) h1
  clear hA0 hval0
  refine (trieStays_walk W v0 l0 t0 s0 v1 l1 t1 s1).mono fun e W' ⟨he, hg⟩ => ?_
  subst he
  exact ⟨_, rfl, post_law laidOut (by kernel_rfl) (by kernel_rfl) Try.underlying4 rfl hW' rfl rfl rfl hg⟩
set_option maxRecDepth 100000 in
theorem lifted (os : Os) (started : os.Started) (H : Type) (enc : TypeId × Value → H) (F : Stop.Interp) :
    ReturnsInHanded {} Try.checked os 4 .any ((OpenSpec.ofChange Rows.trieStaysSpec).preRow enc Try.prog Try.f4 Rows.trieStaysRow.domain false Rows.trieStaysRow.laid) (((OpenSpec.ofChange Rows.trieStaysSpec).at F).post enc Try.prog Try.f4 false true false false) := by
  refine returnsInHanded_of_row (C := Try.checked) (s := OpenSpec.ofChange Rows.trieStaysSpec) own started (by kernel_rfl) Try.func4
    (witness_laid (enc := enc) (C := Try.checked) (s := OpenSpec.ofChange Rows.trieStaysSpec) (laid := Rows.trieStaysRow.laid) #[.slice none 0 0, .slice none 0 0] (World.shaped_of_ZipB (by kernel_rfl) (by kernel_rfl)) (by kernel_rfl)
      (OpenSpec.preRow_of_cond 8 (x := ([.nil, .nil], [], [])) (by kernel_rfl) (by kernel_rfl) (fun k hk => by cases hk) (by kernel_rfl)
        (by rw [MakeChecks.laidMetH_plain _ _ _ (by kernel_rfl)]; exact laidMet_laidAll _ (by kernel_rfl) (by kernel_rfl)))) ?_
  intro W base args ds gs before hval hW _ hcond _ _ hsh _
  exact contract H enc W base args ds gs before hval hW hsh
theorem over : Rows.trieStaysRow.holds Try.pinned (OpenSpec.ofChange Rows.trieStaysSpec) :=
  OpenClaim.holds_of_cond 4 Try.f4 rfl rfl rfl rfl rfl rfl rfl ⟨rfl, rfl, rfl, rfl, rfl⟩ rfl rfl rfl rfl rfl (by kernel_rfl) Try.func4 (by kernel_rfl)
    (of_decide_eq_true (by kernel_rfl)) (by unfold Func.isWrapper; first | (rw [if_pos (by decide +kernel)]; kernel_rfl) | (rw [if_neg (by decide +kernel)]; exact ⟨rfl, rfl⟩))
    (fun os started H enc _ F => by rw [OpenClaim.pre_eq_preRow]; exact lifted os started H enc F)
/-- ████ THE STATEMENT ████ -/
theorem proved : Rows.TrieStaysSaid := over
end trieStays
end Go.Proofs.Ytgnpnmdndlodlaa
