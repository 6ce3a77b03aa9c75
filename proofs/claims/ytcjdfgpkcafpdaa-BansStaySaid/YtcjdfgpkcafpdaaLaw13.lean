/- Of the statements of layer 13: the example; acts in memory. -/
import Derived.Test.YtcjdfgpkcafpdaaBans
import Derived.Test.YtcjdfgpkcafpdaaRef13Add
import Derived.Test.YtcjdfgpkcafpdaaRef13Right
import Derived.Test.YtcjdfgpkcafpdaaCidrDoor
namespace Go.Proofs.Ytcjdfgpkcafpdaa
set_option maxRecDepth 100000
open Go.ChangeShapes Go.WideShapes Go.ChangeAt Go.RowKit
open Dec Words V4 V6 Ad Ci Ba
set_option linter.unusedVariables false
theorem ex_add : addL [(⟨⟨⟨false, 0, 167772160⟩, 8⟩, 50⟩ : Ban)] (⟨⟨⟨false, 0, 167837696⟩, 16⟩, 20⟩ : Ban) 9 = ([(⟨⟨⟨false, 0, 167772160⟩, 8⟩, 50⟩ : Ban), (⟨⟨⟨false, 0, 167837696⟩, 16⟩, 20⟩ : Ban)], 0) := by kernel_rfl
theorem ex_until : untilL [(⟨⟨⟨false, 0, 167772160⟩, 8⟩, 50⟩ : Ban), (⟨⟨⟨false, 0, 167837696⟩, 16⟩, 20⟩ : Ban)] (⟨false, 0, 167838211⟩ : Adr) 5 = 50 := by kernel_rfl
theorem ex_right : rightL [(⟨⟨⟨false, 0, 167772160⟩, 8⟩, 50⟩ : Ban), (⟨⟨⟨false, 0, 167837696⟩, 16⟩, 20⟩ : Ban)] = true := by
  rw [right_iff]
  refine ⟨?_, ?_⟩
  · intro x hx
    rcases List.mem_cons.1 hx with rfl | hx
    · decide +kernel
    · rcases List.mem_cons.1 hx with rfl | hx
      · decide +kernel
      · cases hx
  · refine List.Pairwise.cons (fun y hy => ?_) (List.pairwise_singleton _ _)
    rcases List.mem_cons.1 hy with rfl | hy
    · decide +kernel
    · cases hy
set_option maxHeartbeats 4000000 in
theorem awake13_any (w : World) : Calls Try.prog 6 #[] w fun e w' => e = .returned (.bool true) ∧ Below w.heap.size w w' := by
  have k0 : ((⟨⟨⟨false, 0, 167772160⟩, 8⟩, 50⟩ : Ban)).ok := ⟨⟨⟨by decide, by decide⟩, by decide, by decide⟩, by decide, by decide⟩
  have k1 : ((⟨⟨⟨false, 0, 167837696⟩, 16⟩, 20⟩ : Ban)).ok := ⟨⟨⟨by decide, by decide⟩, by decide, by decide⟩, by decide, by decide⟩
  have ka : ((⟨false, 0, 167838211⟩ : Adr)).ok := ⟨by decide, by decide⟩
  have hok : ∀ x ∈ [(⟨⟨⟨false, 0, 167772160⟩, 8⟩, 50⟩ : Ban), (⟨⟨⟨false, 0, 167837696⟩, 16⟩, 20⟩ : Ban)], x.ok := fun x hx => by
    rcases List.mem_cons.1 hx with rfl | hx
    · exact k0
    · rcases List.mem_cons.1 hx with rfl | hx
      · exact k1
      · cases hx
  have LOW : Below w.heap.size w (w.alloc (.cells #[.bool false, .int .u64 0, .int .u64 167772160, .int .i64 8, .int .i64 50] 29)) := (Below.refl _ _).alloc (Nat.le_refl _) _
  have T1 := Lib.hid (add_any _ [(⟨⟨⟨false, 0, 167772160⟩, 8⟩, 50⟩ : Ban)] (⟨⟨⟨false, 0, 167837696⟩, 16⟩, 20⟩ : Ban) 9 _ (ban_lit w (⟨⟨⟨false, 0, 167772160⟩, 8⟩, 50⟩ : Ban)) (by decide) (fun x hx => by rcases List.mem_cons.1 hx with rfl | hx; exact k0; cases hx) k1)
  rw [ex_add] at T1
  have T2 := Lib.hid (fun v W h => until_any v [(⟨⟨⟨false, 0, 167772160⟩, 8⟩, 50⟩ : Ban), (⟨⟨⟨false, 0, 167837696⟩, 16⟩, 20⟩ : Ban)] (⟨false, 0, 167838211⟩ : Adr) 5 W h (by decide) hok ka)
  rw [ex_until] at T2
  have T3 := Lib.hid (fun v W h => right_any v [(⟨⟨⟨false, 0, 167772160⟩, 8⟩, 50⟩ : Ban), (⟨⟨⟨false, 0, 167837696⟩, 16⟩, 20⟩ : Ban)] W h (by decide) hok)
  rw [ex_right] at T3
  clear k0 k1 ka hok
  go_enter Try.func6, Try.ntmps6
  go_wp2_with fail
  refine T1.out.mono ?_
  rintro e w1 ⟨u, rfl, hR, hb1⟩
  have HR := Lib.hid hR
  obtain ⟨A, c, rfl, -, -, -⟩ := hR
  go_wp2_with fail
  refine (T2.out _ _ HR.out).mono ?_
  rintro e w2 ⟨rfl, hb2⟩
  have HR2 := Lib.hid (HR.out.below hb2)
  go_wp2_with fail
  refine (T3.out _ _ HR2.out).mono ?_
  rintro e w3 ⟨rfl, hb3⟩
  go_wp2_with fail
  go_ret
  exact ⟨rfl, low_trans LOW (low_trans hb1 (low_trans hb2 hb3))⟩
/-- What is done to a list. -/
structure Act13 where
  kind : Int
  b : Ban
instance : Inhabited Act13 := ⟨⟨0, zeroB⟩⟩
def Act13.ok (x : Act13) : Prop := x.b.ok
def encA13 (x : Act13) : List Value := .int .i64 x.kind :: encB x.b
abbrev Acts13 (w : World) (v : Value) (l : List Act13) : Prop := Recs 6 encA13 w v l
theorem act13_at {w : World} {b o : Nat} {l : List Act13} (h : ∀ i (h : i < l.length) j u, (encA13 l[i])[j]? = some u → w.cell? ⟨b, o + i * 6 + j, none⟩ = some u) {k : Nat} (hk : k < l.length) :
    w.cell? ⟨b, o + k * 6, none⟩ = some (.int .i64 l[k].kind) ∧ w.cell? ⟨b, o + k * 6 + 1, none⟩ = some (.bool l[k].b.n.a.v6) ∧ w.cell? ⟨b, o + k * 6 + 2, none⟩ = some (.int .u64 l[k].b.n.a.hi) ∧ w.cell? ⟨b, o + k * 6 + 3, none⟩ = some (.int .u64 l[k].b.n.a.lo) ∧ w.cell? ⟨b, o + k * 6 + 4, none⟩ = some (.int .i64 l[k].b.n.n) ∧ w.cell? ⟨b, o + k * 6 + 5, none⟩ = some (.int .i64 l[k].b.t) :=
  ⟨h k hk 0 _ rfl, h k hk 1 _ rfl, h k hk 2 _ rfl, h k hk 3 _ rfl, h k hk 4 _ rfl, h k hk 5 _ rfl⟩
theorem act13_cells {H : Type} {enc : TypeId × Value → H} {W : World} {fuel : Nat} {cs : List Value} {y : DataW H × List MemPlace}
    (hf : DataW.trod enc Try.prog W 0 (fun _ => true) true fuel 46 cs = some y) (hl : cs.length = 6) : ∃ x : Act13, cs = encA13 x ∧ x.ok := by
  match cs, hl with
  | [c0, c1, c2, c3, c4, c5], _ =>
  obtain ⟨y0, y1, m, _, _, h0, h1⟩ := trod_struct2 Try.underlying46 hf
  have k1 : Try.prog.cellsOf 3 = 1 := by kernel_rfl
  have k5 : Try.prog.cellsOf 29 = 5 := by kernel_rfl
  have h0' : DataW.trod enc Try.prog W 0 (fun _ => true) true m 3 (([c0, c1, c2, c3, c4, c5].drop 0).take (Try.prog.cellsOf 3)) = some y0 := h0
  have h1' : DataW.trod enc Try.prog W 0 (fun _ => true) true m 29 (([c0, c1, c2, c3, c4, c5].drop 1).take (Try.prog.cellsOf 29)) = some y1 := h1
  rw [k1] at h0'
  rw [k5] at h1'
  have g0 : DataW.trod enc Try.prog W 0 (fun _ => true) true m 3 [c0] = some y0 := h0'
  have g1 : DataW.trod enc Try.prog W 0 (fun _ => true) true m 29 [c1, c2, c3, c4, c5] = some y1 := h1'
  obtain ⟨x0, j0, _, w0⟩ := DataW.trod_int Try.underlying3 g0
  obtain ⟨b, hb, hk⟩ := ban_cells g1 rfl
  simp only [List.cons.injEq, and_true] at j0
  subst j0
  exact ⟨⟨x0, b⟩, by rw [hb]; rfl, hk⟩
theorem open_acts13 {H : Type} {enc : TypeId × Value → H} {W : World} {v : Value} {d : DataW H} {ps : List MemPlace} {r : Reach} {b0 : Nat}
    (hval : Value.okWide Try.prog W r b0 44 v) (h : DataW.Trod enc Try.prog W 0 (fun _ => true) true 44 v d ps) : ∃ xs : List Act13, Acts13 W v xs ∧ xs.length ≤ 9223372036854775807 ∧ ∀ x ∈ xs, x.ok :=
  open_recs (encR := encA13) (good := Act13.ok) Try.underlying44 (by kernel_rfl) (by decide) (fun _ _ _ hf hl => act13_cells hf hl) hval h
end Go.Proofs.Ytcjdfgpkcafpdaa
