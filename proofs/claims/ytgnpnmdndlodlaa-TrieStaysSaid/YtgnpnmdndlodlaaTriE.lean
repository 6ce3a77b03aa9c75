/- Contracts of package trie, fifth part: closures that tell what a node holds; each; follow. -/
import Derived.Test.YtgnpnmdndlodlaaTriD
import Derived.Test.YtgnpnmdndlodlaaCls
import Derived.Deep.LoopGhost
import Derived.StillTailTactics
import Derived.LoopN
import Derived.Deep.RegionLaw
namespace Go.Proofs.Ytgnpnmdndlodlaa.Tr
set_option maxRecDepth 100000
open Go.ChangeShapes Go.WideShapes Go.ChangeAt Go.RowKit
open Dec Words V4 V6 Ad Ci
set_option linter.unusedVariables false
/-- The world is as it was, but for the blocks of D and new ones. -/
structure But (D : Nat → Prop) (w w' : World) : Prop where
  os : w'.os = w.os
  tape : w'.tape = w.tape
  output : w'.output = w.output
  size : w.heap.size ≤ w'.heap.size
  block : ∀ k, k < w.heap.size → ¬ D k → w'.heap[k]? = w.heap[k]?
theorem But.refl (D : Nat → Prop) (w : World) : But D w w := ⟨rfl, rfl, rfl, Nat.le_refl _, fun _ _ _ => rfl⟩
theorem But.trans {D : Nat → Prop} {a b c : World} (h : But D a b) (k : But D b c) : But D a c :=
  ⟨k.os.trans h.os, k.tape.trans h.tape, k.output.trans h.output, Nat.le_trans h.size k.size, fun i hi hd => (k.block i (Nat.lt_of_lt_of_le hi h.size) hd).trans (h.block i hi hd)⟩
theorem But.of {D : Nat → Prop} {B : Nat} {a b : World} (h : Below B a b) (hD : ∀ k, ¬ D k → k < a.heap.size → k < B) : But D a b := ⟨h.os, h.tape, h.output, h.size, fun k hk hd => h.block k (hD k hd hk)⟩
theorem But.stays {D : Nat → Prop} {a b : World} (h : Stays a b) : But D a b := But.of h fun _ _ h => h
theorem But.set {D : Nat → Prop} {a w : World} (h : But D a w) {p : Addr} (hp : D p.block) (u : Value) : But D a (w.setCell p u) :=
  h.trans ⟨rfl, rfl, rfl, by simp [World.setCell], fun k _ hd => Below.heap_setCell _ _ _ _ (fun e => hd (e ▸ hp))⟩
theorem But.below {D : Nat → Prop} {a b : World} (h : But D a b) {B : Nat} (hB : ∀ k, k < B → k < a.heap.size ∧ ¬ D k) : Below B a b := ⟨h.os, h.tape, h.output, h.size, fun k hk => h.block k (hB k hk).1 (hB k hk).2⟩
theorem Node.but {D : Nat → Prop} {w w' : World} {b : Nat} {n : Net} {i : Bool} {x : Int} {pz po : Option Addr} (h : Node w b n i x pz po) (k : But D w w') (hd : ¬ D b) : Node w' b n i x pz po := h.same (k.block b h.lt hd)
theorem At.but {S D : Nat → Prop} {w w' : World} {t : Tri} {p : Option Addr} (h : At S w t p) (k : But D w w') (hd : ∀ b, S b → ¬ D b) : At S w' t p := h.same fun b hs hb => k.block b hb (hd b hs)
abbrev OwnT (B : Nat) (w : World) (v : Value) (l : List Hit) : Prop := w.ownsRow B 48 5 v l.length (flat encH l)
theorem own_slice {B : Nat} {w : World} {v : Value} {l : List Hit} (h : OwnT B w v l) : ∃ A n c, v = .slice A n c := by
  rcases h.2 with ⟨h, _⟩ | ⟨g, cap, _, h, _⟩
  · exact ⟨_, _, _, h⟩
  · exact ⟨_, _, _, h⟩
theorem append_told {B : Nat} {W : World} {v : Value} {xs : List Hit} (hown : OwnT B W v xs) (y : Hit) (hlen : xs.length ≤ 1000000) (hB : B ≤ W.heap.size) :
    ∃ v' w', (Builtin.append_ #[42, 42] 42 #[v, .slice (some ⟨W.heap.size, 0, none⟩) 1 1]).run Try.prog (W.alloc (.cells #[.bool y.n.a.v6, .int .u64 y.n.a.hi, .int .u64 y.n.a.lo, .int .i64 y.n.n, .int .i64 y.v] 48)) = .ok v' w' ∧
      OwnT B w' v' (xs ++ [y]) ∧ Below B W w' := by
  obtain ⟨v', w', h1, h2, h3⟩ := append_recs (P := Try.prog) (z := .agg #[.bool false, .int .u64 0, .int .u64 0, .int .i64 0, .int .i64 0]) (bytes := 40) Try.underlying42 (by kernel_rfl) rfl (by decide) encH_len encH_one (hown.alloc (.cells #[.bool y.n.a.v6, .int .u64 y.n.a.hi, .int .u64 y.n.a.lo, .int .i64 y.n.n, .int .i64 y.v] 48))
    (Recs.lit encH_len W [y] #[.bool y.n.a.v6, .int .u64 y.n.a.hi, .int .u64 y.n.a.lo, .int .i64 y.n.n, .int .i64 y.v] 48 (by rw [flat_one]; rfl)) (by simp; omega) (by simp; omega) (Nat.le_trans hB (by simp))
  exact ⟨v', w', h1, h2, ((Below.refl B W).alloc hB _).trans h3⟩
/-- An append whose run is known, as one step of a region that draws. -/
theorem step_append_run {P : Program} {ops : Array Oper} {o : Oper} {a : Go.Act} {w : World} {K : Go.Act → World → Prop} {Q : Exit → Go.Act → World → Prop} {E : Prop} (hg : o.guard = none) (s x : Operand) (t ty : TypeId)
    (ho : o.op = .call { callee := .builtin .append, args := #[s, x], argTypes := #[t, t] }) (hty : o.type = ty) (vs vx v : Value) (w' : World) (hs : a.eval s = vs) (hx : a.eval x = vx)
    (hrun : (Builtin.append_ #[t, t] ty #[vs, vx]).run P w = .ok v w') (hK : K (a.put o.dst v) w') : if Region.wanted o (yielded ops a.tmps) = true then Oper.wp P o a w K Q else E := by
  have hw : Region.wanted o (yielded ops a.tmps) = true := by simp [Region.wanted, hg]
  rw [if_pos hw]
  subst hty
  unfold Oper.wp
  simp [execOp, ho, resolve, invoke, builtin, hs, hx, hrun, Result.andThen]
  exact hK
def tell (n : Net) (i : Bool) (x : Int) : List Hit := if i then [⟨n, x⟩] else []
def ToldR (B : Nat) (w : World) (l : List Hit) (e : Ending) (w' : World) : Prop := ∃ v', e = .returned v' ∧ OwnT B w' v' l ∧ Below B w w'
set_option maxHeartbeats 2000000 in
theorem told_any (b B : Nat) (n : Net) (i : Bool) (x : Int) (pz po : Option Addr) (v : Value) (l : List Hit) (w : World) (hN : Node w b n i x pz po) (hl : OwnT B w v l) (hlen : l.length ≤ 1000000) (hB : B ≤ w.heap.size) :
    Calls Try.prog 28 #[.pointer (some ⟨b, 0, none⟩), v] w (ToldR B w (l ++ tell n i x)) := by
  cases i
  · have m0 : w.cell? ⟨b, 0, none⟩ = some (.bool n.a.v6) := hN.c0
    have m1 : w.cell? ⟨b, 1, none⟩ = some (.int .u64 n.a.hi) := hN.c1
    have m2 : w.cell? ⟨b, 2, none⟩ = some (.int .u64 n.a.lo) := hN.c2
    have m3 : w.cell? ⟨b, 3, none⟩ = some (.int .i64 n.n) := hN.c3
    have m4 : w.cell? ⟨b, 4, none⟩ = some (.bool false) := hN.c4
    have m5 : w.cell? ⟨b, 5, none⟩ = some (.int .i64 x) := hN.c5
    have HL : Hid (OwnT B w v (l ++ tell n false x)) := by rw [show tell n false x = [] from rfl, List.append_nil]; exact Lib.hid hl
    clear hl
    go_enter Try.func28, Try.ntmps28
    go_wp2_with fail
    go_ret
    exact ⟨v, rfl, HL.out, Below.refl _ _⟩
  · have m0 : w.cell? ⟨b, 0, none⟩ = some (.bool n.a.v6) := hN.c0
    have m1 : w.cell? ⟨b, 1, none⟩ = some (.int .u64 n.a.hi) := hN.c1
    have m2 : w.cell? ⟨b, 2, none⟩ = some (.int .u64 n.a.lo) := hN.c2
    have m3 : w.cell? ⟨b, 3, none⟩ = some (.int .i64 n.n) := hN.c3
    have m4 : w.cell? ⟨b, 4, none⟩ = some (.bool true) := hN.c4
    have m5 : w.cell? ⟨b, 5, none⟩ = some (.int .i64 x) := hN.c5
    obtain ⟨v', w', R, HO2, hb2⟩ := append_told (World.ownsRow.drew hl) ⟨n, x⟩ hlen hB
    have R1 := Lib.hid R
    have HO := Lib.hid HO2
    have HB := Lib.hid (show Below B w w' from (Below.drew (Below.refl B w)).trans hb2)
    clear R HO2 hb2 hl
    go_enter Try.func28, Try.ntmps28
    go_wp2_with fail
    go_region_law (refine step_append_run rfl (.tmp 11) (.tmp 21) _ _ rfl rfl _ _ _ _ (by simp [Act.eval]) (by simp [Act.eval]) R1.out ?_)
    all_goals
      go_wp2_with fail
      go_ret
      exact ⟨v', rfl, HO.out, HB.out⟩
def Dc (C B : Nat) (k : Nat) : Prop := k = C ∨ B ≤ k
/-- What stands behind a call that put records behind those that a captured variable holds. -/
def Saw (C B : Nat) (w : World) (l : List Hit) (e : Ending) (w' : World) : Prop := e = .returned (.tuple #[]) ∧ ∃ v', Own w' C 42 [v'] ∧ OwnT B w' v' l ∧ But (Dc C B) w w'
set_option maxHeartbeats 2000000 in
theorem all1_any (b C B : Nat) (n : Net) (i : Bool) (x : Int) (pz po : Option Addr) (v : Value) (l : List Hit) (w : World) (hN : Node w b n i x pz po) (hC : Own w C 42 [v]) (hl : OwnT B w v l) (hlen : l.length ≤ 1000000) (hB : B ≤ w.heap.size) (hCB : C < B) :
    Calls Try.prog 27 #[.pointer (some ⟨b, 0, none⟩), .pointer (some ⟨C, 0, none⟩)] w (Saw C B w (l ++ tell n i x)) := by
  have T1 := Lib.hid (told_any b B n i x pz po v l w hN hl hlen hB)
  have c0 : w.cell? ⟨C, 0, none⟩ = some v := hC.cell rfl
  have HC := Lib.hid hC
  clear hl hC
  go_enter Try.func27, Try.ntmps27
  go_wp2_with fail
  ((with_reducible refine (T1.out).mono ?_); rintro e w1 ⟨v', rfl, hl', hb⟩)
  obtain ⟨A1, n1, c1', rfl⟩ := own_slice hl'
  have HC1 : Hid (Own w1 C 42 [v]) := Lib.hid ((hb.block C hCB).trans HC.out)
  have c1 : w1.cell? ⟨C, 0, none⟩ = some v := HC1.out.cell rfl
  have f1 : w1.frozen? ⟨C, 0, none⟩ = false := HC1.out.free _
  have HL := Lib.hid hl'
  have HB := Lib.hid hb
  clear hl' hb
  go_wp2_with fail
  go_end0
  exact ⟨rfl, _, HC1.out.set 0 _, ownsRow_setCell_below HL.out hCB _, But.set (D := Dc C B) (p := ⟨C, 0, none⟩) (But.of HB.out (fun k hd _ => Nat.lt_of_not_le fun h => hd (Or.inr h))) (Or.inl rfl) _⟩
set_option maxHeartbeats 2000000 in
theorem cover1_any (b C B : Nat) (n : Net) (i : Bool) (x : Int) (pz po : Option Addr) (v : Value) (l : List Hit) (w : World) (hN : Node w b n i x pz po) (hC : Own w C 42 [v]) (hl : OwnT B w v l) (hlen : l.length ≤ 1000000) (hB : B ≤ w.heap.size) (hCB : C < B) :
    Calls Try.prog 29 #[.pointer (some ⟨b, 0, none⟩), .pointer (some ⟨C, 0, none⟩)] w (Saw C B w (l ++ tell n i x)) := by
  have T1 := Lib.hid (told_any b B n i x pz po v l w hN hl hlen hB)
  have c0 : w.cell? ⟨C, 0, none⟩ = some v := hC.cell rfl
  have HC := Lib.hid hC
  clear hl hC
  go_enter Try.func29, Try.ntmps29
  go_wp2_with fail
  ((with_reducible refine (T1.out).mono ?_); rintro e w1 ⟨v', rfl, hl', hb⟩)
  obtain ⟨A1, n1, c1', rfl⟩ := own_slice hl'
  have HC1 : Hid (Own w1 C 42 [v]) := Lib.hid ((hb.block C hCB).trans HC.out)
  have c1 : w1.cell? ⟨C, 0, none⟩ = some v := HC1.out.cell rfl
  have f1 : w1.frozen? ⟨C, 0, none⟩ = false := HC1.out.free _
  have HL := Lib.hid hl'
  have HB := Lib.hid hb
  clear hl' hb
  go_wp2_with fail
  go_end0
  exact ⟨rfl, _, HC1.out.set 0 _, ownsRow_setCell_below HL.out hCB _, But.set (D := Dc C B) (p := ⟨C, 0, none⟩) (But.of HB.out (fun k hd _ => Nat.lt_of_not_le fun h => hd (Or.inr h))) (Or.inl rfl) _⟩
theorem pair_0 (p q : Option Addr) (W : World) : (Instr.index 55 (.agg #[.pointer p, .pointer q]) (.int .i64 0)).run Try.prog W = .ok (.pointer p) W := by
  simp [Instr.index, run_underlying Try.underlying55, asIntOf, go_sem]
theorem pair_1 (p q : Option Addr) (W : World) : (Instr.index 55 (.agg #[.pointer p, .pointer q]) (.int .i64 1)).run Try.prog W = .ok (.pointer q) W := by
  simp [Instr.index, run_underlying Try.underlying55, asIntOf, go_sem]
set_option maxHeartbeats 4000000 in
theorem each_any (C B : Nat) : ∀ (t : Tri) (S : Nat → Prop) (p : Option Addr) (v : Value) (l : List Hit) (w : World), At S w t p → (∀ b, S b → ¬ Dc C B b) → Own w C 42 [v] → OwnT B w v l → l.length + t.list.length ≤ 1000000 → B ≤ w.heap.size → C < B →
    Calls Try.prog 26 #[.pointer p, .func (.func 27) #[] #[.pointer (some ⟨C, 0, none⟩)]] w (Saw C B w (l ++ t.list))
  | .leaf, S, p, v, l, w, hp, _, hC, hl, _, _, _ => by
    have e : p = none := hp
    subst e
    have HC := Lib.hid hC
    have HL := Lib.hid hl
    clear hC hl hp
    go_enter Try.func26, Try.ntmps26
    go_wp2_with fail
    refine bodyPost_ret (results_none rfl _ _ _) rfl ?_
    exact ⟨rfl, v, HC.out, by rw [show Tri.leaf.list = [] from rfl, List.append_nil]; exact HL.out, But.refl _ _⟩
  | .node n i x z o, S, p, v, l, w, ⟨b, pz, po, e, hsb, hN, hz, ho⟩, hS, hC, hl, hlen, hB, hCB => by
    subst e
    have hll : (Tri.node n i x z o).list = tell n i x ++ (z.list ++ o.list) := rfl
    rw [hll] at hlen ⊢
    simp only [List.length_append] at hlen
    rw [← List.append_assoc, ← List.append_assoc]
    have HS := Lib.hid hS
    have HLEN := Lib.hid hlen
    have T1 := Lib.hid (all1_any b C B n i x pz po v l w hN hC hl (by omega) hB hCB)
    have EZ := Lib.hid (fun w1 (k : But (Dc C B) w w1) v1 hC1 hl1 => each_any C B z S pz v1 (l ++ tell n i x) w1 (hz.but k hS) hS hC1 hl1 (by simp only [List.length_append]; omega) (Nat.le_trans hB k.size) hCB)
    have EO := Lib.hid (fun w1 (k : But (Dc C B) w w1) v1 hC1 hl1 => each_any C B o S po v1 (l ++ tell n i x ++ z.list) w1 (ho.but k hS) hS hC1 hl1 (by simp only [List.length_append]; omega) (Nat.le_trans hB k.size) hCB)
    have HN := Lib.hid (fun w1 (k : But (Dc C B) w w1) => hN.but k (hS b hsb))
    clear hz ho hN hC hl hlen hS hll
    go_enter Try.func26, Try.ntmps26
    go_wp2_with fail
    ((with_reducible refine (T1.out).mono ?_); rintro e w1 ⟨rfl, v1, hC1, hl1, hb1⟩)
    have IX0 := pair_0 pz po
    have IX1 := pair_1 pz po
    have m6 : w1.cell? ⟨b, 6, none⟩ = some (.pointer pz) := (HN.out w1 hb1).c6
    have m7 : w1.cell? ⟨b, 7, none⟩ = some (.pointer po) := (HN.out w1 hb1).c7
    have EZ1 := Lib.hid (EZ.out w1 hb1 v1 hC1 hl1)
    have HB1 := Lib.hid hb1
    clear hC1 hl1 hb1
    go_wp2_with fail
    refine wp_loop_rounds 3 ?_
    rw [rounds_succ]
    go_wp2_with fail
    ((with_reducible refine (EZ1.out).mono ?_); rintro e w2 ⟨rfl, v2, hC2, hl2, hb2⟩)
    have HB2 := Lib.hid (HB1.out.trans hb2)
    have EO1 := Lib.hid (EO.out w2 HB2.out v2 hC2 hl2)
    clear hC2 hl2 hb2
    go_wp2_with fail
    rw [rounds_succ]
    go_wp2_with fail
    ((with_reducible refine (EO1.out).mono ?_); rintro e w3 ⟨rfl, v3, hC3, hl3, hb3⟩)
    have HC3 := Lib.hid hC3
    have HL3 := Lib.hid hl3
    have HB3 := Lib.hid (HB2.out.trans hb3)
    clear hC3 hl3 hb3
    go_wp2_with fail
    rw [rounds_succ]
    go_wp2_with fail
    go_end0
    exact ⟨rfl, v3, HC3.out, HL3.out, HB3.out⟩
end Go.Proofs.Ytgnpnmdndlodlaa.Tr
