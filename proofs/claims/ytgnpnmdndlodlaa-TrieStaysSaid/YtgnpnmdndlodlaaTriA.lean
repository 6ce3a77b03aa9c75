/- Contracts of package trie, first part: what a tree is in memory; kinds, halves, whether a subnet lies in another one, what two share. -/
import Derived.Test.YtgnpnmdndlodlaaTriMath
import Derived.Test.YtgnpnmdndlodlaaCidrAll
import Derived.Test.YtgnpnmdndlodlaaAddrAll
import Derived.Test.YtgnpnmdndlodlaaCls
import Derived.Deep.RegionHeld3
import Derived.Deep.RegionWith
import Derived.Deep.LoopGhost
import Derived.OneCell
import Derived.Lib.MinMax
namespace Go.Proofs.Ytgnpnmdndlodlaa.Tr
set_option maxRecDepth 100000
open Go.ChangeShapes Go.WideShapes Go.ChangeAt Go.RowKit
open Dec Words V4 V6 Ad Ci
set_option linter.unusedVariables false
theorem cells_left {W w' : World} (h : Stays W w') {b o : Nat} {v : Value} (hc : W.cell? ⟨b, o, none⟩ = some v) : w'.cell? ⟨b, o, none⟩ = some v := Ci.cells_left h hc
/-- A node's cells. -/
structure Node (w : World) (b : Nat) (n : Net) (i : Bool) (x : Int) (pz po : Option Addr) : Prop where
  c0 : w.cell? ⟨b, 0, none⟩ = some (.bool n.a.v6)
  c1 : w.cell? ⟨b, 1, none⟩ = some (.int .u64 n.a.hi)
  c2 : w.cell? ⟨b, 2, none⟩ = some (.int .u64 n.a.lo)
  c3 : w.cell? ⟨b, 3, none⟩ = some (.int .i64 n.n)
  c4 : w.cell? ⟨b, 4, none⟩ = some (.bool i)
  c5 : w.cell? ⟨b, 5, none⟩ = some (.int .i64 x)
  c6 : w.cell? ⟨b, 6, none⟩ = some (.pointer pz)
  c7 : w.cell? ⟨b, 7, none⟩ = some (.pointer po)
theorem Node.same {w w' : World} {b : Nat} {n : Net} {i : Bool} {x : Int} {pz po : Option Addr} (h : Node w b n i x pz po) (k : w'.heap[b]? = w.heap[b]?) : Node w' b n i x pz po := by
  have e : ∀ o, w'.cell? ⟨b, o, none⟩ = w.cell? ⟨b, o, none⟩ := fun o => World.cell?_of_block (w := w) (a := ⟨b, o, none⟩) k
  exact ⟨(e 0).trans h.c0, (e 1).trans h.c1, (e 2).trans h.c2, (e 3).trans h.c3, (e 4).trans h.c4, (e 5).trans h.c5, (e 6).trans h.c6, (e 7).trans h.c7⟩
theorem Node.lt {w : World} {b : Nat} {n : Net} {i : Bool} {x : Int} {pz po : Option Addr} (h : Node w b n i x pz po) : b < w.heap.size := World.block_lt_of_cell? _ _ h.c0
theorem Node.on {w w' : World} {b : Nat} {n : Net} {i : Bool} {x : Int} {pz po : Option Addr} (h : Node w b n i x pz po) (k : Below w.heap.size w w') : Node w' b n i x pz po := h.same (k.block b h.lt)
/-- A tree in memory, its nodes in blocks of S. -/
def At (S : Nat → Prop) (w : World) : Tri → Option Addr → Prop
  | .leaf, p => p = none
  | .node n i x z o, p => ∃ b pz po, p = some ⟨b, 0, none⟩ ∧ S b ∧ Node w b n i x pz po ∧ At S w z pz ∧ At S w o po
theorem At.same {S : Nat → Prop} {w w' : World} (k : ∀ b, S b → b < w.heap.size → w'.heap[b]? = w.heap[b]?) : ∀ {t : Tri} {p : Option Addr}, At S w t p → At S w' t p
  | .leaf, _, h => h
  | .node n i x z o, _, ⟨b, pz, po, e, hs, hn, hz, ho⟩ => ⟨b, pz, po, e, hs, hn.same (k b hs hn.lt), At.same k hz, At.same k ho⟩
theorem At.on {S : Nat → Prop} {w w' : World} {t : Tri} {p : Option Addr} (h : At S w t p) (k : Below w.heap.size w w') : At S w' t p := h.same fun b _ hb => k.block b hb
theorem At.mono {S S' : Nat → Prop} (k : ∀ b, S b → S' b) {w : World} : ∀ {t : Tri} {p : Option Addr}, At S w t p → At S' w t p
  | .leaf, _, h => h
  | .node n i x z o, _, ⟨b, pz, po, e, hs, hn, hz, ho⟩ => ⟨b, pz, po, e, k b hs, hn, At.mono k hz, At.mono k ho⟩
/-- All blocks of a tree are there. -/
theorem At.old {S : Nat → Prop} {w : World} : ∀ {t : Tri} {p : Option Addr}, At S w t p → At (fun b => S b ∧ b < w.heap.size) w t p
  | .leaf, _, h => h
  | .node n i x z o, _, ⟨b, pz, po, e, hs, hn, hz, ho⟩ => ⟨b, pz, po, e, ⟨hs, hn.lt⟩, hn, At.old hz, At.old ho⟩
theorem At.set {S : Nat → Prop} {w : World} {t : Tri} {p : Option Addr} (h : At S w t p) {a : Addr} (ha : ¬ S a.block) (u : Value) : At S (w.setCell a u) t p :=
  h.same fun b hb _ => Below.heap_setCell _ _ _ _ (fun e => ha (e ▸ hb))
/-- A block whose cells are known and may be written. -/
def Own (w : World) (b : Nat) (t : TypeId) (vs : List Value) : Prop := w.heap[b]? = some (.cells vs.toArray t (0, 0))
theorem Own.lt {w : World} {b : Nat} {t : TypeId} {vs : List Value} (h : Own w b t vs) : b < w.heap.size := lt_of_block h
theorem Own.cell {w : World} {b : Nat} {t : TypeId} {vs : List Value} (h : Own w b t vs) {j : Nat} {v : Value} (hj : vs[j]? = some v) : w.cell? ⟨b, j, none⟩ = some v := by
  rw [cell_of_row _ _ _ _ _ _ h]; simpa using hj
theorem Own.free {w : World} {b : Nat} {t : TypeId} {vs : List Value} (h : Own w b t vs) (j : Nat) : w.frozen? ⟨b, j, none⟩ = false := by
  unfold Own at h
  simp [World.frozen?, h]
theorem Own.set {w : World} {b : Nat} {t : TypeId} {vs : List Value} (h : Own w b t vs) (j : Nat) (u : Value) : Own (w.setCell ⟨b, j, none⟩ u) b t (vs.set j u) := by
  have := heap_setCell_same w b j vs.toArray t u h
  unfold Own
  rw [this]; simp
theorem Own.new (w : World) (cs : Array Value) (t : TypeId) : Own (w.alloc (.cells cs t)) w.heap.size t cs.toList := by
  unfold Own
  rw [heap_alloc_new]
theorem Own.on {w w' : World} {b : Nat} {t : TypeId} {vs : List Value} (h : Own w b t vs) (k : Below w.heap.size w w') : Own w' b t vs := (k.block b h.lt).trans h
theorem Own.other {w : World} {b : Nat} {t : TypeId} {vs : List Value} (h : Own w b t vs) {a : Addr} (ha : b ≠ a.block) (u : Value) : Own (w.setCell a u) b t vs := (Below.heap_setCell _ _ _ _ ha).trans h
theorem Own.node {w : World} {b : Nat} {t : TypeId} {n : Net} {i : Bool} {x : Int} {pz po : Option Addr} (h : Own w b t [.bool n.a.v6, .int .u64 n.a.hi, .int .u64 n.a.lo, .int .i64 n.n, .bool i, .int .i64 x, .pointer pz, .pointer po]) : Node w b n i x pz po :=
  ⟨h.cell rfl, h.cell rfl, h.cell rfl, h.cell rfl, h.cell rfl, h.cell rfl, h.cell rfl, h.cell rfl⟩
def kindI (b : Bool) : Int := if b then 1 else 0
set_option maxHeartbeats 1000000 in
theorem kind_any (a : Adr) (w : World) :
    Calls Try.prog 33 #[.agg #[.bool a.v6, .int .u64 a.hi, .int .u64 a.lo]] w fun e w' => e = .returned (.int .i64 (kindI a.v6)) ∧ Below w.heap.size w w' := by
  obtain ⟨v, hi, lo⟩ := a
  cases v
  all_goals
    go_enter Try.func33, Try.ntmps33
    go_wp2_with fail
    go_ret
    exact ⟨rfl, (Below.refl _ _).alloc (Nat.le_refl _) _⟩
set_option maxHeartbeats 1000000 in
theorem half_any (b : Nat) (n : Net) (a : Adr) (w : World) (hc : w.cell? ⟨b, 3, none⟩ = some (.int .i64 n.n)) (hn : n.ok) (ha : a.ok) :
    Calls Try.prog 40 #[.pointer (some ⟨b, 0, none⟩), .agg #[.bool a.v6, .int .u64 a.hi, .int .u64 a.lo]] w fun e w' => e = .returned (.int .i64 (bitA a n.n)) ∧ Below w.heap.size w w' := by
  have hb := World.block_lt_of_cell? _ _ hc
  have LOW : Below w.heap.size w (w.alloc (.cells #[.bool a.v6, .int .u64 a.hi, .int .u64 a.lo] 25)) := (Below.refl _ _).alloc (Nat.le_refl _) _
  obtain ⟨_, h1, h2⟩ := hn
  have K1 : Hid (∀ W0, Stays (w.alloc (.cells #[.bool a.v6, .int .u64 a.hi, .int .u64 a.lo] 25)) W0 → Calls Try.prog 44 #[.agg #[.bool a.v6, .int .u64 a.hi, .int .u64 a.lo], .int .i64 n.n] W0 fun e w' => e = .returned (.int .i64 (bitA a n.n)) ∧ Stays (w.alloc (.cells #[.bool a.v6, .int .u64 a.hi, .int .u64 a.lo] 25)) w') := Lib.hid (keep_call fun W0 => bit_any a n.n W0 ha h1 h2)
  have k0 : (w.alloc (.cells #[.bool a.v6, .int .u64 a.hi, .int .u64 a.lo] 25)).cell? ⟨w.heap.size, 0, none⟩ = some (.bool a.v6) := by simp [go_sem]
  have k1 : (w.alloc (.cells #[.bool a.v6, .int .u64 a.hi, .int .u64 a.lo] 25)).cell? ⟨w.heap.size, 1, none⟩ = some (.int .u64 a.hi) := by simp [go_sem]
  have k2 : (w.alloc (.cells #[.bool a.v6, .int .u64 a.hi, .int .u64 a.lo] 25)).cell? ⟨w.heap.size, 2, none⟩ = some (.int .u64 a.lo) := by simp [go_sem]
  have k3 : (w.alloc (.cells #[.bool a.v6, .int .u64 a.hi, .int .u64 a.lo] 25)).cell? ⟨b, 3, none⟩ = some (.int .i64 n.n) := cells_left LOW hc
  clear h1 h2
  go_enter Try.func40, Try.ntmps40
  go_wp2_with fail
  have hne : Nonempty (Cls (Stays (w.alloc (.cells #[.bool a.v6, .int .u64 a.hi, .int .u64 a.lo] 25)))) := ⟨⟨_, Below.refl _ _⟩⟩
  have f0 : ∀ q : Cls (Stays (w.alloc (.cells #[.bool a.v6, .int .u64 a.hi, .int .u64 a.lo] 25))), q.w.cell? ⟨w.heap.size, 0, none⟩ = some (.bool a.v6) := fun q => cells_left q.h (k0)
  have f1 : ∀ q : Cls (Stays (w.alloc (.cells #[.bool a.v6, .int .u64 a.hi, .int .u64 a.lo] 25))), q.w.cell? ⟨w.heap.size, 1, none⟩ = some (.int .u64 a.hi) := fun q => cells_left q.h (k1)
  have f2 : ∀ q : Cls (Stays (w.alloc (.cells #[.bool a.v6, .int .u64 a.hi, .int .u64 a.lo] 25))), q.w.cell? ⟨w.heap.size, 2, none⟩ = some (.int .u64 a.lo) := fun q => cells_left q.h (k2)
  have f3 : ∀ q : Cls (Stays (w.alloc (.cells #[.bool a.v6, .int .u64 a.hi, .int .u64 a.lo] 25))), q.w.cell? ⟨b, 3, none⟩ = some (.int .i64 n.n) := fun q => cells_left q.h (k3)
  refine Cls.region (Stays (w.alloc (.cells #[.bool a.v6, .int .u64 a.hi, .int .u64 a.lo] 25))) (by kernel_rfl) (by kernel_rfl) (low_drewN (Below.refl _ _) 1) ?_
  repeat (go_big_quiet_step (first | fail | (with_reducible exact Cls.call (K1.out _ (Cls.h _)))))
  refine wpQuiet_nil ?_
  intro n9
  have hs9 := n9.h
  generalize n9.w = w9 at hs9 ⊢
  clear hne n9 f0 f1 f2 f3
  go_wp2
  go_ret
  exact ⟨rfl, low_trans LOW hs9⟩
set_option maxHeartbeats 1000000 in
theorem within_any (m n : Net) (w : World) (hm : m.ok) (hn : n.ok) :
    Calls Try.prog 45 #[.agg #[.bool m.a.v6, .int .u64 m.a.hi, .int .u64 m.a.lo, .int .i64 m.n], .agg #[.bool n.a.v6, .int .u64 n.a.hi, .int .u64 n.a.lo, .int .i64 n.n]] w fun e w' => e = .returned (.bool (withinN m n)) ∧ Below w.heap.size w w' := by
  have RN := Lib.hid (fun W => rightN_any m W hm)
  have HN := Lib.hid (fun W => has_any n m.a W hn hm.1)
  cases hr : rightN m
  · have E : Hid (withinN m n = false) := Lib.hid (by unfold withinN; rw [hr]; rfl)
    rw [hr] at RN
    clear hr
    go_enter Try.func45, Try.ntmps45
    go_wp2_with fail
    refine (RN.out _).mono ?_
    rintro e w1 ⟨rfl, hb1⟩
    obtain ⟨hc, hf⟩ := old hb1
    go_wp2_with fail
    go_ret
    exact ⟨ret_b E.out.symm, (two_low _ _ _).trans (hb1.mono (by simp; omega))⟩
  · by_cases hl : n.n ≤ m.n
    · have E : Hid (withinN m n = hasN n m.a) := Lib.hid (by unfold withinN; rw [hr, decide_eq_true hl]; rfl)
      rw [hr] at RN
      clear hr
      go_enter Try.func45, Try.ntmps45
      go_wp2_with fail
      refine (RN.out _).mono ?_
      rintro e w1 ⟨rfl, hb1⟩
      obtain ⟨hc, hf⟩ := old hb1
      go_wp2_with fail
      refine (HN.out _).mono ?_
      rintro e w2 ⟨rfl, hb2⟩
      have hb12 := low_trans hb1 hb2
      clear hc hf
      go_wp2_with fail
      go_ret
      exact ⟨ret_b E.out.symm, (two_low _ _ _).trans (hb12.mono (by simp; omega))⟩
    · have E : Hid (withinN m n = false) := Lib.hid (by unfold withinN; rw [decide_eq_false hl]; simp)
      rw [hr] at RN
      clear hr
      go_enter Try.func45, Try.ntmps45
      go_wp2_with fail
      refine (RN.out _).mono ?_
      rintro e w1 ⟨rfl, hb1⟩
      obtain ⟨hc, hf⟩ := old hb1
      go_wp2_with fail
      go_ret
      exact ⟨ret_b E.out.symm, (two_low _ _ _).trans (hb1.mono (by simp; omega))⟩
set_option maxHeartbeats 4000000 in
theorem shared_any (m n : Net) (w : World) (hm : Ok m) (hn : Ok n) (hv : m.a.v6 = n.a.v6) :
    Calls Try.prog 46 #[.agg #[.bool m.a.v6, .int .u64 m.a.hi, .int .u64 m.a.lo, .int .i64 m.n], .agg #[.bool n.a.v6, .int .u64 n.a.hi, .int .u64 n.a.lo, .int .i64 n.n]] w fun e w' => e = .returned (.agg #[.bool (sharedN m n).a.v6, .int .u64 (sharedN m n).a.hi, .int .u64 (sharedN m n).a.lo, .int .i64 (sharedN m n).n]) ∧ Below w.heap.size w w' := by
  obtain ⟨M, hM⟩ : ∃ M : Nat, M = min m.n.toNat n.n.toNat := ⟨_, rfl⟩
  have g1 := hm.made
  have g2 := hn.made
  have hbb := bitsA_v6 hv
  have MM : min m.n n.n = (M : Int) := by omega
  have hMb : M ≤ 128 := by have := bitsA_two m.a; omega
  have hMm : (M : Int) ≤ (bitsA m.a : Int) := by omega
  have LOW : Below w.heap.size w (((w.alloc (.cells #[.bool m.a.v6, .int .u64 m.a.hi, .int .u64 m.a.lo, .int .i64 m.n] 27)).alloc (.cells #[.bool n.a.v6, .int .u64 n.a.hi, .int .u64 n.a.lo, .int .i64 n.n] 27)).alloc (.cells #[.bool false, .int .u64 0, .int .u64 0, .int .i64 0] 27)) := ((two_low _ _ _).alloc (by simp; omega) _)
  have MK := Lib.hid (fun W (k : Nat) (hk : k ≤ 128) => make_any m.a (k : Int) W hm.ok.1 (by omega) (by omega))
  have B1 := Lib.hid (fun W (k : Nat) (hk : k ≤ 128) => bit_any m.a (k : Int) W hm.ok.1 (by omega) (by omega))
  have B2 := Lib.hid (fun W (k : Nat) (hk : k ≤ 128) => bit_any n.a (k : Int) W hn.ok.1 (by omega) (by omega))
  have HMM := Lib.hid (And.intro hMm hbb)
  have HC := Lib.hid (show commN m n = comm m.a n.a 0 M by rw [hM]; rfl)
  have E : Hid (sharedN m n = makeN m.a (commN m n : Nat)) := Lib.hid rfl
  have EB : Hid (makeB m.a (commN m n : Nat) = true) := Lib.hid ((makeB_iff _ _).2 ⟨g1.1, by omega, by have := commN_le m n; omega⟩)
  clear hM hMm hbb g1 g2 hv
  have k0 : (((w.alloc (.cells #[.bool m.a.v6, .int .u64 m.a.hi, .int .u64 m.a.lo, .int .i64 m.n] 27)).alloc (.cells #[.bool n.a.v6, .int .u64 n.a.hi, .int .u64 n.a.lo, .int .i64 n.n] 27)).alloc (.cells #[.bool false, .int .u64 0, .int .u64 0, .int .i64 0] 27)).cell? ⟨w.heap.size, 0, none⟩ = some (.bool m.a.v6) := by simp [go_sem]
  have k1 : (((w.alloc (.cells #[.bool m.a.v6, .int .u64 m.a.hi, .int .u64 m.a.lo, .int .i64 m.n] 27)).alloc (.cells #[.bool n.a.v6, .int .u64 n.a.hi, .int .u64 n.a.lo, .int .i64 n.n] 27)).alloc (.cells #[.bool false, .int .u64 0, .int .u64 0, .int .i64 0] 27)).cell? ⟨w.heap.size, 1, none⟩ = some (.int .u64 m.a.hi) := by simp [go_sem]
  have k2 : (((w.alloc (.cells #[.bool m.a.v6, .int .u64 m.a.hi, .int .u64 m.a.lo, .int .i64 m.n] 27)).alloc (.cells #[.bool n.a.v6, .int .u64 n.a.hi, .int .u64 n.a.lo, .int .i64 n.n] 27)).alloc (.cells #[.bool false, .int .u64 0, .int .u64 0, .int .i64 0] 27)).cell? ⟨w.heap.size, 2, none⟩ = some (.int .u64 m.a.lo) := by simp [go_sem]
  have k3 : (((w.alloc (.cells #[.bool m.a.v6, .int .u64 m.a.hi, .int .u64 m.a.lo, .int .i64 m.n] 27)).alloc (.cells #[.bool n.a.v6, .int .u64 n.a.hi, .int .u64 n.a.lo, .int .i64 n.n] 27)).alloc (.cells #[.bool false, .int .u64 0, .int .u64 0, .int .i64 0] 27)).cell? ⟨w.heap.size, 3, none⟩ = some (.int .i64 m.n) := by simp [go_sem]
  have l0 : (((w.alloc (.cells #[.bool m.a.v6, .int .u64 m.a.hi, .int .u64 m.a.lo, .int .i64 m.n] 27)).alloc (.cells #[.bool n.a.v6, .int .u64 n.a.hi, .int .u64 n.a.lo, .int .i64 n.n] 27)).alloc (.cells #[.bool false, .int .u64 0, .int .u64 0, .int .i64 0] 27)).cell? ⟨w.heap.size + 1, 0, none⟩ = some (.bool n.a.v6) := by simp [go_sem]
  have l1 : (((w.alloc (.cells #[.bool m.a.v6, .int .u64 m.a.hi, .int .u64 m.a.lo, .int .i64 m.n] 27)).alloc (.cells #[.bool n.a.v6, .int .u64 n.a.hi, .int .u64 n.a.lo, .int .i64 n.n] 27)).alloc (.cells #[.bool false, .int .u64 0, .int .u64 0, .int .i64 0] 27)).cell? ⟨w.heap.size + 1, 1, none⟩ = some (.int .u64 n.a.hi) := by simp [go_sem]
  have l2 : (((w.alloc (.cells #[.bool m.a.v6, .int .u64 m.a.hi, .int .u64 m.a.lo, .int .i64 m.n] 27)).alloc (.cells #[.bool n.a.v6, .int .u64 n.a.hi, .int .u64 n.a.lo, .int .i64 n.n] 27)).alloc (.cells #[.bool false, .int .u64 0, .int .u64 0, .int .i64 0] 27)).cell? ⟨w.heap.size + 1, 2, none⟩ = some (.int .u64 n.a.lo) := by simp [go_sem]
  have l3 : (((w.alloc (.cells #[.bool m.a.v6, .int .u64 m.a.hi, .int .u64 m.a.lo, .int .i64 m.n] 27)).alloc (.cells #[.bool n.a.v6, .int .u64 n.a.hi, .int .u64 n.a.lo, .int .i64 n.n] 27)).alloc (.cells #[.bool false, .int .u64 0, .int .u64 0, .int .i64 0] 27)).cell? ⟨w.heap.size + 1, 3, none⟩ = some (.int .i64 n.n) := by simp [go_sem]
  have j0 : (((w.alloc (.cells #[.bool m.a.v6, .int .u64 m.a.hi, .int .u64 m.a.lo, .int .i64 m.n] 27)).alloc (.cells #[.bool n.a.v6, .int .u64 n.a.hi, .int .u64 n.a.lo, .int .i64 n.n] 27)).alloc (.cells #[.bool false, .int .u64 0, .int .u64 0, .int .i64 0] 27)).cell? ⟨w.heap.size + 2, 0, none⟩ = some (.bool false) := by simp [go_sem]
  have z0 : (((w.alloc (.cells #[.bool m.a.v6, .int .u64 m.a.hi, .int .u64 m.a.lo, .int .i64 m.n] 27)).alloc (.cells #[.bool n.a.v6, .int .u64 n.a.hi, .int .u64 n.a.lo, .int .i64 n.n] 27)).alloc (.cells #[.bool false, .int .u64 0, .int .u64 0, .int .i64 0] 27)).frozen? ⟨w.heap.size + 2, 0, none⟩ = false := by simp [go_sem]
  have j1 : (((w.alloc (.cells #[.bool m.a.v6, .int .u64 m.a.hi, .int .u64 m.a.lo, .int .i64 m.n] 27)).alloc (.cells #[.bool n.a.v6, .int .u64 n.a.hi, .int .u64 n.a.lo, .int .i64 n.n] 27)).alloc (.cells #[.bool false, .int .u64 0, .int .u64 0, .int .i64 0] 27)).cell? ⟨w.heap.size + 2, 1, none⟩ = some (.int .u64 0) := by simp [go_sem]
  have z1 : (((w.alloc (.cells #[.bool m.a.v6, .int .u64 m.a.hi, .int .u64 m.a.lo, .int .i64 m.n] 27)).alloc (.cells #[.bool n.a.v6, .int .u64 n.a.hi, .int .u64 n.a.lo, .int .i64 n.n] 27)).alloc (.cells #[.bool false, .int .u64 0, .int .u64 0, .int .i64 0] 27)).frozen? ⟨w.heap.size + 2, 1, none⟩ = false := by simp [go_sem]
  have j2 : (((w.alloc (.cells #[.bool m.a.v6, .int .u64 m.a.hi, .int .u64 m.a.lo, .int .i64 m.n] 27)).alloc (.cells #[.bool n.a.v6, .int .u64 n.a.hi, .int .u64 n.a.lo, .int .i64 n.n] 27)).alloc (.cells #[.bool false, .int .u64 0, .int .u64 0, .int .i64 0] 27)).cell? ⟨w.heap.size + 2, 2, none⟩ = some (.int .u64 0) := by simp [go_sem]
  have z2 : (((w.alloc (.cells #[.bool m.a.v6, .int .u64 m.a.hi, .int .u64 m.a.lo, .int .i64 m.n] 27)).alloc (.cells #[.bool n.a.v6, .int .u64 n.a.hi, .int .u64 n.a.lo, .int .i64 n.n] 27)).alloc (.cells #[.bool false, .int .u64 0, .int .u64 0, .int .i64 0] 27)).frozen? ⟨w.heap.size + 2, 2, none⟩ = false := by simp [go_sem]
  have j3 : (((w.alloc (.cells #[.bool m.a.v6, .int .u64 m.a.hi, .int .u64 m.a.lo, .int .i64 m.n] 27)).alloc (.cells #[.bool n.a.v6, .int .u64 n.a.hi, .int .u64 n.a.lo, .int .i64 n.n] 27)).alloc (.cells #[.bool false, .int .u64 0, .int .u64 0, .int .i64 0] 27)).cell? ⟨w.heap.size + 2, 3, none⟩ = some (.int .i64 0) := by simp [go_sem]
  have z3 : (((w.alloc (.cells #[.bool m.a.v6, .int .u64 m.a.hi, .int .u64 m.a.lo, .int .i64 m.n] 27)).alloc (.cells #[.bool n.a.v6, .int .u64 n.a.hi, .int .u64 n.a.lo, .int .i64 n.n] 27)).alloc (.cells #[.bool false, .int .u64 0, .int .u64 0, .int .i64 0] 27)).frozen? ⟨w.heap.size + 2, 3, none⟩ = false := by simp [go_sem]
  go_enter Try.func46, Try.ntmps46
  go_wp2_with fail
  go_loopw [5] (fun i wr => ∃ k : Nat, k ≤ M ∧ i = .int .i64 k ∧ Hid (comm m.a n.a k (M - k) = commN m n) ∧ Stays (((w.alloc (.cells #[.bool m.a.v6, .int .u64 m.a.hi, .int .u64 m.a.lo, .int .i64 m.n] 27)).alloc (.cells #[.bool n.a.v6, .int .u64 n.a.hi, .int .u64 n.a.lo, .int .i64 n.n] 27)).alloc (.cells #[.bool false, .int .u64 0, .int .u64 0, .int .i64 0] 27)) wr) (fun i _ => M - (intOf i).toNat)
  case atStart => exact ⟨0, Nat.zero_le _, rfl, Lib.hid HC.out.symm, Below.refl _ _⟩
  case round =>
    obtain ⟨k, hk, rfl, HK, hs⟩ := hrel
    have hk9 : k ≤ 128 := by omega
    have m0 : wr.cell? ⟨w.heap.size, 0, none⟩ = some (.bool m.a.v6) := cells_left hs k0
    have m1 : wr.cell? ⟨w.heap.size, 1, none⟩ = some (.int .u64 m.a.hi) := cells_left hs k1
    have m2 : wr.cell? ⟨w.heap.size, 2, none⟩ = some (.int .u64 m.a.lo) := cells_left hs k2
    have m3 : wr.cell? ⟨w.heap.size, 3, none⟩ = some (.int .i64 m.n) := cells_left hs k3
    have n0 : wr.cell? ⟨w.heap.size + 1, 0, none⟩ = some (.bool n.a.v6) := cells_left hs l0
    have n1 : wr.cell? ⟨w.heap.size + 1, 1, none⟩ = some (.int .u64 n.a.hi) := cells_left hs l1
    have n2 : wr.cell? ⟨w.heap.size + 1, 2, none⟩ = some (.int .u64 n.a.lo) := cells_left hs l2
    have n3 : wr.cell? ⟨w.heap.size + 1, 3, none⟩ = some (.int .i64 n.n) := cells_left hs l3
    by_cases hlt : k < M
    · have d1 : decide ((k : Int) < (M : Int)) = true := by simpa using hlt
      have e1 := bitA_in (a := m.a) (j := k) (by have := HMM.out; omega)
      have e2 := bitA_in (a := n.a) (j := k) (by have := HMM.out; omega)
      by_cases hbit : bitN m.a k = bitN n.a k
      · have d2 : (bitA m.a (k : Int) == bitA n.a (k : Int)) = true := by rw [e1, e2, hbit]; simp
        have HN2 : Hid (comm m.a n.a (k + 1) (M - (k + 1)) = commN m n) := Lib.hid (by rw [← HK.out, show M - k = (M - (k + 1)) + 1 from by omega]; show _ = (if _ then _ else _); rw [if_pos hbit])
        clear e1 e2 hbit
        have K1 : Hid (∀ W0, Stays (wr) W0 → Calls Try.prog 44 #[.agg #[.bool m.a.v6, .int .u64 m.a.hi, .int .u64 m.a.lo], .int .i64 (k : Nat)] W0 fun e w' => e = .returned (.int .i64 (bitA m.a (k : Int))) ∧ Stays (wr) w') := Lib.hid (keep_call fun W0 => B1.out W0 k hk9)
        have K2 : Hid (∀ W0, Stays (wr) W0 → Calls Try.prog 44 #[.agg #[.bool n.a.v6, .int .u64 n.a.hi, .int .u64 n.a.lo], .int .i64 (k : Nat)] W0 fun e w' => e = .returned (.int .i64 (bitA n.a (k : Int))) ∧ Stays (wr) w') := Lib.hid (keep_call fun W0 => B2.out W0 k hk9)
        go_wp2_with fail
        have hne : Nonempty (Cls (Stays (wr))) := ⟨⟨_, Below.refl _ _⟩⟩
        have f0 : ∀ q : Cls (Stays (wr)), q.w.cell? ⟨w.heap.size, 0, none⟩ = some (.bool m.a.v6) := fun q => cells_left q.h (m0)
        have f1 : ∀ q : Cls (Stays (wr)), q.w.cell? ⟨w.heap.size, 1, none⟩ = some (.int .u64 m.a.hi) := fun q => cells_left q.h (m1)
        have f2 : ∀ q : Cls (Stays (wr)), q.w.cell? ⟨w.heap.size, 2, none⟩ = some (.int .u64 m.a.lo) := fun q => cells_left q.h (m2)
        have f3 : ∀ q : Cls (Stays (wr)), q.w.cell? ⟨w.heap.size, 3, none⟩ = some (.int .i64 m.n) := fun q => cells_left q.h (m3)
        have f4 : ∀ q : Cls (Stays (wr)), q.w.cell? ⟨w.heap.size + 1, 0, none⟩ = some (.bool n.a.v6) := fun q => cells_left q.h (n0)
        have f5 : ∀ q : Cls (Stays (wr)), q.w.cell? ⟨w.heap.size + 1, 1, none⟩ = some (.int .u64 n.a.hi) := fun q => cells_left q.h (n1)
        have f6 : ∀ q : Cls (Stays (wr)), q.w.cell? ⟨w.heap.size + 1, 2, none⟩ = some (.int .u64 n.a.lo) := fun q => cells_left q.h (n2)
        have f7 : ∀ q : Cls (Stays (wr)), q.w.cell? ⟨w.heap.size + 1, 3, none⟩ = some (.int .i64 n.n) := fun q => cells_left q.h (n3)
        refine Cls.region (Stays (wr)) (by kernel_rfl) (by kernel_rfl) (low_drewN (Below.refl _ _) 1) ?_
        repeat (go_big_quiet_step (first | fail | (with_reducible exact Cls.call (K1.out _ (Cls.h _))) | (with_reducible exact Cls.call (K2.out _ (Cls.h _)))))
        refine wpQuiet_nil ?_
        intro n9
        have hs9 := n9.h
        generalize n9.w = w9 at hs9 ⊢
        clear hne n9 f0 f1 f2 f3 f4 f5 f6 f7
        clear d2
        go_wp2
        all_goals (
          go_roundw
          case rel => exact ⟨k + 1, by omega, by go_num, HN2, low_trans hs hs9⟩
          case measure => simp [intOf]; omega)
      · have d2 : (bitA m.a (k : Int) == bitA n.a (k : Int)) = false := by rw [e1, e2, beq_eq_false_iff_ne]; omega
        have HE : Hid (commN m n = k) := Lib.hid (by rw [← HK.out, show M - k = (M - (k + 1)) + 1 from by omega]; show (if _ then _ else _) = _; rw [if_neg hbit])
        clear e1 e2 hbit
        have K1 : Hid (∀ W0, Stays (wr) W0 → Calls Try.prog 44 #[.agg #[.bool m.a.v6, .int .u64 m.a.hi, .int .u64 m.a.lo], .int .i64 (k : Nat)] W0 fun e w' => e = .returned (.int .i64 (bitA m.a (k : Int))) ∧ Stays (wr) w') := Lib.hid (keep_call fun W0 => B1.out W0 k hk9)
        have K2 : Hid (∀ W0, Stays (wr) W0 → Calls Try.prog 44 #[.agg #[.bool n.a.v6, .int .u64 n.a.hi, .int .u64 n.a.lo], .int .i64 (k : Nat)] W0 fun e w' => e = .returned (.int .i64 (bitA n.a (k : Int))) ∧ Stays (wr) w') := Lib.hid (keep_call fun W0 => B2.out W0 k hk9)
        go_wp2_with fail
        have hne : Nonempty (Cls (Stays (wr))) := ⟨⟨_, Below.refl _ _⟩⟩
        have f0 : ∀ q : Cls (Stays (wr)), q.w.cell? ⟨w.heap.size, 0, none⟩ = some (.bool m.a.v6) := fun q => cells_left q.h (m0)
        have f1 : ∀ q : Cls (Stays (wr)), q.w.cell? ⟨w.heap.size, 1, none⟩ = some (.int .u64 m.a.hi) := fun q => cells_left q.h (m1)
        have f2 : ∀ q : Cls (Stays (wr)), q.w.cell? ⟨w.heap.size, 2, none⟩ = some (.int .u64 m.a.lo) := fun q => cells_left q.h (m2)
        have f3 : ∀ q : Cls (Stays (wr)), q.w.cell? ⟨w.heap.size, 3, none⟩ = some (.int .i64 m.n) := fun q => cells_left q.h (m3)
        have f4 : ∀ q : Cls (Stays (wr)), q.w.cell? ⟨w.heap.size + 1, 0, none⟩ = some (.bool n.a.v6) := fun q => cells_left q.h (n0)
        have f5 : ∀ q : Cls (Stays (wr)), q.w.cell? ⟨w.heap.size + 1, 1, none⟩ = some (.int .u64 n.a.hi) := fun q => cells_left q.h (n1)
        have f6 : ∀ q : Cls (Stays (wr)), q.w.cell? ⟨w.heap.size + 1, 2, none⟩ = some (.int .u64 n.a.lo) := fun q => cells_left q.h (n2)
        have f7 : ∀ q : Cls (Stays (wr)), q.w.cell? ⟨w.heap.size + 1, 3, none⟩ = some (.int .i64 n.n) := fun q => cells_left q.h (n3)
        refine Cls.region (Stays (wr)) (by kernel_rfl) (by kernel_rfl) (low_drewN (Below.refl _ _) 1) ?_
        repeat (go_big_quiet_step (first | fail | (with_reducible exact Cls.call (K1.out _ (Cls.h _))) | (with_reducible exact Cls.call (K2.out _ (Cls.h _)))))
        refine wpQuiet_nil ?_
        intro n9
        have hs9 := n9.h
        generalize n9.w = w9 at hs9 ⊢
        clear hne n9 f0 f1 f2 f3 f4 f5 f6 f7
        clear d2 m0 n0 m1 n1 m2 n2 m3 n3
        have HL2 := Lib.hid (low_trans hs hs9)
        have p0 : w9.cell? ⟨w.heap.size, 0, none⟩ = some (.bool m.a.v6) := cells_left HL2.out k0
        have p1 : w9.cell? ⟨w.heap.size, 1, none⟩ = some (.int .u64 m.a.hi) := cells_left HL2.out k1
        have p2 : w9.cell? ⟨w.heap.size, 2, none⟩ = some (.int .u64 m.a.lo) := cells_left HL2.out k2
        have p3 : w9.cell? ⟨w.heap.size, 3, none⟩ = some (.int .i64 m.n) := cells_left HL2.out k3
        have q0 : w9.cell? ⟨w.heap.size + 2, 0, none⟩ = some (.bool false) := cells_left HL2.out j0
        have y0 : w9.frozen? ⟨w.heap.size + 2, 0, none⟩ = false := frozen_left HL2.out (by simp) z0
        have q1 : w9.cell? ⟨w.heap.size + 2, 1, none⟩ = some (.int .u64 0) := cells_left HL2.out j1
        have y1 : w9.frozen? ⟨w.heap.size + 2, 1, none⟩ = false := frozen_left HL2.out (by simp) z1
        have q2 : w9.cell? ⟨w.heap.size + 2, 2, none⟩ = some (.int .u64 0) := cells_left HL2.out j2
        have y2 : w9.frozen? ⟨w.heap.size + 2, 2, none⟩ = false := frozen_left HL2.out (by simp) z2
        have q3 : w9.cell? ⟨w.heap.size + 2, 3, none⟩ = some (.int .i64 0) := cells_left HL2.out j3
        have y3 : w9.frozen? ⟨w.heap.size + 2, 3, none⟩ = false := frozen_left HL2.out (by simp) z3
        have HG := Lib.hid (show w.heap.size + 2 < w9.heap.size by have := HL2.out.size; simp at this; omega)
        have MK1 := Lib.hid (fun W => MK.out W k hk9)
        have EB1 := EB.out
        rw [HE.out] at EB1
        rw [EB1] at MK1
        clear EB1
        go_wp2_with fail
        ((with_reducible refine (MK1.out _).mono ?_); rintro e w8 ⟨rfl, hb8⟩)
        have q0' : w8.cell? ⟨w.heap.size + 2, 0, none⟩ = some (.bool false) := cells_left hb8 q0
        have y0' : w8.frozen? ⟨w.heap.size + 2, 0, none⟩ = false := frozen_left hb8 (by have := HG.out; omega) y0
        have q1' : w8.cell? ⟨w.heap.size + 2, 1, none⟩ = some (.int .u64 0) := cells_left hb8 q1
        have y1' : w8.frozen? ⟨w.heap.size + 2, 1, none⟩ = false := frozen_left hb8 (by have := HG.out; omega) y1
        have q2' : w8.cell? ⟨w.heap.size + 2, 2, none⟩ = some (.int .u64 0) := cells_left hb8 q2
        have y2' : w8.frozen? ⟨w.heap.size + 2, 2, none⟩ = false := frozen_left hb8 (by have := HG.out; omega) y2
        have q3' : w8.cell? ⟨w.heap.size + 2, 3, none⟩ = some (.int .i64 0) := cells_left hb8 q3
        have y3' : w8.frozen? ⟨w.heap.size + 2, 3, none⟩ = false := frozen_left hb8 (by have := HG.out; omega) y3
        have hz : w.heap.size + 2 < w8.heap.size := by have := HG.out; have := hb8.size; omega

        clear p0 p1 p2 p3 q0 q1 q2 q3 y0 y1 y2 y3
        go_wp2_with fail
        rw [E.out, HE.out]
        exact bodyPost_ret (v := .agg #[.bool (makeN m.a (k : Int)).a.v6, .int .u64 (makeN m.a (k : Int)).a.hi, .int .u64 (makeN m.a (k : Int)).a.lo, .int .i64 (makeN m.a (k : Int)).n]) (by simp [results, Try.results46, go_sem, hz, q0', q1', q2', q3']) rfl ⟨rfl, ((((((LOW.trans (HL2.out.mono (by simp; omega))).trans (hb8.mono (by have := HG.out; omega))).setCell (by simp; omega) _).setCell (by simp; omega) _).setCell (by simp; omega) _).setCell (by simp; omega) _).alloc (by simp; omega) _⟩
    · obtain rfl : k = M := by omega
      have d1 : decide ((k : Int) < (k : Int)) = false := by simp
      have HE : Hid (commN m n = k) := Lib.hid (by rw [← HK.out, Nat.sub_self]; rfl)
      go_wp2_with fail
      have hne : Nonempty (Cls (Stays (wr))) := ⟨⟨_, Below.refl _ _⟩⟩
      have f0 : ∀ q : Cls (Stays (wr)), q.w.cell? ⟨w.heap.size, 0, none⟩ = some (.bool m.a.v6) := fun q => cells_left q.h (m0)
      have f1 : ∀ q : Cls (Stays (wr)), q.w.cell? ⟨w.heap.size, 1, none⟩ = some (.int .u64 m.a.hi) := fun q => cells_left q.h (m1)
      have f2 : ∀ q : Cls (Stays (wr)), q.w.cell? ⟨w.heap.size, 2, none⟩ = some (.int .u64 m.a.lo) := fun q => cells_left q.h (m2)
      have f3 : ∀ q : Cls (Stays (wr)), q.w.cell? ⟨w.heap.size, 3, none⟩ = some (.int .i64 m.n) := fun q => cells_left q.h (m3)
      have f4 : ∀ q : Cls (Stays (wr)), q.w.cell? ⟨w.heap.size + 1, 0, none⟩ = some (.bool n.a.v6) := fun q => cells_left q.h (n0)
      have f5 : ∀ q : Cls (Stays (wr)), q.w.cell? ⟨w.heap.size + 1, 1, none⟩ = some (.int .u64 n.a.hi) := fun q => cells_left q.h (n1)
      have f6 : ∀ q : Cls (Stays (wr)), q.w.cell? ⟨w.heap.size + 1, 2, none⟩ = some (.int .u64 n.a.lo) := fun q => cells_left q.h (n2)
      have f7 : ∀ q : Cls (Stays (wr)), q.w.cell? ⟨w.heap.size + 1, 3, none⟩ = some (.int .i64 n.n) := fun q => cells_left q.h (n3)
      refine Cls.region (Stays (wr)) (by kernel_rfl) (by kernel_rfl) (low_drewN (Below.refl _ _) 1) ?_
      repeat (go_big_quiet_step (first | fail))
      refine wpQuiet_nil ?_
      intro n9
      have hs9 := n9.h
      generalize n9.w = w9 at hs9 ⊢
      clear hne n9 f0 f1 f2 f3 f4 f5 f6 f7
      clear m0 n0 m1 n1 m2 n2 m3 n3
      have HL2 := Lib.hid (low_trans hs hs9)
      have p0 : w9.cell? ⟨w.heap.size, 0, none⟩ = some (.bool m.a.v6) := cells_left HL2.out k0
      have p1 : w9.cell? ⟨w.heap.size, 1, none⟩ = some (.int .u64 m.a.hi) := cells_left HL2.out k1
      have p2 : w9.cell? ⟨w.heap.size, 2, none⟩ = some (.int .u64 m.a.lo) := cells_left HL2.out k2
      have p3 : w9.cell? ⟨w.heap.size, 3, none⟩ = some (.int .i64 m.n) := cells_left HL2.out k3
      have q0 : w9.cell? ⟨w.heap.size + 2, 0, none⟩ = some (.bool false) := cells_left HL2.out j0
      have y0 : w9.frozen? ⟨w.heap.size + 2, 0, none⟩ = false := frozen_left HL2.out (by simp) z0
      have q1 : w9.cell? ⟨w.heap.size + 2, 1, none⟩ = some (.int .u64 0) := cells_left HL2.out j1
      have y1 : w9.frozen? ⟨w.heap.size + 2, 1, none⟩ = false := frozen_left HL2.out (by simp) z1
      have q2 : w9.cell? ⟨w.heap.size + 2, 2, none⟩ = some (.int .u64 0) := cells_left HL2.out j2
      have y2 : w9.frozen? ⟨w.heap.size + 2, 2, none⟩ = false := frozen_left HL2.out (by simp) z2
      have q3 : w9.cell? ⟨w.heap.size + 2, 3, none⟩ = some (.int .i64 0) := cells_left HL2.out j3
      have y3 : w9.frozen? ⟨w.heap.size + 2, 3, none⟩ = false := frozen_left HL2.out (by simp) z3
      have HG := Lib.hid (show w.heap.size + 2 < w9.heap.size by have := HL2.out.size; simp at this; omega)
      have MK1 := Lib.hid (fun W => MK.out W k hk9)
      have EB1 := EB.out
      rw [HE.out] at EB1
      rw [EB1] at MK1
      clear EB1
      go_wp2_with fail
      ((with_reducible refine (MK1.out _).mono ?_); rintro e w8 ⟨rfl, hb8⟩)
      have q0' : w8.cell? ⟨w.heap.size + 2, 0, none⟩ = some (.bool false) := cells_left hb8 q0
      have y0' : w8.frozen? ⟨w.heap.size + 2, 0, none⟩ = false := frozen_left hb8 (by have := HG.out; omega) y0
      have q1' : w8.cell? ⟨w.heap.size + 2, 1, none⟩ = some (.int .u64 0) := cells_left hb8 q1
      have y1' : w8.frozen? ⟨w.heap.size + 2, 1, none⟩ = false := frozen_left hb8 (by have := HG.out; omega) y1
      have q2' : w8.cell? ⟨w.heap.size + 2, 2, none⟩ = some (.int .u64 0) := cells_left hb8 q2
      have y2' : w8.frozen? ⟨w.heap.size + 2, 2, none⟩ = false := frozen_left hb8 (by have := HG.out; omega) y2
      have q3' : w8.cell? ⟨w.heap.size + 2, 3, none⟩ = some (.int .i64 0) := cells_left hb8 q3
      have y3' : w8.frozen? ⟨w.heap.size + 2, 3, none⟩ = false := frozen_left hb8 (by have := HG.out; omega) y3
      have hz : w.heap.size + 2 < w8.heap.size := by have := HG.out; have := hb8.size; omega

      clear p0 p1 p2 p3 q0 q1 q2 q3 y0 y1 y2 y3
      go_wp2_with fail
      rw [E.out, HE.out]
      exact bodyPost_ret (v := .agg #[.bool (makeN m.a (k : Int)).a.v6, .int .u64 (makeN m.a (k : Int)).a.hi, .int .u64 (makeN m.a (k : Int)).a.lo, .int .i64 (makeN m.a (k : Int)).n]) (by simp [results, Try.results46, go_sem, hz, q0', q1', q2', q3']) rfl ⟨rfl, ((((((LOW.trans (HL2.out.mono (by simp; omega))).trans (hb8.mono (by have := HG.out; omega))).setCell (by simp; omega) _).setCell (by simp; omega) _).setCell (by simp; omega) _).setCell (by simp; omega) _).alloc (by simp; omega) _⟩
end Go.Proofs.Ytgnpnmdndlodlaa.Tr
