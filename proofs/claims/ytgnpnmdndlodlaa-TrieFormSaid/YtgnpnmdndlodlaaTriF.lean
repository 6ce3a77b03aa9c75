/- Contracts of package trie, sixth part: again; follow, by each of its closures. -/
import Derived.Test.YtgnpnmdndlodlaaTriE
import Derived.Deep.DeepCutAuto
namespace Go.Proofs.Ytgnpnmdndlodlaa.Tr
set_option maxRecDepth 100000
open Go.ChangeShapes Go.WideShapes Go.ChangeAt Go.RowKit
open Dec Words V4 V6 Ad Ci
set_option linter.unusedVariables false
theorem Own.but {D : Nat → Prop} {w w' : World} {b : Nat} {t : TypeId} {vs : List Value} (h : Own w b t vs) (k : But D w w') (hd : ¬ D b) : Own w' b t vs := (k.block b h.lt hd).trans h
theorem ownT_on {B : Nat} {w w' : World} {v : Value} {l : List Hit} (h : OwnT B w v l) (k : Below w.heap.size w w') : OwnT B w' v l := h.kept (row := none) ⟨k.os, k.tape, k.output, k.size, fun i hi _ => k.block i hi⟩ (by cases v.ownBlock <;> simp)
/-- A trie's cells. -/
structure Top (w : World) (b : Nat) (p0 p1 : Option Addr) (s : Int) : Prop where
  c0 : w.cell? ⟨b, 0, none⟩ = some (.pointer p0)
  c1 : w.cell? ⟨b, 1, none⟩ = some (.pointer p1)
  c2 : w.cell? ⟨b, 2, none⟩ = some (.int .i64 s)
theorem Top.on {w w' : World} {b : Nat} {p0 p1 : Option Addr} {s : Int} (h : Top w b p0 p1 s) (k : Stays w w') : Top w' b p0 p1 s := ⟨cells_left k h.c0, cells_left k h.c1, cells_left k h.c2⟩
theorem Top.lt {w : World} {b : Nat} {p0 p1 : Option Addr} {s : Int} (h : Top w b p0 p1 s) : b < w.heap.size := World.block_lt_of_cell? _ _ h.c0
def Again (w : World) (p0 p1 : Option Addr) (s : Int) (e : Ending) (w' : World) : Prop := ∃ g, e = .returned (.pointer (some ⟨g, 0, none⟩)) ∧ w.heap.size ≤ g ∧ Own w' g 57 [.pointer p0, .pointer p1, .int .i64 s] ∧ Below w.heap.size w w'
set_option maxHeartbeats 1000000 in
theorem again_any (b : Nat) (p0 p1 : Option Addr) (s : Int) (w : World) (hT : Top w b p0 p1 s) :
    Calls Try.prog 25 #[.pointer (some ⟨b, 0, none⟩)] w (Again w p0 p1 s) := by
  obtain ⟨m0, m1, m2⟩ := hT
  go_enter Try.func25, Try.ntmps25
  go_wp2_with fail
  go_ret
  exact ⟨w.heap.size, rfl, Nat.le_refl _, Own.new w _ _, (Below.refl _ _).alloc (Nat.le_refl _) _⟩
def Dg (V K : Nat) (k : Nat) : Prop := k = V ∨ k = K
def step (n m : Net) (i : Bool) (x : Int) (s : Int × Bool) : Int × Bool := if i && sameN m n then (x, true) else s
def Got (V K : Nat) (w : World) (s : Int × Bool) (e : Ending) (w' : World) : Prop := e = .returned (.tuple #[]) ∧ Own w' V 3 [.int .i64 s.1] ∧ Own w' K 4 [.bool s.2] ∧ But (Dg V K) w w'
set_option maxHeartbeats 2000000 in
theorem get1_any (b N V K : Nat) (n m : Net) (i : Bool) (x : Int) (pz po : Option Addr) (s : Int × Bool) (w : World) (hN : Node w b m i x pz po) (hB : Own w N 27 [.bool n.a.v6, .int .u64 n.a.hi, .int .u64 n.a.lo, .int .i64 n.n]) (hV : Own w V 3 [.int .i64 s.1]) (hK : Own w K 4 [.bool s.2]) (hVK : V ≠ K) :
    Calls Try.prog 24 #[.pointer (some ⟨b, 0, none⟩), .pointer (some ⟨N, 0, none⟩), .pointer (some ⟨V, 0, none⟩), .pointer (some ⟨K, 0, none⟩)] w (Got V K w (step n m i x s)) := by
  cases i
  · have m0 : w.cell? ⟨b, 0, none⟩ = some (.bool m.a.v6) := hN.c0
    have m1 : w.cell? ⟨b, 1, none⟩ = some (.int .u64 m.a.hi) := hN.c1
    have m2 : w.cell? ⟨b, 2, none⟩ = some (.int .u64 m.a.lo) := hN.c2
    have m3 : w.cell? ⟨b, 3, none⟩ = some (.int .i64 m.n) := hN.c3
    have m4 : w.cell? ⟨b, 4, none⟩ = some (.bool false) := hN.c4
    have m5 : w.cell? ⟨b, 5, none⟩ = some (.int .i64 x) := hN.c5
    have n0 : w.cell? ⟨N, 0, none⟩ = some (.bool n.a.v6) := hB.cell rfl
    have n1 : w.cell? ⟨N, 1, none⟩ = some (.int .u64 n.a.hi) := hB.cell rfl
    have n2 : w.cell? ⟨N, 2, none⟩ = some (.int .u64 n.a.lo) := hB.cell rfl
    have n3 : w.cell? ⟨N, 3, none⟩ = some (.int .i64 n.n) := hB.cell rfl
    have HV := Lib.hid hV
    have HK := Lib.hid hK
    have HE : Hid (step n m false x s = s) := Lib.hid rfl
    clear hV hK
    go_enter Try.func24, Try.ntmps24
    go_wp2_with fail
    have hne : Nonempty (Cls (Stays (w))) := ⟨⟨_, Below.refl _ _⟩⟩
    have f0 : ∀ q : Cls (Stays (w)), q.w.cell? ⟨b, 0, none⟩ = some (.bool m.a.v6) := fun q => cells_left q.h (m0)
    have f1 : ∀ q : Cls (Stays (w)), q.w.cell? ⟨b, 1, none⟩ = some (.int .u64 m.a.hi) := fun q => cells_left q.h (m1)
    have f2 : ∀ q : Cls (Stays (w)), q.w.cell? ⟨b, 2, none⟩ = some (.int .u64 m.a.lo) := fun q => cells_left q.h (m2)
    have f3 : ∀ q : Cls (Stays (w)), q.w.cell? ⟨b, 3, none⟩ = some (.int .i64 m.n) := fun q => cells_left q.h (m3)
    have f4 : ∀ q : Cls (Stays (w)), q.w.cell? ⟨b, 4, none⟩ = some (.bool false) := fun q => cells_left q.h (m4)
    have f5 : ∀ q : Cls (Stays (w)), q.w.cell? ⟨N, 0, none⟩ = some (.bool n.a.v6) := fun q => cells_left q.h (n0)
    have f6 : ∀ q : Cls (Stays (w)), q.w.cell? ⟨N, 1, none⟩ = some (.int .u64 n.a.hi) := fun q => cells_left q.h (n1)
    have f7 : ∀ q : Cls (Stays (w)), q.w.cell? ⟨N, 2, none⟩ = some (.int .u64 n.a.lo) := fun q => cells_left q.h (n2)
    have f8 : ∀ q : Cls (Stays (w)), q.w.cell? ⟨N, 3, none⟩ = some (.int .i64 n.n) := fun q => cells_left q.h (n3)
    refine Cls.region (Stays (w)) (by kernel_rfl) (by kernel_rfl) (low_drewN (Below.refl _ _) 1) ?_
    repeat (go_big_quiet_step (first | fail))
    refine wpQuiet_nil ?_
    intro n9
    have hs9 := n9.h
    generalize n9.w = w9 at hs9 ⊢
    clear hne n9 f0 f1 f2 f3 f4 f5 f6 f7 f8
    go_wp2_with fail
    go_end0
    exact ⟨rfl, HE.out.symm ▸ HV.out.on hs9, HE.out.symm ▸ HK.out.on hs9, But.stays hs9⟩
  · by_cases e : m = n
    · have m0 : w.cell? ⟨b, 0, none⟩ = some (.bool m.a.v6) := hN.c0
      have m1 : w.cell? ⟨b, 1, none⟩ = some (.int .u64 m.a.hi) := hN.c1
      have m2 : w.cell? ⟨b, 2, none⟩ = some (.int .u64 m.a.lo) := hN.c2
      have m3 : w.cell? ⟨b, 3, none⟩ = some (.int .i64 m.n) := hN.c3
      have m4 : w.cell? ⟨b, 4, none⟩ = some (.bool true) := hN.c4
      have m5 : w.cell? ⟨b, 5, none⟩ = some (.int .i64 x) := hN.c5
      have n0 : w.cell? ⟨N, 0, none⟩ = some (.bool n.a.v6) := hB.cell rfl
      have n1 : w.cell? ⟨N, 1, none⟩ = some (.int .u64 n.a.hi) := hB.cell rfl
      have n2 : w.cell? ⟨N, 2, none⟩ = some (.int .u64 n.a.lo) := hB.cell rfl
      have n3 : w.cell? ⟨N, 3, none⟩ = some (.int .i64 n.n) := hB.cell rfl
      have HV := Lib.hid hV
      have HK := Lib.hid hK
      have EQ := fun W => eq_true e W
      have HE : Hid (step n m true x s = (x, true)) := Lib.hid (by unfold step; rw [(sameN_iff m n).2 e]; rfl)
      have HVK := Lib.hid hVK
      clear hV hK e hVK
      go_enter Try.func24, Try.ntmps24
      go_wp2_with fail
      have hne : Nonempty (Cls (Stays (w))) := ⟨⟨_, Below.refl _ _⟩⟩
      have f0 : ∀ q : Cls (Stays (w)), q.w.cell? ⟨b, 0, none⟩ = some (.bool m.a.v6) := fun q => cells_left q.h (m0)
      have f1 : ∀ q : Cls (Stays (w)), q.w.cell? ⟨b, 1, none⟩ = some (.int .u64 m.a.hi) := fun q => cells_left q.h (m1)
      have f2 : ∀ q : Cls (Stays (w)), q.w.cell? ⟨b, 2, none⟩ = some (.int .u64 m.a.lo) := fun q => cells_left q.h (m2)
      have f3 : ∀ q : Cls (Stays (w)), q.w.cell? ⟨b, 3, none⟩ = some (.int .i64 m.n) := fun q => cells_left q.h (m3)
      have f4 : ∀ q : Cls (Stays (w)), q.w.cell? ⟨b, 4, none⟩ = some (.bool true) := fun q => cells_left q.h (m4)
      have f5 : ∀ q : Cls (Stays (w)), q.w.cell? ⟨N, 0, none⟩ = some (.bool n.a.v6) := fun q => cells_left q.h (n0)
      have f6 : ∀ q : Cls (Stays (w)), q.w.cell? ⟨N, 1, none⟩ = some (.int .u64 n.a.hi) := fun q => cells_left q.h (n1)
      have f7 : ∀ q : Cls (Stays (w)), q.w.cell? ⟨N, 2, none⟩ = some (.int .u64 n.a.lo) := fun q => cells_left q.h (n2)
      have f8 : ∀ q : Cls (Stays (w)), q.w.cell? ⟨N, 3, none⟩ = some (.int .i64 n.n) := fun q => cells_left q.h (n3)
      refine Cls.region (Stays (w)) (by kernel_rfl) (by kernel_rfl) (low_drewN (Below.refl _ _) 1) ?_
      repeat (go_big_quiet_step (first | fail))
      refine wpQuiet_nil ?_
      intro n9
      have hs9 := n9.h
      generalize n9.w = w9 at hs9 ⊢
      clear hne n9 f0 f1 f2 f3 f4 f5 f6 f7 f8
      have HV9 := Lib.hid (HV.out.on hs9)
      have HK9 := Lib.hid (HK.out.on hs9)
      have q5 : w9.cell? ⟨b, 5, none⟩ = some (.int .i64 x) := cells_left hs9 m5
      have qv : w9.cell? ⟨V, 0, none⟩ = some (.int .i64 s.1) := HV9.out.cell rfl
      have fv : w9.frozen? ⟨V, 0, none⟩ = false := HV9.out.free _
      have qk : w9.cell? ⟨K, 0, none⟩ = some (.bool s.2) := HK9.out.cell rfl
      have fk : w9.frozen? ⟨K, 0, none⟩ = false := HK9.out.free _
      have hkv : ¬ K = V := fun h => HVK.out h.symm
      have hvk : ¬ V = K := HVK.out
      go_wp2_with fail
      go_end0
      refine ⟨rfl, ?_, ?_, ((But.stays hs9).set (D := Dg V K) (p := ⟨V, 0, none⟩) (Or.inl rfl) _).set (p := ⟨K, 0, none⟩) (Or.inr rfl) _⟩
      · rw [HE.out]; exact (HV9.out.set 0 _).other hvk _
      · rw [HE.out]; exact (HK9.out.other (a := ⟨V, 0, none⟩) hkv _).set 0 _
    · have m0 : w.cell? ⟨b, 0, none⟩ = some (.bool m.a.v6) := hN.c0
      have m1 : w.cell? ⟨b, 1, none⟩ = some (.int .u64 m.a.hi) := hN.c1
      have m2 : w.cell? ⟨b, 2, none⟩ = some (.int .u64 m.a.lo) := hN.c2
      have m3 : w.cell? ⟨b, 3, none⟩ = some (.int .i64 m.n) := hN.c3
      have m4 : w.cell? ⟨b, 4, none⟩ = some (.bool true) := hN.c4
      have m5 : w.cell? ⟨b, 5, none⟩ = some (.int .i64 x) := hN.c5
      have n0 : w.cell? ⟨N, 0, none⟩ = some (.bool n.a.v6) := hB.cell rfl
      have n1 : w.cell? ⟨N, 1, none⟩ = some (.int .u64 n.a.hi) := hB.cell rfl
      have n2 : w.cell? ⟨N, 2, none⟩ = some (.int .u64 n.a.lo) := hB.cell rfl
      have n3 : w.cell? ⟨N, 3, none⟩ = some (.int .i64 n.n) := hB.cell rfl
      have HV := Lib.hid hV
      have HK := Lib.hid hK
      have EQ := fun W => eq_false e W
      have HE : Hid (step n m true x s = s) := Lib.hid (by unfold step; rw [show sameN m n = false from by cases hs : sameN m n; rfl; exact absurd ((sameN_iff m n).1 hs) e]; rfl)
      clear hV hK e
      go_enter Try.func24, Try.ntmps24
      go_wp2_with fail
      have hne : Nonempty (Cls (Stays (w))) := ⟨⟨_, Below.refl _ _⟩⟩
      have f0 : ∀ q : Cls (Stays (w)), q.w.cell? ⟨b, 0, none⟩ = some (.bool m.a.v6) := fun q => cells_left q.h (m0)
      have f1 : ∀ q : Cls (Stays (w)), q.w.cell? ⟨b, 1, none⟩ = some (.int .u64 m.a.hi) := fun q => cells_left q.h (m1)
      have f2 : ∀ q : Cls (Stays (w)), q.w.cell? ⟨b, 2, none⟩ = some (.int .u64 m.a.lo) := fun q => cells_left q.h (m2)
      have f3 : ∀ q : Cls (Stays (w)), q.w.cell? ⟨b, 3, none⟩ = some (.int .i64 m.n) := fun q => cells_left q.h (m3)
      have f4 : ∀ q : Cls (Stays (w)), q.w.cell? ⟨b, 4, none⟩ = some (.bool true) := fun q => cells_left q.h (m4)
      have f5 : ∀ q : Cls (Stays (w)), q.w.cell? ⟨N, 0, none⟩ = some (.bool n.a.v6) := fun q => cells_left q.h (n0)
      have f6 : ∀ q : Cls (Stays (w)), q.w.cell? ⟨N, 1, none⟩ = some (.int .u64 n.a.hi) := fun q => cells_left q.h (n1)
      have f7 : ∀ q : Cls (Stays (w)), q.w.cell? ⟨N, 2, none⟩ = some (.int .u64 n.a.lo) := fun q => cells_left q.h (n2)
      have f8 : ∀ q : Cls (Stays (w)), q.w.cell? ⟨N, 3, none⟩ = some (.int .i64 n.n) := fun q => cells_left q.h (n3)
      refine Cls.region (Stays (w)) (by kernel_rfl) (by kernel_rfl) (low_drewN (Below.refl _ _) 1) ?_
      repeat (go_big_quiet_step (first | fail))
      refine wpQuiet_nil ?_
      intro n9
      have hs9 := n9.h
      generalize n9.w = w9 at hs9 ⊢
      clear hne n9 f0 f1 f2 f3 f4 f5 f6 f7 f8
      go_wp2_with fail
      go_end0
      exact ⟨rfl, HE.out.symm ▸ HV.out.on hs9, HE.out.symm ▸ HK.out.on hs9, But.stays hs9⟩
def Tri.depth : Tri → Nat
  | .leaf => 0
  | .node _ _ _ z o => 1 + max z.depth o.depth
theorem over_node {a : Adr} {n : Net} {i : Bool} {x : Int} {z o : Tri} (h : hasN n a = true) : (Tri.node n i x z o).over a = tell n i x ++ (if bitA a n.n = 0 then z.over a else o.over a) := by
  rw [Tri.over, if_pos h]; rfl
theorem over_out {a : Adr} {n : Net} {i : Bool} {x : Int} {z o : Tri} (h : hasN n a = false) : (Tri.node n i x z o).over a = [] := by
  rw [Tri.over, if_neg (by rw [h]; simp)]
theorem step_tell (n m : Net) (i : Bool) (x : Int) (s : Int × Bool) : (tell m i x).foldl (pick n) s = step n m i x s := by
  cases i
  · rfl
  · show pick n s ⟨m, x⟩ = _
    unfold pick step
    cases h : sameN m n <;> rfl
def Sought (V K : Nat) (w : World) (s : Int × Bool) (e : Ending) (w' : World) : Prop := Got V K w s e w'
set_option maxHeartbeats 8000000 in
theorem follow_cover4 (b : Nat) (p0 p1 : Option Addr) (s : Int) (t0 t1 : Tri) (S : Nat → Prop) (a : Adr) (w : World) (C : Nat) (hCw : C < w.heap.size) (hC : Own w C 42 [.slice none 0 0]) (hlen : (t0.over a).length ≤ 1000000) (ha : a.ok) (ha6 : a.v6 = false) (hT : Top w b p0 p1 s) (hAt : At S w t0 p0) (hg : t0.good) (hS : ∀ b, S b → b < w.heap.size ∧ ¬ (Dc C (w.heap.size + 1)) b) :
    Calls Try.prog 23 #[.pointer (some ⟨b, 0, none⟩), .agg #[.bool a.v6, .int .u64 a.hi, .int .u64 a.lo], .func (.func 29) #[] #[.pointer (some ⟨C, 0, none⟩)]] w (Saw C (w.heap.size + 1) w (t0.over a)) := by
  have LOW : Below w.heap.size w (w.alloc (.cells #[.bool false, .int .u64 a.hi, .int .u64 a.lo] 25)) := (Below.refl _ _).alloc (Nat.le_refl _) _
  have HV6 := Lib.hid ha6
  rw [ha6]
  have hbt := hT.lt
  have TO := hT.on LOW
  have AG := Lib.hid (fun W (h : Stays (w.alloc (.cells #[.bool false, .int .u64 a.hi, .int .u64 a.lo] 25)) W) => again_any b p0 p1 s W (TO.on h))
  have KD : Hid (∀ W, Stays (w.alloc (.cells #[.bool false, .int .u64 a.hi, .int .u64 a.lo] 25)) W → Calls Try.prog 33 #[.agg #[.bool false, .int .u64 a.hi, .int .u64 a.lo]] W fun e w' => e = .returned (.int .i64 0) ∧ Below W.heap.size W w' ∧ Stays (w.alloc (.cells #[.bool false, .int .u64 a.hi, .int .u64 a.lo] 25)) w') := Lib.hid fun W h => by
    have := kind_any ⟨false, a.hi, a.lo⟩ W
    exact this.mono fun e w' ⟨he, hb⟩ => ⟨he, hb, low_trans h hb⟩
  have k0 : (w.alloc (.cells #[.bool false, .int .u64 a.hi, .int .u64 a.lo] 25)).cell? ⟨w.heap.size, 0, none⟩ = some (.bool false) := by simp [go_sem]
  have k1 : (w.alloc (.cells #[.bool false, .int .u64 a.hi, .int .u64 a.lo] 25)).cell? ⟨w.heap.size, 1, none⟩ = some (.int .u64 a.hi) := by simp [go_sem]
  have k2 : (w.alloc (.cells #[.bool false, .int .u64 a.hi, .int .u64 a.lo] 25)).cell? ⟨w.heap.size, 2, none⟩ = some (.int .u64 a.lo) := by simp [go_sem]
  have hs0 : Stays (w.alloc (.cells #[.bool false, .int .u64 a.hi, .int .u64 a.lo] 25)) (w.alloc (.cells #[.bool false, .int .u64 a.hi, .int .u64 a.lo] 25)).drew := low_drew (Below.refl _ _)
  have HST : Hid (∃ v pre, pre ++ t0.over a = t0.over a ∧ Own (w.alloc (.cells #[.bool false, .int .u64 a.hi, .int .u64 a.lo] 25)) C 42 [v] ∧ OwnT (w.heap.size + 1) (w.alloc (.cells #[.bool false, .int .u64 a.hi, .int .u64 a.lo] 25)) v pre) := Lib.hid ⟨_, [], rfl, hC.on LOW, World.ownsRow_nil _ _ _ _⟩
  clear hC
  have HAT := Lib.hid hAt
  have HG := Lib.hid hg
  have HS := Lib.hid hS
  clear hAt hg hS ha6 TO hT
  go_enter Try.func23, Try.ntmps23
  go_upto_region 1 with fail
  go_cut [6] (fun s6 wx => s6 = .pointer p0 ∧ Stays (w.alloc (.cells #[.bool false, .int .u64 a.hi, .int .u64 a.lo] 25)) wx)
  case first =>
    first
      | (go_region_with (first
          | (go_at_call 25; (with_reducible refine (AG.out _ (by assumption)).mono ?_); rintro e w8 ⟨g, rfl, hg8, ho8, hb8⟩; obtain ⟨hc8, hf8⟩ := old hb8; have g0 : w8.cell? ⟨g, 0, none⟩ = some (.pointer p0) := ho8.cell rfl; have g1 : w8.cell? ⟨g, 1, none⟩ = some (.pointer p1) := ho8.cell rfl; have glt : g < w8.heap.size := ho8.lt; have hs8 : Stays (w.alloc (.cells #[.bool false, .int .u64 a.hi, .int .u64 a.lo] 25)) w8 := low_trans (by assumption) hb8)
          | (go_at_call 33; (with_reducible refine (KD.out _ (by assumption)).mono ?_); rintro e w7 ⟨rfl, hb7, hs7⟩; obtain ⟨hc7, hf7⟩ := old hb7)))
      | fail
    all_goals
      go_wp2_with fail
      go_meet
      exact ⟨rfl, by assumption⟩
  case rest =>
    obtain ⟨rfl, hsx⟩ := hcut
    have hbox := Own.new w #[.bool false, .int .u64 a.hi, .int .u64 a.lo] 25
    have HB0 := Lib.hid (hbox.on hsx)
    have HZ0 := Lib.hid (show w.heap.size + 1 ≤ wc.heap.size by have := hsx.size; simpa using this)
    have HS0 : Hid (∃ v pre, pre ++ t0.over a = t0.over a ∧ Own wc C 42 [v] ∧ OwnT (w.heap.size + 1) wc v pre) := Lib.hid (by obtain ⟨v, pre, e1, hC, hl⟩ := HST.out; exact ⟨v, pre, e1, hC.on hsx, ownT_on hl hsx⟩)
    have HX0 := Lib.hid (low_trans LOW hsx)
    clear hsx hbox
    go_wp2_with fail
    go_loopg [6] (t0.depth) (fun k x wr => ∃ t p, x = .pointer p ∧ t.depth ≤ k ∧ Hid (At S wr t p ∧ t.good) ∧ Hid (But (Dc C (w.heap.size + 1)) w wr) ∧ Hid (Own wr w.heap.size 25 [.bool false, .int .u64 a.hi, .int .u64 a.lo]) ∧ Hid (w.heap.size + 1 ≤ wr.heap.size) ∧ Hid (∃ v pre, pre ++ t.over a = t0.over a ∧ Own wr C 42 [v] ∧ OwnT (w.heap.size + 1) wr v pre))
    case atStart => exact ⟨t0, p0, rfl, Nat.le_refl _, Lib.hid ⟨HAT.out.on HX0.out, HG.out⟩, Lib.hid (But.stays HX0.out), HB0, HZ0, HS0⟩
    case round =>
      obtain ⟨t, p, rfl, hd, HAG, HBUT, HBOX, HSZ, HST1⟩ := hrel
      have x0 : wr.cell? ⟨w.heap.size, 0, none⟩ = some (.bool false) := HBOX.out.cell rfl
      have x1 : wr.cell? ⟨w.heap.size, 1, none⟩ = some (.int .u64 a.hi) := HBOX.out.cell rfl
      have x2 : wr.cell? ⟨w.heap.size, 2, none⟩ = some (.int .u64 a.lo) := HBOX.out.cell rfl
      cases t with
      | leaf =>
        have e : p = none := HAG.out.1
        subst e
        go_wp2_with fail
        have hne : Nonempty (Cls (Stays (wr))) := ⟨⟨_, Below.refl _ _⟩⟩
        have f0 : ∀ q : Cls (Stays (wr)), q.w.cell? ⟨w.heap.size, 0, none⟩ = some (.bool false) := fun q => cells_left q.h (x0)
        have f1 : ∀ q : Cls (Stays (wr)), q.w.cell? ⟨w.heap.size, 1, none⟩ = some (.int .u64 a.hi) := fun q => cells_left q.h (x1)
        have f2 : ∀ q : Cls (Stays (wr)), q.w.cell? ⟨w.heap.size, 2, none⟩ = some (.int .u64 a.lo) := fun q => cells_left q.h (x2)
        refine Cls.region (Stays (wr)) (by kernel_rfl) (by kernel_rfl) (low_drewN (Below.refl _ _) 1) ?_
        repeat (go_big_quiet_step (first | fail))
        refine wpQuiet_nil ?_
        intro n9
        have hs9 := n9.h
        generalize n9.w = w9 at hs9 ⊢
        clear hne n9 f0 f1 f2
        go_wp2_with fail
        go_end0
        have h9 : But (Dc C (w.heap.size + 1)) w w9 := HBUT.out.trans (But.stays hs9)
        have e0 : (Tri.leaf).over a = [] := rfl
        obtain ⟨v, pre, e1, hC, hl⟩ := HST1.out
        rw [e0, List.append_nil] at e1
        exact ⟨rfl, v, hC.on hs9, e1 ▸ ownT_on hl hs9, h9⟩
      | node m i x z o =>
        obtain ⟨⟨d, pz, po, e, hsb, hN, hz, ho⟩, hm, hx, h0, h1, g0, g1⟩ := HAG.out
        subst e
        have m0 := hN.c0
        have m1 := hN.c1
        have m2 := hN.c2
        have m3 := hN.c3
        cases hh : hasN m a
        · have K1 : Hid (∀ W0, Stays wr W0 → Calls Try.prog 39 #[.agg #[.bool m.a.v6, .int .u64 m.a.hi, .int .u64 m.a.lo, .int .i64 m.n], .agg #[.bool false, .int .u64 a.hi, .int .u64 a.lo]] W0 fun e w' => e = .returned (.bool false) ∧ Stays wr w') := Lib.hid (keep_call fun W0 => by have := has_any m a W0 hm.ok ha; rw [HV6.out, hh] at this; exact this)
          have e0 := Lib.hid (over_out (i := i) (x := x) (z := z) (o := o) hh)
          clear hh hN hz ho hx h0 h1 g0 g1
          go_wp2_with fail
          have hne : Nonempty (Cls (Stays (wr))) := ⟨⟨_, Below.refl _ _⟩⟩
          have f0 : ∀ q : Cls (Stays (wr)), q.w.cell? ⟨w.heap.size, 0, none⟩ = some (.bool false) := fun q => cells_left q.h (x0)
          have f1 : ∀ q : Cls (Stays (wr)), q.w.cell? ⟨w.heap.size, 1, none⟩ = some (.int .u64 a.hi) := fun q => cells_left q.h (x1)
          have f2 : ∀ q : Cls (Stays (wr)), q.w.cell? ⟨w.heap.size, 2, none⟩ = some (.int .u64 a.lo) := fun q => cells_left q.h (x2)
          have f3 : ∀ q : Cls (Stays (wr)), q.w.cell? ⟨d, 0, none⟩ = some (.bool m.a.v6) := fun q => cells_left q.h (m0)
          have f4 : ∀ q : Cls (Stays (wr)), q.w.cell? ⟨d, 1, none⟩ = some (.int .u64 m.a.hi) := fun q => cells_left q.h (m1)
          have f5 : ∀ q : Cls (Stays (wr)), q.w.cell? ⟨d, 2, none⟩ = some (.int .u64 m.a.lo) := fun q => cells_left q.h (m2)
          have f6 : ∀ q : Cls (Stays (wr)), q.w.cell? ⟨d, 3, none⟩ = some (.int .i64 m.n) := fun q => cells_left q.h (m3)
          refine Cls.region (Stays (wr)) (by kernel_rfl) (by kernel_rfl) (low_drewN (Below.refl _ _) 1) ?_
          repeat (go_big_quiet_step (first | fail | (with_reducible exact Cls.call (K1.out _ (Cls.h _)))))
          refine wpQuiet_nil ?_
          intro n9
          have hs9 := n9.h
          generalize n9.w = w9 at hs9 ⊢
          clear hne n9 f0 f1 f2 f3 f4 f5 f6
          go_wp2_with fail
          go_end0
          have h9 : But (Dc C (w.heap.size + 1)) w w9 := HBUT.out.trans (But.stays hs9)
          have e0 := e0.out
          obtain ⟨v, pre, e1, hC, hl⟩ := HST1.out
          rw [e0, List.append_nil] at e1
          exact ⟨rfl, v, hC.on hs9, e1 ▸ ownT_on hl hs9, h9⟩
        · have K1 : Hid (∀ W0, Stays wr W0 → Calls Try.prog 39 #[.agg #[.bool m.a.v6, .int .u64 m.a.hi, .int .u64 m.a.lo, .int .i64 m.n], .agg #[.bool false, .int .u64 a.hi, .int .u64 a.lo]] W0 fun e w' => e = .returned (.bool true) ∧ Stays wr w') := Lib.hid (keep_call fun W0 => by have := has_any m a W0 hm.ok ha; rw [HV6.out, hh] at this; exact this)
          have e0 := Lib.hid (over_node (i := i) (x := x) (z := z) (o := o) hh)
          have HN := Lib.hid hN
          have HZ := Lib.hid hz
          have HO := Lib.hid ho
          have HGG := Lib.hid (And.intro g0 g1)
          have HM := Lib.hid hm
          have hS2 := (HS.out d hsb).2
          have HSD := Lib.hid hS2
          clear hh hN hz ho hx h0 h1 g0 g1 hS2
          go_wp2_with fail
          have hne : Nonempty (Cls (Stays (wr))) := ⟨⟨_, Below.refl _ _⟩⟩
          have f0 : ∀ q : Cls (Stays (wr)), q.w.cell? ⟨w.heap.size, 0, none⟩ = some (.bool false) := fun q => cells_left q.h (x0)
          have f1 : ∀ q : Cls (Stays (wr)), q.w.cell? ⟨w.heap.size, 1, none⟩ = some (.int .u64 a.hi) := fun q => cells_left q.h (x1)
          have f2 : ∀ q : Cls (Stays (wr)), q.w.cell? ⟨w.heap.size, 2, none⟩ = some (.int .u64 a.lo) := fun q => cells_left q.h (x2)
          have f3 : ∀ q : Cls (Stays (wr)), q.w.cell? ⟨d, 0, none⟩ = some (.bool m.a.v6) := fun q => cells_left q.h (m0)
          have f4 : ∀ q : Cls (Stays (wr)), q.w.cell? ⟨d, 1, none⟩ = some (.int .u64 m.a.hi) := fun q => cells_left q.h (m1)
          have f5 : ∀ q : Cls (Stays (wr)), q.w.cell? ⟨d, 2, none⟩ = some (.int .u64 m.a.lo) := fun q => cells_left q.h (m2)
          have f6 : ∀ q : Cls (Stays (wr)), q.w.cell? ⟨d, 3, none⟩ = some (.int .i64 m.n) := fun q => cells_left q.h (m3)
          refine Cls.region (Stays (wr)) (by kernel_rfl) (by kernel_rfl) (low_drewN (Below.refl _ _) 1) ?_
          repeat (go_big_quiet_step (first | fail | (with_reducible exact Cls.call (K1.out _ (Cls.h _)))))
          refine wpQuiet_nil ?_
          intro n9
          have hs9 := n9.h
          generalize n9.w = w9 at hs9 ⊢
          clear hne n9 f0 f1 f2 f3 f4 f5 f6
          go_wp2_with fail
          obtain ⟨v, pre, e1, hC, hl⟩ := HST1.out
          rw [e0.out, ← List.append_assoc] at e1
          have hpl : pre.length ≤ 1000000 := by have := congrArg List.length e1; simp only [List.length_append] at this; omega
          have T1 := Lib.hid (cover1_any d C (w.heap.size + 1) m i x pz po v pre w9 (HN.out.on hs9) (hC.on hs9) (ownT_on hl hs9) hpl (Nat.le_trans HSZ.out hs9.size) (by omega))
          have E1 := Lib.hid e1
          clear hC hl e1 hpl
          ((with_reducible refine (T1.out).mono ?_); rintro e w10 ⟨rfl, v', hC, hl, hb'⟩)
          have HC10 := Lib.hid hC
          have HL10 := Lib.hid hl
          clear hC hl
          have HB10 := Lib.hid (show But (Dc C (w.heap.size + 1)) w w10 from (HBUT.out.trans (But.stays hs9)).trans hb')
          have HBX : Hid (Own w10 w.heap.size 25 [.bool false, .int .u64 a.hi, .int .u64 a.lo]) := Lib.hid ((HBOX.out.on hs9).but hb' (fun h => h.elim (fun h => by omega) (fun h => by omega)))
          have HN10 := Lib.hid ((HN.out.on hs9).but hb' HSD.out)
          have HZ10 := Lib.hid ((HZ.out.on hs9).but hb' fun b hb => (HS.out b hb).2)
          have HO10 := Lib.hid ((HO.out.on hs9).but hb' fun b hb => (HS.out b hb).2)
          have HSZ10 := Lib.hid (show w.heap.size + 1 ≤ w10.heap.size by have := HSZ.out; have := hs9.size; have := hb'.size; omega)
          have c3 : w10.cell? ⟨d, 3, none⟩ = some (.int .i64 m.n) := HN10.out.c3
          have c6 : w10.cell? ⟨d, 6, none⟩ = some (.pointer pz) := HN10.out.c6
          have c7 : w10.cell? ⟨d, 7, none⟩ = some (.pointer po) := HN10.out.c7
          have y0 : w10.cell? ⟨w.heap.size, 0, none⟩ = some (.bool false) := HBX.out.cell rfl
          have y1 : w10.cell? ⟨w.heap.size, 1, none⟩ = some (.int .u64 a.hi) := HBX.out.cell rfl
          have y2 : w10.cell? ⟨w.heap.size, 2, none⟩ = some (.int .u64 a.lo) := HBX.out.cell rfl
          clear hb' m0 m1 m2 m3 x0 x1 x2 hs9
          rcases bitA_two a m.n with hb | hb
          · have K2 : Hid (∀ W0, Stays w10 W0 → Calls Try.prog 40 #[.pointer (some ⟨d, 0, none⟩), .agg #[.bool false, .int .u64 a.hi, .int .u64 a.lo]] W0 fun e w' => e = .returned (.int .i64 0) ∧ Stays w10 w') := Lib.hid fun W0 h => by
              have := half_any d m a W0 (cells_left h c3) HM.out.ok ha
              rw [HV6.out, hb] at this
              exact this.mono fun e w' ⟨he, hb2⟩ => ⟨he, low_trans h hb2⟩
            have hbz : Hid (bitA a m.n = 0) := Lib.hid hb
            clear hb
            go_wp2_with fail
            have hne : Nonempty (Cls (Stays (w10))) := ⟨⟨_, Below.refl _ _⟩⟩
            have f0 : ∀ q : Cls (Stays (w10)), q.w.cell? ⟨w.heap.size, 0, none⟩ = some (.bool false) := fun q => cells_left q.h (y0)
            have f1 : ∀ q : Cls (Stays (w10)), q.w.cell? ⟨w.heap.size, 1, none⟩ = some (.int .u64 a.hi) := fun q => cells_left q.h (y1)
            have f2 : ∀ q : Cls (Stays (w10)), q.w.cell? ⟨w.heap.size, 2, none⟩ = some (.int .u64 a.lo) := fun q => cells_left q.h (y2)
            have f3 : ∀ q : Cls (Stays (w10)), q.w.cell? ⟨d, 6, none⟩ = some (.pointer pz) := fun q => cells_left q.h (c6)
            have f4 : ∀ q : Cls (Stays (w10)), q.w.cell? ⟨d, 7, none⟩ = some (.pointer po) := fun q => cells_left q.h (c7)
            refine Cls.region (Stays (w10)) (by kernel_rfl) (by kernel_rfl) (low_drewN (Below.refl _ _) 1) ?_
            repeat (go_big_quiet_step (first | fail | (with_reducible exact Cls.call (K2.out _ (Cls.h _)))))
            refine wpQuiet_nil ?_
            intro n9
            have hs11 := n9.h
            generalize n9.w = w11 at hs11 ⊢
            clear hne n9 f0 f1 f2 f3 f4
            go_wp2_with fail
            go_roundg (z.depth)
            case measure => simp only [Tri.depth] at hd; omega
            case rel =>
              have hb := hbz.out
              exact ⟨z, pz, rfl, Nat.le_refl _, Lib.hid ⟨HZ10.out.on hs11, HGG.out.1⟩, Lib.hid (HB10.out.trans (But.stays hs11)), Lib.hid (HBX.out.on hs11), Lib.hid (Nat.le_trans HSZ10.out hs11.size), Lib.hid ⟨v', pre ++ tell m i x, by have := E1.out; rwa [if_pos hb] at this, HC10.out.on hs11, ownT_on HL10.out hs11⟩⟩
          · have K2 : Hid (∀ W0, Stays w10 W0 → Calls Try.prog 40 #[.pointer (some ⟨d, 0, none⟩), .agg #[.bool false, .int .u64 a.hi, .int .u64 a.lo]] W0 fun e w' => e = .returned (.int .i64 1) ∧ Stays w10 w') := Lib.hid fun W0 h => by
              have := half_any d m a W0 (cells_left h c3) HM.out.ok ha
              rw [HV6.out, hb] at this
              exact this.mono fun e w' ⟨he, hb2⟩ => ⟨he, low_trans h hb2⟩
            have hbz : Hid (¬ bitA a m.n = 0) := Lib.hid (by omega)
            clear hb
            go_wp2_with fail
            have hne : Nonempty (Cls (Stays (w10))) := ⟨⟨_, Below.refl _ _⟩⟩
            have f0 : ∀ q : Cls (Stays (w10)), q.w.cell? ⟨w.heap.size, 0, none⟩ = some (.bool false) := fun q => cells_left q.h (y0)
            have f1 : ∀ q : Cls (Stays (w10)), q.w.cell? ⟨w.heap.size, 1, none⟩ = some (.int .u64 a.hi) := fun q => cells_left q.h (y1)
            have f2 : ∀ q : Cls (Stays (w10)), q.w.cell? ⟨w.heap.size, 2, none⟩ = some (.int .u64 a.lo) := fun q => cells_left q.h (y2)
            have f3 : ∀ q : Cls (Stays (w10)), q.w.cell? ⟨d, 6, none⟩ = some (.pointer pz) := fun q => cells_left q.h (c6)
            have f4 : ∀ q : Cls (Stays (w10)), q.w.cell? ⟨d, 7, none⟩ = some (.pointer po) := fun q => cells_left q.h (c7)
            refine Cls.region (Stays (w10)) (by kernel_rfl) (by kernel_rfl) (low_drewN (Below.refl _ _) 1) ?_
            repeat (go_big_quiet_step (first | fail | (with_reducible exact Cls.call (K2.out _ (Cls.h _)))))
            refine wpQuiet_nil ?_
            intro n9
            have hs11 := n9.h
            generalize n9.w = w11 at hs11 ⊢
            clear hne n9 f0 f1 f2 f3 f4
            go_wp2_with fail
            go_roundg (o.depth)
            case measure => simp only [Tri.depth] at hd; omega
            case rel =>
              have hb := hbz.out
              exact ⟨o, po, rfl, Nat.le_refl _, Lib.hid ⟨HO10.out.on hs11, HGG.out.2⟩, Lib.hid (HB10.out.trans (But.stays hs11)), Lib.hid (HBX.out.on hs11), Lib.hid (Nat.le_trans HSZ10.out hs11.size), Lib.hid ⟨v', pre ++ tell m i x, by have := E1.out; rwa [if_neg hb] at this, HC10.out.on hs11, ownT_on HL10.out hs11⟩⟩
set_option maxHeartbeats 8000000 in
theorem follow_cover6 (b : Nat) (p0 p1 : Option Addr) (s : Int) (t0 t1 : Tri) (S : Nat → Prop) (a : Adr) (w : World) (C : Nat) (hCw : C < w.heap.size) (hC : Own w C 42 [.slice none 0 0]) (hlen : (t1.over a).length ≤ 1000000) (ha : a.ok) (ha6 : a.v6 = true) (hT : Top w b p0 p1 s) (hAt : At S w t1 p1) (hg : t1.good) (hS : ∀ b, S b → b < w.heap.size ∧ ¬ (Dc C (w.heap.size + 1)) b) :
    Calls Try.prog 23 #[.pointer (some ⟨b, 0, none⟩), .agg #[.bool a.v6, .int .u64 a.hi, .int .u64 a.lo], .func (.func 29) #[] #[.pointer (some ⟨C, 0, none⟩)]] w (Saw C (w.heap.size + 1) w (t1.over a)) := by
  have LOW : Below w.heap.size w (w.alloc (.cells #[.bool true, .int .u64 a.hi, .int .u64 a.lo] 25)) := (Below.refl _ _).alloc (Nat.le_refl _) _
  have HV6 := Lib.hid ha6
  rw [ha6]
  have hbt := hT.lt
  have TO := hT.on LOW
  have AG := Lib.hid (fun W (h : Stays (w.alloc (.cells #[.bool true, .int .u64 a.hi, .int .u64 a.lo] 25)) W) => again_any b p0 p1 s W (TO.on h))
  have KD : Hid (∀ W, Stays (w.alloc (.cells #[.bool true, .int .u64 a.hi, .int .u64 a.lo] 25)) W → Calls Try.prog 33 #[.agg #[.bool true, .int .u64 a.hi, .int .u64 a.lo]] W fun e w' => e = .returned (.int .i64 1) ∧ Below W.heap.size W w' ∧ Stays (w.alloc (.cells #[.bool true, .int .u64 a.hi, .int .u64 a.lo] 25)) w') := Lib.hid fun W h => by
    have := kind_any ⟨true, a.hi, a.lo⟩ W
    exact this.mono fun e w' ⟨he, hb⟩ => ⟨he, hb, low_trans h hb⟩
  have k0 : (w.alloc (.cells #[.bool true, .int .u64 a.hi, .int .u64 a.lo] 25)).cell? ⟨w.heap.size, 0, none⟩ = some (.bool true) := by simp [go_sem]
  have k1 : (w.alloc (.cells #[.bool true, .int .u64 a.hi, .int .u64 a.lo] 25)).cell? ⟨w.heap.size, 1, none⟩ = some (.int .u64 a.hi) := by simp [go_sem]
  have k2 : (w.alloc (.cells #[.bool true, .int .u64 a.hi, .int .u64 a.lo] 25)).cell? ⟨w.heap.size, 2, none⟩ = some (.int .u64 a.lo) := by simp [go_sem]
  have hs0 : Stays (w.alloc (.cells #[.bool true, .int .u64 a.hi, .int .u64 a.lo] 25)) (w.alloc (.cells #[.bool true, .int .u64 a.hi, .int .u64 a.lo] 25)).drew := low_drew (Below.refl _ _)
  have HST : Hid (∃ v pre, pre ++ t1.over a = t1.over a ∧ Own (w.alloc (.cells #[.bool true, .int .u64 a.hi, .int .u64 a.lo] 25)) C 42 [v] ∧ OwnT (w.heap.size + 1) (w.alloc (.cells #[.bool true, .int .u64 a.hi, .int .u64 a.lo] 25)) v pre) := Lib.hid ⟨_, [], rfl, hC.on LOW, World.ownsRow_nil _ _ _ _⟩
  clear hC
  have HAT := Lib.hid hAt
  have HG := Lib.hid hg
  have HS := Lib.hid hS
  clear hAt hg hS ha6 TO hT
  go_enter Try.func23, Try.ntmps23
  go_upto_region 1 with fail
  go_cut [6] (fun s6 wx => s6 = .pointer p1 ∧ Stays (w.alloc (.cells #[.bool true, .int .u64 a.hi, .int .u64 a.lo] 25)) wx)
  case first =>
    first
      | (go_region_with (first
          | (go_at_call 25; (with_reducible refine (AG.out _ (by assumption)).mono ?_); rintro e w8 ⟨g, rfl, hg8, ho8, hb8⟩; obtain ⟨hc8, hf8⟩ := old hb8; have g0 : w8.cell? ⟨g, 0, none⟩ = some (.pointer p0) := ho8.cell rfl; have g1 : w8.cell? ⟨g, 1, none⟩ = some (.pointer p1) := ho8.cell rfl; have glt : g < w8.heap.size := ho8.lt; have hs8 : Stays (w.alloc (.cells #[.bool true, .int .u64 a.hi, .int .u64 a.lo] 25)) w8 := low_trans (by assumption) hb8)
          | (go_at_call 33; (with_reducible refine (KD.out _ (by assumption)).mono ?_); rintro e w7 ⟨rfl, hb7, hs7⟩; obtain ⟨hc7, hf7⟩ := old hb7)))
      | fail
    all_goals
      go_wp2_with fail
      go_meet
      exact ⟨rfl, by assumption⟩
  case rest =>
    obtain ⟨rfl, hsx⟩ := hcut
    have hbox := Own.new w #[.bool true, .int .u64 a.hi, .int .u64 a.lo] 25
    have HB0 := Lib.hid (hbox.on hsx)
    have HZ0 := Lib.hid (show w.heap.size + 1 ≤ wc.heap.size by have := hsx.size; simpa using this)
    have HS0 : Hid (∃ v pre, pre ++ t1.over a = t1.over a ∧ Own wc C 42 [v] ∧ OwnT (w.heap.size + 1) wc v pre) := Lib.hid (by obtain ⟨v, pre, e1, hC, hl⟩ := HST.out; exact ⟨v, pre, e1, hC.on hsx, ownT_on hl hsx⟩)
    have HX0 := Lib.hid (low_trans LOW hsx)
    clear hsx hbox
    go_wp2_with fail
    go_loopg [6] (t1.depth) (fun k x wr => ∃ t p, x = .pointer p ∧ t.depth ≤ k ∧ Hid (At S wr t p ∧ t.good) ∧ Hid (But (Dc C (w.heap.size + 1)) w wr) ∧ Hid (Own wr w.heap.size 25 [.bool true, .int .u64 a.hi, .int .u64 a.lo]) ∧ Hid (w.heap.size + 1 ≤ wr.heap.size) ∧ Hid (∃ v pre, pre ++ t.over a = t1.over a ∧ Own wr C 42 [v] ∧ OwnT (w.heap.size + 1) wr v pre))
    case atStart => exact ⟨t1, p1, rfl, Nat.le_refl _, Lib.hid ⟨HAT.out.on HX0.out, HG.out⟩, Lib.hid (But.stays HX0.out), HB0, HZ0, HS0⟩
    case round =>
      obtain ⟨t, p, rfl, hd, HAG, HBUT, HBOX, HSZ, HST1⟩ := hrel
      have x0 : wr.cell? ⟨w.heap.size, 0, none⟩ = some (.bool true) := HBOX.out.cell rfl
      have x1 : wr.cell? ⟨w.heap.size, 1, none⟩ = some (.int .u64 a.hi) := HBOX.out.cell rfl
      have x2 : wr.cell? ⟨w.heap.size, 2, none⟩ = some (.int .u64 a.lo) := HBOX.out.cell rfl
      cases t with
      | leaf =>
        have e : p = none := HAG.out.1
        subst e
        go_wp2_with fail
        have hne : Nonempty (Cls (Stays (wr))) := ⟨⟨_, Below.refl _ _⟩⟩
        have f0 : ∀ q : Cls (Stays (wr)), q.w.cell? ⟨w.heap.size, 0, none⟩ = some (.bool true) := fun q => cells_left q.h (x0)
        have f1 : ∀ q : Cls (Stays (wr)), q.w.cell? ⟨w.heap.size, 1, none⟩ = some (.int .u64 a.hi) := fun q => cells_left q.h (x1)
        have f2 : ∀ q : Cls (Stays (wr)), q.w.cell? ⟨w.heap.size, 2, none⟩ = some (.int .u64 a.lo) := fun q => cells_left q.h (x2)
        refine Cls.region (Stays (wr)) (by kernel_rfl) (by kernel_rfl) (low_drewN (Below.refl _ _) 1) ?_
        repeat (go_big_quiet_step (first | fail))
        refine wpQuiet_nil ?_
        intro n9
        have hs9 := n9.h
        generalize n9.w = w9 at hs9 ⊢
        clear hne n9 f0 f1 f2
        go_wp2_with fail
        go_end0
        have h9 : But (Dc C (w.heap.size + 1)) w w9 := HBUT.out.trans (But.stays hs9)
        have e0 : (Tri.leaf).over a = [] := rfl
        obtain ⟨v, pre, e1, hC, hl⟩ := HST1.out
        rw [e0, List.append_nil] at e1
        exact ⟨rfl, v, hC.on hs9, e1 ▸ ownT_on hl hs9, h9⟩
      | node m i x z o =>
        obtain ⟨⟨d, pz, po, e, hsb, hN, hz, ho⟩, hm, hx, h0, h1, g0, g1⟩ := HAG.out
        subst e
        have m0 := hN.c0
        have m1 := hN.c1
        have m2 := hN.c2
        have m3 := hN.c3
        cases hh : hasN m a
        · have K1 : Hid (∀ W0, Stays wr W0 → Calls Try.prog 39 #[.agg #[.bool m.a.v6, .int .u64 m.a.hi, .int .u64 m.a.lo, .int .i64 m.n], .agg #[.bool true, .int .u64 a.hi, .int .u64 a.lo]] W0 fun e w' => e = .returned (.bool false) ∧ Stays wr w') := Lib.hid (keep_call fun W0 => by have := has_any m a W0 hm.ok ha; rw [HV6.out, hh] at this; exact this)
          have e0 := Lib.hid (over_out (i := i) (x := x) (z := z) (o := o) hh)
          clear hh hN hz ho hx h0 h1 g0 g1
          go_wp2_with fail
          have hne : Nonempty (Cls (Stays (wr))) := ⟨⟨_, Below.refl _ _⟩⟩
          have f0 : ∀ q : Cls (Stays (wr)), q.w.cell? ⟨w.heap.size, 0, none⟩ = some (.bool true) := fun q => cells_left q.h (x0)
          have f1 : ∀ q : Cls (Stays (wr)), q.w.cell? ⟨w.heap.size, 1, none⟩ = some (.int .u64 a.hi) := fun q => cells_left q.h (x1)
          have f2 : ∀ q : Cls (Stays (wr)), q.w.cell? ⟨w.heap.size, 2, none⟩ = some (.int .u64 a.lo) := fun q => cells_left q.h (x2)
          have f3 : ∀ q : Cls (Stays (wr)), q.w.cell? ⟨d, 0, none⟩ = some (.bool m.a.v6) := fun q => cells_left q.h (m0)
          have f4 : ∀ q : Cls (Stays (wr)), q.w.cell? ⟨d, 1, none⟩ = some (.int .u64 m.a.hi) := fun q => cells_left q.h (m1)
          have f5 : ∀ q : Cls (Stays (wr)), q.w.cell? ⟨d, 2, none⟩ = some (.int .u64 m.a.lo) := fun q => cells_left q.h (m2)
          have f6 : ∀ q : Cls (Stays (wr)), q.w.cell? ⟨d, 3, none⟩ = some (.int .i64 m.n) := fun q => cells_left q.h (m3)
          refine Cls.region (Stays (wr)) (by kernel_rfl) (by kernel_rfl) (low_drewN (Below.refl _ _) 1) ?_
          repeat (go_big_quiet_step (first | fail | (with_reducible exact Cls.call (K1.out _ (Cls.h _)))))
          refine wpQuiet_nil ?_
          intro n9
          have hs9 := n9.h
          generalize n9.w = w9 at hs9 ⊢
          clear hne n9 f0 f1 f2 f3 f4 f5 f6
          go_wp2_with fail
          go_end0
          have h9 : But (Dc C (w.heap.size + 1)) w w9 := HBUT.out.trans (But.stays hs9)
          have e0 := e0.out
          obtain ⟨v, pre, e1, hC, hl⟩ := HST1.out
          rw [e0, List.append_nil] at e1
          exact ⟨rfl, v, hC.on hs9, e1 ▸ ownT_on hl hs9, h9⟩
        · have K1 : Hid (∀ W0, Stays wr W0 → Calls Try.prog 39 #[.agg #[.bool m.a.v6, .int .u64 m.a.hi, .int .u64 m.a.lo, .int .i64 m.n], .agg #[.bool true, .int .u64 a.hi, .int .u64 a.lo]] W0 fun e w' => e = .returned (.bool true) ∧ Stays wr w') := Lib.hid (keep_call fun W0 => by have := has_any m a W0 hm.ok ha; rw [HV6.out, hh] at this; exact this)
          have e0 := Lib.hid (over_node (i := i) (x := x) (z := z) (o := o) hh)
          have HN := Lib.hid hN
          have HZ := Lib.hid hz
          have HO := Lib.hid ho
          have HGG := Lib.hid (And.intro g0 g1)
          have HM := Lib.hid hm
          have hS2 := (HS.out d hsb).2
          have HSD := Lib.hid hS2
          clear hh hN hz ho hx h0 h1 g0 g1 hS2
          go_wp2_with fail
          have hne : Nonempty (Cls (Stays (wr))) := ⟨⟨_, Below.refl _ _⟩⟩
          have f0 : ∀ q : Cls (Stays (wr)), q.w.cell? ⟨w.heap.size, 0, none⟩ = some (.bool true) := fun q => cells_left q.h (x0)
          have f1 : ∀ q : Cls (Stays (wr)), q.w.cell? ⟨w.heap.size, 1, none⟩ = some (.int .u64 a.hi) := fun q => cells_left q.h (x1)
          have f2 : ∀ q : Cls (Stays (wr)), q.w.cell? ⟨w.heap.size, 2, none⟩ = some (.int .u64 a.lo) := fun q => cells_left q.h (x2)
          have f3 : ∀ q : Cls (Stays (wr)), q.w.cell? ⟨d, 0, none⟩ = some (.bool m.a.v6) := fun q => cells_left q.h (m0)
          have f4 : ∀ q : Cls (Stays (wr)), q.w.cell? ⟨d, 1, none⟩ = some (.int .u64 m.a.hi) := fun q => cells_left q.h (m1)
          have f5 : ∀ q : Cls (Stays (wr)), q.w.cell? ⟨d, 2, none⟩ = some (.int .u64 m.a.lo) := fun q => cells_left q.h (m2)
          have f6 : ∀ q : Cls (Stays (wr)), q.w.cell? ⟨d, 3, none⟩ = some (.int .i64 m.n) := fun q => cells_left q.h (m3)
          refine Cls.region (Stays (wr)) (by kernel_rfl) (by kernel_rfl) (low_drewN (Below.refl _ _) 1) ?_
          repeat (go_big_quiet_step (first | fail | (with_reducible exact Cls.call (K1.out _ (Cls.h _)))))
          refine wpQuiet_nil ?_
          intro n9
          have hs9 := n9.h
          generalize n9.w = w9 at hs9 ⊢
          clear hne n9 f0 f1 f2 f3 f4 f5 f6
          go_wp2_with fail
          obtain ⟨v, pre, e1, hC, hl⟩ := HST1.out
          rw [e0.out, ← List.append_assoc] at e1
          have hpl : pre.length ≤ 1000000 := by have := congrArg List.length e1; simp only [List.length_append] at this; omega
          have T1 := Lib.hid (cover1_any d C (w.heap.size + 1) m i x pz po v pre w9 (HN.out.on hs9) (hC.on hs9) (ownT_on hl hs9) hpl (Nat.le_trans HSZ.out hs9.size) (by omega))
          have E1 := Lib.hid e1
          clear hC hl e1 hpl
          ((with_reducible refine (T1.out).mono ?_); rintro e w10 ⟨rfl, v', hC, hl, hb'⟩)
          have HC10 := Lib.hid hC
          have HL10 := Lib.hid hl
          clear hC hl
          have HB10 := Lib.hid (show But (Dc C (w.heap.size + 1)) w w10 from (HBUT.out.trans (But.stays hs9)).trans hb')
          have HBX : Hid (Own w10 w.heap.size 25 [.bool true, .int .u64 a.hi, .int .u64 a.lo]) := Lib.hid ((HBOX.out.on hs9).but hb' (fun h => h.elim (fun h => by omega) (fun h => by omega)))
          have HN10 := Lib.hid ((HN.out.on hs9).but hb' HSD.out)
          have HZ10 := Lib.hid ((HZ.out.on hs9).but hb' fun b hb => (HS.out b hb).2)
          have HO10 := Lib.hid ((HO.out.on hs9).but hb' fun b hb => (HS.out b hb).2)
          have HSZ10 := Lib.hid (show w.heap.size + 1 ≤ w10.heap.size by have := HSZ.out; have := hs9.size; have := hb'.size; omega)
          have c3 : w10.cell? ⟨d, 3, none⟩ = some (.int .i64 m.n) := HN10.out.c3
          have c6 : w10.cell? ⟨d, 6, none⟩ = some (.pointer pz) := HN10.out.c6
          have c7 : w10.cell? ⟨d, 7, none⟩ = some (.pointer po) := HN10.out.c7
          have y0 : w10.cell? ⟨w.heap.size, 0, none⟩ = some (.bool true) := HBX.out.cell rfl
          have y1 : w10.cell? ⟨w.heap.size, 1, none⟩ = some (.int .u64 a.hi) := HBX.out.cell rfl
          have y2 : w10.cell? ⟨w.heap.size, 2, none⟩ = some (.int .u64 a.lo) := HBX.out.cell rfl
          clear hb' m0 m1 m2 m3 x0 x1 x2 hs9
          rcases bitA_two a m.n with hb | hb
          · have K2 : Hid (∀ W0, Stays w10 W0 → Calls Try.prog 40 #[.pointer (some ⟨d, 0, none⟩), .agg #[.bool true, .int .u64 a.hi, .int .u64 a.lo]] W0 fun e w' => e = .returned (.int .i64 0) ∧ Stays w10 w') := Lib.hid fun W0 h => by
              have := half_any d m a W0 (cells_left h c3) HM.out.ok ha
              rw [HV6.out, hb] at this
              exact this.mono fun e w' ⟨he, hb2⟩ => ⟨he, low_trans h hb2⟩
            have hbz : Hid (bitA a m.n = 0) := Lib.hid hb
            clear hb
            go_wp2_with fail
            have hne : Nonempty (Cls (Stays (w10))) := ⟨⟨_, Below.refl _ _⟩⟩
            have f0 : ∀ q : Cls (Stays (w10)), q.w.cell? ⟨w.heap.size, 0, none⟩ = some (.bool true) := fun q => cells_left q.h (y0)
            have f1 : ∀ q : Cls (Stays (w10)), q.w.cell? ⟨w.heap.size, 1, none⟩ = some (.int .u64 a.hi) := fun q => cells_left q.h (y1)
            have f2 : ∀ q : Cls (Stays (w10)), q.w.cell? ⟨w.heap.size, 2, none⟩ = some (.int .u64 a.lo) := fun q => cells_left q.h (y2)
            have f3 : ∀ q : Cls (Stays (w10)), q.w.cell? ⟨d, 6, none⟩ = some (.pointer pz) := fun q => cells_left q.h (c6)
            have f4 : ∀ q : Cls (Stays (w10)), q.w.cell? ⟨d, 7, none⟩ = some (.pointer po) := fun q => cells_left q.h (c7)
            refine Cls.region (Stays (w10)) (by kernel_rfl) (by kernel_rfl) (low_drewN (Below.refl _ _) 1) ?_
            repeat (go_big_quiet_step (first | fail | (with_reducible exact Cls.call (K2.out _ (Cls.h _)))))
            refine wpQuiet_nil ?_
            intro n9
            have hs11 := n9.h
            generalize n9.w = w11 at hs11 ⊢
            clear hne n9 f0 f1 f2 f3 f4
            go_wp2_with fail
            go_roundg (z.depth)
            case measure => simp only [Tri.depth] at hd; omega
            case rel =>
              have hb := hbz.out
              exact ⟨z, pz, rfl, Nat.le_refl _, Lib.hid ⟨HZ10.out.on hs11, HGG.out.1⟩, Lib.hid (HB10.out.trans (But.stays hs11)), Lib.hid (HBX.out.on hs11), Lib.hid (Nat.le_trans HSZ10.out hs11.size), Lib.hid ⟨v', pre ++ tell m i x, by have := E1.out; rwa [if_pos hb] at this, HC10.out.on hs11, ownT_on HL10.out hs11⟩⟩
          · have K2 : Hid (∀ W0, Stays w10 W0 → Calls Try.prog 40 #[.pointer (some ⟨d, 0, none⟩), .agg #[.bool true, .int .u64 a.hi, .int .u64 a.lo]] W0 fun e w' => e = .returned (.int .i64 1) ∧ Stays w10 w') := Lib.hid fun W0 h => by
              have := half_any d m a W0 (cells_left h c3) HM.out.ok ha
              rw [HV6.out, hb] at this
              exact this.mono fun e w' ⟨he, hb2⟩ => ⟨he, low_trans h hb2⟩
            have hbz : Hid (¬ bitA a m.n = 0) := Lib.hid (by omega)
            clear hb
            go_wp2_with fail
            have hne : Nonempty (Cls (Stays (w10))) := ⟨⟨_, Below.refl _ _⟩⟩
            have f0 : ∀ q : Cls (Stays (w10)), q.w.cell? ⟨w.heap.size, 0, none⟩ = some (.bool true) := fun q => cells_left q.h (y0)
            have f1 : ∀ q : Cls (Stays (w10)), q.w.cell? ⟨w.heap.size, 1, none⟩ = some (.int .u64 a.hi) := fun q => cells_left q.h (y1)
            have f2 : ∀ q : Cls (Stays (w10)), q.w.cell? ⟨w.heap.size, 2, none⟩ = some (.int .u64 a.lo) := fun q => cells_left q.h (y2)
            have f3 : ∀ q : Cls (Stays (w10)), q.w.cell? ⟨d, 6, none⟩ = some (.pointer pz) := fun q => cells_left q.h (c6)
            have f4 : ∀ q : Cls (Stays (w10)), q.w.cell? ⟨d, 7, none⟩ = some (.pointer po) := fun q => cells_left q.h (c7)
            refine Cls.region (Stays (w10)) (by kernel_rfl) (by kernel_rfl) (low_drewN (Below.refl _ _) 1) ?_
            repeat (go_big_quiet_step (first | fail | (with_reducible exact Cls.call (K2.out _ (Cls.h _)))))
            refine wpQuiet_nil ?_
            intro n9
            have hs11 := n9.h
            generalize n9.w = w11 at hs11 ⊢
            clear hne n9 f0 f1 f2 f3 f4
            go_wp2_with fail
            go_roundg (o.depth)
            case measure => simp only [Tri.depth] at hd; omega
            case rel =>
              have hb := hbz.out
              exact ⟨o, po, rfl, Nat.le_refl _, Lib.hid ⟨HO10.out.on hs11, HGG.out.2⟩, Lib.hid (HB10.out.trans (But.stays hs11)), Lib.hid (HBX.out.on hs11), Lib.hid (Nat.le_trans HSZ10.out hs11.size), Lib.hid ⟨v', pre ++ tell m i x, by have := E1.out; rwa [if_neg hb] at this, HC10.out.on hs11, ownT_on HL10.out hs11⟩⟩
set_option maxHeartbeats 8000000 in
theorem follow_get4 (b : Nat) (p0 p1 : Option Addr) (s : Int) (t0 t1 : Tri) (S : Nat → Prop) (a : Adr) (w : World) (n : Net) (N V K : Nat) (s0 : Int × Bool) (hNn : ¬ Dg V K N) (hVK : V ≠ K) (hVw : V < w.heap.size) (hKw : K < w.heap.size) (hNB : Own w N 27 [.bool n.a.v6, .int .u64 n.a.hi, .int .u64 n.a.lo, .int .i64 n.n]) (hV : Own w V 3 [.int .i64 s0.1]) (hK : Own w K 4 [.bool s0.2]) (ha : a.ok) (ha6 : a.v6 = false) (hT : Top w b p0 p1 s) (hAt : At S w t0 p0) (hg : t0.good) (hS : ∀ b, S b → b < w.heap.size ∧ ¬ (Dg V K) b) :
    Calls Try.prog 23 #[.pointer (some ⟨b, 0, none⟩), .agg #[.bool a.v6, .int .u64 a.hi, .int .u64 a.lo], .func (.func 24) #[] #[.pointer (some ⟨N, 0, none⟩), .pointer (some ⟨V, 0, none⟩), .pointer (some ⟨K, 0, none⟩)]] w (Got V K w ((t0.over a).foldl (pick n) s0)) := by
  have LOW : Below w.heap.size w (w.alloc (.cells #[.bool false, .int .u64 a.hi, .int .u64 a.lo] 25)) := (Below.refl _ _).alloc (Nat.le_refl _) _
  have HV6 := Lib.hid ha6
  rw [ha6]
  have hbt := hT.lt
  have TO := hT.on LOW
  have AG := Lib.hid (fun W (h : Stays (w.alloc (.cells #[.bool false, .int .u64 a.hi, .int .u64 a.lo] 25)) W) => again_any b p0 p1 s W (TO.on h))
  have KD : Hid (∀ W, Stays (w.alloc (.cells #[.bool false, .int .u64 a.hi, .int .u64 a.lo] 25)) W → Calls Try.prog 33 #[.agg #[.bool false, .int .u64 a.hi, .int .u64 a.lo]] W fun e w' => e = .returned (.int .i64 0) ∧ Below W.heap.size W w' ∧ Stays (w.alloc (.cells #[.bool false, .int .u64 a.hi, .int .u64 a.lo] 25)) w') := Lib.hid fun W h => by
    have := kind_any ⟨false, a.hi, a.lo⟩ W
    exact this.mono fun e w' ⟨he, hb⟩ => ⟨he, hb, low_trans h hb⟩
  have k0 : (w.alloc (.cells #[.bool false, .int .u64 a.hi, .int .u64 a.lo] 25)).cell? ⟨w.heap.size, 0, none⟩ = some (.bool false) := by simp [go_sem]
  have k1 : (w.alloc (.cells #[.bool false, .int .u64 a.hi, .int .u64 a.lo] 25)).cell? ⟨w.heap.size, 1, none⟩ = some (.int .u64 a.hi) := by simp [go_sem]
  have k2 : (w.alloc (.cells #[.bool false, .int .u64 a.hi, .int .u64 a.lo] 25)).cell? ⟨w.heap.size, 2, none⟩ = some (.int .u64 a.lo) := by simp [go_sem]
  have hs0 : Stays (w.alloc (.cells #[.bool false, .int .u64 a.hi, .int .u64 a.lo] 25)) (w.alloc (.cells #[.bool false, .int .u64 a.hi, .int .u64 a.lo] 25)).drew := low_drew (Below.refl _ _)
  have HST : Hid (Own (w.alloc (.cells #[.bool false, .int .u64 a.hi, .int .u64 a.lo] 25)) N 27 [.bool n.a.v6, .int .u64 n.a.hi, .int .u64 n.a.lo, .int .i64 n.n] ∧ ∃ q : Int × Bool, (t0.over a).foldl (pick n) q = (t0.over a).foldl (pick n) s0 ∧ Own (w.alloc (.cells #[.bool false, .int .u64 a.hi, .int .u64 a.lo] 25)) V 3 [.int .i64 q.1] ∧ Own (w.alloc (.cells #[.bool false, .int .u64 a.hi, .int .u64 a.lo] 25)) K 4 [.bool q.2]) := Lib.hid ⟨hNB.on LOW, s0, rfl, hV.on LOW, hK.on LOW⟩
  clear hNB hV hK
  have HAT := Lib.hid hAt
  have HG := Lib.hid hg
  have HS := Lib.hid hS
  clear hAt hg hS ha6 TO hT
  go_enter Try.func23, Try.ntmps23
  go_upto_region 1 with fail
  go_cut [6] (fun s6 wx => s6 = .pointer p0 ∧ Stays (w.alloc (.cells #[.bool false, .int .u64 a.hi, .int .u64 a.lo] 25)) wx)
  case first =>
    first
      | (go_region_with (first
          | (go_at_call 25; (with_reducible refine (AG.out _ (by assumption)).mono ?_); rintro e w8 ⟨g, rfl, hg8, ho8, hb8⟩; obtain ⟨hc8, hf8⟩ := old hb8; have g0 : w8.cell? ⟨g, 0, none⟩ = some (.pointer p0) := ho8.cell rfl; have g1 : w8.cell? ⟨g, 1, none⟩ = some (.pointer p1) := ho8.cell rfl; have glt : g < w8.heap.size := ho8.lt; have hs8 : Stays (w.alloc (.cells #[.bool false, .int .u64 a.hi, .int .u64 a.lo] 25)) w8 := low_trans (by assumption) hb8)
          | (go_at_call 33; (with_reducible refine (KD.out _ (by assumption)).mono ?_); rintro e w7 ⟨rfl, hb7, hs7⟩; obtain ⟨hc7, hf7⟩ := old hb7)))
      | fail
    all_goals
      go_wp2_with fail
      go_meet
      exact ⟨rfl, by assumption⟩
  case rest =>
    obtain ⟨rfl, hsx⟩ := hcut
    have hbox := Own.new w #[.bool false, .int .u64 a.hi, .int .u64 a.lo] 25
    have HB0 := Lib.hid (hbox.on hsx)
    have HZ0 := Lib.hid (show w.heap.size + 1 ≤ wc.heap.size by have := hsx.size; simpa using this)
    have HS0 : Hid (Own wc N 27 [.bool n.a.v6, .int .u64 n.a.hi, .int .u64 n.a.lo, .int .i64 n.n] ∧ ∃ q : Int × Bool, (t0.over a).foldl (pick n) q = (t0.over a).foldl (pick n) s0 ∧ Own wc V 3 [.int .i64 q.1] ∧ Own wc K 4 [.bool q.2]) := Lib.hid (by obtain ⟨hNB, q, e1, hV, hK⟩ := HST.out; exact ⟨hNB.on hsx, q, e1, hV.on hsx, hK.on hsx⟩)
    have HX0 := Lib.hid (low_trans LOW hsx)
    clear hsx hbox
    go_wp2_with fail
    go_loopg [6] (t0.depth) (fun k x wr => ∃ t p, x = .pointer p ∧ t.depth ≤ k ∧ Hid (At S wr t p ∧ t.good) ∧ Hid (But (Dg V K) w wr) ∧ Hid (Own wr w.heap.size 25 [.bool false, .int .u64 a.hi, .int .u64 a.lo]) ∧ Hid (w.heap.size + 1 ≤ wr.heap.size) ∧ Hid (Own wr N 27 [.bool n.a.v6, .int .u64 n.a.hi, .int .u64 n.a.lo, .int .i64 n.n] ∧ ∃ q : Int × Bool, (t.over a).foldl (pick n) q = (t0.over a).foldl (pick n) s0 ∧ Own wr V 3 [.int .i64 q.1] ∧ Own wr K 4 [.bool q.2]))
    case atStart => exact ⟨t0, p0, rfl, Nat.le_refl _, Lib.hid ⟨HAT.out.on HX0.out, HG.out⟩, Lib.hid (But.stays HX0.out), HB0, HZ0, HS0⟩
    case round =>
      obtain ⟨t, p, rfl, hd, HAG, HBUT, HBOX, HSZ, HST1⟩ := hrel
      have x0 : wr.cell? ⟨w.heap.size, 0, none⟩ = some (.bool false) := HBOX.out.cell rfl
      have x1 : wr.cell? ⟨w.heap.size, 1, none⟩ = some (.int .u64 a.hi) := HBOX.out.cell rfl
      have x2 : wr.cell? ⟨w.heap.size, 2, none⟩ = some (.int .u64 a.lo) := HBOX.out.cell rfl
      cases t with
      | leaf =>
        have e : p = none := HAG.out.1
        subst e
        go_wp2_with fail
        have hne : Nonempty (Cls (Stays (wr))) := ⟨⟨_, Below.refl _ _⟩⟩
        have f0 : ∀ q : Cls (Stays (wr)), q.w.cell? ⟨w.heap.size, 0, none⟩ = some (.bool false) := fun q => cells_left q.h (x0)
        have f1 : ∀ q : Cls (Stays (wr)), q.w.cell? ⟨w.heap.size, 1, none⟩ = some (.int .u64 a.hi) := fun q => cells_left q.h (x1)
        have f2 : ∀ q : Cls (Stays (wr)), q.w.cell? ⟨w.heap.size, 2, none⟩ = some (.int .u64 a.lo) := fun q => cells_left q.h (x2)
        refine Cls.region (Stays (wr)) (by kernel_rfl) (by kernel_rfl) (low_drewN (Below.refl _ _) 1) ?_
        repeat (go_big_quiet_step (first | fail))
        refine wpQuiet_nil ?_
        intro n9
        have hs9 := n9.h
        generalize n9.w = w9 at hs9 ⊢
        clear hne n9 f0 f1 f2
        go_wp2_with fail
        go_end0
        have h9 : But (Dg V K) w w9 := HBUT.out.trans (But.stays hs9)
        have e0 : (Tri.leaf).over a = [] := rfl
        obtain ⟨hNB, q, e1, hV, hK⟩ := HST1.out
        rw [e0] at e1
        have e2 : q = (t0.over a).foldl (pick n) s0 := e1
        exact ⟨rfl, e2 ▸ hV.on hs9, e2 ▸ hK.on hs9, h9⟩
      | node m i x z o =>
        obtain ⟨⟨d, pz, po, e, hsb, hN, hz, ho⟩, hm, hx, h0, h1, g0, g1⟩ := HAG.out
        subst e
        have m0 := hN.c0
        have m1 := hN.c1
        have m2 := hN.c2
        have m3 := hN.c3
        cases hh : hasN m a
        · have K1 : Hid (∀ W0, Stays wr W0 → Calls Try.prog 39 #[.agg #[.bool m.a.v6, .int .u64 m.a.hi, .int .u64 m.a.lo, .int .i64 m.n], .agg #[.bool false, .int .u64 a.hi, .int .u64 a.lo]] W0 fun e w' => e = .returned (.bool false) ∧ Stays wr w') := Lib.hid (keep_call fun W0 => by have := has_any m a W0 hm.ok ha; rw [HV6.out, hh] at this; exact this)
          have e0 := Lib.hid (over_out (i := i) (x := x) (z := z) (o := o) hh)
          clear hh hN hz ho hx h0 h1 g0 g1
          go_wp2_with fail
          have hne : Nonempty (Cls (Stays (wr))) := ⟨⟨_, Below.refl _ _⟩⟩
          have f0 : ∀ q : Cls (Stays (wr)), q.w.cell? ⟨w.heap.size, 0, none⟩ = some (.bool false) := fun q => cells_left q.h (x0)
          have f1 : ∀ q : Cls (Stays (wr)), q.w.cell? ⟨w.heap.size, 1, none⟩ = some (.int .u64 a.hi) := fun q => cells_left q.h (x1)
          have f2 : ∀ q : Cls (Stays (wr)), q.w.cell? ⟨w.heap.size, 2, none⟩ = some (.int .u64 a.lo) := fun q => cells_left q.h (x2)
          have f3 : ∀ q : Cls (Stays (wr)), q.w.cell? ⟨d, 0, none⟩ = some (.bool m.a.v6) := fun q => cells_left q.h (m0)
          have f4 : ∀ q : Cls (Stays (wr)), q.w.cell? ⟨d, 1, none⟩ = some (.int .u64 m.a.hi) := fun q => cells_left q.h (m1)
          have f5 : ∀ q : Cls (Stays (wr)), q.w.cell? ⟨d, 2, none⟩ = some (.int .u64 m.a.lo) := fun q => cells_left q.h (m2)
          have f6 : ∀ q : Cls (Stays (wr)), q.w.cell? ⟨d, 3, none⟩ = some (.int .i64 m.n) := fun q => cells_left q.h (m3)
          refine Cls.region (Stays (wr)) (by kernel_rfl) (by kernel_rfl) (low_drewN (Below.refl _ _) 1) ?_
          repeat (go_big_quiet_step (first | fail | (with_reducible exact Cls.call (K1.out _ (Cls.h _)))))
          refine wpQuiet_nil ?_
          intro n9
          have hs9 := n9.h
          generalize n9.w = w9 at hs9 ⊢
          clear hne n9 f0 f1 f2 f3 f4 f5 f6
          go_wp2_with fail
          go_end0
          have h9 : But (Dg V K) w w9 := HBUT.out.trans (But.stays hs9)
          have e0 := e0.out
          obtain ⟨hNB, q, e1, hV, hK⟩ := HST1.out
          rw [e0] at e1
          have e2 : q = (t0.over a).foldl (pick n) s0 := e1
          exact ⟨rfl, e2 ▸ hV.on hs9, e2 ▸ hK.on hs9, h9⟩
        · have K1 : Hid (∀ W0, Stays wr W0 → Calls Try.prog 39 #[.agg #[.bool m.a.v6, .int .u64 m.a.hi, .int .u64 m.a.lo, .int .i64 m.n], .agg #[.bool false, .int .u64 a.hi, .int .u64 a.lo]] W0 fun e w' => e = .returned (.bool true) ∧ Stays wr w') := Lib.hid (keep_call fun W0 => by have := has_any m a W0 hm.ok ha; rw [HV6.out, hh] at this; exact this)
          have e0 := Lib.hid (over_node (i := i) (x := x) (z := z) (o := o) hh)
          have HN := Lib.hid hN
          have HZ := Lib.hid hz
          have HO := Lib.hid ho
          have HGG := Lib.hid (And.intro g0 g1)
          have HM := Lib.hid hm
          have hS2 := (HS.out d hsb).2
          have HSD := Lib.hid hS2
          clear hh hN hz ho hx h0 h1 g0 g1 hS2
          go_wp2_with fail
          have hne : Nonempty (Cls (Stays (wr))) := ⟨⟨_, Below.refl _ _⟩⟩
          have f0 : ∀ q : Cls (Stays (wr)), q.w.cell? ⟨w.heap.size, 0, none⟩ = some (.bool false) := fun q => cells_left q.h (x0)
          have f1 : ∀ q : Cls (Stays (wr)), q.w.cell? ⟨w.heap.size, 1, none⟩ = some (.int .u64 a.hi) := fun q => cells_left q.h (x1)
          have f2 : ∀ q : Cls (Stays (wr)), q.w.cell? ⟨w.heap.size, 2, none⟩ = some (.int .u64 a.lo) := fun q => cells_left q.h (x2)
          have f3 : ∀ q : Cls (Stays (wr)), q.w.cell? ⟨d, 0, none⟩ = some (.bool m.a.v6) := fun q => cells_left q.h (m0)
          have f4 : ∀ q : Cls (Stays (wr)), q.w.cell? ⟨d, 1, none⟩ = some (.int .u64 m.a.hi) := fun q => cells_left q.h (m1)
          have f5 : ∀ q : Cls (Stays (wr)), q.w.cell? ⟨d, 2, none⟩ = some (.int .u64 m.a.lo) := fun q => cells_left q.h (m2)
          have f6 : ∀ q : Cls (Stays (wr)), q.w.cell? ⟨d, 3, none⟩ = some (.int .i64 m.n) := fun q => cells_left q.h (m3)
          refine Cls.region (Stays (wr)) (by kernel_rfl) (by kernel_rfl) (low_drewN (Below.refl _ _) 1) ?_
          repeat (go_big_quiet_step (first | fail | (with_reducible exact Cls.call (K1.out _ (Cls.h _)))))
          refine wpQuiet_nil ?_
          intro n9
          have hs9 := n9.h
          generalize n9.w = w9 at hs9 ⊢
          clear hne n9 f0 f1 f2 f3 f4 f5 f6
          go_wp2_with fail
          obtain ⟨hNB, q, e1, hV, hK⟩ := HST1.out
          rw [e0.out] at e1
          have T1 := Lib.hid (get1_any d N V K n m i x pz po q w9 (HN.out.on hs9) (hNB.on hs9) (hV.on hs9) (hK.on hs9) hVK)
          have E1 := Lib.hid e1
          have HNB9 := Lib.hid (hNB.on hs9)
          clear hNB hV hK e1
          ((with_reducible refine (T1.out).mono ?_); rintro e w10 ⟨rfl, hV, hK, hb'⟩)
          have HV10 := Lib.hid hV
          have HK10 := Lib.hid hK
          have HNB := Lib.hid (HNB9.out.but hb' hNn)
          clear hV hK
          have HB10 := Lib.hid (show But (Dg V K) w w10 from (HBUT.out.trans (But.stays hs9)).trans hb')
          have HBX : Hid (Own w10 w.heap.size 25 [.bool false, .int .u64 a.hi, .int .u64 a.lo]) := Lib.hid ((HBOX.out.on hs9).but hb' (fun h => h.elim (fun h => by omega) (fun h => by omega)))
          have HN10 := Lib.hid ((HN.out.on hs9).but hb' HSD.out)
          have HZ10 := Lib.hid ((HZ.out.on hs9).but hb' fun b hb => (HS.out b hb).2)
          have HO10 := Lib.hid ((HO.out.on hs9).but hb' fun b hb => (HS.out b hb).2)
          have HSZ10 := Lib.hid (show w.heap.size + 1 ≤ w10.heap.size by have := HSZ.out; have := hs9.size; have := hb'.size; omega)
          have c3 : w10.cell? ⟨d, 3, none⟩ = some (.int .i64 m.n) := HN10.out.c3
          have c6 : w10.cell? ⟨d, 6, none⟩ = some (.pointer pz) := HN10.out.c6
          have c7 : w10.cell? ⟨d, 7, none⟩ = some (.pointer po) := HN10.out.c7
          have y0 : w10.cell? ⟨w.heap.size, 0, none⟩ = some (.bool false) := HBX.out.cell rfl
          have y1 : w10.cell? ⟨w.heap.size, 1, none⟩ = some (.int .u64 a.hi) := HBX.out.cell rfl
          have y2 : w10.cell? ⟨w.heap.size, 2, none⟩ = some (.int .u64 a.lo) := HBX.out.cell rfl
          clear hb' m0 m1 m2 m3 x0 x1 x2 hs9
          rcases bitA_two a m.n with hb | hb
          · have K2 : Hid (∀ W0, Stays w10 W0 → Calls Try.prog 40 #[.pointer (some ⟨d, 0, none⟩), .agg #[.bool false, .int .u64 a.hi, .int .u64 a.lo]] W0 fun e w' => e = .returned (.int .i64 0) ∧ Stays w10 w') := Lib.hid fun W0 h => by
              have := half_any d m a W0 (cells_left h c3) HM.out.ok ha
              rw [HV6.out, hb] at this
              exact this.mono fun e w' ⟨he, hb2⟩ => ⟨he, low_trans h hb2⟩
            have hbz : Hid (bitA a m.n = 0) := Lib.hid hb
            clear hb
            go_wp2_with fail
            have hne : Nonempty (Cls (Stays (w10))) := ⟨⟨_, Below.refl _ _⟩⟩
            have f0 : ∀ q : Cls (Stays (w10)), q.w.cell? ⟨w.heap.size, 0, none⟩ = some (.bool false) := fun q => cells_left q.h (y0)
            have f1 : ∀ q : Cls (Stays (w10)), q.w.cell? ⟨w.heap.size, 1, none⟩ = some (.int .u64 a.hi) := fun q => cells_left q.h (y1)
            have f2 : ∀ q : Cls (Stays (w10)), q.w.cell? ⟨w.heap.size, 2, none⟩ = some (.int .u64 a.lo) := fun q => cells_left q.h (y2)
            have f3 : ∀ q : Cls (Stays (w10)), q.w.cell? ⟨d, 6, none⟩ = some (.pointer pz) := fun q => cells_left q.h (c6)
            have f4 : ∀ q : Cls (Stays (w10)), q.w.cell? ⟨d, 7, none⟩ = some (.pointer po) := fun q => cells_left q.h (c7)
            refine Cls.region (Stays (w10)) (by kernel_rfl) (by kernel_rfl) (low_drewN (Below.refl _ _) 1) ?_
            repeat (go_big_quiet_step (first | fail | (with_reducible exact Cls.call (K2.out _ (Cls.h _)))))
            refine wpQuiet_nil ?_
            intro n9
            have hs11 := n9.h
            generalize n9.w = w11 at hs11 ⊢
            clear hne n9 f0 f1 f2 f3 f4
            go_wp2_with fail
            go_roundg (z.depth)
            case measure => simp only [Tri.depth] at hd; omega
            case rel =>
              have hb := hbz.out
              exact ⟨z, pz, rfl, Nat.le_refl _, Lib.hid ⟨HZ10.out.on hs11, HGG.out.1⟩, Lib.hid (HB10.out.trans (But.stays hs11)), Lib.hid (HBX.out.on hs11), Lib.hid (Nat.le_trans HSZ10.out hs11.size), Lib.hid ⟨HNB.out.on hs11, step n m i x q, by have := E1.out; rw [if_pos hb] at this; rw [← this, List.foldl_append, step_tell], HV10.out.on hs11, HK10.out.on hs11⟩⟩
          · have K2 : Hid (∀ W0, Stays w10 W0 → Calls Try.prog 40 #[.pointer (some ⟨d, 0, none⟩), .agg #[.bool false, .int .u64 a.hi, .int .u64 a.lo]] W0 fun e w' => e = .returned (.int .i64 1) ∧ Stays w10 w') := Lib.hid fun W0 h => by
              have := half_any d m a W0 (cells_left h c3) HM.out.ok ha
              rw [HV6.out, hb] at this
              exact this.mono fun e w' ⟨he, hb2⟩ => ⟨he, low_trans h hb2⟩
            have hbz : Hid (¬ bitA a m.n = 0) := Lib.hid (by omega)
            clear hb
            go_wp2_with fail
            have hne : Nonempty (Cls (Stays (w10))) := ⟨⟨_, Below.refl _ _⟩⟩
            have f0 : ∀ q : Cls (Stays (w10)), q.w.cell? ⟨w.heap.size, 0, none⟩ = some (.bool false) := fun q => cells_left q.h (y0)
            have f1 : ∀ q : Cls (Stays (w10)), q.w.cell? ⟨w.heap.size, 1, none⟩ = some (.int .u64 a.hi) := fun q => cells_left q.h (y1)
            have f2 : ∀ q : Cls (Stays (w10)), q.w.cell? ⟨w.heap.size, 2, none⟩ = some (.int .u64 a.lo) := fun q => cells_left q.h (y2)
            have f3 : ∀ q : Cls (Stays (w10)), q.w.cell? ⟨d, 6, none⟩ = some (.pointer pz) := fun q => cells_left q.h (c6)
            have f4 : ∀ q : Cls (Stays (w10)), q.w.cell? ⟨d, 7, none⟩ = some (.pointer po) := fun q => cells_left q.h (c7)
            refine Cls.region (Stays (w10)) (by kernel_rfl) (by kernel_rfl) (low_drewN (Below.refl _ _) 1) ?_
            repeat (go_big_quiet_step (first | fail | (with_reducible exact Cls.call (K2.out _ (Cls.h _)))))
            refine wpQuiet_nil ?_
            intro n9
            have hs11 := n9.h
            generalize n9.w = w11 at hs11 ⊢
            clear hne n9 f0 f1 f2 f3 f4
            go_wp2_with fail
            go_roundg (o.depth)
            case measure => simp only [Tri.depth] at hd; omega
            case rel =>
              have hb := hbz.out
              exact ⟨o, po, rfl, Nat.le_refl _, Lib.hid ⟨HO10.out.on hs11, HGG.out.2⟩, Lib.hid (HB10.out.trans (But.stays hs11)), Lib.hid (HBX.out.on hs11), Lib.hid (Nat.le_trans HSZ10.out hs11.size), Lib.hid ⟨HNB.out.on hs11, step n m i x q, by have := E1.out; rw [if_neg hb] at this; rw [← this, List.foldl_append, step_tell], HV10.out.on hs11, HK10.out.on hs11⟩⟩
set_option maxHeartbeats 8000000 in
theorem follow_get6 (b : Nat) (p0 p1 : Option Addr) (s : Int) (t0 t1 : Tri) (S : Nat → Prop) (a : Adr) (w : World) (n : Net) (N V K : Nat) (s0 : Int × Bool) (hNn : ¬ Dg V K N) (hVK : V ≠ K) (hVw : V < w.heap.size) (hKw : K < w.heap.size) (hNB : Own w N 27 [.bool n.a.v6, .int .u64 n.a.hi, .int .u64 n.a.lo, .int .i64 n.n]) (hV : Own w V 3 [.int .i64 s0.1]) (hK : Own w K 4 [.bool s0.2]) (ha : a.ok) (ha6 : a.v6 = true) (hT : Top w b p0 p1 s) (hAt : At S w t1 p1) (hg : t1.good) (hS : ∀ b, S b → b < w.heap.size ∧ ¬ (Dg V K) b) :
    Calls Try.prog 23 #[.pointer (some ⟨b, 0, none⟩), .agg #[.bool a.v6, .int .u64 a.hi, .int .u64 a.lo], .func (.func 24) #[] #[.pointer (some ⟨N, 0, none⟩), .pointer (some ⟨V, 0, none⟩), .pointer (some ⟨K, 0, none⟩)]] w (Got V K w ((t1.over a).foldl (pick n) s0)) := by
  have LOW : Below w.heap.size w (w.alloc (.cells #[.bool true, .int .u64 a.hi, .int .u64 a.lo] 25)) := (Below.refl _ _).alloc (Nat.le_refl _) _
  have HV6 := Lib.hid ha6
  rw [ha6]
  have hbt := hT.lt
  have TO := hT.on LOW
  have AG := Lib.hid (fun W (h : Stays (w.alloc (.cells #[.bool true, .int .u64 a.hi, .int .u64 a.lo] 25)) W) => again_any b p0 p1 s W (TO.on h))
  have KD : Hid (∀ W, Stays (w.alloc (.cells #[.bool true, .int .u64 a.hi, .int .u64 a.lo] 25)) W → Calls Try.prog 33 #[.agg #[.bool true, .int .u64 a.hi, .int .u64 a.lo]] W fun e w' => e = .returned (.int .i64 1) ∧ Below W.heap.size W w' ∧ Stays (w.alloc (.cells #[.bool true, .int .u64 a.hi, .int .u64 a.lo] 25)) w') := Lib.hid fun W h => by
    have := kind_any ⟨true, a.hi, a.lo⟩ W
    exact this.mono fun e w' ⟨he, hb⟩ => ⟨he, hb, low_trans h hb⟩
  have k0 : (w.alloc (.cells #[.bool true, .int .u64 a.hi, .int .u64 a.lo] 25)).cell? ⟨w.heap.size, 0, none⟩ = some (.bool true) := by simp [go_sem]
  have k1 : (w.alloc (.cells #[.bool true, .int .u64 a.hi, .int .u64 a.lo] 25)).cell? ⟨w.heap.size, 1, none⟩ = some (.int .u64 a.hi) := by simp [go_sem]
  have k2 : (w.alloc (.cells #[.bool true, .int .u64 a.hi, .int .u64 a.lo] 25)).cell? ⟨w.heap.size, 2, none⟩ = some (.int .u64 a.lo) := by simp [go_sem]
  have hs0 : Stays (w.alloc (.cells #[.bool true, .int .u64 a.hi, .int .u64 a.lo] 25)) (w.alloc (.cells #[.bool true, .int .u64 a.hi, .int .u64 a.lo] 25)).drew := low_drew (Below.refl _ _)
  have HST : Hid (Own (w.alloc (.cells #[.bool true, .int .u64 a.hi, .int .u64 a.lo] 25)) N 27 [.bool n.a.v6, .int .u64 n.a.hi, .int .u64 n.a.lo, .int .i64 n.n] ∧ ∃ q : Int × Bool, (t1.over a).foldl (pick n) q = (t1.over a).foldl (pick n) s0 ∧ Own (w.alloc (.cells #[.bool true, .int .u64 a.hi, .int .u64 a.lo] 25)) V 3 [.int .i64 q.1] ∧ Own (w.alloc (.cells #[.bool true, .int .u64 a.hi, .int .u64 a.lo] 25)) K 4 [.bool q.2]) := Lib.hid ⟨hNB.on LOW, s0, rfl, hV.on LOW, hK.on LOW⟩
  clear hNB hV hK
  have HAT := Lib.hid hAt
  have HG := Lib.hid hg
  have HS := Lib.hid hS
  clear hAt hg hS ha6 TO hT
  go_enter Try.func23, Try.ntmps23
  go_upto_region 1 with fail
  go_cut [6] (fun s6 wx => s6 = .pointer p1 ∧ Stays (w.alloc (.cells #[.bool true, .int .u64 a.hi, .int .u64 a.lo] 25)) wx)
  case first =>
    first
      | (go_region_with (first
          | (go_at_call 25; (with_reducible refine (AG.out _ (by assumption)).mono ?_); rintro e w8 ⟨g, rfl, hg8, ho8, hb8⟩; obtain ⟨hc8, hf8⟩ := old hb8; have g0 : w8.cell? ⟨g, 0, none⟩ = some (.pointer p0) := ho8.cell rfl; have g1 : w8.cell? ⟨g, 1, none⟩ = some (.pointer p1) := ho8.cell rfl; have glt : g < w8.heap.size := ho8.lt; have hs8 : Stays (w.alloc (.cells #[.bool true, .int .u64 a.hi, .int .u64 a.lo] 25)) w8 := low_trans (by assumption) hb8)
          | (go_at_call 33; (with_reducible refine (KD.out _ (by assumption)).mono ?_); rintro e w7 ⟨rfl, hb7, hs7⟩; obtain ⟨hc7, hf7⟩ := old hb7)))
      | fail
    all_goals
      go_wp2_with fail
      go_meet
      exact ⟨rfl, by assumption⟩
  case rest =>
    obtain ⟨rfl, hsx⟩ := hcut
    have hbox := Own.new w #[.bool true, .int .u64 a.hi, .int .u64 a.lo] 25
    have HB0 := Lib.hid (hbox.on hsx)
    have HZ0 := Lib.hid (show w.heap.size + 1 ≤ wc.heap.size by have := hsx.size; simpa using this)
    have HS0 : Hid (Own wc N 27 [.bool n.a.v6, .int .u64 n.a.hi, .int .u64 n.a.lo, .int .i64 n.n] ∧ ∃ q : Int × Bool, (t1.over a).foldl (pick n) q = (t1.over a).foldl (pick n) s0 ∧ Own wc V 3 [.int .i64 q.1] ∧ Own wc K 4 [.bool q.2]) := Lib.hid (by obtain ⟨hNB, q, e1, hV, hK⟩ := HST.out; exact ⟨hNB.on hsx, q, e1, hV.on hsx, hK.on hsx⟩)
    have HX0 := Lib.hid (low_trans LOW hsx)
    clear hsx hbox
    go_wp2_with fail
    go_loopg [6] (t1.depth) (fun k x wr => ∃ t p, x = .pointer p ∧ t.depth ≤ k ∧ Hid (At S wr t p ∧ t.good) ∧ Hid (But (Dg V K) w wr) ∧ Hid (Own wr w.heap.size 25 [.bool true, .int .u64 a.hi, .int .u64 a.lo]) ∧ Hid (w.heap.size + 1 ≤ wr.heap.size) ∧ Hid (Own wr N 27 [.bool n.a.v6, .int .u64 n.a.hi, .int .u64 n.a.lo, .int .i64 n.n] ∧ ∃ q : Int × Bool, (t.over a).foldl (pick n) q = (t1.over a).foldl (pick n) s0 ∧ Own wr V 3 [.int .i64 q.1] ∧ Own wr K 4 [.bool q.2]))
    case atStart => exact ⟨t1, p1, rfl, Nat.le_refl _, Lib.hid ⟨HAT.out.on HX0.out, HG.out⟩, Lib.hid (But.stays HX0.out), HB0, HZ0, HS0⟩
    case round =>
      obtain ⟨t, p, rfl, hd, HAG, HBUT, HBOX, HSZ, HST1⟩ := hrel
      have x0 : wr.cell? ⟨w.heap.size, 0, none⟩ = some (.bool true) := HBOX.out.cell rfl
      have x1 : wr.cell? ⟨w.heap.size, 1, none⟩ = some (.int .u64 a.hi) := HBOX.out.cell rfl
      have x2 : wr.cell? ⟨w.heap.size, 2, none⟩ = some (.int .u64 a.lo) := HBOX.out.cell rfl
      cases t with
      | leaf =>
        have e : p = none := HAG.out.1
        subst e
        go_wp2_with fail
        have hne : Nonempty (Cls (Stays (wr))) := ⟨⟨_, Below.refl _ _⟩⟩
        have f0 : ∀ q : Cls (Stays (wr)), q.w.cell? ⟨w.heap.size, 0, none⟩ = some (.bool true) := fun q => cells_left q.h (x0)
        have f1 : ∀ q : Cls (Stays (wr)), q.w.cell? ⟨w.heap.size, 1, none⟩ = some (.int .u64 a.hi) := fun q => cells_left q.h (x1)
        have f2 : ∀ q : Cls (Stays (wr)), q.w.cell? ⟨w.heap.size, 2, none⟩ = some (.int .u64 a.lo) := fun q => cells_left q.h (x2)
        refine Cls.region (Stays (wr)) (by kernel_rfl) (by kernel_rfl) (low_drewN (Below.refl _ _) 1) ?_
        repeat (go_big_quiet_step (first | fail))
        refine wpQuiet_nil ?_
        intro n9
        have hs9 := n9.h
        generalize n9.w = w9 at hs9 ⊢
        clear hne n9 f0 f1 f2
        go_wp2_with fail
        go_end0
        have h9 : But (Dg V K) w w9 := HBUT.out.trans (But.stays hs9)
        have e0 : (Tri.leaf).over a = [] := rfl
        obtain ⟨hNB, q, e1, hV, hK⟩ := HST1.out
        rw [e0] at e1
        have e2 : q = (t1.over a).foldl (pick n) s0 := e1
        exact ⟨rfl, e2 ▸ hV.on hs9, e2 ▸ hK.on hs9, h9⟩
      | node m i x z o =>
        obtain ⟨⟨d, pz, po, e, hsb, hN, hz, ho⟩, hm, hx, h0, h1, g0, g1⟩ := HAG.out
        subst e
        have m0 := hN.c0
        have m1 := hN.c1
        have m2 := hN.c2
        have m3 := hN.c3
        cases hh : hasN m a
        · have K1 : Hid (∀ W0, Stays wr W0 → Calls Try.prog 39 #[.agg #[.bool m.a.v6, .int .u64 m.a.hi, .int .u64 m.a.lo, .int .i64 m.n], .agg #[.bool true, .int .u64 a.hi, .int .u64 a.lo]] W0 fun e w' => e = .returned (.bool false) ∧ Stays wr w') := Lib.hid (keep_call fun W0 => by have := has_any m a W0 hm.ok ha; rw [HV6.out, hh] at this; exact this)
          have e0 := Lib.hid (over_out (i := i) (x := x) (z := z) (o := o) hh)
          clear hh hN hz ho hx h0 h1 g0 g1
          go_wp2_with fail
          have hne : Nonempty (Cls (Stays (wr))) := ⟨⟨_, Below.refl _ _⟩⟩
          have f0 : ∀ q : Cls (Stays (wr)), q.w.cell? ⟨w.heap.size, 0, none⟩ = some (.bool true) := fun q => cells_left q.h (x0)
          have f1 : ∀ q : Cls (Stays (wr)), q.w.cell? ⟨w.heap.size, 1, none⟩ = some (.int .u64 a.hi) := fun q => cells_left q.h (x1)
          have f2 : ∀ q : Cls (Stays (wr)), q.w.cell? ⟨w.heap.size, 2, none⟩ = some (.int .u64 a.lo) := fun q => cells_left q.h (x2)
          have f3 : ∀ q : Cls (Stays (wr)), q.w.cell? ⟨d, 0, none⟩ = some (.bool m.a.v6) := fun q => cells_left q.h (m0)
          have f4 : ∀ q : Cls (Stays (wr)), q.w.cell? ⟨d, 1, none⟩ = some (.int .u64 m.a.hi) := fun q => cells_left q.h (m1)
          have f5 : ∀ q : Cls (Stays (wr)), q.w.cell? ⟨d, 2, none⟩ = some (.int .u64 m.a.lo) := fun q => cells_left q.h (m2)
          have f6 : ∀ q : Cls (Stays (wr)), q.w.cell? ⟨d, 3, none⟩ = some (.int .i64 m.n) := fun q => cells_left q.h (m3)
          refine Cls.region (Stays (wr)) (by kernel_rfl) (by kernel_rfl) (low_drewN (Below.refl _ _) 1) ?_
          repeat (go_big_quiet_step (first | fail | (with_reducible exact Cls.call (K1.out _ (Cls.h _)))))
          refine wpQuiet_nil ?_
          intro n9
          have hs9 := n9.h
          generalize n9.w = w9 at hs9 ⊢
          clear hne n9 f0 f1 f2 f3 f4 f5 f6
          go_wp2_with fail
          go_end0
          have h9 : But (Dg V K) w w9 := HBUT.out.trans (But.stays hs9)
          have e0 := e0.out
          obtain ⟨hNB, q, e1, hV, hK⟩ := HST1.out
          rw [e0] at e1
          have e2 : q = (t1.over a).foldl (pick n) s0 := e1
          exact ⟨rfl, e2 ▸ hV.on hs9, e2 ▸ hK.on hs9, h9⟩
        · have K1 : Hid (∀ W0, Stays wr W0 → Calls Try.prog 39 #[.agg #[.bool m.a.v6, .int .u64 m.a.hi, .int .u64 m.a.lo, .int .i64 m.n], .agg #[.bool true, .int .u64 a.hi, .int .u64 a.lo]] W0 fun e w' => e = .returned (.bool true) ∧ Stays wr w') := Lib.hid (keep_call fun W0 => by have := has_any m a W0 hm.ok ha; rw [HV6.out, hh] at this; exact this)
          have e0 := Lib.hid (over_node (i := i) (x := x) (z := z) (o := o) hh)
          have HN := Lib.hid hN
          have HZ := Lib.hid hz
          have HO := Lib.hid ho
          have HGG := Lib.hid (And.intro g0 g1)
          have HM := Lib.hid hm
          have hS2 := (HS.out d hsb).2
          have HSD := Lib.hid hS2
          clear hh hN hz ho hx h0 h1 g0 g1 hS2
          go_wp2_with fail
          have hne : Nonempty (Cls (Stays (wr))) := ⟨⟨_, Below.refl _ _⟩⟩
          have f0 : ∀ q : Cls (Stays (wr)), q.w.cell? ⟨w.heap.size, 0, none⟩ = some (.bool true) := fun q => cells_left q.h (x0)
          have f1 : ∀ q : Cls (Stays (wr)), q.w.cell? ⟨w.heap.size, 1, none⟩ = some (.int .u64 a.hi) := fun q => cells_left q.h (x1)
          have f2 : ∀ q : Cls (Stays (wr)), q.w.cell? ⟨w.heap.size, 2, none⟩ = some (.int .u64 a.lo) := fun q => cells_left q.h (x2)
          have f3 : ∀ q : Cls (Stays (wr)), q.w.cell? ⟨d, 0, none⟩ = some (.bool m.a.v6) := fun q => cells_left q.h (m0)
          have f4 : ∀ q : Cls (Stays (wr)), q.w.cell? ⟨d, 1, none⟩ = some (.int .u64 m.a.hi) := fun q => cells_left q.h (m1)
          have f5 : ∀ q : Cls (Stays (wr)), q.w.cell? ⟨d, 2, none⟩ = some (.int .u64 m.a.lo) := fun q => cells_left q.h (m2)
          have f6 : ∀ q : Cls (Stays (wr)), q.w.cell? ⟨d, 3, none⟩ = some (.int .i64 m.n) := fun q => cells_left q.h (m3)
          refine Cls.region (Stays (wr)) (by kernel_rfl) (by kernel_rfl) (low_drewN (Below.refl _ _) 1) ?_
          repeat (go_big_quiet_step (first | fail | (with_reducible exact Cls.call (K1.out _ (Cls.h _)))))
          refine wpQuiet_nil ?_
          intro n9
          have hs9 := n9.h
          generalize n9.w = w9 at hs9 ⊢
          clear hne n9 f0 f1 f2 f3 f4 f5 f6
          go_wp2_with fail
          obtain ⟨hNB, q, e1, hV, hK⟩ := HST1.out
          rw [e0.out] at e1
          have T1 := Lib.hid (get1_any d N V K n m i x pz po q w9 (HN.out.on hs9) (hNB.on hs9) (hV.on hs9) (hK.on hs9) hVK)
          have E1 := Lib.hid e1
          have HNB9 := Lib.hid (hNB.on hs9)
          clear hNB hV hK e1
          ((with_reducible refine (T1.out).mono ?_); rintro e w10 ⟨rfl, hV, hK, hb'⟩)
          have HV10 := Lib.hid hV
          have HK10 := Lib.hid hK
          have HNB := Lib.hid (HNB9.out.but hb' hNn)
          clear hV hK
          have HB10 := Lib.hid (show But (Dg V K) w w10 from (HBUT.out.trans (But.stays hs9)).trans hb')
          have HBX : Hid (Own w10 w.heap.size 25 [.bool true, .int .u64 a.hi, .int .u64 a.lo]) := Lib.hid ((HBOX.out.on hs9).but hb' (fun h => h.elim (fun h => by omega) (fun h => by omega)))
          have HN10 := Lib.hid ((HN.out.on hs9).but hb' HSD.out)
          have HZ10 := Lib.hid ((HZ.out.on hs9).but hb' fun b hb => (HS.out b hb).2)
          have HO10 := Lib.hid ((HO.out.on hs9).but hb' fun b hb => (HS.out b hb).2)
          have HSZ10 := Lib.hid (show w.heap.size + 1 ≤ w10.heap.size by have := HSZ.out; have := hs9.size; have := hb'.size; omega)
          have c3 : w10.cell? ⟨d, 3, none⟩ = some (.int .i64 m.n) := HN10.out.c3
          have c6 : w10.cell? ⟨d, 6, none⟩ = some (.pointer pz) := HN10.out.c6
          have c7 : w10.cell? ⟨d, 7, none⟩ = some (.pointer po) := HN10.out.c7
          have y0 : w10.cell? ⟨w.heap.size, 0, none⟩ = some (.bool true) := HBX.out.cell rfl
          have y1 : w10.cell? ⟨w.heap.size, 1, none⟩ = some (.int .u64 a.hi) := HBX.out.cell rfl
          have y2 : w10.cell? ⟨w.heap.size, 2, none⟩ = some (.int .u64 a.lo) := HBX.out.cell rfl
          clear hb' m0 m1 m2 m3 x0 x1 x2 hs9
          rcases bitA_two a m.n with hb | hb
          · have K2 : Hid (∀ W0, Stays w10 W0 → Calls Try.prog 40 #[.pointer (some ⟨d, 0, none⟩), .agg #[.bool true, .int .u64 a.hi, .int .u64 a.lo]] W0 fun e w' => e = .returned (.int .i64 0) ∧ Stays w10 w') := Lib.hid fun W0 h => by
              have := half_any d m a W0 (cells_left h c3) HM.out.ok ha
              rw [HV6.out, hb] at this
              exact this.mono fun e w' ⟨he, hb2⟩ => ⟨he, low_trans h hb2⟩
            have hbz : Hid (bitA a m.n = 0) := Lib.hid hb
            clear hb
            go_wp2_with fail
            have hne : Nonempty (Cls (Stays (w10))) := ⟨⟨_, Below.refl _ _⟩⟩
            have f0 : ∀ q : Cls (Stays (w10)), q.w.cell? ⟨w.heap.size, 0, none⟩ = some (.bool true) := fun q => cells_left q.h (y0)
            have f1 : ∀ q : Cls (Stays (w10)), q.w.cell? ⟨w.heap.size, 1, none⟩ = some (.int .u64 a.hi) := fun q => cells_left q.h (y1)
            have f2 : ∀ q : Cls (Stays (w10)), q.w.cell? ⟨w.heap.size, 2, none⟩ = some (.int .u64 a.lo) := fun q => cells_left q.h (y2)
            have f3 : ∀ q : Cls (Stays (w10)), q.w.cell? ⟨d, 6, none⟩ = some (.pointer pz) := fun q => cells_left q.h (c6)
            have f4 : ∀ q : Cls (Stays (w10)), q.w.cell? ⟨d, 7, none⟩ = some (.pointer po) := fun q => cells_left q.h (c7)
            refine Cls.region (Stays (w10)) (by kernel_rfl) (by kernel_rfl) (low_drewN (Below.refl _ _) 1) ?_
            repeat (go_big_quiet_step (first | fail | (with_reducible exact Cls.call (K2.out _ (Cls.h _)))))
            refine wpQuiet_nil ?_
            intro n9
            have hs11 := n9.h
            generalize n9.w = w11 at hs11 ⊢
            clear hne n9 f0 f1 f2 f3 f4
            go_wp2_with fail
            go_roundg (z.depth)
            case measure => simp only [Tri.depth] at hd; omega
            case rel =>
              have hb := hbz.out
              exact ⟨z, pz, rfl, Nat.le_refl _, Lib.hid ⟨HZ10.out.on hs11, HGG.out.1⟩, Lib.hid (HB10.out.trans (But.stays hs11)), Lib.hid (HBX.out.on hs11), Lib.hid (Nat.le_trans HSZ10.out hs11.size), Lib.hid ⟨HNB.out.on hs11, step n m i x q, by have := E1.out; rw [if_pos hb] at this; rw [← this, List.foldl_append, step_tell], HV10.out.on hs11, HK10.out.on hs11⟩⟩
          · have K2 : Hid (∀ W0, Stays w10 W0 → Calls Try.prog 40 #[.pointer (some ⟨d, 0, none⟩), .agg #[.bool true, .int .u64 a.hi, .int .u64 a.lo]] W0 fun e w' => e = .returned (.int .i64 1) ∧ Stays w10 w') := Lib.hid fun W0 h => by
              have := half_any d m a W0 (cells_left h c3) HM.out.ok ha
              rw [HV6.out, hb] at this
              exact this.mono fun e w' ⟨he, hb2⟩ => ⟨he, low_trans h hb2⟩
            have hbz : Hid (¬ bitA a m.n = 0) := Lib.hid (by omega)
            clear hb
            go_wp2_with fail
            have hne : Nonempty (Cls (Stays (w10))) := ⟨⟨_, Below.refl _ _⟩⟩
            have f0 : ∀ q : Cls (Stays (w10)), q.w.cell? ⟨w.heap.size, 0, none⟩ = some (.bool true) := fun q => cells_left q.h (y0)
            have f1 : ∀ q : Cls (Stays (w10)), q.w.cell? ⟨w.heap.size, 1, none⟩ = some (.int .u64 a.hi) := fun q => cells_left q.h (y1)
            have f2 : ∀ q : Cls (Stays (w10)), q.w.cell? ⟨w.heap.size, 2, none⟩ = some (.int .u64 a.lo) := fun q => cells_left q.h (y2)
            have f3 : ∀ q : Cls (Stays (w10)), q.w.cell? ⟨d, 6, none⟩ = some (.pointer pz) := fun q => cells_left q.h (c6)
            have f4 : ∀ q : Cls (Stays (w10)), q.w.cell? ⟨d, 7, none⟩ = some (.pointer po) := fun q => cells_left q.h (c7)
            refine Cls.region (Stays (w10)) (by kernel_rfl) (by kernel_rfl) (low_drewN (Below.refl _ _) 1) ?_
            repeat (go_big_quiet_step (first | fail | (with_reducible exact Cls.call (K2.out _ (Cls.h _)))))
            refine wpQuiet_nil ?_
            intro n9
            have hs11 := n9.h
            generalize n9.w = w11 at hs11 ⊢
            clear hne n9 f0 f1 f2 f3 f4
            go_wp2_with fail
            go_roundg (o.depth)
            case measure => simp only [Tri.depth] at hd; omega
            case rel =>
              have hb := hbz.out
              exact ⟨o, po, rfl, Nat.le_refl _, Lib.hid ⟨HO10.out.on hs11, HGG.out.2⟩, Lib.hid (HB10.out.trans (But.stays hs11)), Lib.hid (HBX.out.on hs11), Lib.hid (Nat.le_trans HSZ10.out hs11.size), Lib.hid ⟨HNB.out.on hs11, step n m i x q, by have := E1.out; rw [if_neg hb] at this; rw [← this, List.foldl_append, step_tell], HV10.out.on hs11, HK10.out.on hs11⟩⟩
end Go.Proofs.Ytgnpnmdndlodlaa.Tr
