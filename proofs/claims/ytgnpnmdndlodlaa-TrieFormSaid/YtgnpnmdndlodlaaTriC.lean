/- Contracts of package trie, third part: with, needed, without. -/
import Derived.Test.YtgnpnmdndlodlaaTriB
namespace Go.Proofs.Ytgnpnmdndlodlaa.Tr
set_option maxRecDepth 100000
open Go.ChangeShapes Go.WideShapes Go.ChangeAt Go.RowKit
open Dec Words V4 V6 Ad Ci
set_option linter.unusedVariables false
/-- What stands behind a call that makes a tree of a tree in S. -/
def PutR (S : Nat → Prop) (w : World) (t : Tri) (e : Ending) (w' : World) : Prop := ∃ u, e = .returned (.pointer u) ∧ At (fun b => S b ∨ w.heap.size ≤ b) w' t u ∧ Below w.heap.size w w'
theorem PutR.of {S : Nat → Prop} {w w1 w' : World} {t : Tri} {u : Option Addr} (h : At (fun b => S b ∨ w1.heap.size ≤ b) w' t u) (k : w.heap.size ≤ w1.heap.size) (hb : Below w.heap.size w w') : PutR S w t (.returned (.pointer u)) w' :=
  ⟨u, rfl, h.mono fun b hb => hb.imp id fun h => Nat.le_trans k h, hb⟩
theorem At.node' {S : Nat → Prop} {w : World} {b : Nat} {n : Net} {i : Bool} {x : Int} {pz po : Option Addr} {z o : Tri} (hs : S b) (h : Node w b n i x pz po) (hz : At S w z pz) (ho : At S w o po) : At S w (.node n i x z o) (some ⟨b, 0, none⟩) := ⟨b, pz, po, rfl, hs, h, hz, ho⟩
theorem eq_true {m n : Net} (h : m = n) (W : World) : (binOp .eql 27 (.agg #[.bool m.a.v6, .int .u64 m.a.hi, .int .u64 m.a.lo, .int .i64 m.n]) (.agg #[.bool n.a.v6, .int .u64 n.a.hi, .int .u64 n.a.lo, .int .i64 n.n])).run Try.prog W = .ok (.bool true) W := by
  have := eqNet m n W
  rwa [(sameN_iff m n).2 h] at this
theorem eq_false {m n : Net} (h : m ≠ n) (W : World) : (binOp .eql 27 (.agg #[.bool m.a.v6, .int .u64 m.a.hi, .int .u64 m.a.lo, .int .i64 m.n]) (.agg #[.bool n.a.v6, .int .u64 n.a.hi, .int .u64 n.a.lo, .int .i64 n.n])).run Try.prog W = .ok (.bool false) W := by
  have := eqNet m n W
  cases hs : sameN m n
  · rwa [hs] at this
  · exact absurd ((sameN_iff m n).1 hs) h
set_option maxHeartbeats 4000000 in
theorem with_same (P : Option Addr) (n : Net) (v : Int) (i : Bool) (x : Int) (pz po : Option Addr) (z o : Tri) (S : Nat → Prop) (w : World) (hS : ∀ b, S b → b < w.heap.size) (hz : At S w z pz) (ho : At S w o po) (OV : Hid (∀ W, Below w.heap.size w W → Calls Try.prog 41 #[.pointer P, .agg #[.bool n.a.v6, .int .u64 n.a.hi, .int .u64 n.a.lo, .int .i64 n.n]] W fun e w' => e = .returned (.agg #[.bool n.a.v6, .int .u64 n.a.hi, .int .u64 n.a.lo, .int .i64 n.n, .bool i, .int .i64 x, .pointer pz, .pointer po]) ∧ Below W.heap.size W w')) :
    Calls Try.prog 34 #[.pointer P, .agg #[.bool n.a.v6, .int .u64 n.a.hi, .int .u64 n.a.lo, .int .i64 n.n], .int .i64 v] w (PutR S w (.node n true v z o)) := by
  have LOW : Below w.heap.size w (w.alloc (.cells #[.bool n.a.v6, .int .u64 n.a.hi, .int .u64 n.a.lo, .int .i64 n.n] 27)) := (Below.refl _ _).alloc (Nat.le_refl _) _
  have OV1 := Lib.hid (OV.out _ LOW)
  have k0 : (w.alloc (.cells #[.bool n.a.v6, .int .u64 n.a.hi, .int .u64 n.a.lo, .int .i64 n.n] 27)).cell? ⟨w.heap.size, 0, none⟩ = some (.bool n.a.v6) := by simp [go_sem]
  have k1 : (w.alloc (.cells #[.bool n.a.v6, .int .u64 n.a.hi, .int .u64 n.a.lo, .int .i64 n.n] 27)).cell? ⟨w.heap.size, 1, none⟩ = some (.int .u64 n.a.hi) := by simp [go_sem]
  have k2 : (w.alloc (.cells #[.bool n.a.v6, .int .u64 n.a.hi, .int .u64 n.a.lo, .int .i64 n.n] 27)).cell? ⟨w.heap.size, 2, none⟩ = some (.int .u64 n.a.lo) := by simp [go_sem]
  have k3 : (w.alloc (.cells #[.bool n.a.v6, .int .u64 n.a.hi, .int .u64 n.a.lo, .int .i64 n.n] 27)).cell? ⟨w.heap.size, 3, none⟩ = some (.int .i64 n.n) := by simp [go_sem]
  have EQ := fun W => eq_true (rfl : n = n) W
  have HZ := Lib.hid hz
  have HO := Lib.hid ho
  clear hz ho
  go_enter Try.func34, Try.ntmps34
  go_wp2_with fail
  ((with_reducible refine (OV1.out).mono ?_); rintro e w1 ⟨rfl, hb1⟩)
  have hsz : w.heap.size < w1.heap.size := by have := hb1.size; simp at this; omega
  have hne : ¬ w.heap.size = w1.heap.size := by omega
  have LOW1 := Lib.hid (low_trans LOW hb1)
  have k0' : w1.cell? ⟨w.heap.size, 0, none⟩ = some (.bool n.a.v6) := cells_left hb1 k0
  have k1' : w1.cell? ⟨w.heap.size, 1, none⟩ = some (.int .u64 n.a.hi) := cells_left hb1 k1
  have k2' : w1.cell? ⟨w.heap.size, 2, none⟩ = some (.int .u64 n.a.lo) := cells_left hb1 k2
  have k3' : w1.cell? ⟨w.heap.size, 3, none⟩ = some (.int .i64 n.n) := cells_left hb1 k3
  clear k0 k1 k2 k3
  go_wp2_with fail
  go_ret
  have LB := low_trans LOW1.out (Below.alloc (Below.refl _ w1) (Nat.le_refl _) (.cells #[.bool n.a.v6, .int .u64 n.a.hi, .int .u64 n.a.lo, .int .i64 n.n, .bool true, .int .i64 v, .pointer pz, .pointer po] 63))
  refine PutR.of (w1 := w1) (At.node' (Or.inr (Nat.le_refl _)) (Own.new w1 _ _).node ?_ ?_) (Nat.le_of_lt hsz) LB
  · exact (HZ.out.on LB).mono fun b h => Or.inl h
  · exact (HO.out.on LB).mono fun b h => Or.inl h
set_option maxHeartbeats 4000000 in
theorem with_half0 (P : Option Addr) (n m : Net) (v : Int) (i : Bool) (x : Int) (pz po : Option Addr) (z o z' : Tri) (S : Nat → Prop) (w : World) (hS : ∀ b, S b → b < w.heap.size) (hz : At S w z pz) (ho : At S w o po) (hn : n.ok) (hm : m.ok) (hne : m ≠ n) (hb0 : bitA n.a m.n = 0) (OV : Hid (∀ W, Below w.heap.size w W → Calls Try.prog 41 #[.pointer P, .agg #[.bool n.a.v6, .int .u64 n.a.hi, .int .u64 n.a.lo, .int .i64 n.n]] W fun e w' => e = .returned (.agg #[.bool m.a.v6, .int .u64 m.a.hi, .int .u64 m.a.lo, .int .i64 m.n, .bool i, .int .i64 x, .pointer pz, .pointer po]) ∧ Below W.heap.size W w'))
    (RC : Hid (∀ W, Below w.heap.size w W → Calls Try.prog 34 #[.pointer pz, .agg #[.bool n.a.v6, .int .u64 n.a.hi, .int .u64 n.a.lo, .int .i64 n.n], .int .i64 v] W (PutR S W z'))) :
    Calls Try.prog 34 #[.pointer P, .agg #[.bool n.a.v6, .int .u64 n.a.hi, .int .u64 n.a.lo, .int .i64 n.n], .int .i64 v] w (PutR S w (.node m i x z' o)) := by
  have LOW : Below w.heap.size w (w.alloc (.cells #[.bool n.a.v6, .int .u64 n.a.hi, .int .u64 n.a.lo, .int .i64 n.n] 27)) := (Below.refl _ _).alloc (Nat.le_refl _) _
  have OV1 := Lib.hid (OV.out _ LOW)
  have k0 : (w.alloc (.cells #[.bool n.a.v6, .int .u64 n.a.hi, .int .u64 n.a.lo, .int .i64 n.n] 27)).cell? ⟨w.heap.size, 0, none⟩ = some (.bool n.a.v6) := by simp [go_sem]
  have k1 : (w.alloc (.cells #[.bool n.a.v6, .int .u64 n.a.hi, .int .u64 n.a.lo, .int .i64 n.n] 27)).cell? ⟨w.heap.size, 1, none⟩ = some (.int .u64 n.a.hi) := by simp [go_sem]
  have k2 : (w.alloc (.cells #[.bool n.a.v6, .int .u64 n.a.hi, .int .u64 n.a.lo, .int .i64 n.n] 27)).cell? ⟨w.heap.size, 2, none⟩ = some (.int .u64 n.a.lo) := by simp [go_sem]
  have k3 : (w.alloc (.cells #[.bool n.a.v6, .int .u64 n.a.hi, .int .u64 n.a.lo, .int .i64 n.n] 27)).cell? ⟨w.heap.size, 3, none⟩ = some (.int .i64 n.n) := by simp [go_sem]
  have EQ := fun W => eq_false hne W
  have HF := Lib.hid (fun W c (hc : W.cell? ⟨c, 3, none⟩ = some (.int .i64 m.n)) => half_any c m n.a W hc hm hn.1)
  rw [hb0] at HF
  have HZ := Lib.hid hz
  have HO := Lib.hid ho
  have HS := Lib.hid hS
  clear hz ho hne hb0 hS
  go_enter Try.func34, Try.ntmps34
  go_wp2_with fail
  ((with_reducible refine (OV1.out).mono ?_); rintro e w1 ⟨rfl, hb1⟩)
  have hsz : w.heap.size < w1.heap.size := by have := hb1.size; simp at this; omega
  have hne : ¬ w.heap.size = w1.heap.size := by omega
  have LOW1 := Lib.hid (low_trans LOW hb1)
  have k0' : w1.cell? ⟨w.heap.size, 0, none⟩ = some (.bool n.a.v6) := cells_left hb1 k0
  have k1' : w1.cell? ⟨w.heap.size, 1, none⟩ = some (.int .u64 n.a.hi) := cells_left hb1 k1
  have k2' : w1.cell? ⟨w.heap.size, 2, none⟩ = some (.int .u64 n.a.lo) := cells_left hb1 k2
  have k3' : w1.cell? ⟨w.heap.size, 3, none⟩ = some (.int .i64 n.n) := cells_left hb1 k3
  clear k0 k1 k2 k3
  have HF1 := Lib.hid (HF.out (w1.alloc (.cells #[.bool m.a.v6, .int .u64 m.a.hi, .int .u64 m.a.lo, .int .i64 m.n, .bool i, .int .i64 x, .pointer pz, .pointer po] 63)) w1.heap.size (by simp [go_sem]))
  go_wp2_with fail
  ((with_reducible refine (HF1.out).mono ?_); rintro e w3 ⟨rfl, hb3⟩)
  have own3 := Lib.hid ((Own.new w1 #[.bool m.a.v6, .int .u64 m.a.hi, .int .u64 m.a.lo, .int .i64 m.n, .bool i, .int .i64 x, .pointer pz, .pointer po] 63).on hb3)
  have hb13 := Lib.hid (low_trans ((Below.refl _ w1).alloc (Nat.le_refl _) _) hb3)
  have LOW3 := Lib.hid (low_trans LOW1.out hb13.out)
  have c6 : w3.cell? ⟨w1.heap.size, 6, none⟩ = some (.pointer pz) := own3.out.cell rfl
  have fr6 : w3.frozen? ⟨w1.heap.size, 6, none⟩ = false := own3.out.free _
  have c7 : w3.cell? ⟨w1.heap.size, 7, none⟩ = some (.pointer po) := own3.out.cell rfl
  have fr7 : w3.frozen? ⟨w1.heap.size, 7, none⟩ = false := own3.out.free _
  have k0 : w3.cell? ⟨w.heap.size, 0, none⟩ = some (.bool n.a.v6) := cells_left hb13.out k0'
  have k1 : w3.cell? ⟨w.heap.size, 1, none⟩ = some (.int .u64 n.a.hi) := cells_left hb13.out k1'
  have k2 : w3.cell? ⟨w.heap.size, 2, none⟩ = some (.int .u64 n.a.lo) := cells_left hb13.out k2'
  have k3 : w3.cell? ⟨w.heap.size, 3, none⟩ = some (.int .i64 n.n) := cells_left hb13.out k3'
  clear k0' k1' k2' k3' hb3
  have hz3 : w1.heap.size < w3.heap.size := own3.out.lt
  have hz4 : w.heap.size < w3.heap.size := by omega
  have RC1 := Lib.hid (RC.out w3.drew (low_drew LOW3.out))
  go_wp2_with fail
  first
    | (go_region_with (first
        | (go_at_call 34; (with_reducible refine (RC1.out).mono ?_); rintro e w4 ⟨u, rfl, hu, hb4⟩; have sc4 : w4.cell? ⟨w1.heap.size, 6, none⟩ = some (.pointer pz) := cells_left (W := w3.drew) hb4 c6; have sf4 : w4.frozen? ⟨w1.heap.size, 6, none⟩ = false := frozen_left (W := w3.drew) hb4 hz3 fr6; have HU := Lib.hid hu; have HB4 := Lib.hid hb4; clear hu hb4)))
    | fail
  all_goals
    go_wp2_with fail
    go_ret
    have hb4 : Below w3.heap.size w3 w4 := low_trans (low_drew (Below.refl _ w3)) HB4.out
    have own4 := own3.out.on hb4
    have LB := (low_trans LOW3.out hb4).setCell (p := ⟨w1.heap.size, 6, none⟩) (Nat.le_of_lt hsz) (.pointer u)
    have hno : ¬ (fun b => S b ∨ w3.heap.size ≤ b) w1.heap.size := fun h => h.elim (fun h => by have := HS.out _ h; omega) (fun h => by omega)
    have hu : At (fun b => S b ∨ w3.heap.size ≤ b) w4 z' u := HU.out
    refine PutR.of (w1 := w1) (At.node' (Or.inr (Nat.le_refl _)) (own4.set 6 _).node ?_ ?_) (Nat.le_of_lt hsz) LB
    · exact (hu.set (a := ⟨w1.heap.size, 6, none⟩) hno _).mono fun b h => h.imp id fun h => by omega
    · exact (HO.out.on LB).mono fun b h => Or.inl h
set_option maxHeartbeats 4000000 in
theorem with_half1 (P : Option Addr) (n m : Net) (v : Int) (i : Bool) (x : Int) (pz po : Option Addr) (z o o' : Tri) (S : Nat → Prop) (w : World) (hS : ∀ b, S b → b < w.heap.size) (hz : At S w z pz) (ho : At S w o po) (hn : n.ok) (hm : m.ok) (hne : m ≠ n) (hb0 : bitA n.a m.n = 1) (OV : Hid (∀ W, Below w.heap.size w W → Calls Try.prog 41 #[.pointer P, .agg #[.bool n.a.v6, .int .u64 n.a.hi, .int .u64 n.a.lo, .int .i64 n.n]] W fun e w' => e = .returned (.agg #[.bool m.a.v6, .int .u64 m.a.hi, .int .u64 m.a.lo, .int .i64 m.n, .bool i, .int .i64 x, .pointer pz, .pointer po]) ∧ Below W.heap.size W w'))
    (RC : Hid (∀ W, Below w.heap.size w W → Calls Try.prog 34 #[.pointer po, .agg #[.bool n.a.v6, .int .u64 n.a.hi, .int .u64 n.a.lo, .int .i64 n.n], .int .i64 v] W (PutR S W o'))) :
    Calls Try.prog 34 #[.pointer P, .agg #[.bool n.a.v6, .int .u64 n.a.hi, .int .u64 n.a.lo, .int .i64 n.n], .int .i64 v] w (PutR S w (.node m i x z o')) := by
  have LOW : Below w.heap.size w (w.alloc (.cells #[.bool n.a.v6, .int .u64 n.a.hi, .int .u64 n.a.lo, .int .i64 n.n] 27)) := (Below.refl _ _).alloc (Nat.le_refl _) _
  have OV1 := Lib.hid (OV.out _ LOW)
  have k0 : (w.alloc (.cells #[.bool n.a.v6, .int .u64 n.a.hi, .int .u64 n.a.lo, .int .i64 n.n] 27)).cell? ⟨w.heap.size, 0, none⟩ = some (.bool n.a.v6) := by simp [go_sem]
  have k1 : (w.alloc (.cells #[.bool n.a.v6, .int .u64 n.a.hi, .int .u64 n.a.lo, .int .i64 n.n] 27)).cell? ⟨w.heap.size, 1, none⟩ = some (.int .u64 n.a.hi) := by simp [go_sem]
  have k2 : (w.alloc (.cells #[.bool n.a.v6, .int .u64 n.a.hi, .int .u64 n.a.lo, .int .i64 n.n] 27)).cell? ⟨w.heap.size, 2, none⟩ = some (.int .u64 n.a.lo) := by simp [go_sem]
  have k3 : (w.alloc (.cells #[.bool n.a.v6, .int .u64 n.a.hi, .int .u64 n.a.lo, .int .i64 n.n] 27)).cell? ⟨w.heap.size, 3, none⟩ = some (.int .i64 n.n) := by simp [go_sem]
  have EQ := fun W => eq_false hne W
  have HF := Lib.hid (fun W c (hc : W.cell? ⟨c, 3, none⟩ = some (.int .i64 m.n)) => half_any c m n.a W hc hm hn.1)
  rw [hb0] at HF
  have HZ := Lib.hid hz
  have HO := Lib.hid ho
  have HS := Lib.hid hS
  clear hz ho hne hb0 hS
  go_enter Try.func34, Try.ntmps34
  go_wp2_with fail
  ((with_reducible refine (OV1.out).mono ?_); rintro e w1 ⟨rfl, hb1⟩)
  have hsz : w.heap.size < w1.heap.size := by have := hb1.size; simp at this; omega
  have hne : ¬ w.heap.size = w1.heap.size := by omega
  have LOW1 := Lib.hid (low_trans LOW hb1)
  have k0' : w1.cell? ⟨w.heap.size, 0, none⟩ = some (.bool n.a.v6) := cells_left hb1 k0
  have k1' : w1.cell? ⟨w.heap.size, 1, none⟩ = some (.int .u64 n.a.hi) := cells_left hb1 k1
  have k2' : w1.cell? ⟨w.heap.size, 2, none⟩ = some (.int .u64 n.a.lo) := cells_left hb1 k2
  have k3' : w1.cell? ⟨w.heap.size, 3, none⟩ = some (.int .i64 n.n) := cells_left hb1 k3
  clear k0 k1 k2 k3
  have HF1 := Lib.hid (HF.out (w1.alloc (.cells #[.bool m.a.v6, .int .u64 m.a.hi, .int .u64 m.a.lo, .int .i64 m.n, .bool i, .int .i64 x, .pointer pz, .pointer po] 63)) w1.heap.size (by simp [go_sem]))
  go_wp2_with fail
  ((with_reducible refine (HF1.out).mono ?_); rintro e w3 ⟨rfl, hb3⟩)
  have own3 := Lib.hid ((Own.new w1 #[.bool m.a.v6, .int .u64 m.a.hi, .int .u64 m.a.lo, .int .i64 m.n, .bool i, .int .i64 x, .pointer pz, .pointer po] 63).on hb3)
  have hb13 := Lib.hid (low_trans ((Below.refl _ w1).alloc (Nat.le_refl _) _) hb3)
  have LOW3 := Lib.hid (low_trans LOW1.out hb13.out)
  have c6 : w3.cell? ⟨w1.heap.size, 6, none⟩ = some (.pointer pz) := own3.out.cell rfl
  have fr6 : w3.frozen? ⟨w1.heap.size, 6, none⟩ = false := own3.out.free _
  have c7 : w3.cell? ⟨w1.heap.size, 7, none⟩ = some (.pointer po) := own3.out.cell rfl
  have fr7 : w3.frozen? ⟨w1.heap.size, 7, none⟩ = false := own3.out.free _
  have k0 : w3.cell? ⟨w.heap.size, 0, none⟩ = some (.bool n.a.v6) := cells_left hb13.out k0'
  have k1 : w3.cell? ⟨w.heap.size, 1, none⟩ = some (.int .u64 n.a.hi) := cells_left hb13.out k1'
  have k2 : w3.cell? ⟨w.heap.size, 2, none⟩ = some (.int .u64 n.a.lo) := cells_left hb13.out k2'
  have k3 : w3.cell? ⟨w.heap.size, 3, none⟩ = some (.int .i64 n.n) := cells_left hb13.out k3'
  clear k0' k1' k2' k3' hb3
  have hz3 : w1.heap.size < w3.heap.size := own3.out.lt
  have hz4 : w.heap.size < w3.heap.size := by omega
  have RC1 := Lib.hid (RC.out w3.drew (low_drew LOW3.out))
  go_wp2_with fail
  first
    | (go_region_with (first
        | (go_at_call 34; (with_reducible refine (RC1.out).mono ?_); rintro e w4 ⟨u, rfl, hu, hb4⟩; have sc4 : w4.cell? ⟨w1.heap.size, 7, none⟩ = some (.pointer po) := cells_left (W := w3.drew) hb4 c7; have sf4 : w4.frozen? ⟨w1.heap.size, 7, none⟩ = false := frozen_left (W := w3.drew) hb4 hz3 fr7; have HU := Lib.hid hu; have HB4 := Lib.hid hb4; clear hu hb4)))
    | fail
  all_goals
    go_wp2_with fail
    go_ret
    have hb4 : Below w3.heap.size w3 w4 := low_trans (low_drew (Below.refl _ w3)) HB4.out
    have own4 := own3.out.on hb4
    have LB := (low_trans LOW3.out hb4).setCell (p := ⟨w1.heap.size, 7, none⟩) (Nat.le_of_lt hsz) (.pointer u)
    have hno : ¬ (fun b => S b ∨ w3.heap.size ≤ b) w1.heap.size := fun h => h.elim (fun h => by have := HS.out _ h; omega) (fun h => by omega)
    have hu : At (fun b => S b ∨ w3.heap.size ≤ b) w4 o' u := HU.out
    refine PutR.of (w1 := w1) (At.node' (Or.inr (Nat.le_refl _)) (own4.set 7 _).node ?_ ?_) (Nat.le_of_lt hsz) LB
    · exact (HZ.out.on LB).mono fun b h => Or.inl h
    · exact (hu.set (a := ⟨w1.heap.size, 7, none⟩) hno _).mono fun b h => h.imp id fun h => by omega
theorem ret_p {a b : Option Addr} (h : a = b) : Ending.returned (.pointer a) = .returned (.pointer b) := by rw [h]
def orP (p q : Option Addr) : Option Addr := if p.isSome then p else q
theorem orP_any (p q : Option Addr) (b : Nat) (W : World) (h0 : W.cell? ⟨b, 0, none⟩ = some (.pointer p)) (h1 : W.cell? ⟨b, 1, none⟩ = some (.pointer q)) :
    Calls Try.prog 47 #[.slice (some ⟨b, 0, none⟩) 2 2] W fun e w' => e = .returned (.pointer (orP p q)) ∧ w' = W := by
  cases p with
  | some a =>
    have E : Hid (orP (some a) q = some a) := Lib.hid rfl
    go_enter Try.func47, Try.ntmps47
    go_wp2
    go_rounds 3
    go_returns
    exact ⟨ret_p E.out.symm, rfl⟩
  | none =>
    cases q with
    | some a =>
      have E : Hid (orP none (some a) = some a) := Lib.hid rfl
      go_enter Try.func47, Try.ntmps47
      go_wp2
      go_rounds 3
      go_returns
      exact ⟨ret_p E.out.symm, rfl⟩
    | none =>
      have E : Hid (orP none none = none) := Lib.hid rfl
      go_enter Try.func47, Try.ntmps47
      go_wp2
      go_rounds 3
      go_wp2
      go_ret
      exact ⟨ret_p E.out.symm, rfl⟩
def needP (b : Nat) (i : Bool) (pz po : Option Addr) : Option Addr := if i || (pz.isSome && po.isSome) then some ⟨b, 0, none⟩ else orP pz po
set_option maxHeartbeats 2000000 in
theorem needed_any (b : Nat) (n : Net) (i : Bool) (x : Int) (pz po : Option Addr) (w : World) (hN : Node w b n i x pz po) :
    Calls Try.prog 42 #[.pointer (some ⟨b, 0, none⟩)] w fun e w' => e = .returned (.pointer (needP b i pz po)) ∧ Below w.heap.size w w' := by
  obtain ⟨r, hr⟩ : ∃ r, r = needP b i pz po := ⟨_, rfl⟩
  rw [← hr]
  cases i
  · cases pz with
    | none =>
      have m4 : w.cell? ⟨b, 4, none⟩ = some (.bool false) := hN.c4
      have m6 : w.cell? ⟨b, 6, none⟩ = some (.pointer none) := hN.c6
      have m7 : w.cell? ⟨b, 7, none⟩ = some (.pointer po) := hN.c7
      have HR : Hid (r = orP none po) := Lib.hid hr
      clear hr
      have K := Lib.hid (fun nq => orP_any none po w.heap.size ((w.drewN nq).alloc (.cells #[.pointer none, .pointer po] 54)) ((Own.new (w.drewN nq) _ _).cell (j := 0) rfl) ((Own.new (w.drewN nq) _ _).cell (j := 1) rfl))
      go_enter Try.func42, Try.ntmps42
      go_wp2_with fail
      go_quiet (fail)
      go_wp2_with fail
      ((with_reducible refine (K.out _).mono ?_); rintro e w4 ⟨rfl, rfl⟩)
      go_wp2_with fail
      go_ret
      exact ⟨ret_p HR.out.symm, low_trans (low_drewN (Below.refl _ w) _) ((Below.refl _ _).alloc (Nat.le_refl _) _)⟩
    | some a =>
      cases po with
      | none =>
        have m4 : w.cell? ⟨b, 4, none⟩ = some (.bool false) := hN.c4
        have m6 : w.cell? ⟨b, 6, none⟩ = some (.pointer (some a)) := hN.c6
        have m7 : w.cell? ⟨b, 7, none⟩ = some (.pointer none) := hN.c7
        have HR : Hid (r = orP (some a) none) := Lib.hid hr
        clear hr
        have K := Lib.hid (fun nq => orP_any (some a) none w.heap.size ((w.drewN nq).alloc (.cells #[.pointer (some a), .pointer none] 54)) ((Own.new (w.drewN nq) _ _).cell (j := 0) rfl) ((Own.new (w.drewN nq) _ _).cell (j := 1) rfl))
        go_enter Try.func42, Try.ntmps42
        go_wp2_with fail
        go_quiet (fail)
        go_wp2_with fail
        ((with_reducible refine (K.out _).mono ?_); rintro e w4 ⟨rfl, rfl⟩)
        go_wp2_with fail
        go_ret
        exact ⟨ret_p HR.out.symm, low_trans (low_drewN (Below.refl _ w) _) ((Below.refl _ _).alloc (Nat.le_refl _) _)⟩
      | some c =>
        have m4 : w.cell? ⟨b, 4, none⟩ = some (.bool false) := hN.c4
        have m6 : w.cell? ⟨b, 6, none⟩ = some (.pointer (some a)) := hN.c6
        have m7 : w.cell? ⟨b, 7, none⟩ = some (.pointer (some c)) := hN.c7
        have HR : Hid (r = some ⟨b, 0, none⟩) := Lib.hid hr
        clear hr
        go_enter Try.func42, Try.ntmps42
        go_wp2_with fail
        go_quiet (fail)
        go_wp2_with fail
        go_ret
        exact ⟨ret_p HR.out.symm, low_drewN (Below.refl _ w) _⟩
  · have m4 : w.cell? ⟨b, 4, none⟩ = some (.bool true) := hN.c4
    have m6 : w.cell? ⟨b, 6, none⟩ = some (.pointer pz) := hN.c6
    have m7 : w.cell? ⟨b, 7, none⟩ = some (.pointer po) := hN.c7
    have HR : Hid (r = some ⟨b, 0, none⟩) := Lib.hid hr
    clear hr
    go_enter Try.func42, Try.ntmps42
    go_wp2_with fail
    go_quiet (fail)
    go_wp2_with fail
    go_ret
    exact ⟨ret_p HR.out.symm, low_drewN (Below.refl _ w) _⟩
theorem At.some {S : Nat → Prop} {w : World} : ∀ {t : Tri} {p : Option Addr}, At S w t p → p.isSome = !t.isLeaf
  | .leaf, p, h => by have e : p = none := h; rw [e]; rfl
  | .node n i x z o, p, ⟨b, pz, po, e, _⟩ => by rw [e]; rfl
theorem need_at {S : Nat → Prop} {w : World} {b : Nat} {n : Net} {i : Bool} {x : Int} {pz po : Option Addr} {z o : Tri} (hs : S b) (h : Node w b n i x pz po) (hz : At S w z pz) (ho : At S w o po) : At S w (Tri.need n i x z o) (needP b i pz po) := by
  unfold Tri.need needP
  rw [hz.some, ho.some]
  split
  · exact At.node' hs h hz ho
  · unfold orP
    rw [hz.some]
    cases hl : z.isLeaf
    · rw [if_neg (by simp), if_pos (by rfl)]; exact hz
    · rw [if_pos rfl, if_neg (by simp)]; exact ho
set_option maxHeartbeats 4000000 in
theorem without_same (b : Nat) (n : Net) (i : Bool) (x : Int) (pz po : Option Addr) (z o : Tri) (S : Nat → Prop) (w : World) (hz : At S w z pz) (ho : At S w o po) (hN : Node w b n i x pz po) :
    Calls Try.prog 35 #[.pointer (some ⟨b, 0, none⟩), .agg #[.bool n.a.v6, .int .u64 n.a.hi, .int .u64 n.a.lo, .int .i64 n.n]] w (PutR S w (Tri.need n false 0 z o)) := by
  have hb := hN.lt
  have LOW : Below w.heap.size w (w.alloc (.cells #[.bool n.a.v6, .int .u64 n.a.hi, .int .u64 n.a.lo, .int .i64 n.n] 27)) := (Below.refl _ _).alloc (Nat.le_refl _) _
  have k0 : (w.alloc (.cells #[.bool n.a.v6, .int .u64 n.a.hi, .int .u64 n.a.lo, .int .i64 n.n] 27)).cell? ⟨w.heap.size, 0, none⟩ = some (.bool n.a.v6) := by simp [go_sem]
  have k1 : (w.alloc (.cells #[.bool n.a.v6, .int .u64 n.a.hi, .int .u64 n.a.lo, .int .i64 n.n] 27)).cell? ⟨w.heap.size, 1, none⟩ = some (.int .u64 n.a.hi) := by simp [go_sem]
  have k2 : (w.alloc (.cells #[.bool n.a.v6, .int .u64 n.a.hi, .int .u64 n.a.lo, .int .i64 n.n] 27)).cell? ⟨w.heap.size, 2, none⟩ = some (.int .u64 n.a.lo) := by simp [go_sem]
  have k3 : (w.alloc (.cells #[.bool n.a.v6, .int .u64 n.a.hi, .int .u64 n.a.lo, .int .i64 n.n] 27)).cell? ⟨w.heap.size, 3, none⟩ = some (.int .i64 n.n) := by simp [go_sem]
  have m0 : (w.alloc (.cells #[.bool n.a.v6, .int .u64 n.a.hi, .int .u64 n.a.lo, .int .i64 n.n] 27)).cell? ⟨b, 0, none⟩ = some (.bool n.a.v6) := cells_left LOW hN.c0
  have m1 : (w.alloc (.cells #[.bool n.a.v6, .int .u64 n.a.hi, .int .u64 n.a.lo, .int .i64 n.n] 27)).cell? ⟨b, 1, none⟩ = some (.int .u64 n.a.hi) := cells_left LOW hN.c1
  have m2 : (w.alloc (.cells #[.bool n.a.v6, .int .u64 n.a.hi, .int .u64 n.a.lo, .int .i64 n.n] 27)).cell? ⟨b, 2, none⟩ = some (.int .u64 n.a.lo) := cells_left LOW hN.c2
  have m3 : (w.alloc (.cells #[.bool n.a.v6, .int .u64 n.a.hi, .int .u64 n.a.lo, .int .i64 n.n] 27)).cell? ⟨b, 3, none⟩ = some (.int .i64 n.n) := cells_left LOW hN.c3
  have m4 : (w.alloc (.cells #[.bool n.a.v6, .int .u64 n.a.hi, .int .u64 n.a.lo, .int .i64 n.n] 27)).cell? ⟨b, 4, none⟩ = some (.bool i) := cells_left LOW hN.c4
  have m5 : (w.alloc (.cells #[.bool n.a.v6, .int .u64 n.a.hi, .int .u64 n.a.lo, .int .i64 n.n] 27)).cell? ⟨b, 5, none⟩ = some (.int .i64 x) := cells_left LOW hN.c5
  have m6 : (w.alloc (.cells #[.bool n.a.v6, .int .u64 n.a.hi, .int .u64 n.a.lo, .int .i64 n.n] 27)).cell? ⟨b, 6, none⟩ = some (.pointer pz) := cells_left LOW hN.c6
  have m7 : (w.alloc (.cells #[.bool n.a.v6, .int .u64 n.a.hi, .int .u64 n.a.lo, .int .i64 n.n] 27)).cell? ⟨b, 7, none⟩ = some (.pointer po) := cells_left LOW hN.c7
  have EQ := fun W => eq_true (rfl : n = n) W
  have HZ := Lib.hid hz
  have HO := Lib.hid ho
  clear hz ho
  have own2 : Hid (Own ((w.alloc (.cells #[.bool n.a.v6, .int .u64 n.a.hi, .int .u64 n.a.lo, .int .i64 n.n] 27)).alloc (.cells #[.bool n.a.v6, .int .u64 n.a.hi, .int .u64 n.a.lo, .int .i64 n.n, .bool false, .int .i64 0, .pointer pz, .pointer po] 63)) (w.heap.size + 1) 63 [.bool n.a.v6, .int .u64 n.a.hi, .int .u64 n.a.lo, .int .i64 n.n, .bool false, .int .i64 0, .pointer pz, .pointer po]) := Lib.hid (by have h := Own.new (w.alloc (.cells #[.bool n.a.v6, .int .u64 n.a.hi, .int .u64 n.a.lo, .int .i64 n.n] 27)) #[.bool n.a.v6, .int .u64 n.a.hi, .int .u64 n.a.lo, .int .i64 n.n, .bool false, .int .i64 0, .pointer pz, .pointer po] 63; rwa [show (w.alloc (.cells #[.bool n.a.v6, .int .u64 n.a.hi, .int .u64 n.a.lo, .int .i64 n.n] 27)).heap.size = w.heap.size + 1 from by simp] at h)
  have ND := Lib.hid (needed_any (w.heap.size + 1) n false 0 pz po (((w.alloc (.cells #[.bool n.a.v6, .int .u64 n.a.hi, .int .u64 n.a.lo, .int .i64 n.n] 27)).alloc (.cells #[.bool n.a.v6, .int .u64 n.a.hi, .int .u64 n.a.lo, .int .i64 n.n, .bool false, .int .i64 0, .pointer pz, .pointer po] 63))) own2.out.node)
  go_enter Try.func35, Try.ntmps35
  go_wp2_with fail
  ((with_reducible refine (ND.out).mono ?_); rintro e w5 ⟨rfl, hb5⟩)
  go_wp2_with fail
  go_ret
  have LB := low_trans (low_trans LOW ((Below.refl _ _).alloc (Nat.le_refl _) _)) hb5
  refine PutR.of (w1 := w) (need_at (Or.inr (by omega)) (own2.out.on hb5).node ?_ ?_) (Nat.le_refl _) LB
  · exact (HZ.out.on LB).mono fun b h => Or.inl h
  · exact (HO.out.on LB).mono fun b h => Or.inl h
set_option maxHeartbeats 4000000 in
theorem without_half0 (b : Nat) (n m : Net) (i : Bool) (x : Int) (pz po : Option Addr) (z o z' : Tri) (S : Nat → Prop) (w : World) (hS : ∀ b, S b → b < w.heap.size) (hz : At S w z pz) (ho : At S w o po) (hN : Node w b m i x pz po) (hn : n.ok) (hm : m.ok) (hne : m ≠ n) (hb0 : bitA n.a m.n = 0)
    (RC : Hid (∀ W, Below w.heap.size w W → Calls Try.prog 35 #[.pointer pz, .agg #[.bool n.a.v6, .int .u64 n.a.hi, .int .u64 n.a.lo, .int .i64 n.n]] W (PutR S W z'))) :
    Calls Try.prog 35 #[.pointer (some ⟨b, 0, none⟩), .agg #[.bool n.a.v6, .int .u64 n.a.hi, .int .u64 n.a.lo, .int .i64 n.n]] w (PutR S w (Tri.need m i x z' o)) := by
  have hb := hN.lt
  have LOW : Below w.heap.size w (w.alloc (.cells #[.bool n.a.v6, .int .u64 n.a.hi, .int .u64 n.a.lo, .int .i64 n.n] 27)) := (Below.refl _ _).alloc (Nat.le_refl _) _
  have k0 : (w.alloc (.cells #[.bool n.a.v6, .int .u64 n.a.hi, .int .u64 n.a.lo, .int .i64 n.n] 27)).cell? ⟨w.heap.size, 0, none⟩ = some (.bool n.a.v6) := by simp [go_sem]
  have k1 : (w.alloc (.cells #[.bool n.a.v6, .int .u64 n.a.hi, .int .u64 n.a.lo, .int .i64 n.n] 27)).cell? ⟨w.heap.size, 1, none⟩ = some (.int .u64 n.a.hi) := by simp [go_sem]
  have k2 : (w.alloc (.cells #[.bool n.a.v6, .int .u64 n.a.hi, .int .u64 n.a.lo, .int .i64 n.n] 27)).cell? ⟨w.heap.size, 2, none⟩ = some (.int .u64 n.a.lo) := by simp [go_sem]
  have k3 : (w.alloc (.cells #[.bool n.a.v6, .int .u64 n.a.hi, .int .u64 n.a.lo, .int .i64 n.n] 27)).cell? ⟨w.heap.size, 3, none⟩ = some (.int .i64 n.n) := by simp [go_sem]
  have m0 : (w.alloc (.cells #[.bool n.a.v6, .int .u64 n.a.hi, .int .u64 n.a.lo, .int .i64 n.n] 27)).cell? ⟨b, 0, none⟩ = some (.bool m.a.v6) := cells_left LOW hN.c0
  have m1 : (w.alloc (.cells #[.bool n.a.v6, .int .u64 n.a.hi, .int .u64 n.a.lo, .int .i64 n.n] 27)).cell? ⟨b, 1, none⟩ = some (.int .u64 m.a.hi) := cells_left LOW hN.c1
  have m2 : (w.alloc (.cells #[.bool n.a.v6, .int .u64 n.a.hi, .int .u64 n.a.lo, .int .i64 n.n] 27)).cell? ⟨b, 2, none⟩ = some (.int .u64 m.a.lo) := cells_left LOW hN.c2
  have m3 : (w.alloc (.cells #[.bool n.a.v6, .int .u64 n.a.hi, .int .u64 n.a.lo, .int .i64 n.n] 27)).cell? ⟨b, 3, none⟩ = some (.int .i64 m.n) := cells_left LOW hN.c3
  have m4 : (w.alloc (.cells #[.bool n.a.v6, .int .u64 n.a.hi, .int .u64 n.a.lo, .int .i64 n.n] 27)).cell? ⟨b, 4, none⟩ = some (.bool i) := cells_left LOW hN.c4
  have m5 : (w.alloc (.cells #[.bool n.a.v6, .int .u64 n.a.hi, .int .u64 n.a.lo, .int .i64 n.n] 27)).cell? ⟨b, 5, none⟩ = some (.int .i64 x) := cells_left LOW hN.c5
  have m6 : (w.alloc (.cells #[.bool n.a.v6, .int .u64 n.a.hi, .int .u64 n.a.lo, .int .i64 n.n] 27)).cell? ⟨b, 6, none⟩ = some (.pointer pz) := cells_left LOW hN.c6
  have m7 : (w.alloc (.cells #[.bool n.a.v6, .int .u64 n.a.hi, .int .u64 n.a.lo, .int .i64 n.n] 27)).cell? ⟨b, 7, none⟩ = some (.pointer po) := cells_left LOW hN.c7
  have EQ := fun W => eq_false hne W
  have HF := Lib.hid (fun W c (hc : W.cell? ⟨c, 3, none⟩ = some (.int .i64 m.n)) => half_any c m n.a W hc hm hn.1)
  rw [hb0] at HF
  have HZ := Lib.hid hz
  have HO := Lib.hid ho
  have HS := Lib.hid hS
  clear hz ho hne hb0 hS
  have own2 : Hid (Own ((w.alloc (.cells #[.bool n.a.v6, .int .u64 n.a.hi, .int .u64 n.a.lo, .int .i64 n.n] 27)).alloc (.cells #[.bool m.a.v6, .int .u64 m.a.hi, .int .u64 m.a.lo, .int .i64 m.n, .bool i, .int .i64 x, .pointer pz, .pointer po] 63)) (w.heap.size + 1) 63 [.bool m.a.v6, .int .u64 m.a.hi, .int .u64 m.a.lo, .int .i64 m.n, .bool i, .int .i64 x, .pointer pz, .pointer po]) := Lib.hid (by have h := Own.new (w.alloc (.cells #[.bool n.a.v6, .int .u64 n.a.hi, .int .u64 n.a.lo, .int .i64 n.n] 27)) #[.bool m.a.v6, .int .u64 m.a.hi, .int .u64 m.a.lo, .int .i64 m.n, .bool i, .int .i64 x, .pointer pz, .pointer po] 63; rwa [show (w.alloc (.cells #[.bool n.a.v6, .int .u64 n.a.hi, .int .u64 n.a.lo, .int .i64 n.n] 27)).heap.size = w.heap.size + 1 from by simp] at h)
  have HF1 := Lib.hid (HF.out ((w.alloc (.cells #[.bool n.a.v6, .int .u64 n.a.hi, .int .u64 n.a.lo, .int .i64 n.n] 27)).alloc (.cells #[.bool m.a.v6, .int .u64 m.a.hi, .int .u64 m.a.lo, .int .i64 m.n, .bool i, .int .i64 x, .pointer pz, .pointer po] 63)) (w.heap.size + 1) (own2.out.cell rfl))
  have LOW2 := Lib.hid (low_trans LOW ((Below.refl (w.alloc (.cells #[.bool n.a.v6, .int .u64 n.a.hi, .int .u64 n.a.lo, .int .i64 n.n] 27)).heap.size (w.alloc (.cells #[.bool n.a.v6, .int .u64 n.a.hi, .int .u64 n.a.lo, .int .i64 n.n] 27))).alloc (Nat.le_refl _) (.cells #[.bool m.a.v6, .int .u64 m.a.hi, .int .u64 m.a.lo, .int .i64 m.n, .bool i, .int .i64 x, .pointer pz, .pointer po] 63)))
  have k0' : ((w.alloc (.cells #[.bool n.a.v6, .int .u64 n.a.hi, .int .u64 n.a.lo, .int .i64 n.n] 27)).alloc (.cells #[.bool m.a.v6, .int .u64 m.a.hi, .int .u64 m.a.lo, .int .i64 m.n, .bool i, .int .i64 x, .pointer pz, .pointer po] 63)).cell? ⟨w.heap.size, 0, none⟩ = some (.bool n.a.v6) := by simp [go_sem]
  have k1' : ((w.alloc (.cells #[.bool n.a.v6, .int .u64 n.a.hi, .int .u64 n.a.lo, .int .i64 n.n] 27)).alloc (.cells #[.bool m.a.v6, .int .u64 m.a.hi, .int .u64 m.a.lo, .int .i64 m.n, .bool i, .int .i64 x, .pointer pz, .pointer po] 63)).cell? ⟨w.heap.size, 1, none⟩ = some (.int .u64 n.a.hi) := by simp [go_sem]
  have k2' : ((w.alloc (.cells #[.bool n.a.v6, .int .u64 n.a.hi, .int .u64 n.a.lo, .int .i64 n.n] 27)).alloc (.cells #[.bool m.a.v6, .int .u64 m.a.hi, .int .u64 m.a.lo, .int .i64 m.n, .bool i, .int .i64 x, .pointer pz, .pointer po] 63)).cell? ⟨w.heap.size, 2, none⟩ = some (.int .u64 n.a.lo) := by simp [go_sem]
  have k3' : ((w.alloc (.cells #[.bool n.a.v6, .int .u64 n.a.hi, .int .u64 n.a.lo, .int .i64 n.n] 27)).alloc (.cells #[.bool m.a.v6, .int .u64 m.a.hi, .int .u64 m.a.lo, .int .i64 m.n, .bool i, .int .i64 x, .pointer pz, .pointer po] 63)).cell? ⟨w.heap.size, 3, none⟩ = some (.int .i64 n.n) := by simp [go_sem]
  go_enter Try.func35, Try.ntmps35
  go_wp2_with fail
  ((with_reducible refine (HF1.out).mono ?_); rintro e w3 ⟨rfl, hb3⟩)
  have own3 := Lib.hid (own2.out.on hb3)
  have LOW3 := Lib.hid (low_trans LOW2.out hb3)
  have c6 : w3.cell? ⟨w.heap.size + 1, 6, none⟩ = some (.pointer pz) := own3.out.cell rfl
  have fr6 : w3.frozen? ⟨w.heap.size + 1, 6, none⟩ = false := own3.out.free _
  have c7 : w3.cell? ⟨w.heap.size + 1, 7, none⟩ = some (.pointer po) := own3.out.cell rfl
  have fr7 : w3.frozen? ⟨w.heap.size + 1, 7, none⟩ = false := own3.out.free _
  have kk0 : w3.cell? ⟨w.heap.size, 0, none⟩ = some (.bool n.a.v6) := cells_left hb3 k0'
  have kk1 : w3.cell? ⟨w.heap.size, 1, none⟩ = some (.int .u64 n.a.hi) := cells_left hb3 k1'
  have kk2 : w3.cell? ⟨w.heap.size, 2, none⟩ = some (.int .u64 n.a.lo) := cells_left hb3 k2'
  have kk3 : w3.cell? ⟨w.heap.size, 3, none⟩ = some (.int .i64 n.n) := cells_left hb3 k3'
  clear k0' k1' k2' k3' hb3 k0 k1 k2 k3
  clear m0 m1 m2 m3 m4 m5 m6 m7
  have hz3 : w.heap.size + 1 < w3.heap.size := own3.out.lt
  have RC1 := Lib.hid (RC.out w3.drew (low_drew LOW3.out))
  go_upto_region 6 with fail
  go_cut [] (fun wx => ∃ w4 u, wx = w4.setCell ⟨w.heap.size + 1, 6, none⟩ (.pointer u) ∧ At (fun b => S b ∨ w3.heap.size ≤ b) w4 z' u ∧ Below w3.heap.size w3 w4)
  case first =>
    first
      | (go_region_with (first
          | (go_at_call 35; (with_reducible refine (RC1.out).mono ?_); rintro e w4 ⟨u, rfl, hu, hb4⟩; have sc4 : w4.cell? ⟨w.heap.size + 1, 6, none⟩ = some (.pointer pz) := cells_left (W := w3.drew) hb4 c6; have sf4 : w4.frozen? ⟨w.heap.size + 1, 6, none⟩ = false := frozen_left (W := w3.drew) hb4 hz3 fr6; have HU := Lib.hid hu; have HB4 := Lib.hid hb4; clear hu hb4)))
      | fail
    all_goals
      go_wp2_with fail
      go_meet
      exact ⟨w4, u, rfl, HU.out, low_trans (low_drew (Below.refl _ w3)) HB4.out⟩
  case rest =>
    obtain ⟨w4, u, rfl, hu, hb4⟩ := hcut
    have own4 := Lib.hid ((own3.out.on hb4).set 6 (.pointer u))
    have LB := Lib.hid ((low_trans LOW3.out hb4).setCell (p := ⟨w.heap.size + 1, 6, none⟩) (Nat.le_succ _) (.pointer u))
    have HU := Lib.hid hu
    have ND := Lib.hid (needed_any (w.heap.size + 1) m i x u po (w4.setCell ⟨w.heap.size + 1, 6, none⟩ (.pointer u)) own4.out.node)
    clear hu hb4
    go_wp2_with fail
    ((with_reducible refine (ND.out).mono ?_); rintro e w5 ⟨rfl, hb5⟩)
    go_wp2_with fail
    go_ret
    have hno : ¬ (fun b => S b ∨ w3.heap.size ≤ b) (w.heap.size + 1) := fun h => h.elim (fun h => by have := HS.out _ h; omega) (fun h => by omega)
    have LB5 := low_trans LB.out hb5
    refine PutR.of (w1 := w) (need_at (Or.inr (by omega)) (own4.out.on hb5).node ?_ ?_) (Nat.le_refl _) LB5
    · exact ((HU.out.set (a := ⟨w.heap.size + 1, 6, none⟩) hno _).on hb5).mono fun b h => h.imp id fun h => by omega
    · exact (HO.out.on LB5).mono fun b h => Or.inl h
set_option maxHeartbeats 4000000 in
theorem without_half1 (b : Nat) (n m : Net) (i : Bool) (x : Int) (pz po : Option Addr) (z o o' : Tri) (S : Nat → Prop) (w : World) (hS : ∀ b, S b → b < w.heap.size) (hz : At S w z pz) (ho : At S w o po) (hN : Node w b m i x pz po) (hn : n.ok) (hm : m.ok) (hne : m ≠ n) (hb0 : bitA n.a m.n = 1)
    (RC : Hid (∀ W, Below w.heap.size w W → Calls Try.prog 35 #[.pointer po, .agg #[.bool n.a.v6, .int .u64 n.a.hi, .int .u64 n.a.lo, .int .i64 n.n]] W (PutR S W o'))) :
    Calls Try.prog 35 #[.pointer (some ⟨b, 0, none⟩), .agg #[.bool n.a.v6, .int .u64 n.a.hi, .int .u64 n.a.lo, .int .i64 n.n]] w (PutR S w (Tri.need m i x z o')) := by
  have hb := hN.lt
  have LOW : Below w.heap.size w (w.alloc (.cells #[.bool n.a.v6, .int .u64 n.a.hi, .int .u64 n.a.lo, .int .i64 n.n] 27)) := (Below.refl _ _).alloc (Nat.le_refl _) _
  have k0 : (w.alloc (.cells #[.bool n.a.v6, .int .u64 n.a.hi, .int .u64 n.a.lo, .int .i64 n.n] 27)).cell? ⟨w.heap.size, 0, none⟩ = some (.bool n.a.v6) := by simp [go_sem]
  have k1 : (w.alloc (.cells #[.bool n.a.v6, .int .u64 n.a.hi, .int .u64 n.a.lo, .int .i64 n.n] 27)).cell? ⟨w.heap.size, 1, none⟩ = some (.int .u64 n.a.hi) := by simp [go_sem]
  have k2 : (w.alloc (.cells #[.bool n.a.v6, .int .u64 n.a.hi, .int .u64 n.a.lo, .int .i64 n.n] 27)).cell? ⟨w.heap.size, 2, none⟩ = some (.int .u64 n.a.lo) := by simp [go_sem]
  have k3 : (w.alloc (.cells #[.bool n.a.v6, .int .u64 n.a.hi, .int .u64 n.a.lo, .int .i64 n.n] 27)).cell? ⟨w.heap.size, 3, none⟩ = some (.int .i64 n.n) := by simp [go_sem]
  have m0 : (w.alloc (.cells #[.bool n.a.v6, .int .u64 n.a.hi, .int .u64 n.a.lo, .int .i64 n.n] 27)).cell? ⟨b, 0, none⟩ = some (.bool m.a.v6) := cells_left LOW hN.c0
  have m1 : (w.alloc (.cells #[.bool n.a.v6, .int .u64 n.a.hi, .int .u64 n.a.lo, .int .i64 n.n] 27)).cell? ⟨b, 1, none⟩ = some (.int .u64 m.a.hi) := cells_left LOW hN.c1
  have m2 : (w.alloc (.cells #[.bool n.a.v6, .int .u64 n.a.hi, .int .u64 n.a.lo, .int .i64 n.n] 27)).cell? ⟨b, 2, none⟩ = some (.int .u64 m.a.lo) := cells_left LOW hN.c2
  have m3 : (w.alloc (.cells #[.bool n.a.v6, .int .u64 n.a.hi, .int .u64 n.a.lo, .int .i64 n.n] 27)).cell? ⟨b, 3, none⟩ = some (.int .i64 m.n) := cells_left LOW hN.c3
  have m4 : (w.alloc (.cells #[.bool n.a.v6, .int .u64 n.a.hi, .int .u64 n.a.lo, .int .i64 n.n] 27)).cell? ⟨b, 4, none⟩ = some (.bool i) := cells_left LOW hN.c4
  have m5 : (w.alloc (.cells #[.bool n.a.v6, .int .u64 n.a.hi, .int .u64 n.a.lo, .int .i64 n.n] 27)).cell? ⟨b, 5, none⟩ = some (.int .i64 x) := cells_left LOW hN.c5
  have m6 : (w.alloc (.cells #[.bool n.a.v6, .int .u64 n.a.hi, .int .u64 n.a.lo, .int .i64 n.n] 27)).cell? ⟨b, 6, none⟩ = some (.pointer pz) := cells_left LOW hN.c6
  have m7 : (w.alloc (.cells #[.bool n.a.v6, .int .u64 n.a.hi, .int .u64 n.a.lo, .int .i64 n.n] 27)).cell? ⟨b, 7, none⟩ = some (.pointer po) := cells_left LOW hN.c7
  have EQ := fun W => eq_false hne W
  have HF := Lib.hid (fun W c (hc : W.cell? ⟨c, 3, none⟩ = some (.int .i64 m.n)) => half_any c m n.a W hc hm hn.1)
  rw [hb0] at HF
  have HZ := Lib.hid hz
  have HO := Lib.hid ho
  have HS := Lib.hid hS
  clear hz ho hne hb0 hS
  have own2 : Hid (Own ((w.alloc (.cells #[.bool n.a.v6, .int .u64 n.a.hi, .int .u64 n.a.lo, .int .i64 n.n] 27)).alloc (.cells #[.bool m.a.v6, .int .u64 m.a.hi, .int .u64 m.a.lo, .int .i64 m.n, .bool i, .int .i64 x, .pointer pz, .pointer po] 63)) (w.heap.size + 1) 63 [.bool m.a.v6, .int .u64 m.a.hi, .int .u64 m.a.lo, .int .i64 m.n, .bool i, .int .i64 x, .pointer pz, .pointer po]) := Lib.hid (by have h := Own.new (w.alloc (.cells #[.bool n.a.v6, .int .u64 n.a.hi, .int .u64 n.a.lo, .int .i64 n.n] 27)) #[.bool m.a.v6, .int .u64 m.a.hi, .int .u64 m.a.lo, .int .i64 m.n, .bool i, .int .i64 x, .pointer pz, .pointer po] 63; rwa [show (w.alloc (.cells #[.bool n.a.v6, .int .u64 n.a.hi, .int .u64 n.a.lo, .int .i64 n.n] 27)).heap.size = w.heap.size + 1 from by simp] at h)
  have HF1 := Lib.hid (HF.out ((w.alloc (.cells #[.bool n.a.v6, .int .u64 n.a.hi, .int .u64 n.a.lo, .int .i64 n.n] 27)).alloc (.cells #[.bool m.a.v6, .int .u64 m.a.hi, .int .u64 m.a.lo, .int .i64 m.n, .bool i, .int .i64 x, .pointer pz, .pointer po] 63)) (w.heap.size + 1) (own2.out.cell rfl))
  have LOW2 := Lib.hid (low_trans LOW ((Below.refl (w.alloc (.cells #[.bool n.a.v6, .int .u64 n.a.hi, .int .u64 n.a.lo, .int .i64 n.n] 27)).heap.size (w.alloc (.cells #[.bool n.a.v6, .int .u64 n.a.hi, .int .u64 n.a.lo, .int .i64 n.n] 27))).alloc (Nat.le_refl _) (.cells #[.bool m.a.v6, .int .u64 m.a.hi, .int .u64 m.a.lo, .int .i64 m.n, .bool i, .int .i64 x, .pointer pz, .pointer po] 63)))
  have k0' : ((w.alloc (.cells #[.bool n.a.v6, .int .u64 n.a.hi, .int .u64 n.a.lo, .int .i64 n.n] 27)).alloc (.cells #[.bool m.a.v6, .int .u64 m.a.hi, .int .u64 m.a.lo, .int .i64 m.n, .bool i, .int .i64 x, .pointer pz, .pointer po] 63)).cell? ⟨w.heap.size, 0, none⟩ = some (.bool n.a.v6) := by simp [go_sem]
  have k1' : ((w.alloc (.cells #[.bool n.a.v6, .int .u64 n.a.hi, .int .u64 n.a.lo, .int .i64 n.n] 27)).alloc (.cells #[.bool m.a.v6, .int .u64 m.a.hi, .int .u64 m.a.lo, .int .i64 m.n, .bool i, .int .i64 x, .pointer pz, .pointer po] 63)).cell? ⟨w.heap.size, 1, none⟩ = some (.int .u64 n.a.hi) := by simp [go_sem]
  have k2' : ((w.alloc (.cells #[.bool n.a.v6, .int .u64 n.a.hi, .int .u64 n.a.lo, .int .i64 n.n] 27)).alloc (.cells #[.bool m.a.v6, .int .u64 m.a.hi, .int .u64 m.a.lo, .int .i64 m.n, .bool i, .int .i64 x, .pointer pz, .pointer po] 63)).cell? ⟨w.heap.size, 2, none⟩ = some (.int .u64 n.a.lo) := by simp [go_sem]
  have k3' : ((w.alloc (.cells #[.bool n.a.v6, .int .u64 n.a.hi, .int .u64 n.a.lo, .int .i64 n.n] 27)).alloc (.cells #[.bool m.a.v6, .int .u64 m.a.hi, .int .u64 m.a.lo, .int .i64 m.n, .bool i, .int .i64 x, .pointer pz, .pointer po] 63)).cell? ⟨w.heap.size, 3, none⟩ = some (.int .i64 n.n) := by simp [go_sem]
  go_enter Try.func35, Try.ntmps35
  go_wp2_with fail
  ((with_reducible refine (HF1.out).mono ?_); rintro e w3 ⟨rfl, hb3⟩)
  have own3 := Lib.hid (own2.out.on hb3)
  have LOW3 := Lib.hid (low_trans LOW2.out hb3)
  have c6 : w3.cell? ⟨w.heap.size + 1, 6, none⟩ = some (.pointer pz) := own3.out.cell rfl
  have fr6 : w3.frozen? ⟨w.heap.size + 1, 6, none⟩ = false := own3.out.free _
  have c7 : w3.cell? ⟨w.heap.size + 1, 7, none⟩ = some (.pointer po) := own3.out.cell rfl
  have fr7 : w3.frozen? ⟨w.heap.size + 1, 7, none⟩ = false := own3.out.free _
  have kk0 : w3.cell? ⟨w.heap.size, 0, none⟩ = some (.bool n.a.v6) := cells_left hb3 k0'
  have kk1 : w3.cell? ⟨w.heap.size, 1, none⟩ = some (.int .u64 n.a.hi) := cells_left hb3 k1'
  have kk2 : w3.cell? ⟨w.heap.size, 2, none⟩ = some (.int .u64 n.a.lo) := cells_left hb3 k2'
  have kk3 : w3.cell? ⟨w.heap.size, 3, none⟩ = some (.int .i64 n.n) := cells_left hb3 k3'
  clear k0' k1' k2' k3' hb3 k0 k1 k2 k3
  clear m0 m1 m2 m3 m4 m5 m6 m7
  have hz3 : w.heap.size + 1 < w3.heap.size := own3.out.lt
  have RC1 := Lib.hid (RC.out w3.drew (low_drew LOW3.out))
  go_upto_region 6 with fail
  go_cut [] (fun wx => ∃ w4 u, wx = w4.setCell ⟨w.heap.size + 1, 7, none⟩ (.pointer u) ∧ At (fun b => S b ∨ w3.heap.size ≤ b) w4 o' u ∧ Below w3.heap.size w3 w4)
  case first =>
    first
      | (go_region_with (first
          | (go_at_call 35; (with_reducible refine (RC1.out).mono ?_); rintro e w4 ⟨u, rfl, hu, hb4⟩; have sc4 : w4.cell? ⟨w.heap.size + 1, 7, none⟩ = some (.pointer po) := cells_left (W := w3.drew) hb4 c7; have sf4 : w4.frozen? ⟨w.heap.size + 1, 7, none⟩ = false := frozen_left (W := w3.drew) hb4 hz3 fr7; have HU := Lib.hid hu; have HB4 := Lib.hid hb4; clear hu hb4)))
      | fail
    all_goals
      go_wp2_with fail
      go_meet
      exact ⟨w4, u, rfl, HU.out, low_trans (low_drew (Below.refl _ w3)) HB4.out⟩
  case rest =>
    obtain ⟨w4, u, rfl, hu, hb4⟩ := hcut
    have own4 := Lib.hid ((own3.out.on hb4).set 7 (.pointer u))
    have LB := Lib.hid ((low_trans LOW3.out hb4).setCell (p := ⟨w.heap.size + 1, 7, none⟩) (Nat.le_succ _) (.pointer u))
    have HU := Lib.hid hu
    have ND := Lib.hid (needed_any (w.heap.size + 1) m i x pz u (w4.setCell ⟨w.heap.size + 1, 7, none⟩ (.pointer u)) own4.out.node)
    clear hu hb4
    go_wp2_with fail
    ((with_reducible refine (ND.out).mono ?_); rintro e w5 ⟨rfl, hb5⟩)
    go_wp2_with fail
    go_ret
    have hno : ¬ (fun b => S b ∨ w3.heap.size ≤ b) (w.heap.size + 1) := fun h => h.elim (fun h => by have := HS.out _ h; omega) (fun h => by omega)
    have LB5 := low_trans LB.out hb5
    refine PutR.of (w1 := w) (need_at (Or.inr (by omega)) (own4.out.on hb5).node ?_ ?_) (Nat.le_refl _) LB5
    · exact (HZ.out.on LB5).mono fun b h => Or.inl h
    · exact ((HU.out.set (a := ⟨w.heap.size + 1, 7, none⟩) hno _).on hb5).mono fun b h => h.imp id fun h => by omega
end Go.Proofs.Ytgnpnmdndlodlaa.Tr
