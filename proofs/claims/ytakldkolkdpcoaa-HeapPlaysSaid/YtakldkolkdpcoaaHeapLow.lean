/- A list of items in a block; where the first of three stands; an item sinks. -/
import Derived.Test.YtakldkolkdpcoaaHeapSort
import Derived.Deep.LoopGhost
namespace Go.Proofs.Ytakldkolkdpcoaa.Hp
set_option maxRecDepth 100000
open Go.ChangeShapes Go.WideShapes Go.ChangeAt Go.RowKit
open Dec Words V4 V6 Ad Ci En Go.Deep
set_option linter.unusedVariables false
theorem splice_lead (X T vs : List Value) (o : Nat) (h : o + vs.length ≤ X.length) : splice (X ++ T) o vs = splice X o vs ++ T := by
  unfold splice
  rw [List.take_append_of_le_length (by omega), List.drop_append_of_le_length (by omega)]
  simp
theorem splice_one {α : Type} (D : List α) (i : Nat) (x : α) (h : i < D.length) : splice D i [x] = D.set i x := by
  unfold splice
  rw [List.set_eq_take_append_cons_drop, if_pos h]
  simp
theorem set_flat (D : List It) (tail : List Value) {i : Nat} (x : It) (hi : i < D.length) : splice (flat encI D ++ tail) (i * 5) (encI x) = flat encI (D.set i x) ++ tail := by
  have hl : (flat encI D).length = D.length * 5 := flat_len encI_len D
  rw [splice_lead _ _ _ _ (by rw [hl, encI_len]; omega), ← flat_one encI x, flat_splice encI_len, splice_one _ _ _ hi]
/-- A list in a block: n of them, then what is behind. -/
structure Rw (g n : Nat) (tail : List Value) (f : Nat → It) (w : World) : Prop where
  dat : Blk w g 32 (flat encI (ls n f) ++ tail)
  good : ∀ i, i < n → (f i).ok
section
variable {g n : Nat} {tail : List Value} {f : Nat → It} {w : World}
theorem Rw.at (h : Rw g n tail f w) {i : Nat} (hi : i < n) {j : Nat} {u : Value} (hu : (encI (f i))[j]? = some u) : w.cell? ⟨g, i * 5 + j, none⟩ = some u := by
  have hj : j < 5 := by have := (List.getElem?_eq_some_iff.1 hu).1; rwa [encI_len] at this
  refine h.dat.cell ?_
  have hl : i < (ls n f).length := by rw [ls_length]; exact hi
  rw [List.getElem?_append_left (by rw [flat_len encI_len, ls_length]; omega), flat_at encI_len _ i j hl hj, ls_get, hu]
theorem Rw.free (h : Rw g n tail f w) (j : Nat) : w.frozen? ⟨g, j, none⟩ = false := h.dat.free j
theorem Rw.on {w' : World} (h : Rw g n tail f w) (k : Below w.heap.size w w') : Rw g n tail f w' := ⟨h.dat.on k, h.good⟩
theorem Rw.drew (h : Rw g n tail f w) : Rw g n tail f w.drew := ⟨h.dat.drew, h.good⟩
theorem Rw.lt (h : Rw g n tail f w) : g < w.heap.size := h.dat.lt
theorem Rw.items (h : Rw g n tail f w) {c : Nat} (hc : n ≤ c) : Items w (.slice (some ⟨g, 0, none⟩) n c) (ls n f) :=
  Blk.reads encI_len h.dat (by rw [List.take_left' (by rw [flat_len encI_len, ls_length])]) (ls_length n f) hc
theorem put_blk {D : List It} (h : Blk w g 32 (flat encI D ++ tail)) {i : Nat} (hi : i < D.length) (x : It) :
    Blk (((((w.setCell ⟨g, i * 5, none⟩ (.int .i64 x.k)).setCell ⟨g, i * 5 + 1, none⟩ (.bool x.e.a.v6)).setCell ⟨g, i * 5 + 2, none⟩ (.int .u64 x.e.a.hi)).setCell ⟨g, i * 5 + 3, none⟩ (.int .u64 x.e.a.lo)).setCell ⟨g, i * 5 + 4, none⟩ (.int .i64 x.e.n)) g 32 (flat encI (D.set i x) ++ tail) ∧ Bt g w (((((w.setCell ⟨g, i * 5, none⟩ (.int .i64 x.k)).setCell ⟨g, i * 5 + 1, none⟩ (.bool x.e.a.v6)).setCell ⟨g, i * 5 + 2, none⟩ (.int .u64 x.e.a.hi)).setCell ⟨g, i * 5 + 3, none⟩ (.int .u64 x.e.a.lo)).setCell ⟨g, i * 5 + 4, none⟩ (.int .i64 x.e.n)) := by
  have k := setCells_blk g 32 (encI x) (i * 5) w _ h (by rw [encI_len, List.length_append, flat_len encI_len]; omega)
  rw [set_flat D tail x hi] at k
  exact k
/-- Two places changed, first i, then j. -/
theorem Rw.swap (h : Rw g n tail f w) {i j : Nat} (hi : i < n) (hj : j < n) : Rw g n tail (sw i j f) ((((((((((w.setCell ⟨g, i * 5, none⟩ (.int .i64 (f j).k)).setCell ⟨g, i * 5 + 1, none⟩ (.bool (f j).e.a.v6)).setCell ⟨g, i * 5 + 2, none⟩ (.int .u64 (f j).e.a.hi)).setCell ⟨g, i * 5 + 3, none⟩ (.int .u64 (f j).e.a.lo)).setCell ⟨g, i * 5 + 4, none⟩ (.int .i64 (f j).e.n)).setCell ⟨g, j * 5, none⟩ (.int .i64 (f i).k)).setCell ⟨g, j * 5 + 1, none⟩ (.bool (f i).e.a.v6)).setCell ⟨g, j * 5 + 2, none⟩ (.int .u64 (f i).e.a.hi)).setCell ⟨g, j * 5 + 3, none⟩ (.int .u64 (f i).e.a.lo)).setCell ⟨g, j * 5 + 4, none⟩ (.int .i64 (f i).e.n)) ∧ Bt g w ((((((((((w.setCell ⟨g, i * 5, none⟩ (.int .i64 (f j).k)).setCell ⟨g, i * 5 + 1, none⟩ (.bool (f j).e.a.v6)).setCell ⟨g, i * 5 + 2, none⟩ (.int .u64 (f j).e.a.hi)).setCell ⟨g, i * 5 + 3, none⟩ (.int .u64 (f j).e.a.lo)).setCell ⟨g, i * 5 + 4, none⟩ (.int .i64 (f j).e.n)).setCell ⟨g, j * 5, none⟩ (.int .i64 (f i).k)).setCell ⟨g, j * 5 + 1, none⟩ (.bool (f i).e.a.v6)).setCell ⟨g, j * 5 + 2, none⟩ (.int .u64 (f i).e.a.hi)).setCell ⟨g, j * 5 + 3, none⟩ (.int .u64 (f i).e.a.lo)).setCell ⟨g, j * 5 + 4, none⟩ (.int .i64 (f i).e.n)) := by
  obtain ⟨b1, t1⟩ := put_blk h.dat (i := i) (by rw [ls_length]; exact hi) (f j)
  obtain ⟨b2, t2⟩ := put_blk b1 (i := j) (by rw [List.length_set, ls_length]; exact hj) (f i)
  rw [ls_sw f hi hj] at b2
  exact ⟨⟨b2, sw_mem hi hj h.good⟩, t1.trans t2⟩
/-- One place written. -/
theorem Rw.put (h : Rw g n tail f w) {i : Nat} (hi : i < n) {x : It} (hx : x.ok) : Rw g n tail (fun p => if p = i then x else f p) (((((w.setCell ⟨g, i * 5, none⟩ (.int .i64 x.k)).setCell ⟨g, i * 5 + 1, none⟩ (.bool x.e.a.v6)).setCell ⟨g, i * 5 + 2, none⟩ (.int .u64 x.e.a.hi)).setCell ⟨g, i * 5 + 3, none⟩ (.int .u64 x.e.a.lo)).setCell ⟨g, i * 5 + 4, none⟩ (.int .i64 x.e.n)) ∧ Bt g w (((((w.setCell ⟨g, i * 5, none⟩ (.int .i64 x.k)).setCell ⟨g, i * 5 + 1, none⟩ (.bool x.e.a.v6)).setCell ⟨g, i * 5 + 2, none⟩ (.int .u64 x.e.a.hi)).setCell ⟨g, i * 5 + 3, none⟩ (.int .u64 x.e.a.lo)).setCell ⟨g, i * 5 + 4, none⟩ (.int .i64 x.e.n)) := by
  obtain ⟨b1, t1⟩ := put_blk h.dat (i := i) (by rw [ls_length]; exact hi) x
  rw [ls_set f x hi] at b1
  refine ⟨⟨b1, fun p hp => ?_⟩, t1⟩
  by_cases e : p = i
  · rw [if_pos e]; exact hx
  · rw [if_neg e]; exact h.good p hp
/-- A list that a call made, as a block. -/
theorem own_rw {B : Nat} {w : World} {v : Value} {l : List It} (h : OwnI B w v l) (h0 : 0 < l.length) (hok : ∀ x ∈ l, x.ok) : ∃ g cap Z, v = .slice (some ⟨g, 0, none⟩) l.length cap ∧ B ≤ g ∧ l.length ≤ cap ∧ Rw g l.length Z (fn l) w := by
  obtain ⟨g, cap, Z, h1, h2, h3, h4⟩ := own_blk h h0
  exact ⟨g, cap, Z, h1, h2, h3, by rw [show ls l.length (fn l) = l from ls_of l]; exact h4, fun i hi => hok _ (by rw [show fn l i = l[i] from getElem!_pos l i hi]; exact List.getElem_mem _)⟩
theorem above_any (i p : Nat) (w : World) (h1 : 1 ≤ i) (h2 : i ≤ 1000000) (hp : p = (i - 1) / 2) : Calls Try.prog 19 #[.int .i64 i] w fun e w' => e = .returned (.int .i64 p) ∧ w = w' := by
  obtain ⟨m, hm⟩ : ∃ m : Nat, m = i - 1 := ⟨_, rfl⟩
  have hw : IntKind.i64.wrap ((i : Int) - 1) = (m : Int) := by rw [IntKind.wrap_i64]; omega
  have hd : ((m : Int)).tdiv 2 = (p : Int) := by rw [Int.tdiv_eq_ediv_of_nonneg (by omega)]; omega
  have hw2 : IntKind.i64.wrap (p : Int) = (p : Int) := by rw [IntKind.wrap_i64]; omega
  clear hm hp
  go_enter Try.func19, Try.ntmps19
  go_wp2_with fail
  go_ret
  exact ⟨rfl, rfl⟩
def bst (n : Nat) (f : Nat → It) (i : Nat) : Nat → Nat
  | 0 => i
  | k + 1 => if 2 * i + 1 + k < n ∧ ltH (f (2 * i + 1 + k)) (f (bst n f i k)) = true then 2 * i + 1 + k else bst n f i k
theorem bst_two (n : Nat) (f : Nat → It) (i : Nat) : bst n f i 2 = firstF n f i := rfl
theorem bst_stop {n : Nat} {f : Nat → It} {i k : Nat} (h : n ≤ 2 * i + 1 + k) : bst n f i (k + 1) = bst n f i k := by rw [bst, if_neg (fun hh => by omega)]
theorem bst_end {n : Nat} {f : Nat → It} {i : Nat} : ∀ k, k ≤ 2 → n ≤ 2 * i + 1 + k → bst n f i k = firstF n f i := by
  intro k hk h
  rw [← bst_two]
  rcases (by omega : k = 0 ∨ k = 1 ∨ k = 2) with rfl | rfl | rfl
  · exact ((bst_stop (k := 1) (by omega)).trans (bst_stop (k := 0) (by omega))).symm
  · exact (bst_stop (k := 1) (by omega)).symm
  · rfl
theorem bst_lt {n : Nat} {f : Nat → It} {i : Nat} (hi : i < n) : ∀ k, bst n f i k < n
  | 0 => hi
  | k + 1 => by
    rw [bst]
    by_cases h : 2 * i + 1 + k < n ∧ ltH (f (2 * i + 1 + k)) (f (bst n f i k)) = true
    · rw [if_pos h]; exact h.1
    · rw [if_neg h]; exact bst_lt hi k
set_option maxHeartbeats 8000000 in
theorem firstOf_any (h : Rw g n tail f w) {i c : Nat} (hn : n ≤ 1000000) (hi : i < n) :
    Calls Try.prog 33 #[.slice (some ⟨g, 0, none⟩) n c, .int .i64 i] w fun e w' => e = .returned (.int .i64 (firstF n f i)) ∧ Below w.heap.size w w' := by
  have HR := Lib.hid h
  clear h
  obtain ⟨m2, hm2⟩ : ∃ m : Nat, m = 2 * i := ⟨_, rfl⟩
  obtain ⟨a, ha⟩ : ∃ m : Nat, m = 2 * i + 1 := ⟨_, rfl⟩
  obtain ⟨b, hb⟩ : ∃ m : Nat, m = 2 * i + 2 := ⟨_, rfl⟩
  have hw0 : IntKind.i64.wrap (2 * (i : Int)) = (m2 : Int) := by rw [IntKind.wrap_i64]; omega
  have hw1 : IntKind.i64.wrap ((m2 : Int) + 1) = (a : Int) := by rw [IntKind.wrap_i64]; omega
  have hw2 : IntKind.i64.wrap ((m2 : Int) + 2) = (b : Int) := by rw [IntKind.wrap_i64]; omega
  have HI := Lib.hid hi
  have HA := Lib.hid ha
  have HB := Lib.hid hb
  clear hm2 ha hb hi
  go_enter Try.func33, Try.ntmps33
  go_wp2_with fail
  go_loopw [5, 6] (fun vf vb wr => ∃ (k m q : Nat), vf = .int .i64 m ∧ vb = .int .i64 q ∧ k ≤ 2 ∧ Hid (q = 2 * i + 1 + k) ∧ Hid (m = bst n f i k) ∧ Hid (Below w.heap.size w wr)) (fun _ vb _ => 2 * i + 3 - (intOf vb).toNat)
  case atStart => exact ⟨0, i, a, rfl, rfl, by omega, Lib.hid HA.out, Lib.hid rfl, Lib.hid (Below.refl _ _)⟩
  case round =>
    obtain ⟨k, m, q, rfl, rfl, hk, HQ, HM, HL⟩ := hrel
    have hbI := HB.out
    have hqI := HQ.out
    by_cases hkk : k < 2
    · have hqb : (q : Int) ≤ (b : Int) := by omega
      by_cases hqn : q < n
      · have hmn : m < n := by rw [HM.out]; exact bst_lt HI.out k
        clear hbI hqI
        have hnq : q < n := by omega
        have hzq : (q : Int) < (n : Int) := by omega
        have hbq : (q : Int) ≤ 9223372036854775807 := by omega
        have hnm : m < n := by omega
        have hzm : (m : Int) < (n : Int) := by omega
        have hbm : (m : Int) ≤ 9223372036854775807 := by omega
        cases hlo : ltH (f q) (f m) with
        | true =>
          have HN : Hid (q = bst n f i (k + 1)) := Lib.hid (by rw [bst, ← HQ.out, ← HM.out, if_pos ⟨hqn, hlo⟩])
          have HW := Lib.hid (HR.out.on HL.out)
          obtain ⟨x, hx⟩ : ∃ x, x = f q := ⟨_, rfl⟩
          obtain ⟨y, hy⟩ : ∃ x, x = f m := ⟨_, rfl⟩
          have C := lows_call (W0 := wr) (Lib.hid (fun X => ahead_any x y X (by rw [hx]; exact HW.out.good _ hnq) (by rw [hy]; exact HW.out.good _ hnm)))
          have hne : Nonempty (Cls (Lows wr)) := ⟨⟨_, Lows.self _⟩⟩
          have x0 : ∀ nq : Cls (Lows wr), nq.w.cell? ⟨g, q * 5, none⟩ = some (.int .i64 x.k) := fun nq => by rw [hx]; exact (HW.out.on nq.h).at hnq (j := 0) rfl
          have x1 : ∀ nq : Cls (Lows wr), nq.w.cell? ⟨g, q * 5 + 1, none⟩ = some (.bool x.e.a.v6) := fun nq => by rw [hx]; exact (HW.out.on nq.h).at hnq (j := 1) rfl
          have x2 : ∀ nq : Cls (Lows wr), nq.w.cell? ⟨g, q * 5 + 2, none⟩ = some (.int .u64 x.e.a.hi) := fun nq => by rw [hx]; exact (HW.out.on nq.h).at hnq (j := 2) rfl
          have x3 : ∀ nq : Cls (Lows wr), nq.w.cell? ⟨g, q * 5 + 3, none⟩ = some (.int .u64 x.e.a.lo) := fun nq => by rw [hx]; exact (HW.out.on nq.h).at hnq (j := 3) rfl
          have x4 : ∀ nq : Cls (Lows wr), nq.w.cell? ⟨g, q * 5 + 4, none⟩ = some (.int .i64 x.e.n) := fun nq => by rw [hx]; exact (HW.out.on nq.h).at hnq (j := 4) rfl
          have y0 : ∀ nq : Cls (Lows wr), nq.w.cell? ⟨g, m * 5, none⟩ = some (.int .i64 y.k) := fun nq => by rw [hy]; exact (HW.out.on nq.h).at hnm (j := 0) rfl
          have y1 : ∀ nq : Cls (Lows wr), nq.w.cell? ⟨g, m * 5 + 1, none⟩ = some (.bool y.e.a.v6) := fun nq => by rw [hy]; exact (HW.out.on nq.h).at hnm (j := 1) rfl
          have y2 : ∀ nq : Cls (Lows wr), nq.w.cell? ⟨g, m * 5 + 2, none⟩ = some (.int .u64 y.e.a.hi) := fun nq => by rw [hy]; exact (HW.out.on nq.h).at hnm (j := 2) rfl
          have y3 : ∀ nq : Cls (Lows wr), nq.w.cell? ⟨g, m * 5 + 3, none⟩ = some (.int .u64 y.e.a.lo) := fun nq => by rw [hy]; exact (HW.out.on nq.h).at hnm (j := 3) rfl
          have y4 : ∀ nq : Cls (Lows wr), nq.w.cell? ⟨g, m * 5 + 4, none⟩ = some (.int .i64 y.e.n) := fun nq => by rw [hy]; exact (HW.out.on nq.h).at hnm (j := 4) rfl
          have Hx := Lib.hid hx
          have Hy := Lib.hid hy
          rw [← hx, ← hy] at hlo
          rw [hlo] at C
          clear hlo hx hy
          go_wp2_with fail
          refine Cls.region (Lows wr) (by kernel_rfl) (by kernel_rfl) (low_drewN (Below.refl _ _) 1) ?_
          (try dsimp only [List.append])
          repeat (go_big_quiet_step (first | fail | (with_reducible exact Cls.call (C.out _ (Cls.h _)))))
          refine wpQuiet_nil ?_
          intro n9
          have hk9 := n9.h
          generalize n9.w = w9 at hk9 ⊢
          clear hne n9 C x0 x1 x2 x3 x4 y0 y1 y2 y3 y4 
          go_wp2_with fail
          go_roundw
          case rel => exact ⟨k + 1, q, q + 1, rfl, by go_num, by omega, Lib.hid (by have := HQ.out; omega), HN, Lib.hid (low_trans3 HL.out hk9)⟩
          case measure => have := HQ.out; simp [intOf]; omega
        | false =>
          have HN : Hid (m = bst n f i (k + 1)) := Lib.hid (by rw [bst, ← HQ.out, ← HM.out, if_neg (fun h => by rw [hlo] at h; exact absurd h.2 (by simp))])
          have HW := Lib.hid (HR.out.on HL.out)
          obtain ⟨x, hx⟩ : ∃ x, x = f q := ⟨_, rfl⟩
          obtain ⟨y, hy⟩ : ∃ x, x = f m := ⟨_, rfl⟩
          have C := lows_call (W0 := wr) (Lib.hid (fun X => ahead_any x y X (by rw [hx]; exact HW.out.good _ hnq) (by rw [hy]; exact HW.out.good _ hnm)))
          have hne : Nonempty (Cls (Lows wr)) := ⟨⟨_, Lows.self _⟩⟩
          have x0 : ∀ nq : Cls (Lows wr), nq.w.cell? ⟨g, q * 5, none⟩ = some (.int .i64 x.k) := fun nq => by rw [hx]; exact (HW.out.on nq.h).at hnq (j := 0) rfl
          have x1 : ∀ nq : Cls (Lows wr), nq.w.cell? ⟨g, q * 5 + 1, none⟩ = some (.bool x.e.a.v6) := fun nq => by rw [hx]; exact (HW.out.on nq.h).at hnq (j := 1) rfl
          have x2 : ∀ nq : Cls (Lows wr), nq.w.cell? ⟨g, q * 5 + 2, none⟩ = some (.int .u64 x.e.a.hi) := fun nq => by rw [hx]; exact (HW.out.on nq.h).at hnq (j := 2) rfl
          have x3 : ∀ nq : Cls (Lows wr), nq.w.cell? ⟨g, q * 5 + 3, none⟩ = some (.int .u64 x.e.a.lo) := fun nq => by rw [hx]; exact (HW.out.on nq.h).at hnq (j := 3) rfl
          have x4 : ∀ nq : Cls (Lows wr), nq.w.cell? ⟨g, q * 5 + 4, none⟩ = some (.int .i64 x.e.n) := fun nq => by rw [hx]; exact (HW.out.on nq.h).at hnq (j := 4) rfl
          have y0 : ∀ nq : Cls (Lows wr), nq.w.cell? ⟨g, m * 5, none⟩ = some (.int .i64 y.k) := fun nq => by rw [hy]; exact (HW.out.on nq.h).at hnm (j := 0) rfl
          have y1 : ∀ nq : Cls (Lows wr), nq.w.cell? ⟨g, m * 5 + 1, none⟩ = some (.bool y.e.a.v6) := fun nq => by rw [hy]; exact (HW.out.on nq.h).at hnm (j := 1) rfl
          have y2 : ∀ nq : Cls (Lows wr), nq.w.cell? ⟨g, m * 5 + 2, none⟩ = some (.int .u64 y.e.a.hi) := fun nq => by rw [hy]; exact (HW.out.on nq.h).at hnm (j := 2) rfl
          have y3 : ∀ nq : Cls (Lows wr), nq.w.cell? ⟨g, m * 5 + 3, none⟩ = some (.int .u64 y.e.a.lo) := fun nq => by rw [hy]; exact (HW.out.on nq.h).at hnm (j := 3) rfl
          have y4 : ∀ nq : Cls (Lows wr), nq.w.cell? ⟨g, m * 5 + 4, none⟩ = some (.int .i64 y.e.n) := fun nq => by rw [hy]; exact (HW.out.on nq.h).at hnm (j := 4) rfl
          have Hx := Lib.hid hx
          have Hy := Lib.hid hy
          rw [← hx, ← hy] at hlo
          rw [hlo] at C
          clear hlo hx hy
          go_wp2_with fail
          refine Cls.region (Lows wr) (by kernel_rfl) (by kernel_rfl) (low_drewN (Below.refl _ _) 1) ?_
          (try dsimp only [List.append])
          repeat (go_big_quiet_step (first | fail | (with_reducible exact Cls.call (C.out _ (Cls.h _)))))
          refine wpQuiet_nil ?_
          intro n9
          have hk9 := n9.h
          generalize n9.w = w9 at hk9 ⊢
          clear hne n9 C x0 x1 x2 x3 x4 y0 y1 y2 y3 y4 
          go_wp2_with fail
          go_roundw
          case rel => exact ⟨k + 1, m, q + 1, rfl, by go_num, by omega, Lib.hid (by have := HQ.out; omega), HN, Lib.hid (low_trans3 HL.out hk9)⟩
          case measure => have := HQ.out; simp [intOf]; omega
      · have hqz : ¬ (q : Int) < (n : Int) := by omega
        have E : Hid (m = firstF n f i) := Lib.hid (by rw [HM.out]; exact bst_end k hk (by omega))
        clear hbI hqI
        go_wp2_with fail
        go_ret
        exact ⟨by rw [E.out]; rfl, HL.out⟩
    · have hqb : ¬ (q : Int) ≤ (b : Int) := by omega
      have E : Hid (m = firstF n f i) := Lib.hid (by rw [HM.out, show k = 2 by omega]; rfl)
      clear hbI hqI
      go_wp2_with fail
      go_ret
      exact ⟨by rw [E.out]; rfl, HL.out⟩
set_option maxHeartbeats 8000000 in
theorem sink_any (h : Rw g n tail f w) {i c : Nat} (hn : n ≤ 1000000) (hi : i < n) :
    Calls Try.prog 24 #[.slice (some ⟨g, 0, none⟩) n c, .int .i64 i] w fun e w' => e = .returned (.tuple #[]) ∧ Rw g n tail (sinkF n n f i) w' ∧ Bt g w w' := by
  obtain ⟨T, hT⟩ : ∃ T, T = sinkF n n f i := ⟨_, rfl⟩
  rw [← hT]
  have HR := Lib.hid h
  have HI := Lib.hid hi
  have KF := Lib.hid fun (F : Nat → It) W (k : Nat) (h : Rw g n tail F W) (hk : k < n) => firstOf_any (c := c) h hn hk
  have HT := Lib.hid hT
  clear h hi hT
  go_enter Try.func24, Try.ntmps24
  go_wp2_with fail
  go_loopw [1] (fun vi wr => ∃ (k : Nat) (F : Nat → It), vi = .int .i64 k ∧ k < n ∧ Hid (∃ q, n ≤ q + k ∧ T = sinkF q n F k) ∧ Hid (Rw g n tail F wr) ∧ Hid (Bt g w wr)) (fun vi _ => n - (intOf vi).toNat)
  case atStart => exact ⟨i, f, rfl, HI.out, Lib.hid ⟨n, by omega, HT.out⟩, HR, Lib.hid (Bt.refl _ _)⟩
  case round =>
    obtain ⟨k, F, rfl, hk, HS, HK, HB⟩ := hrel
    have K1 := Lib.hid (KF.out F wr k HK.out hk)
    obtain ⟨d, hd⟩ : ∃ d, d = firstF n F k := ⟨_, rfl⟩
    rw [← hd] at K1
    have hdn : d < n := by rw [hd]; exact first_lt hk
    have hdk : d ≠ k → k < d := fun h => by rw [hd] at h ⊢; exact first_ge h
    have HD := Lib.hid hd
    clear hd HR KF
    by_cases e : d = k
    · have hez : ((d : Int) == (k : Int)) = true := by subst e; simp
      have E : Hid (T = F) := Lib.hid (by
        obtain ⟨q, hq, h⟩ := HS.out
        obtain ⟨q, rfl⟩ : ∃ q', q = q' + 1 := ⟨q - 1, by omega⟩
        rw [h, sinkF, ← HD.out, if_pos e])
      clear hdk e
      go_wp2_with fail
      refine K1.out.mono ?_; rintro e1 w1 ⟨rfl, hb1⟩
      have HK2 := Lib.hid (HK.out.on hb1)
      have HB2 := Lib.hid (HB.out.trans (Bt.of hb1))
      clear hb1 K1
      go_wp2_with fail
      (try simp only [Exit.inBlock, Exit.then])
      refine bodyPost_ret (results_none rfl _ _ _) rfl ?_
      exact ⟨rfl, by rw [E.out]; exact HK2.out, HB2.out⟩
    · have hez : ((d : Int) == (k : Int)) = false := by rw [beq_eq_false_iff_ne]; omega
      have hlt := hdk e
      have HS2 : Hid (∃ q, n ≤ q + d ∧ T = sinkF q n (sw k d F) d) := Lib.hid (by
        obtain ⟨q, hq, h⟩ := HS.out
        obtain ⟨q, rfl⟩ : ∃ q', q = q' + 1 := ⟨q - 1, by omega⟩
        refine ⟨q, by omega, ?_⟩
        rw [h, sinkF, ← HD.out, if_neg e])
      clear hdk e HS
      go_wp2_with fail
      refine K1.out.mono ?_; rintro e1 w1 ⟨rfl, hb1⟩
      have HK2 := Lib.hid (HK.out.on hb1)
      have HB2 := Lib.hid (HB.out.trans (Bt.of hb1))
      clear hb1 K1 HK HB
      have hnk : k < n := by omega
      have hzk : (k : Int) < (n : Int) := by omega
      have hbk : (k : Int) ≤ 9223372036854775807 := by omega
      have hnd : d < n := by omega
      have hzd : (d : Int) < (n : Int) := by omega
      have hbd : (d : Int) ≤ 9223372036854775807 := by omega
      obtain ⟨x, hx⟩ : ∃ x, x = F k := ⟨_, rfl⟩
      have x0 := HK2.out.at (i := k) hnk (j := 0) rfl
      have x1 := HK2.out.at (i := k) hnk (j := 1) rfl
      have x2 := HK2.out.at (i := k) hnk (j := 2) rfl
      have x3 := HK2.out.at (i := k) hnk (j := 3) rfl
      have x4 := HK2.out.at (i := k) hnk (j := 4) rfl
      rw [Nat.add_zero] at x0
      have xf0 := HK2.out.free (k * 5)
      have xf1 := HK2.out.free (k * 5 + 1)
      have xf2 := HK2.out.free (k * 5 + 2)
      have xf3 := HK2.out.free (k * 5 + 3)
      have xf4 := HK2.out.free (k * 5 + 4)
      rw [← hx] at x0 x1 x2 x3 x4
      have Hx := Lib.hid hx
      clear hx
      obtain ⟨y, hy⟩ : ∃ x, x = F d := ⟨_, rfl⟩
      have y0 := HK2.out.at (i := d) hnd (j := 0) rfl
      have y1 := HK2.out.at (i := d) hnd (j := 1) rfl
      have y2 := HK2.out.at (i := d) hnd (j := 2) rfl
      have y3 := HK2.out.at (i := d) hnd (j := 3) rfl
      have y4 := HK2.out.at (i := d) hnd (j := 4) rfl
      rw [Nat.add_zero] at y0
      have yf0 := HK2.out.free (d * 5)
      have yf1 := HK2.out.free (d * 5 + 1)
      have yf2 := HK2.out.free (d * 5 + 2)
      have yf3 := HK2.out.free (d * 5 + 3)
      have yf4 := HK2.out.free (d * 5 + 4)
      rw [← hy] at y0 y1 y2 y3 y4
      have Hy := Lib.hid hy
      clear hy
      go_wp2_with fail
      go_big_region
      all_goals
        clear x0 x1 x2 x3 x4 xf0 xf1 xf2 xf3 xf4 y0 y1 y2 y3 y4 yf0 yf1 yf2 yf3 yf4
        go_wp2_with fail
        obtain rfl := Hx.out
        obtain rfl := Hy.out
        go_roundw
        case rel => exact ⟨d, sw k d F, rfl, hdn, HS2, Lib.hid (HK2.out.swap hnk hnd).1.drew, Lib.hid ((HB2.out.trans (HK2.out.swap hnk hnd).2).drewN 1)⟩
        case measure => simp [intOf]; omega
end
end Go.Proofs.Ytakldkolkdpcoaa.Hp
