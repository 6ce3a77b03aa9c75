/- Peers compared; slices.IndexFunc at peers; where an end stands, how many came (package siege). -/
import Derived.Test.YthmcggbmeabpmaaSiegeMath
import Derived.Test.YthmcggbmeabpmaaSiegeMem
namespace Go.Proofs.Ythmcggbmeabpmaa.Si
set_option maxRecDepth 100000
open Go.ChangeShapes Go.WideShapes Go.ChangeAt Go.RowKit
open Dec Words V4 V6 Ad Ci En Sat Ha Pe Stb Gr Mi Ra Sh Cw Ev Go.Deep
set_option linter.unusedVariables false
theorem eqPeer (x y : Pr) (w : World) : (binOp .eql 41 (.agg #[.bool x.e.a.v6, .int .u64 x.e.a.hi, .int .u64 x.e.a.lo, .int .i64 x.e.n, .bool x.i, .int .i64 x.t, .int .i64 x.c.p, .int .i64 x.c.a, .int .i64 x.g, .int .i64 x.k]) (.agg #[.bool y.e.a.v6, .int .u64 y.e.a.hi, .int .u64 y.e.a.lo, .int .i64 y.e.n, .bool y.i, .int .i64 y.t, .int .i64 y.c.p, .int .i64 y.c.a, .int .i64 y.g, .int .i64 y.k])).run Try.prog w = .ok (.bool (sameP x y)) w := by
  have hE : ∀ w : World, (isAgg 34).run Try.prog w = .ok true w := fun _ => by kernel_rfl
  have hzE : ∀ w : World, (sizeOf 34).run Try.prog w = .ok 4 w := fun _ => by kernel_rfl
  have hS : ∀ w : World, (isAgg 39).run Try.prog w = .ok true w := fun _ => by kernel_rfl
  have hzS : ∀ w : World, (sizeOf 39).run Try.prog w = .ok 2 w := fun _ => by kernel_rfl
  have h3 : ∀ w : World, (isAgg 3).run Try.prog w = .ok false w := fun _ => by kernel_rfl
  have h4 : ∀ w : World, (isAgg 4).run Try.prog w = .ok false w := fun _ => by kernel_rfl
  rw [run_eql_struct, run_equalIn_struct w 9999 _ _ _ (by kernel_rfl) (by kernel_rfl)]
  rw [show (Try.prog.fieldsOf 41).toList = [⟨"End", 34, 0, false, "", "", 0⟩, ⟨"In", 4, 4, false, "", "", 32⟩, ⟨"Since", 3, 5, false, "", "", 40⟩, ⟨"Score", 39, 6, false, "", "", 48⟩, ⟨"Ping", 3, 8, false, "", "", 64⟩, ⟨"Work", 3, 9, false, "", "", 72⟩] from by kernel_rfl]
  have p0 : ∀ x : Pr, (part 34 #[.bool x.e.a.v6, .int .u64 x.e.a.hi, .int .u64 x.e.a.lo, .int .i64 x.e.n, .bool x.i, .int .i64 x.t, .int .i64 x.c.p, .int .i64 x.c.a, .int .i64 x.g, .int .i64 x.k] 0).run Try.prog w = .ok (.agg #[.bool x.e.a.v6, .int .u64 x.e.a.hi, .int .u64 x.e.a.lo, .int .i64 x.e.n]) w := fun x => by simp [part, hE, hzE]
  have p1 : ∀ x : Pr, (part 4 #[.bool x.e.a.v6, .int .u64 x.e.a.hi, .int .u64 x.e.a.lo, .int .i64 x.e.n, .bool x.i, .int .i64 x.t, .int .i64 x.c.p, .int .i64 x.c.a, .int .i64 x.g, .int .i64 x.k] 4).run Try.prog w = .ok (.bool x.i) w := fun x => part_one w _ _ _ _ (h4 w) rfl
  have p2 : ∀ x : Pr, (part 3 #[.bool x.e.a.v6, .int .u64 x.e.a.hi, .int .u64 x.e.a.lo, .int .i64 x.e.n, .bool x.i, .int .i64 x.t, .int .i64 x.c.p, .int .i64 x.c.a, .int .i64 x.g, .int .i64 x.k] 5).run Try.prog w = .ok (.int .i64 x.t) w := fun x => part_one w _ _ _ _ (h3 w) rfl
  have p3 : ∀ x : Pr, (part 39 #[.bool x.e.a.v6, .int .u64 x.e.a.hi, .int .u64 x.e.a.lo, .int .i64 x.e.n, .bool x.i, .int .i64 x.t, .int .i64 x.c.p, .int .i64 x.c.a, .int .i64 x.g, .int .i64 x.k] 6).run Try.prog w = .ok (.agg #[.int .i64 x.c.p, .int .i64 x.c.a]) w := fun x => by simp [part, hS, hzS]
  have p4 : ∀ x : Pr, (part 3 #[.bool x.e.a.v6, .int .u64 x.e.a.hi, .int .u64 x.e.a.lo, .int .i64 x.e.n, .bool x.i, .int .i64 x.t, .int .i64 x.c.p, .int .i64 x.c.a, .int .i64 x.g, .int .i64 x.k] 8).run Try.prog w = .ok (.int .i64 x.g) w := fun x => part_one w _ _ _ _ (h3 w) rfl
  have p5 : ∀ x : Pr, (part 3 #[.bool x.e.a.v6, .int .u64 x.e.a.hi, .int .u64 x.e.a.lo, .int .i64 x.e.n, .bool x.i, .int .i64 x.t, .int .i64 x.c.p, .int .i64 x.c.a, .int .i64 x.g, .int .i64 x.k] 9).run Try.prog w = .ok (.int .i64 x.k) w := fun x => part_one w _ _ _ _ (h3 w) rfl
  have q0 := eqInEnd 9996 x.e y.e w
  have q1 : (Op.equalIn 9999 4 (.bool x.i) (.bool y.i)).run Try.prog w = .ok (x.i == y.i) w := run_equalIn_bool (P := Try.prog) w 9998 4 x.i y.i Try.underlying4
  have q2 : ∀ m n : Int, (Op.equalIn 9999 3 (.int .i64 m) (.int .i64 n)).run Try.prog w = .ok (m == n) w := fun m n => run_equalIn_int (P := Try.prog) w 9998 3 .i64 .i64 m n Try.underlying3
  have q3 := eqInScore 9997 x.c y.c w
  simp only [Op.eqFields, Sem.run_bind, Sem.run_ite, p0, p1, p2, p3, p4, p5, q0, q1, q2, q3, Result.andThen_ok, sameP]
  cases (sameE x.e y.e) <;> cases (x.i == y.i) <;> cases (x.t == y.t) <;> cases (x.c.p == y.c.p && x.c.a == y.c.a) <;> cases (x.g == y.g) <;> cases (x.k == y.k) <;> simp
theorem neqPeer (x y : Pr) (w : World) : (binOp .neq 41 (.agg #[.bool x.e.a.v6, .int .u64 x.e.a.hi, .int .u64 x.e.a.lo, .int .i64 x.e.n, .bool x.i, .int .i64 x.t, .int .i64 x.c.p, .int .i64 x.c.a, .int .i64 x.g, .int .i64 x.k]) (.agg #[.bool y.e.a.v6, .int .u64 y.e.a.hi, .int .u64 y.e.a.lo, .int .i64 y.e.n, .bool y.i, .int .i64 y.t, .int .i64 y.c.p, .int .i64 y.c.a, .int .i64 y.g, .int .i64 y.k])).run Try.prog w = .ok (.bool (!sameP x y)) w := by
  have h := eqPeer x y w
  rw [run_eql_struct] at h
  rw [run_neq_struct]
  generalize (Op.equalIn 10000 41 (.agg #[.bool x.e.a.v6, .int .u64 x.e.a.hi, .int .u64 x.e.a.lo, .int .i64 x.e.n, .bool x.i, .int .i64 x.t, .int .i64 x.c.p, .int .i64 x.c.a, .int .i64 x.g, .int .i64 x.k]) (.agg #[.bool y.e.a.v6, .int .u64 y.e.a.hi, .int .u64 y.e.a.lo, .int .i64 y.e.n, .bool y.i, .int .i64 y.t, .int .i64 y.c.p, .int .i64 y.c.a, .int .i64 y.g, .int .i64 y.k])).run Try.prog w = r at h
  cases r with
  | ok b w' =>
    simp only [Result.andThen_ok, Result.ok.injEq, Value.bool.injEq] at h ⊢
    obtain ⟨rfl, rfl⟩ := h
    exact ⟨rfl, rfl⟩
  | halt x w' => cases h
/-- What a function value tells of a peer, wherever all that lay below B is as it was. -/
def TellsP (g : Nat) (lb : Array Value) (p : Pr → Bool) (B : Nat) (w : World) : Prop :=
  ∀ (W : World) (x : Pr), Below B w W → B ≤ W.heap.size → Calls Try.prog g (#[.agg #[.bool x.e.a.v6, .int .u64 x.e.a.hi, .int .u64 x.e.a.lo, .int .i64 x.e.n, .bool x.i, .int .i64 x.t, .int .i64 x.c.p, .int .i64 x.c.a, .int .i64 x.g, .int .i64 x.k]] ++ lb) W fun e w' => e = .returned (.bool (p x)) ∧ Below W.heap.size W w'
theorem TellsP.on {g : Nat} {lb : Array Value} {p : Pr → Bool} {B : Nat} {w w' : World} (h : TellsP g lb p B w) (k : Below B w w') : TellsP g lb p B w' := fun W x hb hB => h W x (k.trans hb) hB
theorem TellsP.mono {g : Nat} {lb : Array Value} {p : Pr → Bool} {B C : Nat} {w : World} (h : TellsP g lb p B w) (k : B ≤ C) : TellsP g lb p C w := fun W x hb hB => h W x (hb.mono k) (Nat.le_trans k hB)
def posP (p : Pr → Bool) (l : List Pr) : Int := if l.findIdx p < l.length then (l.findIdx p : Int) else -1
theorem posP_hit {p : Pr → Bool} {l : List Pr} {k : Nat} (hk : k < l.length) (h : ∀ i, i < l.length → i < k → p l[i]! = false) (hp : p l[k]! = true) : posP p l = (k : Int) ∧ l.findIdx p = k := by
  have e : l.findIdx p = k := (List.findIdx_eq hk).2 ⟨by rw [getElem!_pos l k hk] at hp; exact hp, fun j hj => by have := h j (by omega) hj; rw [getElem!_pos l j (by omega)] at this; simpa using this⟩
  exact ⟨by unfold posP; rw [e, if_pos hk], e⟩
theorem posP_miss {p : Pr → Bool} {l : List Pr} (h : ∀ i, i < l.length → p l[i]! = false) : posP p l = -1 := by
  have e : l.findIdx p = l.length := by
    rw [List.findIdx_eq_length]
    intro x hx
    obtain ⟨i, hi, rfl⟩ := List.getElem_of_mem hx
    have := h i hi
    rw [getElem!_pos l i hi] at this
    simpa using this
  unfold posP; rw [e, if_neg (by omega)]
theorem pos_end (l : List Pr) (E : Endp) : posP (fun x => sameE x.e E) l = ixE l E := rfl
set_option maxHeartbeats 4000000 in
theorem indexP_any (g : Nat) (lb : Array Value) (p : Pr → Bool) (eg : ∀ args w, (callFunc g args).run Try.prog w = .ok (.enter g args) w) (v : Value) (l : List Pr) (w : World) (h : Peers w v l) (hl : l.length ≤ 1000000) (hp : TellsP g lb p w.heap.size w) :
    Calls Try.prog 35 #[v, .func (.func g) #[] lb] w fun e w' => e = .returned (.int .i64 (posP p l)) ∧ Below w.heap.size w w' := by
  obtain ⟨A, c, rfl, hc, _, hcell⟩ := h
  have HC := Lib.hid hcell
  have HP := Lib.hid hp
  clear hcell hp
  go_enter Try.func35, Try.ntmps35
  go_wp2_with fail
  go_loopw [5, 8] (fun _ i wr => ∃ k : Nat, k ≤ l.length ∧ i = .int .i64 k ∧ Hid (∀ i, i < l.length → i < k → p l[i]! = false) ∧ Hid (Below w.heap.size w wr)) (fun _ i _ => l.length - (intOf i).toNat)
  case atStart => exact ⟨0, Nat.zero_le _, rfl, Lib.hid (fun _ _ h => absurd h (Nat.not_lt_zero _)), Lib.hid (Below.refl _ _)⟩
  case round =>
    obtain ⟨k, hk, rfl, HN, HL⟩ := hrel
    by_cases hlt : k < l.length
    · have hltz : (k : Int) < (l.length : Int) := by omega
      obtain ⟨bb, o, rfl, hb, hcc⟩ := HC.out (by omega)
      obtain ⟨x, hx⟩ : ∃ x, x = l[k]! := ⟨_, rfl⟩
      have c0 : wr.cell? ⟨bb, o + k * 10, none⟩ = some (.bool x.e.a.v6) := peer_at HL.out hb hcc hlt (j := 0) (by rw [← hx]; rfl)
      have c1 : wr.cell? ⟨bb, o + k * 10 + 1, none⟩ = some (.int .u64 x.e.a.hi) := peer_at HL.out hb hcc hlt (j := 1) (by rw [← hx]; rfl)
      have c2 : wr.cell? ⟨bb, o + k * 10 + 2, none⟩ = some (.int .u64 x.e.a.lo) := peer_at HL.out hb hcc hlt (j := 2) (by rw [← hx]; rfl)
      have c3 : wr.cell? ⟨bb, o + k * 10 + 3, none⟩ = some (.int .i64 x.e.n) := peer_at HL.out hb hcc hlt (j := 3) (by rw [← hx]; rfl)
      have c4 : wr.cell? ⟨bb, o + k * 10 + 4, none⟩ = some (.bool x.i) := peer_at HL.out hb hcc hlt (j := 4) (by rw [← hx]; rfl)
      have c5 : wr.cell? ⟨bb, o + k * 10 + 5, none⟩ = some (.int .i64 x.t) := peer_at HL.out hb hcc hlt (j := 5) (by rw [← hx]; rfl)
      have c6 : wr.cell? ⟨bb, o + k * 10 + 6, none⟩ = some (.int .i64 x.c.p) := peer_at HL.out hb hcc hlt (j := 6) (by rw [← hx]; rfl)
      have c7 : wr.cell? ⟨bb, o + k * 10 + 7, none⟩ = some (.int .i64 x.c.a) := peer_at HL.out hb hcc hlt (j := 7) (by rw [← hx]; rfl)
      have c8 : wr.cell? ⟨bb, o + k * 10 + 8, none⟩ = some (.int .i64 x.g) := peer_at HL.out hb hcc hlt (j := 8) (by rw [← hx]; rfl)
      have c9 : wr.cell? ⟨bb, o + k * 10 + 9, none⟩ = some (.int .i64 x.k) := peer_at HL.out hb hcc hlt (j := 9) (by rw [← hx]; rfl)
      have hcall := Lib.hid (HP.out wr x HL.out HL.out.size)
      have HX := Lib.hid hx
      clear hcc hb hx
      cases hq : p x
      · rw [hq] at hcall
        have HN2 : Hid (∀ i, i < l.length → i < k + 1 → p l[i]! = false) := Lib.hid fun i h hi => by
          rcases Nat.lt_succ_iff_lt_or_eq.1 hi with h2 | rfl
          · exact HN.out i h h2
          · rw [← HX.out]; exact hq
        clear hq HX
        go_wp2_with (go_at_fn g; refine hcall.out.mono ?_; rintro e w9 ⟨rfl, hb9⟩)
        go_roundw
        case rel => exact ⟨k + 1, by omega, by go_num, HN2, Lib.hid (low_trans HL.out hb9)⟩
        case measure => simp [intOf]; omega
      · rw [hq] at hcall
        have E : Hid (posP p l = k) := Lib.hid (posP_hit hlt HN.out (by rw [← HX.out]; exact hq)).1
        clear hq HX
        go_wp2_with (go_at_fn g; refine hcall.out.mono ?_; rintro e w9 ⟨rfl, hb9⟩)
        go_ret
        exact ⟨by rw [E.out]; rfl, low_trans HL.out hb9⟩
    · have hltz : ¬ (k : Int) < (l.length : Int) := by omega
      have E : Hid (posP p l = -1) := Lib.hid (posP_miss fun i h => HN.out i h (by omega))
      go_wp2_with fail
      go_ret
      exact ⟨by rw [E.out]; rfl, HL.out⟩
set_option maxHeartbeats 2000000 in
theorem placeOf1_any (x : Pr) (E : Endp) (B : Nat) (w : World) (h0 : w.cell? ⟨B, 0, none⟩ = some (.bool E.a.v6)) (h1 : w.cell? ⟨B, 1, none⟩ = some (.int .u64 E.a.hi)) (h2 : w.cell? ⟨B, 2, none⟩ = some (.int .u64 E.a.lo)) (h3 : w.cell? ⟨B, 3, none⟩ = some (.int .i64 E.n)) :
    Calls Try.prog 36 #[.agg #[.bool x.e.a.v6, .int .u64 x.e.a.hi, .int .u64 x.e.a.lo, .int .i64 x.e.n, .bool x.i, .int .i64 x.t, .int .i64 x.c.p, .int .i64 x.c.a, .int .i64 x.g, .int .i64 x.k], .pointer (some ⟨B, 0, none⟩)] w fun e w' => e = .returned (.bool (sameE x.e E)) ∧ Below w.heap.size w w' := by
  have LL : Below w.heap.size w (w.alloc (.cells #[.bool x.e.a.v6, .int .u64 x.e.a.hi, .int .u64 x.e.a.lo, .int .i64 x.e.n, .bool x.i, .int .i64 x.t, .int .i64 x.c.p, .int .i64 x.c.a, .int .i64 x.g, .int .i64 x.k] 41)) := (Below.refl _ _).alloc (Nat.le_refl _) _
  have EQ := fun W => eqEnd x.e E W
  have k0 : (w.alloc (.cells #[.bool x.e.a.v6, .int .u64 x.e.a.hi, .int .u64 x.e.a.lo, .int .i64 x.e.n, .bool x.i, .int .i64 x.t, .int .i64 x.c.p, .int .i64 x.c.a, .int .i64 x.g, .int .i64 x.k] 41)).cell? ⟨B, 0, none⟩ = some (.bool E.a.v6) := cells_left LL h0
  have k1 : (w.alloc (.cells #[.bool x.e.a.v6, .int .u64 x.e.a.hi, .int .u64 x.e.a.lo, .int .i64 x.e.n, .bool x.i, .int .i64 x.t, .int .i64 x.c.p, .int .i64 x.c.a, .int .i64 x.g, .int .i64 x.k] 41)).cell? ⟨B, 1, none⟩ = some (.int .u64 E.a.hi) := cells_left LL h1
  have k2 : (w.alloc (.cells #[.bool x.e.a.v6, .int .u64 x.e.a.hi, .int .u64 x.e.a.lo, .int .i64 x.e.n, .bool x.i, .int .i64 x.t, .int .i64 x.c.p, .int .i64 x.c.a, .int .i64 x.g, .int .i64 x.k] 41)).cell? ⟨B, 2, none⟩ = some (.int .u64 E.a.lo) := cells_left LL h2
  have k3 : (w.alloc (.cells #[.bool x.e.a.v6, .int .u64 x.e.a.hi, .int .u64 x.e.a.lo, .int .i64 x.e.n, .bool x.i, .int .i64 x.t, .int .i64 x.c.p, .int .i64 x.c.a, .int .i64 x.g, .int .i64 x.k] 41)).cell? ⟨B, 3, none⟩ = some (.int .i64 E.n) := cells_left LL h3
  clear h0 h1 h2 h3
  go_enter Try.func36, Try.ntmps36
  go_wp2_with fail
  go_ret
  exact ⟨rfl, LL⟩
set_option maxHeartbeats 2000000 in
/-- Where an end stands first; -1, if nowhere. -/
theorem placeOf_any (v : Value) (l : List Pr) (E : Endp) (w : World) (h : Peers w v l) (hl : l.length ≤ 1000000) :
    Calls Try.prog 24 #[v, .agg #[.bool E.a.v6, .int .u64 E.a.hi, .int .u64 E.a.lo, .int .i64 E.n]] w fun e w' => e = .returned (.int .i64 (ixE l E)) ∧ Below w.heap.size w w' := by
  have LL : Hid (Below w.heap.size w (w.alloc (.cells #[.bool E.a.v6, .int .u64 E.a.hi, .int .u64 E.a.lo, .int .i64 E.n] 34))) := Lib.hid ((Below.refl _ _).alloc (Nat.le_refl _) _)
  have OB := Lib.hid (Blk.new w #[.bool E.a.v6, .int .u64 E.a.hi, .int .u64 E.a.lo, .int .i64 E.n] 34)
  have KI := Lib.hid (indexP_any 36 #[.pointer (some ⟨w.heap.size, 0, none⟩)] (fun x => sameE x.e E) (fun args w => by kernel_rfl) v l (w.alloc (.cells #[.bool E.a.v6, .int .u64 E.a.hi, .int .u64 E.a.lo, .int .i64 E.n] 34)) (h.below LL.out) hl (fun W x hb hB => by
    have o := OB.out.on hb
    exact placeOf1_any x E w.heap.size W (o.cell (j := 0) rfl) (o.cell (j := 1) rfl) (o.cell (j := 2) rfl) (o.cell (j := 3) rfl)))
  clear h
  go_enter Try.func24, Try.ntmps24
  go_wp2_with fail
  refine KI.out.mono ?_; rintro e9 w1 ⟨rfl, hb1⟩
  have L1 := Lib.hid (low_trans LL.out hb1)
  clear hb1 KI OB LL
  go_wp2_with fail
  go_ret
  exact ⟨rfl, L1.out⟩
set_option maxHeartbeats 4000000 in
theorem siegeIn_any (v : Value) (l : List Pr) (w : World) (h : Peers w v l) (hl : l.length ≤ 900000) :
    Calls Try.prog 26 #[v] w fun e w' => e = .returned (.int .i64 (cameR l).length) ∧ Below w.heap.size w w' := by
  obtain ⟨A, c, rfl, hc, _, hcell⟩ := h
  have HC := Lib.hid hcell
  clear hcell hc
  go_enter Try.func26, Try.ntmps26
  go_wp2_with fail
  go_loopw [3, 8] (fun vr vi wr => ∃ (i m : Nat), vr = .int .i64 m ∧ vi = .int .i64 i ∧ i ≤ l.length ∧ m ≤ i ∧ Hid (m = (cameR (l.take i)).length) ∧ Hid (Below w.heap.size w wr)) (fun _ vi _ => l.length - (intOf vi).toNat)
  case atStart => exact ⟨0, 0, rfl, rfl, Nat.zero_le _, Nat.le_refl _, Lib.hid rfl, Lib.hid (Below.refl _ _)⟩
  case round =>
    obtain ⟨i, m, rfl, rfl, hi, hmi, HM, HL⟩ := hrel
    by_cases hli : i < l.length
    · have hliz : (i : Int) < (l.length : Int) := by omega
      obtain ⟨bb, o, rfl, hb, hcc⟩ := HC.out (by omega)
      obtain ⟨x, hx⟩ : ∃ x, x = l[i]! := ⟨_, rfl⟩
      have c0 : wr.cell? ⟨bb, o + i * 10, none⟩ = some (.bool x.e.a.v6) := peer_at HL.out hb hcc hli (j := 0) (by rw [← hx]; rfl)
      have c1 : wr.cell? ⟨bb, o + i * 10 + 1, none⟩ = some (.int .u64 x.e.a.hi) := peer_at HL.out hb hcc hli (j := 1) (by rw [← hx]; rfl)
      have c2 : wr.cell? ⟨bb, o + i * 10 + 2, none⟩ = some (.int .u64 x.e.a.lo) := peer_at HL.out hb hcc hli (j := 2) (by rw [← hx]; rfl)
      have c3 : wr.cell? ⟨bb, o + i * 10 + 3, none⟩ = some (.int .i64 x.e.n) := peer_at HL.out hb hcc hli (j := 3) (by rw [← hx]; rfl)
      have c4 : wr.cell? ⟨bb, o + i * 10 + 4, none⟩ = some (.bool x.i) := peer_at HL.out hb hcc hli (j := 4) (by rw [← hx]; rfl)
      have c5 : wr.cell? ⟨bb, o + i * 10 + 5, none⟩ = some (.int .i64 x.t) := peer_at HL.out hb hcc hli (j := 5) (by rw [← hx]; rfl)
      have c6 : wr.cell? ⟨bb, o + i * 10 + 6, none⟩ = some (.int .i64 x.c.p) := peer_at HL.out hb hcc hli (j := 6) (by rw [← hx]; rfl)
      have c7 : wr.cell? ⟨bb, o + i * 10 + 7, none⟩ = some (.int .i64 x.c.a) := peer_at HL.out hb hcc hli (j := 7) (by rw [← hx]; rfl)
      have c8 : wr.cell? ⟨bb, o + i * 10 + 8, none⟩ = some (.int .i64 x.g) := peer_at HL.out hb hcc hli (j := 8) (by rw [← hx]; rfl)
      have c9 : wr.cell? ⟨bb, o + i * 10 + 9, none⟩ = some (.int .i64 x.k) := peer_at HL.out hb hcc hli (j := 9) (by rw [← hx]; rfl)
      have HX := Lib.hid hx
      clear hcc hb hx
      cases hq : x.i with
      | false =>
        rw [hq] at c4
        have HY : Hid (m = (cameR (l.take (i + 1))).length) := Lib.hid (by rw [came_no hli (by rw [← HX.out]; exact hq)]; exact HM.out)
        clear hq HX HM
        go_wp2_with fail
        go_roundw
        case rel => exact ⟨i + 1, m, rfl, by go_num, by omega, by omega, HY, Lib.hid (Lows.alloc HL.out _)⟩
        case measure => simp [intOf]; omega
      | true =>
        rw [hq] at c4
        have HY : Hid (m + 1 = (cameR (l.take (i + 1))).length) := Lib.hid (by rw [came_yes hli (by rw [← HX.out]; exact hq), List.length_append, ← HM.out]; rfl)
        clear hq HX HM
        go_wp2_with fail
        go_roundw
        case rel => exact ⟨i + 1, m + 1, by go_num, by go_num, by omega, by omega, HY, Lib.hid (Lows.alloc HL.out _)⟩
        case measure => simp [intOf]; omega
    · have hliz : ¬ (i : Int) < (l.length : Int) := by omega
      have HY : Hid (m = (cameR l).length) := Lib.hid (by rw [← came_done (l := l) (i := i) (by omega)]; exact HM.out)
      clear HM
      go_wp2_with fail
      go_ret
      exact ⟨by rw [HY.out]; rfl, HL.out⟩
end Go.Proofs.Ythmcggbmeabpmaa.Si
