/- slices.DeleteFunc at peers, in place; siege.rivals, alone. -/
import Derived.Test.YthmcggbmeabpmaaSiegeLow
namespace Go.Proofs.Ythmcggbmeabpmaa.Si
set_option maxRecDepth 100000
open Go.ChangeShapes Go.WideShapes Go.ChangeAt Go.RowKit
open Dec Words V4 V6 Ad Ci En Sat Ha Pe Stb Gr Mi Ra Sh Cw Ev Go.Deep
set_option linter.unusedVariables false
/-- What stands in a row that is swept as it goes: what was kept so far, and ahead what was there. -/
structure KeptP (q : Pr → Bool) (l D : List Pr) (i j : Nat) : Prop where
  len : D.length = l.length
  lt : i < j
  le : j ≤ l.length
  head : D.take i = (l.take j).filter q
  tail : D.drop j = l.drop j
theorem KeptP.at {q : Pr → Bool} {l D : List Pr} {i j : Nat} (h : KeptP q l D i j) (hj : j < l.length) : D[j]! = l[j]! := by
  have e := h.tail
  have h1 : (D.drop j)[0]? = (l.drop j)[0]? := by rw [e]
  have hD : j < D.length := by rw [h.len]; exact hj
  rw [List.getElem?_drop, List.getElem?_drop, Nat.add_zero, List.getElem?_eq_getElem hD, List.getElem?_eq_getElem hj] at h1
  rw [getElem!_pos D j hD, getElem!_pos l j hj]
  exact Option.some.inj h1
theorem KeptP.skip {q : Pr → Bool} {l D : List Pr} {i j : Nat} (h : KeptP q l D i j) (hj : j < l.length) (hq : q l[j]! = false) : KeptP q l D i (j + 1) := by
  rw [getElem!_pos l j hj] at hq
  exact ⟨h.len, by have := h.lt; omega, hj, by rw [h.head, List.take_succ_eq_append_getElem hj, List.filter_append]; simp [hq], by rw [← List.drop_drop, h.tail, List.drop_drop]⟩
theorem KeptP.keep {q : Pr → Bool} {l D : List Pr} {i j : Nat} (h : KeptP q l D i j) (hj : j < l.length) (hq : q l[j]! = true) : KeptP q l (D.set i l[j]!) (i + 1) (j + 1) := by
  rw [getElem!_pos l j hj] at hq ⊢
  have h1 := h.lt
  have h2 := h.len
  refine ⟨by rw [List.length_set]; exact h2, by omega, hj, ?_, ?_⟩
  · rw [List.take_succ_eq_append_getElem (by rw [List.length_set]; omega), List.getElem_set_self, List.take_set_of_le (Nat.le_refl _), h.head, List.take_succ_eq_append_getElem hj, List.filter_append]
    simp [hq]
  · rw [List.drop_set_of_lt (by omega), ← List.drop_drop, h.tail, List.drop_drop]
theorem KeptP.start {q : Pr → Bool} {l : List Pr} {k : Nat} (hk : k < l.length) (h : ∀ i (h : i < l.length), i < k → q l[i] = true) (hq : q l[k] = false) : KeptP q l l k (k + 1) := by
  refine ⟨rfl, by omega, hk, ?_, rfl⟩
  rw [List.take_succ_eq_append_getElem hk, List.filter_append, List.filter_eq_self.2 ?_]
  · simp [hq]
  · intro x hx
    obtain ⟨j, hj, rfl⟩ := List.getElem_of_mem hx
    rw [List.length_take] at hj
    rw [List.getElem_take]
    exact h j (by omega) (by omega)
theorem KeptP.done {q : Pr → Bool} {l D : List Pr} {i : Nat} (h : KeptP q l D i l.length) : D.take i = l.filter q ∧ i = (l.filter q).length := by
  have e := h.head
  rw [List.take_of_length_le (Nat.le_refl _)] at e
  refine ⟨e, ?_⟩
  rw [← e, List.length_take, h.len]
  have := h.lt; omega
theorem clear_peers (w : World) (g o n c : Nat) (hn : 0 < n) (cur : List Value) (hg : Blk w g 41 cur) (hfit : o + n * 10 ≤ cur.length) :
    ∃ (w' : World) (zs : List Value), (∀ ty, (Builtin.clear_ #[22] ty #[.slice (some ⟨g, o, none⟩) n c]).run Try.prog w = .ok (.tuple #[]) w') ∧ zs.length = n * 10 ∧ Blk w' g 41 (splice cur o zs) ∧ Bt g w w' := by
  obtain ⟨w', zs, h1, h2⟩ := run_clear_blk (P := Try.prog) w 22 41 0 41 (.agg #[.bool false, .int .u64 0, .int .u64 0, .int .i64 0, .bool false, .int .i64 0, .int .i64 0, .int .i64 0, .int .i64 0, .int .i64 0]) 10 Try.underlying22 (fun w => Try.zeroValue41 w) rfl (by decide) (by decide) g o n c hn cur hg hfit
  exact ⟨w', zs, fun ty => h1, h2⟩
set_option maxHeartbeats 8000000 in
theorem deleteP_any (G : Nat) (lb : Array Value) (p : Pr → Bool) (eg : ∀ args w, (callFunc G args).run Try.prog w = .ok (.enter G args) w) (g B0 cap : Nat) (l : List Pr) (Z : List Value) (w : World) (hB : Blk w g 41 (flat encP l ++ Z)) (hl : l.length ≤ 900000) (hcap : l.length ≤ cap) (hp : TellsP G lb p B0 w) (hB0 : B0 ≤ g) (hBw : B0 ≤ w.heap.size) :
    Calls Try.prog 30 #[.slice (some ⟨g, 0, none⟩) l.length cap, .func (.func G) #[] lb] w fun e w' => e = .returned (.slice (some ⟨g, 0, none⟩) (l.filter fun x => !p x).length cap) ∧ Peers w' (.slice (some ⟨g, 0, none⟩) (l.filter fun x => !p x).length cap) (l.filter fun x => !p x) ∧ Bt g w w' := by
  have hR : Peers w (.slice (some ⟨g, 0, none⟩) l.length cap) l := readsZ hB hcap
  have KI := Lib.hid (indexP_any G lb p eg _ l w hR (by omega) (hp.mono hBw))
  have HB := Lib.hid hB
  have HP := Lib.hid hp
  have HR := Lib.hid hR
  clear hB hp hR
  by_cases hq : l.findIdx p < l.length
  · obtain ⟨k0, hk0⟩ : ∃ k0, k0 = l.findIdx p := ⟨_, rfl⟩
    have hlt0 : k0 < l.length := by omega
    have hne : ∀ i (h : i < l.length), i < k0 → (!p l[i]) = true := fun i h hi => by
      have := List.not_of_lt_findIdx (p := p) (xs := l) (i := i) (by omega)
      simpa using this
    have hyes : (!p l[k0]) = false := by subst hk0; simpa using List.findIdx_getElem (p := p) (w := hq)
    have HS := Lib.hid (KeptP.start (q := fun x => !p x) hlt0 hne hyes)
    have E : posP p l = (k0 : Int) := by unfold posP; rw [if_pos hq, hk0]
    rw [E] at KI
    clear E hne hyes hk0 hq HR
    have hm1 : ((k0 : Int) == -1) = false := by rw [beq_eq_false_iff_ne]; omega
    go_enter Try.func30, Try.ntmps30
    go_wp2_with fail
    refine KI.out.mono ?_
    rintro e w1 ⟨rfl, hb1⟩
    have HB1 := Lib.hid (HB.out.on hb1)
    have HT1 : Hid (Bt g w w1) := Lib.hid (Bt.of hb1)
    clear hb1 KI
    go_wp2_with fail
    go_loopw [5, 6, 7] (fun si sj _ wr => ∃ (i j : Nat) (D : List Pr), si = .int .i64 i ∧ sj = .int .i64 j ∧ Hid (KeptP (fun x => !p x) l D i j) ∧ j ≤ l.length ∧ Hid (Blk wr g 41 (flat encP D ++ Z)) ∧ Hid (Bt g w wr)) (fun _ sj _ _ => l.length - (intOf sj).toNat)
    case atStart => exact ⟨k0, k0 + 1, l, rfl, by go_num, HS, by omega, HB1, HT1⟩
    case round =>
      obtain ⟨i, j, D, rfl, rfl, HKe, hjl, HBw, HTw⟩ := hrel
      have hij := HKe.out.lt
      have hDl := HKe.out.len
      by_cases hlt : j < l.length
      · have hltz : (j : Int) < (l.length : Int) := by omega
        have hjD : j < D.length := by omega
        have hiD : i < D.length := by omega
        obtain ⟨x, hx⟩ : ∃ x, x = l[j]! := ⟨_, rfl⟩
        have hat : D[j]! = x := (HKe.out.at hlt).trans hx.symm
        have hsk := Lib.hid (fun h => HKe.out.skip hlt h)
        have hke := Lib.hid (fun h => HKe.out.keep hlt h)
        rw [← hx] at hsk hke
        have c0 : wr.cell? ⟨g, j * 10, none⟩ = some (.bool x.e.a.v6) := cellZ HBw.out (j := 0) hjD (by rw [hat]; rfl)
        have c1 : wr.cell? ⟨g, j * 10 + 1, none⟩ = some (.int .u64 x.e.a.hi) := cellZ HBw.out (j := 1) hjD (by rw [hat]; rfl)
        have c2 : wr.cell? ⟨g, j * 10 + 2, none⟩ = some (.int .u64 x.e.a.lo) := cellZ HBw.out (j := 2) hjD (by rw [hat]; rfl)
        have c3 : wr.cell? ⟨g, j * 10 + 3, none⟩ = some (.int .i64 x.e.n) := cellZ HBw.out (j := 3) hjD (by rw [hat]; rfl)
        have c4 : wr.cell? ⟨g, j * 10 + 4, none⟩ = some (.bool x.i) := cellZ HBw.out (j := 4) hjD (by rw [hat]; rfl)
        have c5 : wr.cell? ⟨g, j * 10 + 5, none⟩ = some (.int .i64 x.t) := cellZ HBw.out (j := 5) hjD (by rw [hat]; rfl)
        have c6 : wr.cell? ⟨g, j * 10 + 6, none⟩ = some (.int .i64 x.c.p) := cellZ HBw.out (j := 6) hjD (by rw [hat]; rfl)
        have c7 : wr.cell? ⟨g, j * 10 + 7, none⟩ = some (.int .i64 x.c.a) := cellZ HBw.out (j := 7) hjD (by rw [hat]; rfl)
        have c8 : wr.cell? ⟨g, j * 10 + 8, none⟩ = some (.int .i64 x.g) := cellZ HBw.out (j := 8) hjD (by rw [hat]; rfl)
        have c9 : wr.cell? ⟨g, j * 10 + 9, none⟩ = some (.int .i64 x.k) := cellZ HBw.out (j := 9) hjD (by rw [hat]; rfl)
        have hcall := Lib.hid (fun W (hW : Below wr.heap.size wr W) => HP.out W x ((Bt.below (Below.refl _ _) HTw.out hB0 hBw).trans (hW.mono (Nat.le_trans hBw HTw.out.size))) (Nat.le_trans hBw (Nat.le_trans HTw.out.size hW.size)))
        clear hat hx
        cases hp : p x
        · have HKx := Lib.hid (hke.out (by rw [hp]; rfl))
          rw [hp] at hcall
          clear hp hsk hke
          go_wp2_with fail
          refine (hcall.out _ ((Below.refl _ _).alloc (Nat.le_refl _) _)).mono ?_
          rintro e w9 ⟨rfl, hb9⟩
          have HB9 := Lib.hid ((HBw.out.alloc (.cells #[.bool x.e.a.v6, .int .u64 x.e.a.hi, .int .u64 x.e.a.lo, .int .i64 x.e.n, .bool x.i, .int .i64 x.t, .int .i64 x.c.p, .int .i64 x.c.a, .int .i64 x.g, .int .i64 x.k] 41)).on hb9)
          have HT9 := Lib.hid ((HTw.out.alloc (.cells #[.bool x.e.a.v6, .int .u64 x.e.a.hi, .int .u64 x.e.a.lo, .int .i64 x.e.n, .bool x.i, .int .i64 x.t, .int .i64 x.c.p, .int .i64 x.c.a, .int .i64 x.g, .int .i64 x.k] 41)).trans (Bt.of hb9))
          have HX9 := Lib.hid ((Blk.new wr #[.bool x.e.a.v6, .int .u64 x.e.a.hi, .int .u64 x.e.a.lo, .int .i64 x.e.n, .bool x.i, .int .i64 x.t, .int .i64 x.c.p, .int .i64 x.c.a, .int .i64 x.g, .int .i64 x.k] 41).on hb9)
          have d0 : w9.cell? ⟨wr.heap.size, 0, none⟩ = some (.bool x.e.a.v6) := HX9.out.cell (j := 0) rfl
          have d1 : w9.cell? ⟨wr.heap.size, 1, none⟩ = some (.int .u64 x.e.a.hi) := HX9.out.cell (j := 1) rfl
          have d2 : w9.cell? ⟨wr.heap.size, 2, none⟩ = some (.int .u64 x.e.a.lo) := HX9.out.cell (j := 2) rfl
          have d3 : w9.cell? ⟨wr.heap.size, 3, none⟩ = some (.int .i64 x.e.n) := HX9.out.cell (j := 3) rfl
          have d4 : w9.cell? ⟨wr.heap.size, 4, none⟩ = some (.bool x.i) := HX9.out.cell (j := 4) rfl
          have d5 : w9.cell? ⟨wr.heap.size, 5, none⟩ = some (.int .i64 x.t) := HX9.out.cell (j := 5) rfl
          have d6 : w9.cell? ⟨wr.heap.size, 6, none⟩ = some (.int .i64 x.c.p) := HX9.out.cell (j := 6) rfl
          have d7 : w9.cell? ⟨wr.heap.size, 7, none⟩ = some (.int .i64 x.c.a) := HX9.out.cell (j := 7) rfl
          have d8 : w9.cell? ⟨wr.heap.size, 8, none⟩ = some (.int .i64 x.g) := HX9.out.cell (j := 8) rfl
          have d9 : w9.cell? ⟨wr.heap.size, 9, none⟩ = some (.int .i64 x.k) := HX9.out.cell (j := 9) rfl
          have ho : ∀ jj, jj < 10 → ∃ u, w9.cell? ⟨g, i * 10 + jj, none⟩ = some u := fun jj hjj => ⟨_, HB9.out.cell (List.getElem?_eq_getElem (by rw [List.length_append, flat_len encP_len]; omega))⟩
          obtain ⟨u0, g0⟩ := ho 0 (by decide)
          have k0 : w9.frozen? ⟨g, i * 10, none⟩ = false := HB9.out.free _
          obtain ⟨u1, g1⟩ := ho 1 (by decide)
          have k1 : w9.frozen? ⟨g, i * 10 + 1, none⟩ = false := HB9.out.free _
          obtain ⟨u2, g2⟩ := ho 2 (by decide)
          have k2 : w9.frozen? ⟨g, i * 10 + 2, none⟩ = false := HB9.out.free _
          obtain ⟨u3, g3⟩ := ho 3 (by decide)
          have k3 : w9.frozen? ⟨g, i * 10 + 3, none⟩ = false := HB9.out.free _
          obtain ⟨u4, g4⟩ := ho 4 (by decide)
          have k4 : w9.frozen? ⟨g, i * 10 + 4, none⟩ = false := HB9.out.free _
          obtain ⟨u5, g5⟩ := ho 5 (by decide)
          have k5 : w9.frozen? ⟨g, i * 10 + 5, none⟩ = false := HB9.out.free _
          obtain ⟨u6, g6⟩ := ho 6 (by decide)
          have k6 : w9.frozen? ⟨g, i * 10 + 6, none⟩ = false := HB9.out.free _
          obtain ⟨u7, g7⟩ := ho 7 (by decide)
          have k7 : w9.frozen? ⟨g, i * 10 + 7, none⟩ = false := HB9.out.free _
          obtain ⟨u8, g8⟩ := ho 8 (by decide)
          have k8 : w9.frozen? ⟨g, i * 10 + 8, none⟩ = false := HB9.out.free _
          obtain ⟨u9, g9⟩ := ho 9 (by decide)
          have k9 : w9.frozen? ⟨g, i * 10 + 9, none⟩ = false := HB9.out.free _
          rw [Nat.add_zero] at g0
          have HQ := Lib.hid (put_peerZ HB9.out hiD x)
          clear ho hb9 HX9 c0 c1 c2 c3 c4 c5 c6 c7 c8 c9
          go_wp2_with fail
          go_roundw
          case rel => exact ⟨i + 1, j + 1, D.set i x, by go_num, by go_num, HKx, by omega, Lib.hid HQ.out.1, Lib.hid (HT9.out.trans HQ.out.2)⟩
          case measure => simp [intOf]; omega
        · have HKx := Lib.hid (hsk.out (by rw [hp]; rfl))
          rw [hp] at hcall
          clear hp hsk hke
          go_wp2_with fail
          refine (hcall.out _ ((Below.refl _ _).alloc (Nat.le_refl _) _)).mono ?_
          rintro e w9 ⟨rfl, hb9⟩
          have HB9 := Lib.hid ((HBw.out.alloc (.cells #[.bool x.e.a.v6, .int .u64 x.e.a.hi, .int .u64 x.e.a.lo, .int .i64 x.e.n, .bool x.i, .int .i64 x.t, .int .i64 x.c.p, .int .i64 x.c.a, .int .i64 x.g, .int .i64 x.k] 41)).on hb9)
          have HT9 := Lib.hid ((HTw.out.alloc (.cells #[.bool x.e.a.v6, .int .u64 x.e.a.hi, .int .u64 x.e.a.lo, .int .i64 x.e.n, .bool x.i, .int .i64 x.t, .int .i64 x.c.p, .int .i64 x.c.a, .int .i64 x.g, .int .i64 x.k] 41)).trans (Bt.of hb9))
          clear hb9 c0 c1 c2 c3 c4 c5 c6 c7 c8 c9
          go_wp2_with fail
          go_roundw
          case rel => exact ⟨i, j + 1, D, rfl, by go_num, HKx, by omega, HB9, HT9⟩
          case measure => simp [intOf]; omega
      · obtain rfl : j = l.length := by omega
        obtain ⟨hd1, hd2⟩ := HKe.out.done
        obtain ⟨W2, zs, R2, hzs, b2, t2⟩ := clear_peers wr g (i * 10) (l.length - i) (cap - i) (by omega) _ HBw.out (by rw [List.length_append, flat_len encP_len]; omega)
        have HR : Hid (Peers W2 (.slice (some ⟨g, 0, none⟩) i cap) (l.filter fun x => !p x)) := Lib.hid (b2.reads encP_len (by
          rw [take_splice _ _ _ _ (Nat.le_refl _) (by rw [List.length_append, flat_len encP_len]; omega), List.take_append_of_le_length (by rw [flat_len encP_len]; omega), flat_take encP_len, hd1]) hd2.symm (by omega))
        have HT2 : Hid (Bt g w W2) := Lib.hid (HTw.out.trans t2)
        have HD2 := Lib.hid hd2
        have h1 : ¬ (cap = i) := by omega
        have h2 : (i : Int) ≤ (l.length : Int) := by omega
        have h3 : (i : Int) ≤ (cap : Int) := by omega
        have h4 : ¬ (l.length = i) := by omega
        have h5 : ¬ ((l.length : Int) < (l.length : Int)) := by omega
        clear hd1 hd2 b2 t2 hzs
        go_wp2_with fail
        go_ret
        exact ⟨by rw [← HD2.out]; rfl, by rw [← HD2.out]; exact HR.out, HT2.out⟩
  · have E : posP p l = -1 := by unfold posP; rw [if_neg hq]
    have hall : l.filter (fun x => !p x) = l := List.filter_eq_self.2 fun x hx => by
      obtain ⟨i, hi, rfl⟩ := List.getElem_of_mem hx
      have hle : l.findIdx p ≤ l.length := List.findIdx_le_length
      have := List.not_of_lt_findIdx (p := p) (xs := l) (i := i) (by omega)
      simpa using this
    rw [hall]
    rw [E] at KI
    clear E hall hq
    go_enter Try.func30, Try.ntmps30
    go_wp2_with fail
    refine KI.out.mono ?_
    rintro e w1 ⟨rfl, hb1⟩
    have HB1 := Lib.hid (HR.out.below hb1)
    have HT1 : Hid (Bt g w w1) := Lib.hid (Bt.of hb1)
    clear hb1 KI
    go_wp2_with fail
    go_ret
    exact ⟨rfl, HB1.out, HT1.out⟩
set_option maxHeartbeats 2000000 in
theorem rivals1_any (x y : Pr) (B : Nat) (w : World) (h0 : w.cell? ⟨B, 0, none⟩ = some (.bool y.e.a.v6)) (h1 : w.cell? ⟨B, 1, none⟩ = some (.int .u64 y.e.a.hi)) (h2 : w.cell? ⟨B, 2, none⟩ = some (.int .u64 y.e.a.lo)) (h3 : w.cell? ⟨B, 3, none⟩ = some (.int .i64 y.e.n)) (h4 : w.cell? ⟨B, 4, none⟩ = some (.bool y.i)) (h5 : w.cell? ⟨B, 5, none⟩ = some (.int .i64 y.t)) (h6 : w.cell? ⟨B, 6, none⟩ = some (.int .i64 y.c.p)) (h7 : w.cell? ⟨B, 7, none⟩ = some (.int .i64 y.c.a)) (h8 : w.cell? ⟨B, 8, none⟩ = some (.int .i64 y.g)) (h9 : w.cell? ⟨B, 9, none⟩ = some (.int .i64 y.k)) :
    Calls Try.prog 31 #[.agg #[.bool x.e.a.v6, .int .u64 x.e.a.hi, .int .u64 x.e.a.lo, .int .i64 x.e.n, .bool x.i, .int .i64 x.t, .int .i64 x.c.p, .int .i64 x.c.a, .int .i64 x.g, .int .i64 x.k], .pointer (some ⟨B, 0, none⟩)] w fun e w' => e = .returned (.bool (sameP x y)) ∧ Below w.heap.size w w' := by
  have LL : Below w.heap.size w (w.alloc (.cells #[.bool x.e.a.v6, .int .u64 x.e.a.hi, .int .u64 x.e.a.lo, .int .i64 x.e.n, .bool x.i, .int .i64 x.t, .int .i64 x.c.p, .int .i64 x.c.a, .int .i64 x.g, .int .i64 x.k] 41)) := (Below.refl _ _).alloc (Nat.le_refl _) _
  have EQ := fun W => eqPeer x y W
  have k0 : (w.alloc (.cells #[.bool x.e.a.v6, .int .u64 x.e.a.hi, .int .u64 x.e.a.lo, .int .i64 x.e.n, .bool x.i, .int .i64 x.t, .int .i64 x.c.p, .int .i64 x.c.a, .int .i64 x.g, .int .i64 x.k] 41)).cell? ⟨B, 0, none⟩ = some (.bool y.e.a.v6) := cells_left LL h0
  have k1 : (w.alloc (.cells #[.bool x.e.a.v6, .int .u64 x.e.a.hi, .int .u64 x.e.a.lo, .int .i64 x.e.n, .bool x.i, .int .i64 x.t, .int .i64 x.c.p, .int .i64 x.c.a, .int .i64 x.g, .int .i64 x.k] 41)).cell? ⟨B, 1, none⟩ = some (.int .u64 y.e.a.hi) := cells_left LL h1
  have k2 : (w.alloc (.cells #[.bool x.e.a.v6, .int .u64 x.e.a.hi, .int .u64 x.e.a.lo, .int .i64 x.e.n, .bool x.i, .int .i64 x.t, .int .i64 x.c.p, .int .i64 x.c.a, .int .i64 x.g, .int .i64 x.k] 41)).cell? ⟨B, 2, none⟩ = some (.int .u64 y.e.a.lo) := cells_left LL h2
  have k3 : (w.alloc (.cells #[.bool x.e.a.v6, .int .u64 x.e.a.hi, .int .u64 x.e.a.lo, .int .i64 x.e.n, .bool x.i, .int .i64 x.t, .int .i64 x.c.p, .int .i64 x.c.a, .int .i64 x.g, .int .i64 x.k] 41)).cell? ⟨B, 3, none⟩ = some (.int .i64 y.e.n) := cells_left LL h3
  have k4 : (w.alloc (.cells #[.bool x.e.a.v6, .int .u64 x.e.a.hi, .int .u64 x.e.a.lo, .int .i64 x.e.n, .bool x.i, .int .i64 x.t, .int .i64 x.c.p, .int .i64 x.c.a, .int .i64 x.g, .int .i64 x.k] 41)).cell? ⟨B, 4, none⟩ = some (.bool y.i) := cells_left LL h4
  have k5 : (w.alloc (.cells #[.bool x.e.a.v6, .int .u64 x.e.a.hi, .int .u64 x.e.a.lo, .int .i64 x.e.n, .bool x.i, .int .i64 x.t, .int .i64 x.c.p, .int .i64 x.c.a, .int .i64 x.g, .int .i64 x.k] 41)).cell? ⟨B, 5, none⟩ = some (.int .i64 y.t) := cells_left LL h5
  have k6 : (w.alloc (.cells #[.bool x.e.a.v6, .int .u64 x.e.a.hi, .int .u64 x.e.a.lo, .int .i64 x.e.n, .bool x.i, .int .i64 x.t, .int .i64 x.c.p, .int .i64 x.c.a, .int .i64 x.g, .int .i64 x.k] 41)).cell? ⟨B, 6, none⟩ = some (.int .i64 y.c.p) := cells_left LL h6
  have k7 : (w.alloc (.cells #[.bool x.e.a.v6, .int .u64 x.e.a.hi, .int .u64 x.e.a.lo, .int .i64 x.e.n, .bool x.i, .int .i64 x.t, .int .i64 x.c.p, .int .i64 x.c.a, .int .i64 x.g, .int .i64 x.k] 41)).cell? ⟨B, 7, none⟩ = some (.int .i64 y.c.a) := cells_left LL h7
  have k8 : (w.alloc (.cells #[.bool x.e.a.v6, .int .u64 x.e.a.hi, .int .u64 x.e.a.lo, .int .i64 x.e.n, .bool x.i, .int .i64 x.t, .int .i64 x.c.p, .int .i64 x.c.a, .int .i64 x.g, .int .i64 x.k] 41)).cell? ⟨B, 8, none⟩ = some (.int .i64 y.g) := cells_left LL h8
  have k9 : (w.alloc (.cells #[.bool x.e.a.v6, .int .u64 x.e.a.hi, .int .u64 x.e.a.lo, .int .i64 x.e.n, .bool x.i, .int .i64 x.t, .int .i64 x.c.p, .int .i64 x.c.a, .int .i64 x.g, .int .i64 x.k] 41)).cell? ⟨B, 9, none⟩ = some (.int .i64 y.k) := cells_left LL h9
  clear h0 h1 h2 h3 h4 h5 h6 h7 h8 h9
  go_enter Try.func31, Try.ntmps31
  go_wp2_with fail
  go_ret
  exact ⟨rfl, LL⟩
/-- The first k of those that come, marked. -/
def mixR (l news : List Pr) (k : Nat) : List Pr := l ++ ((news.take k).map setI ++ news.drop k)
theorem mix_zero (l news : List Pr) : mixR l news 0 = l ++ news := rfl
theorem mix_length (l news : List Pr) (k : Nat) : (mixR l news k).length = l.length + news.length := by
  unfold mixR
  rw [List.length_append, List.length_append, List.length_map, ← List.length_append, List.take_append_drop]
theorem mix_at (l news : List Pr) {k : Nat} (hk : k < news.length) : (mixR l news k)[l.length + k]! = news[k]! := by
  rw [getElem!_pos _ _ (by rw [mix_length]; omega), getElem!_pos news k hk]
  unfold mixR
  rw [List.getElem_append_right (by omega), List.getElem_append_right (by rw [List.length_map, List.length_take]; omega)]
  simp only [List.length_map, List.length_take, List.getElem_drop]
  congr 1
  omega
theorem mix_next (l news : List Pr) {k : Nat} (hk : k < news.length) : (mixR l news k).set (l.length + k) (setI news[k]!) = mixR l news (k + 1) := by
  unfold mixR
  rw [List.set_append_right _ _ (by omega), show l.length + k - l.length = k by omega]
  congr 1
  rw [List.set_append_right _ _ (by rw [List.length_map, List.length_take]; omega), List.length_map, List.length_take, show k - min k news.length = 0 by omega]
  rw [List.drop_eq_getElem_cons hk, List.set_cons_zero, List.take_succ_eq_append_getElem hk, List.map_append, List.append_assoc, getElem!_pos news k hk]
  rfl
theorem mix_done (l news : List Pr) {k : Nat} (hk : news.length ≤ k) : mixR l news k = l ++ news.map setI := by
  unfold mixR
  rw [List.take_of_length_le hk, List.drop_of_length_le hk, List.append_nil]
theorem flat_in : ∀ (D : List Pr) (i : Nat), i < D.length → (flat encP D).set (i * 10 + 4) (.bool true) = flat encP (D.set i (setI D[i]!))
  | [], i, h => by simp at h
  | d :: D, 0, _ => rfl
  | d :: D, i + 1, h => by
    have e : ∀ (d : Pr) (D : List Pr), flat encP (d :: D) = encP d ++ flat encP D := fun d D => by unfold flat; rw [List.flatMap_cons]
    have ih := flat_in D i (by simpa using h)
    rw [List.set_cons_succ, e, e, show (d :: D)[i + 1]! = D[i]! from rfl, ← ih, show (i + 1) * 10 + 4 = 10 + (i * 10 + 4) by omega]
    rw [List.set_append_right _ _ (by rw [encP_len]; omega), encP_len, Nat.add_sub_cancel_left]
theorem put_in {w : World} {g : Nat} {t : TypeId} {D : List Pr} {Z : List Value} (h : Blk w g t (flat encP D ++ Z)) {i : Nat} (hi : i < D.length) :
    Blk (w.setCell ⟨g, i * 10 + 4, none⟩ (.bool true)) g t (flat encP (D.set i (setI D[i]!)) ++ Z) := by
  have e := h.set (i * 10 + 4) (.bool true)
  rw [List.set_append_left _ _ (by rw [flat_len encP_len]; omega), flat_in D i hi] at e
  exact e
set_option maxHeartbeats 8000000 in
/-- All others, as if they were there. -/
theorem rivals_any (y : Pr) (v1 v2 : Value) (l news : List Pr) (w : World) (h1 : Peers w v1 l) (h2 : Peers w v2 news) (h0 : 0 < l.length) (hl : l.length + news.length ≤ 900000) :
    Calls Try.prog 18 #[.agg #[.bool y.e.a.v6, .int .u64 y.e.a.hi, .int .u64 y.e.a.lo, .int .i64 y.e.n, .bool y.i, .int .i64 y.t, .int .i64 y.c.p, .int .i64 y.c.a, .int .i64 y.g, .int .i64 y.k], v1, v2] w fun e w' => ∃ u, e = .returned u ∧ Peers w' u (rivR y l news) ∧ Below w.heap.size w w' := by
  have L0 : Hid (Lows w (w.alloc (.cells #[.bool y.e.a.v6, .int .u64 y.e.a.hi, .int .u64 y.e.a.lo, .int .i64 y.e.n, .bool y.i, .int .i64 y.t, .int .i64 y.c.p, .int .i64 y.c.a, .int .i64 y.g, .int .i64 y.k] 41))) := Lib.hid (Lows.alloc (Lows.self w) _)
  have OB := Lib.hid (Blk.new w #[.bool y.e.a.v6, .int .u64 y.e.a.hi, .int .u64 y.e.a.lo, .int .i64 y.e.n, .bool y.i, .int .i64 y.t, .int .i64 y.c.p, .int .i64 y.c.a, .int .i64 y.g, .int .i64 y.k] 41)
  have L1 : Hid (Lows w ((w.alloc (.cells #[.bool y.e.a.v6, .int .u64 y.e.a.hi, .int .u64 y.e.a.lo, .int .i64 y.e.n, .bool y.i, .int .i64 y.t, .int .i64 y.c.p, .int .i64 y.c.a, .int .i64 y.g, .int .i64 y.k] 41)).alloc (.cells #[v1, v2] 22))) := Lib.hid (Lows.alloc L0.out _)
  have KC := Lib.hid (concat_any (w.heap.size + 1) #[v1, v2].toList [l, news] ((w.alloc (.cells #[.bool y.e.a.v6, .int .u64 y.e.a.hi, .int .u64 y.e.a.lo, .int .i64 y.e.n, .bool y.i, .int .i64 y.t, .int .i64 y.c.p, .int .i64 y.c.a, .int .i64 y.g, .int .i64 y.k] 41)).alloc (.cells #[v1, v2] 22)) (Blk.two w (.cells #[.bool y.e.a.v6, .int .u64 y.e.a.hi, .int .u64 y.e.a.lo, .int .i64 y.e.n, .bool y.i, .int .i64 y.t, .int .i64 y.c.p, .int .i64 y.c.a, .int .i64 y.g, .int .i64 y.k] 41) #[v1, v2] 22) rfl (fun k hk => by
    obtain rfl | rfl : k = 0 ∨ k = 1 := by simp at hk; omega
    · exact h1.below L1.out
    · exact h2.below L1.out) (by simp) (by simp; omega))
  have HRV : Hid (rivR y l news = (l ++ news.map setI).filter fun x => !sameP x y) := Lib.hid rfl
  generalize rivR y l news = R at HRV ⊢
  have HLN : Hid (∃ A c, v1 = .slice A l.length c) := Lib.hid (by obtain ⟨A, c, e, _⟩ := h1; exact ⟨A, c, e⟩)
  have HLM : Hid (∃ A c, v2 = .slice A news.length c) := Lib.hid (by obtain ⟨A, c, e, _⟩ := h2; exact ⟨A, c, e⟩)
  obtain ⟨A1, c1, rfl⟩ := HLN.out
  obtain ⟨A2, c2, rfl⟩ := HLM.out
  clear h1 h2 HLN HLM
  go_enter Try.func18, Try.ntmps18
  go_wp2_with fail
  refine KC.out.mono ?_; rintro e9 w1 ⟨u, rfl, hO, hb1⟩
  have L2 := Lib.hid (low_trans L1.out hb1)
  rw [show [l, news].flatten = l ++ news by simp] at hO
  obtain ⟨g, cap, Z, rfl, hg, hcap, hB⟩ := ownP_blk hO (by simp; omega)
  have OB1 := Lib.hid ((OB.out.alloc (.cells #[.slice A1 l.length c1, .slice A2 news.length c2] 22)).on hb1)
  have hgw : w.heap.size + 1 < g := by
    have : (((w.alloc (.cells #[.bool y.e.a.v6, .int .u64 y.e.a.hi, .int .u64 y.e.a.lo, .int .i64 y.e.n, .bool y.i, .int .i64 y.t, .int .i64 y.c.p, .int .i64 y.c.a, .int .i64 y.g, .int .i64 y.k] 41)).alloc (.cells #[.slice A1 l.length c1, .slice A2 news.length c2] 22))).heap.size = w.heap.size + 2 := by simp
    omega
  have HB := Lib.hid hB
  rw [List.length_append] at hcap ⊢
  obtain ⟨n, hn⟩ : ∃ n, n = news.length := ⟨_, rfl⟩
  obtain ⟨m, hm⟩ : ∃ m, m = l.length := ⟨_, rfl⟩
  rw [← hn, ← hm] at hcap hl ⊢
  rw [← hm] at h0
  have HN := Lib.hid hn
  have HM := Lib.hid hm
  clear hO hb1 KC OB hB hg hn hm L0 L1
  go_wp2_with fail
  go_loopw [8, 15] (fun _ vi wr => ∃ k : Nat, vi = .int .i64 k ∧ k ≤ n ∧ Hid (Blk wr g 41 (flat encP (mixR l news k) ++ Z)) ∧ Hid (Bt g w1 wr)) (fun _ vi _ => n - (intOf vi).toNat)
  case atStart => exact ⟨0, rfl, Nat.zero_le _, Lib.hid (by rw [mix_zero]; exact HB.out), Lib.hid (Bt.refl _ _)⟩
  case round =>
    obtain ⟨k, rfl, hk, HBk, HTk⟩ := hrel
    by_cases hkn : k < n
    · have hknz : (k : Int) < (n : Int) := by omega
      have hkl : k < news.length := by have := HN.out; omega
      have hil : m + k < (mixR l news k).length := by rw [mix_length, ← HN.out, ← HM.out]; omega
      obtain ⟨i, hi⟩ : ∃ i, i = m + k := ⟨_, rfl⟩
      have hw : IntKind.i64.wrap ((m : Int) + (k : Int)) = (i : Int) := by rw [IntKind.wrap_i64]; omega
      have hi1 : (i : Int) < (m : Int) + (n : Int) := by omega
      have HB2 : Hid (Blk (wr.setCell ⟨g, i * 10 + 4, none⟩ (.bool true)) g 41 (flat encP (mixR l news (k + 1)) ++ Z)) := Lib.hid (by
        have h := put_in HBk.out hil
        rw [HM.out, mix_at l news hkl, mix_next l news hkl, ← HM.out, ← hi] at h
        exact h)
      obtain ⟨u4, g4⟩ : ∃ u, wr.cell? ⟨g, i * 10 + 4, none⟩ = some u := ⟨_, HBk.out.cell (List.getElem?_eq_getElem (by rw [List.length_append, flat_len encP_len]; omega))⟩
      have k4 : wr.frozen? ⟨g, i * 10 + 4, none⟩ = false := HBk.out.free _
      have HT2 : Hid (Bt g w1 (wr.setCell ⟨g, i * 10 + 4, none⟩ (.bool true))) := Lib.hid (HTk.out.trans (Bt.setCell _ _ _ _))
      clear hi hil hkl
      go_wp2_with fail
      go_roundw
      case rel => exact ⟨k + 1, by go_num, by omega, HB2, HT2⟩
      case measure => simp [intOf]; omega
    · have hknz : ¬ (k : Int) < (n : Int) := by omega
      have HD : Hid (Blk wr g 41 (flat encP (l ++ news.map setI) ++ Z)) := Lib.hid (by rw [← mix_done l news (k := k) (by have := HN.out; omega)]; exact HBk.out)
      have OB2 := Lib.hid (OB1.out.but HTk.out (by omega))
      have hlen : (l ++ news.map setI).length = m + n := by rw [List.length_append, List.length_map, ← HN.out, ← HM.out]
      have KD := Lib.hid (deleteP_any 31 #[.pointer (some ⟨w.heap.size, 0, none⟩)] (fun x => sameP x y) (fun args w => by kernel_rfl) g (w.heap.size + 1) cap (l ++ news.map setI) Z wr HD.out (by omega) (by omega) (fun W x hb hB => by
        have o : Blk W w.heap.size 41 [.bool y.e.a.v6, .int .u64 y.e.a.hi, .int .u64 y.e.a.lo, .int .i64 y.e.n, .bool y.i, .int .i64 y.t, .int .i64 y.c.p, .int .i64 y.c.a, .int .i64 y.g, .int .i64 y.k] := (hb.block w.heap.size (by omega)).trans OB2.out
        exact rivals1_any x y w.heap.size W (o.cell (j := 0) rfl) (o.cell (j := 1) rfl) (o.cell (j := 2) rfl) (o.cell (j := 3) rfl) (o.cell (j := 4) rfl) (o.cell (j := 5) rfl) (o.cell (j := 6) rfl) (o.cell (j := 7) rfl) (o.cell (j := 8) rfl) (o.cell (j := 9) rfl)) (by omega) (by have := OB2.out.lt; omega))
      rw [hlen, ← HRV.out] at KD
      have L3 : Hid (Below w.heap.size w wr) := Lib.hid (Bt.below L2.out HTk.out (by omega) L2.out.size)
      clear hlen HD OB1 OB2 HBk HTk
      go_wp2_with fail
      refine KD.out.mono ?_; rintro e9 w3 ⟨rfl, hP, hT⟩
      have HP := Lib.hid hP
      have L4 : Hid (Below w.heap.size w w3) := Lib.hid (Bt.below L3.out hT (by omega) L3.out.size)
      clear hP hT KD
      go_wp2_with fail
      go_ret
      exact ⟨.slice (some ⟨g, 0, none⟩) R.length cap, rfl, HP.out, L4.out⟩
set_option maxHeartbeats 4000000 in
theorem alone_all (q : Qt) (w : World) :
    Calls Try.prog 19 #[.agg #[.int .i64 q.g, .int .i64 q.p, .int .i64 q.w, .int .i64 q.t]] w fun e w' => e = .returned (.agg #[.int .i64 q.g, .int .i64 0, .int .i64 0, .int .i64 0, .int .i64 0, .int .i64 q.p, .int .i64 0, .int .i64 0, .int .i64 0, .int .i64 0, .int .i64 q.w, .int .i64 0, .int .i64 0, .int .i64 0, .int .i64 0, .int .i64 q.t]) ∧ Below w.heap.size w w' := by
  go_enter Try.func19, Try.ntmps19
  go_wp2_with fail
  exact bodyPost_ret (v := .agg #[.int .i64 q.g, .int .i64 0, .int .i64 0, .int .i64 0, .int .i64 0, .int .i64 q.p, .int .i64 0, .int .i64 0, .int .i64 0, .int .i64 0, .int .i64 q.w, .int .i64 0, .int .i64 0, .int .i64 0, .int .i64 0, .int .i64 q.t]) (by simp [results, Try.results19, go_sem]) rfl ⟨rfl, by repeat (first | (with_reducible exact Lows.alloc (Lows.alloc (Lows.self _) _) _) | (with_reducible refine Below.setCell ?_ (by first | exact Nat.le_refl _ | exact Nat.le_succ _ | (simp; done) | (simp; omega)) _) | (refine low_drewN ?_ 1))⟩
end Go.Proofs.Ythmcggbmeabpmaa.Si
