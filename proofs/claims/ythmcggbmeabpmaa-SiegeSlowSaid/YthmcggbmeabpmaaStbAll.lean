/- A list of structs in a block, its places changed two by two; slices.swapRangeCmpFunc, rotateCmpFunc, insertionSortCmpFunc. -/
import Derived.Test.YthmcggbmeabpmaaRankMath
import Derived.Test.YthmcggbmeabpmaaBox
import Derived.Test.YthmcggbmeabpmaaRecsDoor
import Derived.Test.YthmcggbmeabpmaaRank
import Derived.Deep.LoopGhost
import Derived.Deep.DeepCutAuto
namespace Go.Proofs.Ythmcggbmeabpmaa.Ra
set_option maxRecDepth 100000
open Go.ChangeShapes Go.WideShapes Go.ChangeAt Go.RowKit
open Dec Words V4 V6 Ad Ci En Sat Ha Pe Stb Gr Mi Go.Deep
set_option linter.unusedVariables false
theorem splice_lead (X T vs : List Value) (o : Nat) (h : o + vs.length ≤ X.length) : splice (X ++ T) o vs = splice X o vs ++ T := by
  unfold splice
  rw [List.take_append_of_le_length (by omega), List.drop_append_of_le_length (by omega)]
  simp
theorem splice_one {α : Type} (D : List α) (i : Nat) (x : α) (h : i < D.length) : splice D i [x] = D.set i x := by
  unfold splice
  rw [List.set_eq_take_append_cons_drop, if_pos h]
  simp
theorem set_flat (D : List Pl) (tail : List Value) {i : Nat} (x : Pl) (hi : i < D.length) : splice (flat encL D ++ tail) (i * 6) (encL x) = flat encL (D.set i x) ++ tail := by
  have hl : (flat encL D).length = D.length * 6 := flat_len encL_len D
  rw [splice_lead _ _ _ _ (by rw [hl, encL_len]; omega), ← flat_one encL x, flat_splice encL_len, splice_one _ _ _ hi]
/-- A list in a block: n of them, then what is behind. -/
structure Rw (g n : Nat) (tail : List Value) (f : Nat → Pl) (w : World) : Prop where
  dat : Blk w g 98 (flat encL (ls n f) ++ tail)
  good : ∀ i, i < n → (f i).ok
section
variable {g n : Nat} {tail : List Value} {f : Nat → Pl} {w : World}
theorem Rw.at (h : Rw g n tail f w) {i : Nat} (hi : i < n) {j : Nat} {u : Value} (hu : (encL (f i))[j]? = some u) : w.cell? ⟨g, i * 6 + j, none⟩ = some u := by
  have hj : j < 6 := by have := (List.getElem?_eq_some_iff.1 hu).1; rwa [encL_len] at this
  refine h.dat.cell ?_
  have hl : i < (ls n f).length := by rw [ls_length]; exact hi
  rw [List.getElem?_append_left (by rw [flat_len encL_len, ls_length]; omega), flat_at encL_len _ i j hl hj, ls_get, hu]
theorem Rw.free (h : Rw g n tail f w) (j : Nat) : w.frozen? ⟨g, j, none⟩ = false := h.dat.free j
theorem Rw.on {w' : World} (h : Rw g n tail f w) (k : Below w.heap.size w w') : Rw g n tail f w' := ⟨h.dat.on k, h.good⟩
theorem Rw.drew (h : Rw g n tail f w) : Rw g n tail f w.drew := ⟨h.dat.drew, h.good⟩
theorem Rw.lt (h : Rw g n tail f w) : g < w.heap.size := h.dat.lt
theorem Rw.mv {f' : Nat → Pl} {w' : World} (h : Rw g n tail f w) (m : Mv 0 n f f') (hd : Blk w' g 98 (flat encL (ls n f') ++ tail)) : Rw g n tail f' w' :=
  ⟨hd, fun i hi => by obtain ⟨j, _, hj, e⟩ := m.inn (Nat.zero_le _) hi; rw [e]; exact h.good j hj⟩
theorem put_blk {D : List Pl} (h : Blk w g 98 (flat encL D ++ tail)) {i : Nat} (hi : i < D.length) (x : Pl) :
    Blk ((((((w.setCell ⟨g, i * 6, none⟩ (.int .u64 (x.k : Nat))).setCell ⟨g, i * 6 + 1, none⟩ (.bool x.e.a.v6)).setCell ⟨g, i * 6 + 2, none⟩ (.int .u64 x.e.a.hi)).setCell ⟨g, i * 6 + 3, none⟩ (.int .u64 x.e.a.lo)).setCell ⟨g, i * 6 + 4, none⟩ (.int .i64 x.e.n)).setCell ⟨g, i * 6 + 5, none⟩ (.int .i64 x.i)) g 98 (flat encL (D.set i x) ++ tail) ∧ Bt g w ((((((w.setCell ⟨g, i * 6, none⟩ (.int .u64 (x.k : Nat))).setCell ⟨g, i * 6 + 1, none⟩ (.bool x.e.a.v6)).setCell ⟨g, i * 6 + 2, none⟩ (.int .u64 x.e.a.hi)).setCell ⟨g, i * 6 + 3, none⟩ (.int .u64 x.e.a.lo)).setCell ⟨g, i * 6 + 4, none⟩ (.int .i64 x.e.n)).setCell ⟨g, i * 6 + 5, none⟩ (.int .i64 x.i)) := by
  have k := setCells_blk g 98 (encL x) (i * 6) w _ h (by rw [encL_len, List.length_append, flat_len encL_len]; omega)
  rw [set_flat D tail x hi] at k
  exact k
/-- Two places changed, as the library's text does it: first i, then j. -/
theorem Rw.swap (h : Rw g n tail f w) {i j : Nat} (hi : i < n) (hj : j < n) : Rw g n tail (sw i j f) ((((((((((((w.setCell ⟨g, i * 6, none⟩ (.int .u64 ((f j).k : Nat))).setCell ⟨g, i * 6 + 1, none⟩ (.bool (f j).e.a.v6)).setCell ⟨g, i * 6 + 2, none⟩ (.int .u64 (f j).e.a.hi)).setCell ⟨g, i * 6 + 3, none⟩ (.int .u64 (f j).e.a.lo)).setCell ⟨g, i * 6 + 4, none⟩ (.int .i64 (f j).e.n)).setCell ⟨g, i * 6 + 5, none⟩ (.int .i64 (f j).i)).setCell ⟨g, j * 6, none⟩ (.int .u64 ((f i).k : Nat))).setCell ⟨g, j * 6 + 1, none⟩ (.bool (f i).e.a.v6)).setCell ⟨g, j * 6 + 2, none⟩ (.int .u64 (f i).e.a.hi)).setCell ⟨g, j * 6 + 3, none⟩ (.int .u64 (f i).e.a.lo)).setCell ⟨g, j * 6 + 4, none⟩ (.int .i64 (f i).e.n)).setCell ⟨g, j * 6 + 5, none⟩ (.int .i64 (f i).i)) ∧ Bt g w ((((((((((((w.setCell ⟨g, i * 6, none⟩ (.int .u64 ((f j).k : Nat))).setCell ⟨g, i * 6 + 1, none⟩ (.bool (f j).e.a.v6)).setCell ⟨g, i * 6 + 2, none⟩ (.int .u64 (f j).e.a.hi)).setCell ⟨g, i * 6 + 3, none⟩ (.int .u64 (f j).e.a.lo)).setCell ⟨g, i * 6 + 4, none⟩ (.int .i64 (f j).e.n)).setCell ⟨g, i * 6 + 5, none⟩ (.int .i64 (f j).i)).setCell ⟨g, j * 6, none⟩ (.int .u64 ((f i).k : Nat))).setCell ⟨g, j * 6 + 1, none⟩ (.bool (f i).e.a.v6)).setCell ⟨g, j * 6 + 2, none⟩ (.int .u64 (f i).e.a.hi)).setCell ⟨g, j * 6 + 3, none⟩ (.int .u64 (f i).e.a.lo)).setCell ⟨g, j * 6 + 4, none⟩ (.int .i64 (f i).e.n)).setCell ⟨g, j * 6 + 5, none⟩ (.int .i64 (f i).i)) := by
  obtain ⟨b1, t1⟩ := put_blk h.dat (i := i) (by rw [ls_length]; exact hi) (f j)
  obtain ⟨b2, t2⟩ := put_blk b1 (i := j) (by rw [List.length_set, ls_length]; exact hj) (f i)
  rw [ls_sw f hi hj] at b2
  exact ⟨h.mv (Mv.sw f (Nat.zero_le _) hi (Nat.zero_le _) hj) b2, t1.trans t2⟩
set_option maxHeartbeats 8000000 in
theorem swapRange_any (h : Rw g n tail f w) {a b k c : Nat} (hn : n ≤ 1000000) (hab : a + k ≤ b) (hb : b + k ≤ n) :
    Calls Try.prog 90 #[.slice (some ⟨g, 0, none⟩) n c, .int .i64 a, .int .i64 b, .int .i64 k, .func (.func 70) #[] #[]] w fun e w' => e = .returned (.tuple #[]) ∧ Rw g n tail (swR a b k f) w' ∧ Bt g w w' := by
  have HR := Lib.hid h
  clear h
  go_enter Try.func90, Try.ntmps90
  go_wp2_with fail
  go_loopw [10] (fun vi wr => ∃ (i : Nat) (fk : Nat → Pl), vi = .int .i64 i ∧ i ≤ k ∧ Hid (fk = swR a b i f) ∧ Hid (Rw g n tail fk wr) ∧ Hid (Bt g w wr)) (fun vi _ => k - (intOf vi).toNat)
  case atStart => exact ⟨0, f, rfl, Nat.zero_le _, Lib.hid (swR_start a b f).symm, HR, Lib.hid (Bt.refl _ _)⟩
  case round =>
    obtain ⟨i, fk, rfl, hik, HF, HK, HB⟩ := hrel
    clear HR
    by_cases hlt : i < k
    · have hltz : (i : Int) < (k : Int) := by omega
      obtain ⟨p, hp⟩ : ∃ p : Nat, p = a + i := ⟨_, rfl⟩
      have ep : (a : Int) + (i : Int) = (p : Int) := by omega
      obtain ⟨q, hq⟩ : ∃ q : Nat, q = b + i := ⟨_, rfl⟩
      have eq : (b : Int) + (i : Int) = (q : Int) := by omega
      have hnp : p < n := by omega
      have hzp : (p : Int) < (n : Int) := by omega
      have hbp : (p : Int) ≤ 9223372036854775807 := by omega
      have hnq : q < n := by omega
      have hzq : (q : Int) < (n : Int) := by omega
      have hbq : (q : Int) ≤ 9223372036854775807 := by omega
      have Lp := Lib.hid hp
      clear hp
      have Lq := Lib.hid hq
      clear hq
      obtain ⟨x, hx⟩ : ∃ x, x = fk p := ⟨_, rfl⟩
      have x0 := HK.out.at (i := p) hnp (j := 0) rfl
      have x1 := HK.out.at (i := p) hnp (j := 1) rfl
      have x2 := HK.out.at (i := p) hnp (j := 2) rfl
      have x3 := HK.out.at (i := p) hnp (j := 3) rfl
      have x4 := HK.out.at (i := p) hnp (j := 4) rfl
      have x5 := HK.out.at (i := p) hnp (j := 5) rfl
      rw [Nat.add_zero] at x0
      have xf0 := HK.out.free (p * 6)
      have xf1 := HK.out.free (p * 6 + 1)
      have xf2 := HK.out.free (p * 6 + 2)
      have xf3 := HK.out.free (p * 6 + 3)
      have xf4 := HK.out.free (p * 6 + 4)
      have xf5 := HK.out.free (p * 6 + 5)
      rw [← hx] at x0 x1 x2 x3 x4 x5
      have Hx := Lib.hid hx
      clear hx
      obtain ⟨y, hy⟩ : ∃ x, x = fk q := ⟨_, rfl⟩
      have y0 := HK.out.at (i := q) hnq (j := 0) rfl
      have y1 := HK.out.at (i := q) hnq (j := 1) rfl
      have y2 := HK.out.at (i := q) hnq (j := 2) rfl
      have y3 := HK.out.at (i := q) hnq (j := 3) rfl
      have y4 := HK.out.at (i := q) hnq (j := 4) rfl
      have y5 := HK.out.at (i := q) hnq (j := 5) rfl
      rw [Nat.add_zero] at y0
      have yf0 := HK.out.free (q * 6)
      have yf1 := HK.out.free (q * 6 + 1)
      have yf2 := HK.out.free (q * 6 + 2)
      have yf3 := HK.out.free (q * 6 + 3)
      have yf4 := HK.out.free (q * 6 + 4)
      have yf5 := HK.out.free (q * 6 + 5)
      rw [← hy] at y0 y1 y2 y3 y4 y5
      have Hy := Lib.hid hy
      clear hy
      go_wp2_with fail
      go_big_region
      all_goals
        clear x0 x1 x2 x3 x4 x5 xf0 xf1 xf2 xf3 xf4 xf5 y0 y1 y2 y3 y4 y5 yf0 yf1 yf2 yf3 yf4 yf5
        go_wp2_with fail
        obtain rfl := Hx.out
        obtain rfl := Hy.out
        go_roundw
        case rel => exact ⟨i + 1, sw p q fk, by go_num, by omega, Lib.hid (by rw [HF.out, Lp.out, Lq.out]; exact swR_next f hab hlt), Lib.hid (HK.out.swap hnp hnq).1.drew, Lib.hid ((HB.out.trans (HK.out.swap hnp hnq).2).drewN 1)⟩
        case measure => simp [intOf]; omega
    · have hltz : ¬ (i : Int) < (k : Int) := by omega
      have E : Hid (i = k) := Lib.hid (by omega)
      go_wp2_with fail
      go_end0
      obtain rfl := E.out
      exact ⟨rfl, HF.out ▸ HK.out, HB.out⟩
set_option maxHeartbeats 8000000 in
theorem rotate_any (h : Rw g n tail f w) {a m b c : Nat} (hn : n ≤ 1000000) (ha : a < m) (hb : m < b) (hbn : b ≤ n) :
    Calls Try.prog 89 #[.slice (some ⟨g, 0, none⟩) n c, .int .i64 a, .int .i64 m, .int .i64 b, .func (.func 70) #[] #[]] w fun e w' => e = .returned (.tuple #[]) ∧ Rw g n tail (rot a m b f) w' ∧ Bt g w w' := by
  have SW : Hid (∀ (fk : Nat → Pl) (W : World) (a b k : Nat), Rw g n tail fk W → a + k ≤ b → b + k ≤ n → Calls Try.prog 90 #[.slice (some ⟨g, 0, none⟩) n c, .int .i64 (a : Nat), .int .i64 (b : Nat), .int .i64 (k : Nat), .func (.func 70) #[] #[]] W fun e w' => e = .returned (.tuple #[]) ∧ Rw g n tail (swR a b k fk) w' ∧ Bt g W w') := Lib.hid fun fk W a b k h h1 h2 => swapRange_any h hn h1 h2
  have HR := Lib.hid h
  clear h
  obtain ⟨i0, hi0⟩ : ∃ i0 : Nat, i0 = m - a := ⟨_, rfl⟩
  have ei0 : (m : Int) - (a : Int) = (i0 : Int) := by omega
  obtain ⟨j0, hj0⟩ : ∃ j0 : Nat, j0 = b - m := ⟨_, rfl⟩
  have ej0 : (b : Int) - (m : Int) = (j0 : Int) := by omega
  obtain ⟨R, hR⟩ : ∃ R, R = rot a m b f := ⟨_, rfl⟩
  rw [← hR]
  have S0 : Hid (rot (m - i0) m (m + j0) f = R) := Lib.hid (by rw [hR, hi0, hj0, show m - (m - a) = a by omega, show m + (b - m) = b by omega])
  have hi0m : i0 ≤ m := by omega
  have hj0m : m + j0 ≤ n := by omega
  have hi00 : 0 < i0 := by omega
  have hj00 : 0 < j0 := by omega
  clear hR hi0 hj0
  go_enter Try.func89, Try.ntmps89
  go_wp2_with fail
  go_loopw [10, 11] (fun vi vj wr => ∃ (i j : Nat) (fk : Nat → Pl), vi = .int .i64 i ∧ vj = .int .i64 j ∧ 0 < i ∧ 0 < j ∧ i ≤ m ∧ m + j ≤ n ∧ Hid (rot (m - i) m (m + j) fk = R) ∧ Hid (Rw g n tail fk wr) ∧ Hid (Bt g w wr)) (fun vi vj _ => (intOf vi).toNat + (intOf vj).toNat)
  case atStart => exact ⟨i0, j0, f, rfl, rfl, hi00, hj00, hi0m, hj0m, S0, HR, Lib.hid (Bt.refl _ _)⟩
  case round =>
    obtain ⟨i, j, fk, rfl, rfl, h0i, h0j, him, hjn, HF, HK, HB⟩ := hrel
    clear HR S0 hi00 hj00 hi0m hj0m ei0 ej0
    obtain ⟨u, hu⟩ : ∃ u : Nat, u = m - i := ⟨_, rfl⟩
    have eu : (m : Int) - (i : Int) = (u : Int) := by omega
    rcases Nat.lt_trichotomy i j with hlt | heq | hgt
    · have z1 : ((i : Int) == (j : Int)) = false := by rw [beq_eq_false_iff_ne]; omega
      have z2 : ¬ (j : Int) < (i : Int) := by omega
      have z3 : (m : Int) + (j : Int) ≤ 1000000 := by omega
      obtain ⟨v, hv⟩ : ∃ v : Nat, v = m + j - i := ⟨_, rfl⟩
      have ev : (m : Int) + (j : Int) - (i : Int) = (v : Int) := by omega
      obtain ⟨j2, hj2⟩ : ∃ j2 : Nat, j2 = j - i := ⟨_, rfl⟩
      have ej2 : (j : Int) - (i : Int) = (j2 : Int) := by omega
      have C := Lib.hid (SW.out fk wr u v i HK.out (by omega) (by omega))
      have E : Hid (rot (m - i) m (m + j2) (swR u v i fk) = R) := Lib.hid (by rw [← HF.out, rot_right fk him hlt, hu, hv, hj2])
      have m2 : i + j2 < i + j := by omega
      have j20 : 0 < j2 := by omega
      have j2n : m + j2 ≤ n := by omega
      clear hu hv hj2
      go_wp2_with fail
      refine C.out.mono ?_
      rintro e w1 ⟨rfl, hk1, hb1⟩
      have HK1 := Lib.hid hk1
      have HB1 := Lib.hid (HB.out.trans hb1)
      clear hk1 hb1 HK HB C HF
      go_wp2_with fail
      go_roundw
      case rel => exact ⟨i, j2, _, rfl, rfl, h0i, j20, him, j2n, E, HK1, HB1⟩
      case measure => simp [intOf]; omega
    · subst heq
      have C := Lib.hid (SW.out fk wr u m i HK.out (by omega) (by omega))
      have E : Hid (swR u m i fk = R) := Lib.hid (by rw [← HF.out, rot_same fk him, hu])
      clear hu
      go_wp2_with fail
      refine C.out.mono ?_
      rintro e w1 ⟨rfl, hk1, hb1⟩
      have HK1 := Lib.hid hk1
      have HB1 := Lib.hid (HB.out.trans hb1)
      clear hk1 hb1 HK HB C HF
      go_wp2_with fail
      go_end0
      exact ⟨rfl, E.out ▸ HK1.out, HB1.out⟩
    · have z1 : ((i : Int) == (j : Int)) = false := by rw [beq_eq_false_iff_ne]; omega
      have z2 : (j : Int) < (i : Int) := by omega
      obtain ⟨i2, hi2⟩ : ∃ i2 : Nat, i2 = i - j := ⟨_, rfl⟩
      have ei2 : (i : Int) - (j : Int) = (i2 : Int) := by omega
      have C := Lib.hid (SW.out fk wr u m j HK.out (by omega) (by omega))
      have E : Hid (rot (m - i2) m (m + j) (swR u m j fk) = R) := Lib.hid (by rw [← HF.out, rot_left fk him hgt, hu, hi2])
      have m2 : i2 + j < i + j := by omega
      have i20 : 0 < i2 := by omega
      have i2m : i2 ≤ m := by omega
      clear hu hi2
      go_wp2_with fail
      refine C.out.mono ?_
      rintro e w1 ⟨rfl, hk1, hb1⟩
      have HK1 := Lib.hid hk1
      have HB1 := Lib.hid (HB.out.trans hb1)
      clear hk1 hb1 HK HB C HF
      go_wp2_with fail
      go_roundw
      case rel => exact ⟨i2, j, _, rfl, rfl, i20, h0j, i2m, hjn, E, HK1, HB1⟩
      case measure => simp [intOf]; omega
set_option maxHeartbeats 16000000 in
theorem insertion_any (h : Rw g n tail f w) {a b c : Nat} (hn : n ≤ 1000000) (hab : a ≤ b) (hb : b ≤ n) (hasc : ∀ p q, a ≤ p → p < q → q < b → (f p).i < (f q).i) :
    Calls Try.prog 84 #[.slice (some ⟨g, 0, none⟩) n c, .int .i64 a, .int .i64 b, .func (.func 70) #[] #[]] w fun e w' => e = .returned (.tuple #[]) ∧ ∃ f', Mv a b f f' ∧ St ltL a b f' ∧ Rw g n tail f' w' ∧ Bt g w w' := by
  have HR := Lib.hid h
  have S0 : Hid (InsO ltL Pl.i a b (a + 1) f f) := Lib.hid (InsO.start hasc)
  clear h hasc
  go_enter Try.func84, Try.ntmps84
  go_wp2_with fail
  go_loopw [8] (fun vi wr => ∃ (i : Nat) (fk : Nat → Pl), vi = .int .i64 i ∧ a < i ∧ i ≤ b + 1 ∧ Hid (InsO ltL Pl.i a b i f fk) ∧ Hid (Rw g n tail fk wr) ∧ Hid (Bt g w wr)) (fun vi _ => b + 1 - (intOf vi).toNat)
  case atStart => exact ⟨a + 1, f, by go_num, by omega, by omega, S0, HR, Lib.hid (Bt.refl _ _)⟩
  case round =>
    obtain ⟨i, fk, rfl, hai, hib, HO, HK, HB⟩ := hrel
    clear HR S0
    by_cases hlt : i < b
    · have hltz : (i : Int) < (b : Int) := by omega
      have I0 : Hid (InsI ltL Pl.i a i i fk fk) := Lib.hid (InsI.start HO.out hlt (by omega))
      obtain ⟨W, hW⟩ : ∃ W, W = wr := ⟨_, rfl⟩
      subst hW
      go_wp2_with fail
      go_loopw [9] (fun vj wr => ∃ (j : Nat) (fj : Nat → Pl), vj = .int .i64 j ∧ a ≤ j ∧ j ≤ i ∧ Hid (InsI ltL Pl.i a i j fk fj) ∧ Hid (Rw g n tail fj wr) ∧ Hid (Bt g w wr)) (fun vj _ => (intOf vj).toNat)
      case atStart => exact ⟨i, fk, rfl, by omega, Nat.le_refl _, I0, HK, HB⟩
      case round =>
        obtain ⟨j, fj, rfl, haj, hji, HI, HJ, HB2⟩ := hrel
        clear I0 HK HB
        by_cases hja : a < j
        · have hjaz : (a : Int) < (j : Int) := by omega
          obtain ⟨q, hq⟩ : ∃ q : Nat, q = j - 1 := ⟨_, rfl⟩
          have eq : (j : Int) - 1 = (q : Int) := by omega
          have hnq : q < n := by omega
          have hzq : (q : Int) < (n : Int) := by omega
          have hbq : (q : Int) ≤ 9223372036854775807 := by omega
          have hnj : j < n := by omega
          have hzj : (j : Int) < (n : Int) := by omega
          have hbj : (j : Int) ≤ 9223372036854775807 := by omega
          have hqj : q < j := by omega
          cases hlo : loL (fj j) (fj (j - 1)) with
          | true =>
            have HN : Hid (InsI ltL Pl.i a i q fk (sw j q fj)) := Lib.hid (by rw [hq]; exact InsI.next ordL HI.out hja hji hlo)
            rw [← hq] at hlo
            clear hq HI
            obtain ⟨x, hx⟩ : ∃ x, x = fj j := ⟨_, rfl⟩
            obtain ⟨y, hy⟩ : ∃ x, x = fj q := ⟨_, rfl⟩
            have C := lows_call (W0 := wr) (Lib.hid (fun X => compareL_any x y X (by rw [hx]; exact HJ.out.good _ hnj) (by rw [hy]; exact HJ.out.good _ hnq)))
            have hne : Nonempty (Cls (Lows wr)) := ⟨⟨_, Lows.self _⟩⟩
            have x0 : ∀ nq : Cls (Lows wr), nq.w.cell? ⟨g, j * 6, none⟩ = some (.int .u64 (x.k : Nat)) := fun nq => by rw [hx]; exact (HJ.out.on nq.h).at hnj (j := 0) rfl
            have x1 : ∀ nq : Cls (Lows wr), nq.w.cell? ⟨g, j * 6 + 1, none⟩ = some (.bool x.e.a.v6) := fun nq => by rw [hx]; exact (HJ.out.on nq.h).at hnj (j := 1) rfl
            have x2 : ∀ nq : Cls (Lows wr), nq.w.cell? ⟨g, j * 6 + 2, none⟩ = some (.int .u64 x.e.a.hi) := fun nq => by rw [hx]; exact (HJ.out.on nq.h).at hnj (j := 2) rfl
            have x3 : ∀ nq : Cls (Lows wr), nq.w.cell? ⟨g, j * 6 + 3, none⟩ = some (.int .u64 x.e.a.lo) := fun nq => by rw [hx]; exact (HJ.out.on nq.h).at hnj (j := 3) rfl
            have x4 : ∀ nq : Cls (Lows wr), nq.w.cell? ⟨g, j * 6 + 4, none⟩ = some (.int .i64 x.e.n) := fun nq => by rw [hx]; exact (HJ.out.on nq.h).at hnj (j := 4) rfl
            have x5 : ∀ nq : Cls (Lows wr), nq.w.cell? ⟨g, j * 6 + 5, none⟩ = some (.int .i64 x.i) := fun nq => by rw [hx]; exact (HJ.out.on nq.h).at hnj (j := 5) rfl
            have y0 : ∀ nq : Cls (Lows wr), nq.w.cell? ⟨g, q * 6, none⟩ = some (.int .u64 (y.k : Nat)) := fun nq => by rw [hy]; exact (HJ.out.on nq.h).at hnq (j := 0) rfl
            have y1 : ∀ nq : Cls (Lows wr), nq.w.cell? ⟨g, q * 6 + 1, none⟩ = some (.bool y.e.a.v6) := fun nq => by rw [hy]; exact (HJ.out.on nq.h).at hnq (j := 1) rfl
            have y2 : ∀ nq : Cls (Lows wr), nq.w.cell? ⟨g, q * 6 + 2, none⟩ = some (.int .u64 y.e.a.hi) := fun nq => by rw [hy]; exact (HJ.out.on nq.h).at hnq (j := 2) rfl
            have y3 : ∀ nq : Cls (Lows wr), nq.w.cell? ⟨g, q * 6 + 3, none⟩ = some (.int .u64 y.e.a.lo) := fun nq => by rw [hy]; exact (HJ.out.on nq.h).at hnq (j := 3) rfl
            have y4 : ∀ nq : Cls (Lows wr), nq.w.cell? ⟨g, q * 6 + 4, none⟩ = some (.int .i64 y.e.n) := fun nq => by rw [hy]; exact (HJ.out.on nq.h).at hnq (j := 4) rfl
            have y5 : ∀ nq : Cls (Lows wr), nq.w.cell? ⟨g, q * 6 + 5, none⟩ = some (.int .i64 y.i) := fun nq => by rw [hy]; exact (HJ.out.on nq.h).at hnq (j := 5) rfl
            have Hx := Lib.hid hx
            have Hy := Lib.hid hy
            clear hx hy
            have hlz : cmpL x y < 0 := by rw [Hx.out, Hy.out]; simpa [loL] using hlo
            clear hlo
            go_wp2_with fail
            refine Cls.region (Lows wr) (by kernel_rfl) (by kernel_rfl) (low_drewN (Below.refl _ _) 1) ?_
            (try dsimp only [List.append])
            repeat (go_big_quiet_step (first | fail | (with_reducible exact Cls.call (C.out _ (Cls.h _))) | (go_at_fn 70; with_reducible exact Cls.call (C.out _ (Cls.h _)))))
            refine wpQuiet_nil ?_
            intro n9
            have hk9 := n9.h
            generalize n9.w = w9 at hk9 ⊢
            clear hne n9 C x0 x1 x2 x3 x4 x5 y0 y1 y2 y3 y4 y5
            go_wp2_with fail
            have HJ2 := Lib.hid (HJ.out.on hk9)
            have HB3 := Lib.hid (HB2.out.trans (Bt.of hk9))
            clear HJ HB2 hk9 hlz
            obtain rfl := Hx.out
            obtain rfl := Hy.out
            clear Hx Hy
            obtain ⟨x, hx⟩ : ∃ x, x = fj j := ⟨_, rfl⟩
            have x0 := HJ2.out.at (i := j) hnj (j := 0) rfl
            have x1 := HJ2.out.at (i := j) hnj (j := 1) rfl
            have x2 := HJ2.out.at (i := j) hnj (j := 2) rfl
            have x3 := HJ2.out.at (i := j) hnj (j := 3) rfl
            have x4 := HJ2.out.at (i := j) hnj (j := 4) rfl
            have x5 := HJ2.out.at (i := j) hnj (j := 5) rfl
            rw [Nat.add_zero] at x0
            have xf0 := HJ2.out.free (j * 6)
            have xf1 := HJ2.out.free (j * 6 + 1)
            have xf2 := HJ2.out.free (j * 6 + 2)
            have xf3 := HJ2.out.free (j * 6 + 3)
            have xf4 := HJ2.out.free (j * 6 + 4)
            have xf5 := HJ2.out.free (j * 6 + 5)
            rw [← hx] at x0 x1 x2 x3 x4 x5
            have Hx := Lib.hid hx
            clear hx
            obtain ⟨y, hy⟩ : ∃ x, x = fj q := ⟨_, rfl⟩
            have y0 := HJ2.out.at (i := q) hnq (j := 0) rfl
            have y1 := HJ2.out.at (i := q) hnq (j := 1) rfl
            have y2 := HJ2.out.at (i := q) hnq (j := 2) rfl
            have y3 := HJ2.out.at (i := q) hnq (j := 3) rfl
            have y4 := HJ2.out.at (i := q) hnq (j := 4) rfl
            have y5 := HJ2.out.at (i := q) hnq (j := 5) rfl
            rw [Nat.add_zero] at y0
            have yf0 := HJ2.out.free (q * 6)
            have yf1 := HJ2.out.free (q * 6 + 1)
            have yf2 := HJ2.out.free (q * 6 + 2)
            have yf3 := HJ2.out.free (q * 6 + 3)
            have yf4 := HJ2.out.free (q * 6 + 4)
            have yf5 := HJ2.out.free (q * 6 + 5)
            rw [← hy] at y0 y1 y2 y3 y4 y5
            have Hy := Lib.hid hy
            clear hy
            go_big_region
            all_goals
              clear x0 x1 x2 x3 x4 x5 xf0 xf1 xf2 xf3 xf4 xf5 y0 y1 y2 y3 y4 y5 yf0 yf1 yf2 yf3 yf4 yf5
              go_wp2_with fail
              obtain rfl := Hx.out
              obtain rfl := Hy.out
              go_roundw
              case rel => exact ⟨q, sw j q fj, rfl, by omega, by omega, HN, Lib.hid (HJ2.out.swap hnj hnq).1.drew, Lib.hid ((HB3.out.trans (HJ2.out.swap hnj hnq).2).drewN 1)⟩
              case measure => simp [intOf]; omega
          | false =>
            have HN : Hid (InsO ltL Pl.i a b (i + 1) f fj) := Lib.hid (InsI.stop ordL HO.out HI.out haj hji hlt (Or.inr hlo))
            rw [← hq] at hlo
            clear hq HI
            obtain ⟨x, hx⟩ : ∃ x, x = fj j := ⟨_, rfl⟩
            obtain ⟨y, hy⟩ : ∃ x, x = fj q := ⟨_, rfl⟩
            have C := lows_call (W0 := wr) (Lib.hid (fun X => compareL_any x y X (by rw [hx]; exact HJ.out.good _ hnj) (by rw [hy]; exact HJ.out.good _ hnq)))
            have hne : Nonempty (Cls (Lows wr)) := ⟨⟨_, Lows.self _⟩⟩
            have x0 : ∀ nq : Cls (Lows wr), nq.w.cell? ⟨g, j * 6, none⟩ = some (.int .u64 (x.k : Nat)) := fun nq => by rw [hx]; exact (HJ.out.on nq.h).at hnj (j := 0) rfl
            have x1 : ∀ nq : Cls (Lows wr), nq.w.cell? ⟨g, j * 6 + 1, none⟩ = some (.bool x.e.a.v6) := fun nq => by rw [hx]; exact (HJ.out.on nq.h).at hnj (j := 1) rfl
            have x2 : ∀ nq : Cls (Lows wr), nq.w.cell? ⟨g, j * 6 + 2, none⟩ = some (.int .u64 x.e.a.hi) := fun nq => by rw [hx]; exact (HJ.out.on nq.h).at hnj (j := 2) rfl
            have x3 : ∀ nq : Cls (Lows wr), nq.w.cell? ⟨g, j * 6 + 3, none⟩ = some (.int .u64 x.e.a.lo) := fun nq => by rw [hx]; exact (HJ.out.on nq.h).at hnj (j := 3) rfl
            have x4 : ∀ nq : Cls (Lows wr), nq.w.cell? ⟨g, j * 6 + 4, none⟩ = some (.int .i64 x.e.n) := fun nq => by rw [hx]; exact (HJ.out.on nq.h).at hnj (j := 4) rfl
            have x5 : ∀ nq : Cls (Lows wr), nq.w.cell? ⟨g, j * 6 + 5, none⟩ = some (.int .i64 x.i) := fun nq => by rw [hx]; exact (HJ.out.on nq.h).at hnj (j := 5) rfl
            have y0 : ∀ nq : Cls (Lows wr), nq.w.cell? ⟨g, q * 6, none⟩ = some (.int .u64 (y.k : Nat)) := fun nq => by rw [hy]; exact (HJ.out.on nq.h).at hnq (j := 0) rfl
            have y1 : ∀ nq : Cls (Lows wr), nq.w.cell? ⟨g, q * 6 + 1, none⟩ = some (.bool y.e.a.v6) := fun nq => by rw [hy]; exact (HJ.out.on nq.h).at hnq (j := 1) rfl
            have y2 : ∀ nq : Cls (Lows wr), nq.w.cell? ⟨g, q * 6 + 2, none⟩ = some (.int .u64 y.e.a.hi) := fun nq => by rw [hy]; exact (HJ.out.on nq.h).at hnq (j := 2) rfl
            have y3 : ∀ nq : Cls (Lows wr), nq.w.cell? ⟨g, q * 6 + 3, none⟩ = some (.int .u64 y.e.a.lo) := fun nq => by rw [hy]; exact (HJ.out.on nq.h).at hnq (j := 3) rfl
            have y4 : ∀ nq : Cls (Lows wr), nq.w.cell? ⟨g, q * 6 + 4, none⟩ = some (.int .i64 y.e.n) := fun nq => by rw [hy]; exact (HJ.out.on nq.h).at hnq (j := 4) rfl
            have y5 : ∀ nq : Cls (Lows wr), nq.w.cell? ⟨g, q * 6 + 5, none⟩ = some (.int .i64 y.i) := fun nq => by rw [hy]; exact (HJ.out.on nq.h).at hnq (j := 5) rfl
            have Hx := Lib.hid hx
            have Hy := Lib.hid hy
            clear hx hy
            have hlz : ¬ cmpL x y < 0 := by rw [Hx.out, Hy.out]; simpa [loL] using hlo
            clear hlo
            go_wp2_with fail
            refine Cls.region (Lows wr) (by kernel_rfl) (by kernel_rfl) (low_drewN (Below.refl _ _) 1) ?_
            (try dsimp only [List.append])
            repeat (go_big_quiet_step (first | fail | (with_reducible exact Cls.call (C.out _ (Cls.h _))) | (go_at_fn 70; with_reducible exact Cls.call (C.out _ (Cls.h _)))))
            refine wpQuiet_nil ?_
            intro n9
            have hk9 := n9.h
            generalize n9.w = w9 at hk9 ⊢
            clear hne n9 C x0 x1 x2 x3 x4 x5 y0 y1 y2 y3 y4 y5
            go_wp2_with fail
            go_roundw
            case rel => exact ⟨i + 1, fj, by go_num, by omega, by omega, HN, Lib.hid (HJ.out.on hk9), Lib.hid (HB2.out.trans (Bt.of hk9))⟩
            case measure => simp [intOf]; omega
        · have hjaz : ¬ (a : Int) < (j : Int) := by omega
          have HN : Hid (InsO ltL Pl.i a b (i + 1) f fj) := Lib.hid (InsI.stop ordL HO.out HI.out haj hji hlt (Or.inl hja))
          clear HI
          go_wp2_with fail
          go_big_region
          all_goals
            go_wp2_with fail
            go_roundw
            case rel => exact ⟨i + 1, fj, by go_num, by omega, by omega, HN, Lib.hid HJ.out.drew, Lib.hid (HB2.out.drewN 1)⟩
            case measure => simp [intOf]; omega
    · have hltz : ¬ (i : Int) < (b : Int) := by omega
      have E : Hid (Mv a b f fk ∧ St ltL a b fk) := Lib.hid (InsO.done HO.out (by omega))
      go_wp2_with fail
      go_end0
      exact ⟨rfl, fk, E.out.1, E.out.2, HK.out, HB.out⟩
end
end Go.Proofs.Ythmcggbmeabpmaa.Ra
/- slices.symMergeCmpFunc, stableCmpFunc, SortStableFunc at a list of structs. -/
namespace Go.Proofs.Ythmcggbmeabpmaa.Ra
set_option maxRecDepth 100000
open Go.ChangeShapes Go.WideShapes Go.ChangeAt Go.RowKit
open Dec Words V4 V6 Ad Ci En Sat Ha Pe Stb Gr Mi Go.Deep
set_option linter.unusedVariables false
section
variable {g n : Nat} {tail : List Value} {f : Nat → Pl} {w : World}
def PostM (g n : Nat) (tail : List Value) (a b : Nat) (f : Nat → Pl) (w : World) (e : Ending) (w' : World) : Prop := e = .returned (.tuple #[]) ∧ ∃ f', Mv a b f f' ∧ St ltL a b f' ∧ Rw g n tail f' w' ∧ Bt g w w'
set_option maxHeartbeats 16000000 in
theorem merge_one (h : Rw g n tail f w) {a m b c : Nat} (hn : n ≤ 1000000) (ha : a < m) (hb : m < b) (hbn : b ≤ n) (M : Hid (Mg ltL Pl.i a m b f)) (hm1 : Hid (m = a + 1)) :
    Calls Try.prog 85 #[.slice (some ⟨g, 0, none⟩) n c, .int .i64 (a : Nat), .int .i64 (m : Nat), .int .i64 (b : Nat), .func (.func 70) #[] #[]] w (PostM g n tail a b f w) := by
  have HR := Lib.hid h
  clear h
  have ed : (m : Int) - (a : Int) = 1 := by have := hm1.out; omega
  go_enter Try.func85, Try.ntmps85
  go_wp2_with fail
  go_loopw [10, 11] (fun vi vj wr => ∃ (i j : Nat), vi = .int .i64 i ∧ vj = .int .i64 j ∧ m ≤ i ∧ i ≤ j ∧ j ≤ b ∧ Hid (∀ q, m ≤ q → q < i → ltL (f q) (f a)) ∧ Hid (∀ q, j ≤ q → q < b → ltL (f a) (f q)) ∧ Hid (Rw g n tail f wr) ∧ Hid (Bt g w wr)) (fun vi vj _ => (intOf vj).toNat - (intOf vi).toNat)
  case atStart => exact ⟨m, b, rfl, rfl, Nat.le_refl _, by omega, Nat.le_refl _, Lib.hid (fun q h1 h2 => by omega), Lib.hid (fun q h1 h2 => by omega), HR, Lib.hid (Bt.refl _ _)⟩
  case round =>
    obtain ⟨i, j, rfl, rfl, hi1, hij, hj1, HU, HD, HK, HB⟩ := hrel
    clear HR
    by_cases hlt : i < j
    · have hltz : (i : Int) < (j : Int) := by omega
      obtain ⟨t, ht⟩ : ∃ t : Nat, t = i + j := ⟨_, rfl⟩
      have et : (i : Int) + (j : Int) = (t : Int) := by omega
      obtain ⟨d, hd⟩ : ∃ d : Nat, d = t / 2 := ⟨_, rfl⟩
      have kd : (t : Int) / 2 = (d : Int) := by omega
      have lt : (t : Int) ≤ 4611686018427387904 := by omega
      have hid : i ≤ d := by omega
      have hdj : d < j := by omega
      have hnd : d < n := by omega
      have hzd : (d : Int) < (n : Int) := by omega
      have hbd : (d : Int) ≤ 9223372036854775807 := by omega
      have hna : a < n := by omega
      have hza : (a : Int) < (n : Int) := by omega
      have hba : (a : Int) ≤ 9223372036854775807 := by omega
      have Lt := Lib.hid ht
      clear ht
      have Ld := Lib.hid hd
      clear hd
      cases hlo : loL (f d) (f a) with
      | true =>
        have HN : Hid (∀ q, m ≤ q → q < d + 1 → ltL (f q) (f a)) := Lib.hid (Mg.one_up ordL M.out ha (by omega) (by omega) hlo)
        obtain ⟨x, hx⟩ : ∃ x, x = f d := ⟨_, rfl⟩
        obtain ⟨y, hy⟩ : ∃ x, x = f a := ⟨_, rfl⟩
        have C := lows_call (W0 := wr) (Lib.hid (fun X => compareL_any x y X (by rw [hx]; exact HK.out.good _ hnd) (by rw [hy]; exact HK.out.good _ hna)))
        have hne : Nonempty (Cls (Lows wr)) := ⟨⟨_, Lows.self _⟩⟩
        have x0 : ∀ nq : Cls (Lows wr), nq.w.cell? ⟨g, d * 6, none⟩ = some (.int .u64 (x.k : Nat)) := fun nq => by rw [hx]; exact (HK.out.on nq.h).at hnd (j := 0) rfl
        have x1 : ∀ nq : Cls (Lows wr), nq.w.cell? ⟨g, d * 6 + 1, none⟩ = some (.bool x.e.a.v6) := fun nq => by rw [hx]; exact (HK.out.on nq.h).at hnd (j := 1) rfl
        have x2 : ∀ nq : Cls (Lows wr), nq.w.cell? ⟨g, d * 6 + 2, none⟩ = some (.int .u64 x.e.a.hi) := fun nq => by rw [hx]; exact (HK.out.on nq.h).at hnd (j := 2) rfl
        have x3 : ∀ nq : Cls (Lows wr), nq.w.cell? ⟨g, d * 6 + 3, none⟩ = some (.int .u64 x.e.a.lo) := fun nq => by rw [hx]; exact (HK.out.on nq.h).at hnd (j := 3) rfl
        have x4 : ∀ nq : Cls (Lows wr), nq.w.cell? ⟨g, d * 6 + 4, none⟩ = some (.int .i64 x.e.n) := fun nq => by rw [hx]; exact (HK.out.on nq.h).at hnd (j := 4) rfl
        have x5 : ∀ nq : Cls (Lows wr), nq.w.cell? ⟨g, d * 6 + 5, none⟩ = some (.int .i64 x.i) := fun nq => by rw [hx]; exact (HK.out.on nq.h).at hnd (j := 5) rfl
        have y0 : ∀ nq : Cls (Lows wr), nq.w.cell? ⟨g, a * 6, none⟩ = some (.int .u64 (y.k : Nat)) := fun nq => by rw [hy]; exact (HK.out.on nq.h).at hna (j := 0) rfl
        have y1 : ∀ nq : Cls (Lows wr), nq.w.cell? ⟨g, a * 6 + 1, none⟩ = some (.bool y.e.a.v6) := fun nq => by rw [hy]; exact (HK.out.on nq.h).at hna (j := 1) rfl
        have y2 : ∀ nq : Cls (Lows wr), nq.w.cell? ⟨g, a * 6 + 2, none⟩ = some (.int .u64 y.e.a.hi) := fun nq => by rw [hy]; exact (HK.out.on nq.h).at hna (j := 2) rfl
        have y3 : ∀ nq : Cls (Lows wr), nq.w.cell? ⟨g, a * 6 + 3, none⟩ = some (.int .u64 y.e.a.lo) := fun nq => by rw [hy]; exact (HK.out.on nq.h).at hna (j := 3) rfl
        have y4 : ∀ nq : Cls (Lows wr), nq.w.cell? ⟨g, a * 6 + 4, none⟩ = some (.int .i64 y.e.n) := fun nq => by rw [hy]; exact (HK.out.on nq.h).at hna (j := 4) rfl
        have y5 : ∀ nq : Cls (Lows wr), nq.w.cell? ⟨g, a * 6 + 5, none⟩ = some (.int .i64 y.i) := fun nq => by rw [hy]; exact (HK.out.on nq.h).at hna (j := 5) rfl
        have Hx := Lib.hid hx
        have Hy := Lib.hid hy
        clear hx hy
        have hlz : cmpL x y < 0 := by rw [Hx.out, Hy.out]; simpa [loL] using hlo
        clear hlo
        go_wp2_with fail
        refine Cls.region (Lows wr) (by kernel_rfl) (by kernel_rfl) (low_drewN (Below.refl _ _) 1) ?_
        (try dsimp only [List.append])
        repeat (go_big_quiet_step (first | fail | (with_reducible exact Cls.call (C.out _ (Cls.h _))) | (go_at_fn 70; with_reducible exact Cls.call (C.out _ (Cls.h _)))))
        refine wpQuiet_nil ?_
        intro n9
        have hk9 := n9.h
        generalize n9.w = w9 at hk9 ⊢
        clear hne n9 C x0 x1 x2 x3 x4 x5 y0 y1 y2 y3 y4 y5
        go_wp2_with fail
        all_goals
          go_roundw
          case rel => exact ⟨d + 1, j, by go_num, rfl, by omega, by omega, hj1, HN, HD, Lib.hid (HK.out.on hk9), Lib.hid (HB.out.trans (Bt.of hk9))⟩
          case measure => simp [intOf]; omega
      | false =>
        have HN : Hid (∀ q, d ≤ q → q < b → ltL (f a) (f q)) := Lib.hid (Mg.one_down ordL M.out ha (by omega) (by omega) hlo)
        obtain ⟨x, hx⟩ : ∃ x, x = f d := ⟨_, rfl⟩
        obtain ⟨y, hy⟩ : ∃ x, x = f a := ⟨_, rfl⟩
        have C := lows_call (W0 := wr) (Lib.hid (fun X => compareL_any x y X (by rw [hx]; exact HK.out.good _ hnd) (by rw [hy]; exact HK.out.good _ hna)))
        have hne : Nonempty (Cls (Lows wr)) := ⟨⟨_, Lows.self _⟩⟩
        have x0 : ∀ nq : Cls (Lows wr), nq.w.cell? ⟨g, d * 6, none⟩ = some (.int .u64 (x.k : Nat)) := fun nq => by rw [hx]; exact (HK.out.on nq.h).at hnd (j := 0) rfl
        have x1 : ∀ nq : Cls (Lows wr), nq.w.cell? ⟨g, d * 6 + 1, none⟩ = some (.bool x.e.a.v6) := fun nq => by rw [hx]; exact (HK.out.on nq.h).at hnd (j := 1) rfl
        have x2 : ∀ nq : Cls (Lows wr), nq.w.cell? ⟨g, d * 6 + 2, none⟩ = some (.int .u64 x.e.a.hi) := fun nq => by rw [hx]; exact (HK.out.on nq.h).at hnd (j := 2) rfl
        have x3 : ∀ nq : Cls (Lows wr), nq.w.cell? ⟨g, d * 6 + 3, none⟩ = some (.int .u64 x.e.a.lo) := fun nq => by rw [hx]; exact (HK.out.on nq.h).at hnd (j := 3) rfl
        have x4 : ∀ nq : Cls (Lows wr), nq.w.cell? ⟨g, d * 6 + 4, none⟩ = some (.int .i64 x.e.n) := fun nq => by rw [hx]; exact (HK.out.on nq.h).at hnd (j := 4) rfl
        have x5 : ∀ nq : Cls (Lows wr), nq.w.cell? ⟨g, d * 6 + 5, none⟩ = some (.int .i64 x.i) := fun nq => by rw [hx]; exact (HK.out.on nq.h).at hnd (j := 5) rfl
        have y0 : ∀ nq : Cls (Lows wr), nq.w.cell? ⟨g, a * 6, none⟩ = some (.int .u64 (y.k : Nat)) := fun nq => by rw [hy]; exact (HK.out.on nq.h).at hna (j := 0) rfl
        have y1 : ∀ nq : Cls (Lows wr), nq.w.cell? ⟨g, a * 6 + 1, none⟩ = some (.bool y.e.a.v6) := fun nq => by rw [hy]; exact (HK.out.on nq.h).at hna (j := 1) rfl
        have y2 : ∀ nq : Cls (Lows wr), nq.w.cell? ⟨g, a * 6 + 2, none⟩ = some (.int .u64 y.e.a.hi) := fun nq => by rw [hy]; exact (HK.out.on nq.h).at hna (j := 2) rfl
        have y3 : ∀ nq : Cls (Lows wr), nq.w.cell? ⟨g, a * 6 + 3, none⟩ = some (.int .u64 y.e.a.lo) := fun nq => by rw [hy]; exact (HK.out.on nq.h).at hna (j := 3) rfl
        have y4 : ∀ nq : Cls (Lows wr), nq.w.cell? ⟨g, a * 6 + 4, none⟩ = some (.int .i64 y.e.n) := fun nq => by rw [hy]; exact (HK.out.on nq.h).at hna (j := 4) rfl
        have y5 : ∀ nq : Cls (Lows wr), nq.w.cell? ⟨g, a * 6 + 5, none⟩ = some (.int .i64 y.i) := fun nq => by rw [hy]; exact (HK.out.on nq.h).at hna (j := 5) rfl
        have Hx := Lib.hid hx
        have Hy := Lib.hid hy
        clear hx hy
        have hlz : ¬ cmpL x y < 0 := by rw [Hx.out, Hy.out]; simpa [loL] using hlo
        clear hlo
        go_wp2_with fail
        refine Cls.region (Lows wr) (by kernel_rfl) (by kernel_rfl) (low_drewN (Below.refl _ _) 1) ?_
        (try dsimp only [List.append])
        repeat (go_big_quiet_step (first | fail | (with_reducible exact Cls.call (C.out _ (Cls.h _))) | (go_at_fn 70; with_reducible exact Cls.call (C.out _ (Cls.h _)))))
        refine wpQuiet_nil ?_
        intro n9
        have hk9 := n9.h
        generalize n9.w = w9 at hk9 ⊢
        clear hne n9 C x0 x1 x2 x3 x4 x5 y0 y1 y2 y3 y4 y5
        go_wp2_with fail
        all_goals
          go_roundw
          case rel => exact ⟨i, d, rfl, rfl, hi1, hid, by omega, HU, HN, Lib.hid (HK.out.on hk9), Lib.hid (HB.out.trans (Bt.of hk9))⟩
          case measure => simp [intOf]; omega
    · have hltz : ¬ (i : Int) < (j : Int) := by omega
      have hije : i = j := by omega
      subst hije
      have HDone := Lib.hid (Mg.one_done M.out hm1.out hi1 hj1 HU.out HD.out)
      clear HU HD
      obtain ⟨i1, hi1x⟩ : ∃ i1 : Nat, i1 = i - 1 := ⟨_, rfl⟩
      have ei1 : (i : Int) - 1 = (i1 : Int) := by omega
      have hai1 : a ≤ i1 := by have := hm1.out; omega
      have hi1b : i1 < b := by omega
      rw [← hi1x] at HDone
      clear hi1x
      have HK0 : Hid (Rw g n tail (sl a a f) wr) := Lib.hid (by rw [sl_start]; exact HK.out)
      obtain ⟨W, hW⟩ : ∃ W, W = wr := ⟨_, rfl⟩
      subst hW
      go_wp2_with fail
      go_loopw [13] (fun vk wr => ∃ (k : Nat), vk = .int .i64 k ∧ a ≤ k ∧ k ≤ i1 ∧ Hid (Rw g n tail (sl a k f) wr) ∧ Hid (Bt g w wr)) (fun vk _ => i1 - (intOf vk).toNat)
      case atStart => exact ⟨a, rfl, Nat.le_refl _, hai1, HK0, HB⟩
      case round =>
        obtain ⟨k, rfl, hk1, hk2, HK2, HB2⟩ := hrel
        clear HK0 HK HB
        by_cases hlt2 : k < i1
        · have hlt2z : (k : Int) < (i1 : Int) := by omega
          obtain ⟨q, hq⟩ : ∃ q : Nat, q = k + 1 := ⟨_, rfl⟩
          have eq : (k : Int) + 1 = (q : Int) := by omega
          have hnk : k < n := by omega
          have hzk : (k : Int) < (n : Int) := by omega
          have hbk : (k : Int) ≤ 9223372036854775807 := by omega
          have hnq : q < n := by omega
          have hzq : (q : Int) < (n : Int) := by omega
          have hbq : (q : Int) ≤ 9223372036854775807 := by omega
          obtain ⟨F, hF⟩ : ∃ F, F = sl a k f := ⟨_, rfl⟩
          have HG : Hid (sl a q f = sw k q F) := Lib.hid (by rw [hF, hq]; exact (sl_next f hk1).symm)
          rw [← hF] at HK2
          clear hF hq
          obtain ⟨x, hx⟩ : ∃ x, x = F k := ⟨_, rfl⟩
          have x0 := HK2.out.at (i := k) hnk (j := 0) rfl
          have x1 := HK2.out.at (i := k) hnk (j := 1) rfl
          have x2 := HK2.out.at (i := k) hnk (j := 2) rfl
          have x3 := HK2.out.at (i := k) hnk (j := 3) rfl
          have x4 := HK2.out.at (i := k) hnk (j := 4) rfl
          have x5 := HK2.out.at (i := k) hnk (j := 5) rfl
          rw [Nat.add_zero] at x0
          have xf0 := HK2.out.free (k * 6)
          have xf1 := HK2.out.free (k * 6 + 1)
          have xf2 := HK2.out.free (k * 6 + 2)
          have xf3 := HK2.out.free (k * 6 + 3)
          have xf4 := HK2.out.free (k * 6 + 4)
          have xf5 := HK2.out.free (k * 6 + 5)
          rw [← hx] at x0 x1 x2 x3 x4 x5
          have Hx := Lib.hid hx
          clear hx
          obtain ⟨y, hy⟩ : ∃ x, x = F q := ⟨_, rfl⟩
          have y0 := HK2.out.at (i := q) hnq (j := 0) rfl
          have y1 := HK2.out.at (i := q) hnq (j := 1) rfl
          have y2 := HK2.out.at (i := q) hnq (j := 2) rfl
          have y3 := HK2.out.at (i := q) hnq (j := 3) rfl
          have y4 := HK2.out.at (i := q) hnq (j := 4) rfl
          have y5 := HK2.out.at (i := q) hnq (j := 5) rfl
          rw [Nat.add_zero] at y0
          have yf0 := HK2.out.free (q * 6)
          have yf1 := HK2.out.free (q * 6 + 1)
          have yf2 := HK2.out.free (q * 6 + 2)
          have yf3 := HK2.out.free (q * 6 + 3)
          have yf4 := HK2.out.free (q * 6 + 4)
          have yf5 := HK2.out.free (q * 6 + 5)
          rw [← hy] at y0 y1 y2 y3 y4 y5
          have Hy := Lib.hid hy
          clear hy
          go_wp2_with fail
          go_big_region
          all_goals
            clear x0 x1 x2 x3 x4 x5 xf0 xf1 xf2 xf3 xf4 xf5 y0 y1 y2 y3 y4 y5 yf0 yf1 yf2 yf3 yf4 yf5
            go_wp2_with fail
            obtain rfl := Hx.out
            obtain rfl := Hy.out
            go_roundw
            case rel => exact ⟨q, rfl, by omega, by omega, Lib.hid (by rw [HG.out]; exact (HK2.out.swap hnk hnq).1.drew), Lib.hid ((HB2.out.trans (HK2.out.swap hnk hnq).2).drewN 1)⟩
            case measure => simp [intOf]; omega
        · have hlt2z : ¬ (k : Int) < (i1 : Int) := by omega
          have E : Hid (k = i1) := Lib.hid (by omega)
          go_wp2_with fail
          (try simp only [Exit.inBlock, Exit.then])
          refine bodyPost_ret (results_none rfl _ _ _) rfl ?_
          obtain rfl := E.out
          exact ⟨rfl, _, HDone.out.1, HDone.out.2, HK2.out, HB2.out⟩
set_option maxHeartbeats 16000000 in
theorem merge_two (h : Rw g n tail f w) {a m b c : Nat} (hn : n ≤ 1000000) (ha : a < m) (hb : m < b) (hbn : b ≤ n) (M : Hid (Mg ltL Pl.i a m b f)) (hm1 : ¬ m = a + 1) (hb1 : Hid (b = m + 1)) :
    Calls Try.prog 85 #[.slice (some ⟨g, 0, none⟩) n c, .int .i64 (a : Nat), .int .i64 (m : Nat), .int .i64 (b : Nat), .func (.func 70) #[] #[]] w (PostM g n tail a b f w) := by
  have HR := Lib.hid h
  clear h
  obtain ⟨d0, hd0⟩ : ∃ d0 : Nat, d0 = m - a := ⟨_, rfl⟩
  have ed0 : (m : Int) - (a : Int) = (d0 : Int) := by omega
  have hdz : ((d0 : Int) == 1) = false := by rw [beq_eq_false_iff_ne]; omega
  have ed2 : (b : Int) - (m : Int) = 1 := by have := hb1.out; omega
  clear hd0 hm1
  go_enter Try.func85, Try.ntmps85
  go_wp2_with fail
  go_loopw [14, 15] (fun vi vj wr => ∃ (i j : Nat), vi = .int .i64 i ∧ vj = .int .i64 j ∧ a ≤ i ∧ i ≤ j ∧ j ≤ m ∧ Hid (∀ q, a ≤ q → q < i → ltL (f q) (f m)) ∧ Hid (∀ q, j ≤ q → q < m → ltL (f m) (f q)) ∧ Hid (Rw g n tail f wr) ∧ Hid (Bt g w wr)) (fun vi vj _ => (intOf vj).toNat - (intOf vi).toNat)
  case atStart => exact ⟨a, m, rfl, rfl, Nat.le_refl _, by omega, Nat.le_refl _, Lib.hid (fun q h1 h2 => by omega), Lib.hid (fun q h1 h2 => by omega), HR, Lib.hid (Bt.refl _ _)⟩
  case round =>
    obtain ⟨i, j, rfl, rfl, hi1, hij, hj1, HU, HD, HK, HB⟩ := hrel
    clear HR
    by_cases hlt : i < j
    · have hltz : (i : Int) < (j : Int) := by omega
      obtain ⟨t, ht⟩ : ∃ t : Nat, t = i + j := ⟨_, rfl⟩
      have et : (i : Int) + (j : Int) = (t : Int) := by omega
      obtain ⟨d, hd⟩ : ∃ d : Nat, d = t / 2 := ⟨_, rfl⟩
      have kd : (t : Int) / 2 = (d : Int) := by omega
      have lt : (t : Int) ≤ 4611686018427387904 := by omega
      have hid : i ≤ d := by omega
      have hdj : d < j := by omega
      have hnd : d < n := by omega
      have hzd : (d : Int) < (n : Int) := by omega
      have hbd : (d : Int) ≤ 9223372036854775807 := by omega
      have hnm : m < n := by omega
      have hzm : (m : Int) < (n : Int) := by omega
      have hbm : (m : Int) ≤ 9223372036854775807 := by omega
      have Lt := Lib.hid ht
      clear ht
      have Ld := Lib.hid hd
      clear hd
      cases hlo : loL (f m) (f d) with
      | true =>
        have HN : Hid (∀ q, d ≤ q → q < m → ltL (f m) (f q)) := Lib.hid (Mg.two_down ordL M.out hb (by omega) (by omega) hlo)
        obtain ⟨x, hx⟩ : ∃ x, x = f m := ⟨_, rfl⟩
        obtain ⟨y, hy⟩ : ∃ x, x = f d := ⟨_, rfl⟩
        have C := lows_call (W0 := wr) (Lib.hid (fun X => compareL_any x y X (by rw [hx]; exact HK.out.good _ hnm) (by rw [hy]; exact HK.out.good _ hnd)))
        have hne : Nonempty (Cls (Lows wr)) := ⟨⟨_, Lows.self _⟩⟩
        have x0 : ∀ nq : Cls (Lows wr), nq.w.cell? ⟨g, m * 6, none⟩ = some (.int .u64 (x.k : Nat)) := fun nq => by rw [hx]; exact (HK.out.on nq.h).at hnm (j := 0) rfl
        have x1 : ∀ nq : Cls (Lows wr), nq.w.cell? ⟨g, m * 6 + 1, none⟩ = some (.bool x.e.a.v6) := fun nq => by rw [hx]; exact (HK.out.on nq.h).at hnm (j := 1) rfl
        have x2 : ∀ nq : Cls (Lows wr), nq.w.cell? ⟨g, m * 6 + 2, none⟩ = some (.int .u64 x.e.a.hi) := fun nq => by rw [hx]; exact (HK.out.on nq.h).at hnm (j := 2) rfl
        have x3 : ∀ nq : Cls (Lows wr), nq.w.cell? ⟨g, m * 6 + 3, none⟩ = some (.int .u64 x.e.a.lo) := fun nq => by rw [hx]; exact (HK.out.on nq.h).at hnm (j := 3) rfl
        have x4 : ∀ nq : Cls (Lows wr), nq.w.cell? ⟨g, m * 6 + 4, none⟩ = some (.int .i64 x.e.n) := fun nq => by rw [hx]; exact (HK.out.on nq.h).at hnm (j := 4) rfl
        have x5 : ∀ nq : Cls (Lows wr), nq.w.cell? ⟨g, m * 6 + 5, none⟩ = some (.int .i64 x.i) := fun nq => by rw [hx]; exact (HK.out.on nq.h).at hnm (j := 5) rfl
        have y0 : ∀ nq : Cls (Lows wr), nq.w.cell? ⟨g, d * 6, none⟩ = some (.int .u64 (y.k : Nat)) := fun nq => by rw [hy]; exact (HK.out.on nq.h).at hnd (j := 0) rfl
        have y1 : ∀ nq : Cls (Lows wr), nq.w.cell? ⟨g, d * 6 + 1, none⟩ = some (.bool y.e.a.v6) := fun nq => by rw [hy]; exact (HK.out.on nq.h).at hnd (j := 1) rfl
        have y2 : ∀ nq : Cls (Lows wr), nq.w.cell? ⟨g, d * 6 + 2, none⟩ = some (.int .u64 y.e.a.hi) := fun nq => by rw [hy]; exact (HK.out.on nq.h).at hnd (j := 2) rfl
        have y3 : ∀ nq : Cls (Lows wr), nq.w.cell? ⟨g, d * 6 + 3, none⟩ = some (.int .u64 y.e.a.lo) := fun nq => by rw [hy]; exact (HK.out.on nq.h).at hnd (j := 3) rfl
        have y4 : ∀ nq : Cls (Lows wr), nq.w.cell? ⟨g, d * 6 + 4, none⟩ = some (.int .i64 y.e.n) := fun nq => by rw [hy]; exact (HK.out.on nq.h).at hnd (j := 4) rfl
        have y5 : ∀ nq : Cls (Lows wr), nq.w.cell? ⟨g, d * 6 + 5, none⟩ = some (.int .i64 y.i) := fun nq => by rw [hy]; exact (HK.out.on nq.h).at hnd (j := 5) rfl
        have Hx := Lib.hid hx
        have Hy := Lib.hid hy
        clear hx hy
        have hlz : cmpL x y < 0 := by rw [Hx.out, Hy.out]; simpa [loL] using hlo
        have hlb : (!decide (cmpL x y < 0)) = false := by rw [decide_eq_true hlz]; rfl
        clear hlo
        go_wp2_with fail
        refine Cls.region (Lows wr) (by kernel_rfl) (by kernel_rfl) (low_drewN (Below.refl _ _) 1) ?_
        (try dsimp only [List.append])
        repeat (go_big_quiet_step (first | fail | (with_reducible exact Cls.call (C.out _ (Cls.h _))) | (go_at_fn 70; with_reducible exact Cls.call (C.out _ (Cls.h _)))))
        refine wpQuiet_nil ?_
        intro n9
        have hk9 := n9.h
        generalize n9.w = w9 at hk9 ⊢
        clear hne n9 C x0 x1 x2 x3 x4 x5 y0 y1 y2 y3 y4 y5
        go_wp2_with fail
        all_goals
          go_roundw
          case rel => exact ⟨i, d, rfl, rfl, hi1, hid, by omega, HU, HN, Lib.hid (HK.out.on hk9), Lib.hid (HB.out.trans (Bt.of hk9))⟩
          case measure => simp [intOf]; omega
      | false =>
        have HN : Hid (∀ q, a ≤ q → q < d + 1 → ltL (f q) (f m)) := Lib.hid (Mg.two_up ordL M.out hb (by omega) (by omega) hlo)
        obtain ⟨x, hx⟩ : ∃ x, x = f m := ⟨_, rfl⟩
        obtain ⟨y, hy⟩ : ∃ x, x = f d := ⟨_, rfl⟩
        have C := lows_call (W0 := wr) (Lib.hid (fun X => compareL_any x y X (by rw [hx]; exact HK.out.good _ hnm) (by rw [hy]; exact HK.out.good _ hnd)))
        have hne : Nonempty (Cls (Lows wr)) := ⟨⟨_, Lows.self _⟩⟩
        have x0 : ∀ nq : Cls (Lows wr), nq.w.cell? ⟨g, m * 6, none⟩ = some (.int .u64 (x.k : Nat)) := fun nq => by rw [hx]; exact (HK.out.on nq.h).at hnm (j := 0) rfl
        have x1 : ∀ nq : Cls (Lows wr), nq.w.cell? ⟨g, m * 6 + 1, none⟩ = some (.bool x.e.a.v6) := fun nq => by rw [hx]; exact (HK.out.on nq.h).at hnm (j := 1) rfl
        have x2 : ∀ nq : Cls (Lows wr), nq.w.cell? ⟨g, m * 6 + 2, none⟩ = some (.int .u64 x.e.a.hi) := fun nq => by rw [hx]; exact (HK.out.on nq.h).at hnm (j := 2) rfl
        have x3 : ∀ nq : Cls (Lows wr), nq.w.cell? ⟨g, m * 6 + 3, none⟩ = some (.int .u64 x.e.a.lo) := fun nq => by rw [hx]; exact (HK.out.on nq.h).at hnm (j := 3) rfl
        have x4 : ∀ nq : Cls (Lows wr), nq.w.cell? ⟨g, m * 6 + 4, none⟩ = some (.int .i64 x.e.n) := fun nq => by rw [hx]; exact (HK.out.on nq.h).at hnm (j := 4) rfl
        have x5 : ∀ nq : Cls (Lows wr), nq.w.cell? ⟨g, m * 6 + 5, none⟩ = some (.int .i64 x.i) := fun nq => by rw [hx]; exact (HK.out.on nq.h).at hnm (j := 5) rfl
        have y0 : ∀ nq : Cls (Lows wr), nq.w.cell? ⟨g, d * 6, none⟩ = some (.int .u64 (y.k : Nat)) := fun nq => by rw [hy]; exact (HK.out.on nq.h).at hnd (j := 0) rfl
        have y1 : ∀ nq : Cls (Lows wr), nq.w.cell? ⟨g, d * 6 + 1, none⟩ = some (.bool y.e.a.v6) := fun nq => by rw [hy]; exact (HK.out.on nq.h).at hnd (j := 1) rfl
        have y2 : ∀ nq : Cls (Lows wr), nq.w.cell? ⟨g, d * 6 + 2, none⟩ = some (.int .u64 y.e.a.hi) := fun nq => by rw [hy]; exact (HK.out.on nq.h).at hnd (j := 2) rfl
        have y3 : ∀ nq : Cls (Lows wr), nq.w.cell? ⟨g, d * 6 + 3, none⟩ = some (.int .u64 y.e.a.lo) := fun nq => by rw [hy]; exact (HK.out.on nq.h).at hnd (j := 3) rfl
        have y4 : ∀ nq : Cls (Lows wr), nq.w.cell? ⟨g, d * 6 + 4, none⟩ = some (.int .i64 y.e.n) := fun nq => by rw [hy]; exact (HK.out.on nq.h).at hnd (j := 4) rfl
        have y5 : ∀ nq : Cls (Lows wr), nq.w.cell? ⟨g, d * 6 + 5, none⟩ = some (.int .i64 y.i) := fun nq => by rw [hy]; exact (HK.out.on nq.h).at hnd (j := 5) rfl
        have Hx := Lib.hid hx
        have Hy := Lib.hid hy
        clear hx hy
        have hlz : ¬ cmpL x y < 0 := by rw [Hx.out, Hy.out]; simpa [loL] using hlo
        have hlb : (!decide (cmpL x y < 0)) = true := by rw [decide_eq_false hlz]; rfl
        clear hlo
        go_wp2_with fail
        refine Cls.region (Lows wr) (by kernel_rfl) (by kernel_rfl) (low_drewN (Below.refl _ _) 1) ?_
        (try dsimp only [List.append])
        repeat (go_big_quiet_step (first | fail | (with_reducible exact Cls.call (C.out _ (Cls.h _))) | (go_at_fn 70; with_reducible exact Cls.call (C.out _ (Cls.h _)))))
        refine wpQuiet_nil ?_
        intro n9
        have hk9 := n9.h
        generalize n9.w = w9 at hk9 ⊢
        clear hne n9 C x0 x1 x2 x3 x4 x5 y0 y1 y2 y3 y4 y5
        go_wp2_with fail
        all_goals
          go_roundw
          case rel => exact ⟨d + 1, j, by go_num, rfl, by omega, by omega, hj1, HN, HD, Lib.hid (HK.out.on hk9), Lib.hid (HB.out.trans (Bt.of hk9))⟩
          case measure => simp [intOf]; omega
    · have hltz : ¬ (i : Int) < (j : Int) := by omega
      have hije : i = j := by omega
      subst hije
      have HDone := Lib.hid (Mg.two_done M.out hb1.out hi1 hj1 HU.out HD.out)
      clear HU HD
      have HK0 : Hid (Rw g n tail (sr m m f) wr) := Lib.hid (by rw [sr_start]; exact HK.out)
      obtain ⟨W, hW⟩ : ∃ W, W = wr := ⟨_, rfl⟩
      subst hW
      go_wp2_with fail
      go_loopw [17] (fun vk wr => ∃ (k : Nat), vk = .int .i64 k ∧ i ≤ k ∧ k ≤ m ∧ Hid (Rw g n tail (sr k m f) wr) ∧ Hid (Bt g w wr)) (fun vk _ => (intOf vk).toNat)
      case atStart => exact ⟨m, rfl, hj1, Nat.le_refl _, HK0, HB⟩
      case round =>
        obtain ⟨k, rfl, hk1, hk2, HK2, HB2⟩ := hrel
        clear HK0 HK HB
        by_cases hlt2 : i < k
        · have hlt2z : (i : Int) < (k : Int) := by omega
          obtain ⟨q, hq⟩ : ∃ q : Nat, q = k - 1 := ⟨_, rfl⟩
          have eq : (k : Int) - 1 = (q : Int) := by omega
          have hnk : k < n := by omega
          have hzk : (k : Int) < (n : Int) := by omega
          have hbk : (k : Int) ≤ 9223372036854775807 := by omega
          have hnq : q < n := by omega
          have hzq : (q : Int) < (n : Int) := by omega
          have hbq : (q : Int) ≤ 9223372036854775807 := by omega
          obtain ⟨F, hF⟩ : ∃ F, F = sr k m f := ⟨_, rfl⟩
          have HG : Hid (sr q m f = sw k q F) := Lib.hid (by rw [hF, hq]; exact (sr_next f (by omega) hk2).symm)
          rw [← hF] at HK2
          clear hF hq
          obtain ⟨x, hx⟩ : ∃ x, x = F k := ⟨_, rfl⟩
          have x0 := HK2.out.at (i := k) hnk (j := 0) rfl
          have x1 := HK2.out.at (i := k) hnk (j := 1) rfl
          have x2 := HK2.out.at (i := k) hnk (j := 2) rfl
          have x3 := HK2.out.at (i := k) hnk (j := 3) rfl
          have x4 := HK2.out.at (i := k) hnk (j := 4) rfl
          have x5 := HK2.out.at (i := k) hnk (j := 5) rfl
          rw [Nat.add_zero] at x0
          have xf0 := HK2.out.free (k * 6)
          have xf1 := HK2.out.free (k * 6 + 1)
          have xf2 := HK2.out.free (k * 6 + 2)
          have xf3 := HK2.out.free (k * 6 + 3)
          have xf4 := HK2.out.free (k * 6 + 4)
          have xf5 := HK2.out.free (k * 6 + 5)
          rw [← hx] at x0 x1 x2 x3 x4 x5
          have Hx := Lib.hid hx
          clear hx
          obtain ⟨y, hy⟩ : ∃ x, x = F q := ⟨_, rfl⟩
          have y0 := HK2.out.at (i := q) hnq (j := 0) rfl
          have y1 := HK2.out.at (i := q) hnq (j := 1) rfl
          have y2 := HK2.out.at (i := q) hnq (j := 2) rfl
          have y3 := HK2.out.at (i := q) hnq (j := 3) rfl
          have y4 := HK2.out.at (i := q) hnq (j := 4) rfl
          have y5 := HK2.out.at (i := q) hnq (j := 5) rfl
          rw [Nat.add_zero] at y0
          have yf0 := HK2.out.free (q * 6)
          have yf1 := HK2.out.free (q * 6 + 1)
          have yf2 := HK2.out.free (q * 6 + 2)
          have yf3 := HK2.out.free (q * 6 + 3)
          have yf4 := HK2.out.free (q * 6 + 4)
          have yf5 := HK2.out.free (q * 6 + 5)
          rw [← hy] at y0 y1 y2 y3 y4 y5
          have Hy := Lib.hid hy
          clear hy
          go_wp2_with fail
          go_big_region
          all_goals
            clear x0 x1 x2 x3 x4 x5 xf0 xf1 xf2 xf3 xf4 xf5 y0 y1 y2 y3 y4 y5 yf0 yf1 yf2 yf3 yf4 yf5
            go_wp2_with fail
            obtain rfl := Hx.out
            obtain rfl := Hy.out
            go_roundw
            case rel => exact ⟨q, rfl, by omega, by omega, Lib.hid (by rw [HG.out]; exact (HK2.out.swap hnk hnq).1.drew), Lib.hid ((HB2.out.trans (HK2.out.swap hnk hnq).2).drewN 1)⟩
            case measure => simp [intOf]; omega
        · have hlt2z : ¬ (i : Int) < (k : Int) := by omega
          have E : Hid (k = i) := Lib.hid (by omega)
          go_wp2_with fail
          (try simp only [Exit.inBlock, Exit.then])
          refine bodyPost_ret (results_none rfl _ _ _) rfl ?_
          obtain rfl := E.out
          exact ⟨rfl, _, HDone.out.1, HDone.out.2, HK2.out, HB2.out⟩
set_option maxHeartbeats 16000000 in
theorem merge_walk (h : Rw g n tail f w) {a m b c : Nat} (hn : n ≤ 1000000) (ha : a < m) (hb : m < b) (hbn : b ≤ n) (M : Hid (Mg ltL Pl.i a m b f)) (hm1 : ¬ m = a + 1) (hb1 : ¬ b = m + 1) (RC : Hid (∀ (fk : Nat → Pl) (W : World) (a' m' b' : Nat), Rw g n tail fk W → Mg ltL Pl.i a' m' b' fk → a' < m' → m' < b' → b' ≤ n → b' - a' < b - a → Calls Try.prog 85 #[.slice (some ⟨g, 0, none⟩) n c, .int .i64 (a' : Nat), .int .i64 (m' : Nat), .int .i64 (b' : Nat), .func (.func 70) #[] #[]] W (PostM g n tail a' b' fk W))) :
    Calls Try.prog 85 #[.slice (some ⟨g, 0, none⟩) n c, .int .i64 (a : Nat), .int .i64 (m : Nat), .int .i64 (b : Nat), .func (.func 70) #[] #[]] w (PostM g n tail a b f w) := by
  have HR := Lib.hid h
  clear h
  obtain ⟨d0, hd0⟩ : ∃ d0 : Nat, d0 = m - a := ⟨_, rfl⟩
  have ed0 : (m : Int) - (a : Int) = (d0 : Int) := by omega
  obtain ⟨d2, hd2⟩ : ∃ d2 : Nat, d2 = b - m := ⟨_, rfl⟩
  have ed2 : (b : Int) - (m : Int) = (d2 : Int) := by omega
  have hdz : ((d0 : Int) == 1) = false := by rw [beq_eq_false_iff_ne]; omega
  have hd2z : ((d2 : Int) == 1) = false := by rw [beq_eq_false_iff_ne]; omega
  clear hd0 hd2 hm1 hb1
  obtain ⟨t, ht⟩ : ∃ t : Nat, t = a + b := ⟨_, rfl⟩
  have et : (a : Int) + (b : Int) = (t : Int) := by omega
  obtain ⟨mid, hmid⟩ : ∃ mid : Nat, mid = t / 2 := ⟨_, rfl⟩
  have kd : (t : Int) / 2 = (mid : Int) := by omega
  have lt : (t : Int) ≤ 4611686018427387904 := by omega
  obtain ⟨N, hN⟩ : ∃ N : Nat, N = mid + m := ⟨_, rfl⟩
  have eN : (mid : Int) + (m : Int) = (N : Int) := by omega
  obtain ⟨s0, hs0⟩ : ∃ s0 : Nat, s0 = if mid < m then mid + m - b else a := ⟨_, rfl⟩
  obtain ⟨r0, hr0⟩ : ∃ r0 : Nat, r0 = if mid < m then mid else m := ⟨_, rfl⟩
  have hsr : s0 ≤ r0 := by
    rw [hs0, hr0]
    by_cases hc : mid < m
    · rw [if_pos hc, if_pos hc]; omega
    · rw [if_neg hc, if_neg hc]; omega
  have hr0n : r0 ≤ mid ∧ r0 ≤ m := by
    rw [hr0]
    by_cases hc : mid < m
    · rw [if_pos hc]; omega
    · rw [if_neg hc]; omega
  have hs0n : N ≤ s0 + b := by
    rw [hs0]
    by_cases hc : mid < m
    · rw [if_pos hc]; omega
    · rw [if_neg hc]; omega
  have has0 : a ≤ s0 := by
    rw [hs0]
    by_cases hc : mid < m
    · rw [if_pos hc]; omega
    · rw [if_neg hc]; omega
  have SD : Hid (∀ s, Sy ltL N s0 r0 s s f → a ≤ s ∧ s ≤ mid ∧ s ≤ m ∧ mid ≤ N - s ∧ m ≤ N - s ∧ N - s ≤ b ∧ Hv ltL Pl.i a mid b s (N - s) (rot s m (N - s) f)) := Lib.hid fun s hS => by
    subst hN
    exact Sy.done ordL ha hb (by rw [hmid, ht]) hs0 hr0 M.out hS
  have hN2 : N ≤ 2000000 := by omega
  have HSN := Lib.hid hN
  have HMID : Hid (a < mid ∧ mid < b) := Lib.hid (by omega)
  have HS0 := Lib.hid hs0
  have HR0 := Lib.hid hr0
  have HAR := Lib.hid hr0n
  have HSB := Lib.hid hs0n
  have HAS := Lib.hid has0
  have HSR := Lib.hid hsr
  have HT := Lib.hid ht
  have HM := Lib.hid hmid
  clear hN hs0 hr0 hr0n hs0n has0 hsr ht hmid
  go_enter Try.func85, Try.ntmps85
  go_upto_if 140 with fail
  go_cut [20, 21] from 138 to 146 (fun v20 v21 wx => v20 = .int .i64 s0 ∧ v21 = .int .i64 r0 ∧ Hid (Rw g n tail f wx) ∧ Hid (Bt g w wx))
  case first =>
    by_cases hc : mid < m
    · have hcz : (mid : Int) < (m : Int) := by omega
      have e1 : (N : Int) - (b : Int) = (s0 : Int) := by have h1 := HS0.out; have h2 := HSB.out; have h3 := HSN.out; rw [if_pos hc] at h1; omega
      have e2 : Hid ((mid : Int) = (r0 : Int)) := Lib.hid (by have h1 := HR0.out; rw [if_pos hc] at h1; omega)
      clear hc
      go_wp2_with fail
      go_meet
      case rel => exact ⟨rfl, by rw [e2.out], HR, Lib.hid (Bt.refl _ _)⟩
    · have hcz : ¬ (mid : Int) < (m : Int) := by omega
      have e1 : Hid ((a : Int) = (s0 : Int)) := Lib.hid (by have h1 := HS0.out; rw [if_neg hc] at h1; omega)
      have e2 : Hid ((m : Int) = (r0 : Int)) := Lib.hid (by have h1 := HR0.out; rw [if_neg hc] at h1; omega)
      clear hc
      go_wp2_with fail
      go_meet
      case rel => exact ⟨by rw [e1.out], by rw [e2.out], HR, Lib.hid (Bt.refl _ _)⟩
  case rest =>
    obtain ⟨rfl, rfl, HR2, HB0⟩ := hcut
    clear HR
    have hN1 : 1 ≤ N := by have := HSN.out; omega
    obtain ⟨p1, hp1⟩ : ∃ p1 : Nat, p1 = N - 1 := ⟨_, rfl⟩
    have ep1 : (N : Int) - 1 = (p1 : Int) := by omega
    have hp1N : p1 + 1 = N := by omega
    clear hp1 hN1
    go_wp2_with fail
    go_loopw [20, 21] (fun vs vr wr => ∃ (s r : Nat), vs = .int .i64 s ∧ vr = .int .i64 r ∧ s ≤ r ∧ Hid (Sy ltL N s0 r0 s r f) ∧ Hid (Rw g n tail f wr) ∧ Hid (Bt g w wr)) (fun vs vr _ => (intOf vr).toNat - (intOf vs).toNat)
    case atStart => exact ⟨s0, r0, rfl, rfl, HSR.out, Lib.hid (Sy.start HSR.out), HR2, HB0⟩
    case round =>
      obtain ⟨s, r, rfl, rfl, hsr, HY, HK, HB⟩ := hrel
      clear HR2 HB0
      by_cases hlt : s < r
      · have hltz : (s : Int) < (r : Int) := by omega
        have hr1 : r ≤ m ∧ a ≤ s ∧ N ≤ s + b ∧ r ≤ mid := by have h1 := HY.out.h0; have h2 := HY.out.h2; have h3 := HAR.out; have h4 := HAS.out; have h5 := HSB.out; omega
        have hNm : N = mid + m := HSN.out
        obtain ⟨t2, ht2⟩ : ∃ t2 : Nat, t2 = s + r := ⟨_, rfl⟩
        have et2 : (s : Int) + (r : Int) = (t2 : Int) := by omega
        obtain ⟨d, hd⟩ : ∃ d : Nat, d = t2 / 2 := ⟨_, rfl⟩
        have kd : (t2 : Int) / 2 = (d : Int) := by omega
        have lt2 : (t2 : Int) ≤ 4611686018427387904 := by omega
        have hsd : s ≤ d := by omega
        have hdr : d < r := by omega
        obtain ⟨q, hq⟩ : ∃ q : Nat, q = p1 - d := ⟨_, rfl⟩
        have eq : (p1 : Int) - (d : Int) = (q : Int) := by omega
        have hnd : d < n := by omega
        have hzd : (d : Int) < (n : Int) := by omega
        have hbd : (d : Int) ≤ 9223372036854775807 := by omega
        have hnq : q < n := by omega
        have hzq : (q : Int) < (n : Int) := by omega
        have hbq : (q : Int) ≤ 9223372036854775807 := by omega
        have hx : (f d).i < (f q).i := M.out.x d q (by omega) (by omega) (by omega) (by omega)
        have hqe : q = N - 1 - d := by omega
        cases hlo : loL (f q) (f d) with
        | true =>
          have HN : Hid (Sy ltL N s0 r0 s d f) := Lib.hid (Sy.next_down ordL HY.out hsd hdr (by rw [← hqe]; exact hx) (by rw [← hqe]; exact hlo))
          clear hr1 hNm hx hqe
          have Lq := Lib.hid hq
          clear hq
          have Ld := Lib.hid hd
          clear hd
          have Lt2 := Lib.hid ht2
          clear ht2
          obtain ⟨x, hx⟩ : ∃ x, x = f q := ⟨_, rfl⟩
          obtain ⟨y, hy⟩ : ∃ x, x = f d := ⟨_, rfl⟩
          have C := lows_call (W0 := wr) (Lib.hid (fun X => compareL_any x y X (by rw [hx]; exact HK.out.good _ hnq) (by rw [hy]; exact HK.out.good _ hnd)))
          have hne : Nonempty (Cls (Lows wr)) := ⟨⟨_, Lows.self _⟩⟩
          have x0 : ∀ nq : Cls (Lows wr), nq.w.cell? ⟨g, q * 6, none⟩ = some (.int .u64 (x.k : Nat)) := fun nq => by rw [hx]; exact (HK.out.on nq.h).at hnq (j := 0) rfl
          have x1 : ∀ nq : Cls (Lows wr), nq.w.cell? ⟨g, q * 6 + 1, none⟩ = some (.bool x.e.a.v6) := fun nq => by rw [hx]; exact (HK.out.on nq.h).at hnq (j := 1) rfl
          have x2 : ∀ nq : Cls (Lows wr), nq.w.cell? ⟨g, q * 6 + 2, none⟩ = some (.int .u64 x.e.a.hi) := fun nq => by rw [hx]; exact (HK.out.on nq.h).at hnq (j := 2) rfl
          have x3 : ∀ nq : Cls (Lows wr), nq.w.cell? ⟨g, q * 6 + 3, none⟩ = some (.int .u64 x.e.a.lo) := fun nq => by rw [hx]; exact (HK.out.on nq.h).at hnq (j := 3) rfl
          have x4 : ∀ nq : Cls (Lows wr), nq.w.cell? ⟨g, q * 6 + 4, none⟩ = some (.int .i64 x.e.n) := fun nq => by rw [hx]; exact (HK.out.on nq.h).at hnq (j := 4) rfl
          have x5 : ∀ nq : Cls (Lows wr), nq.w.cell? ⟨g, q * 6 + 5, none⟩ = some (.int .i64 x.i) := fun nq => by rw [hx]; exact (HK.out.on nq.h).at hnq (j := 5) rfl
          have y0 : ∀ nq : Cls (Lows wr), nq.w.cell? ⟨g, d * 6, none⟩ = some (.int .u64 (y.k : Nat)) := fun nq => by rw [hy]; exact (HK.out.on nq.h).at hnd (j := 0) rfl
          have y1 : ∀ nq : Cls (Lows wr), nq.w.cell? ⟨g, d * 6 + 1, none⟩ = some (.bool y.e.a.v6) := fun nq => by rw [hy]; exact (HK.out.on nq.h).at hnd (j := 1) rfl
          have y2 : ∀ nq : Cls (Lows wr), nq.w.cell? ⟨g, d * 6 + 2, none⟩ = some (.int .u64 y.e.a.hi) := fun nq => by rw [hy]; exact (HK.out.on nq.h).at hnd (j := 2) rfl
          have y3 : ∀ nq : Cls (Lows wr), nq.w.cell? ⟨g, d * 6 + 3, none⟩ = some (.int .u64 y.e.a.lo) := fun nq => by rw [hy]; exact (HK.out.on nq.h).at hnd (j := 3) rfl
          have y4 : ∀ nq : Cls (Lows wr), nq.w.cell? ⟨g, d * 6 + 4, none⟩ = some (.int .i64 y.e.n) := fun nq => by rw [hy]; exact (HK.out.on nq.h).at hnd (j := 4) rfl
          have y5 : ∀ nq : Cls (Lows wr), nq.w.cell? ⟨g, d * 6 + 5, none⟩ = some (.int .i64 y.i) := fun nq => by rw [hy]; exact (HK.out.on nq.h).at hnd (j := 5) rfl
          have Hx := Lib.hid hx
          have Hy := Lib.hid hy
          clear hx hy
          have hlz : cmpL x y < 0 := by rw [Hx.out, Hy.out]; simpa [loL] using hlo
          have hlb : (!decide (cmpL x y < 0)) = false := by rw [decide_eq_true hlz]; rfl
          clear hlo
          go_wp2_with fail
          refine Cls.region (Lows wr) (by kernel_rfl) (by kernel_rfl) (low_drewN (Below.refl _ _) 1) ?_
          (try dsimp only [List.append])
          repeat (go_big_quiet_step (first | fail | (with_reducible exact Cls.call (C.out _ (Cls.h _))) | (go_at_fn 70; with_reducible exact Cls.call (C.out _ (Cls.h _)))))
          refine wpQuiet_nil ?_
          intro n9
          have hk9 := n9.h
          generalize n9.w = w9 at hk9 ⊢
          clear hne n9 C x0 x1 x2 x3 x4 x5 y0 y1 y2 y3 y4 y5
          go_wp2_with fail
          all_goals
            go_roundw
            case rel => exact ⟨s, d, rfl, rfl, hsd, HN, Lib.hid (HK.out.on hk9), Lib.hid (HB.out.trans (Bt.of hk9))⟩
            case measure => simp [intOf]; omega
        | false =>
          have HN : Hid (Sy ltL N s0 r0 (d + 1) r f) := Lib.hid (Sy.next_up ordL HY.out hsd hdr (by rw [← hqe]; exact hx) (by rw [← hqe]; exact hlo))
          clear hr1 hNm hx hqe
          have Lq := Lib.hid hq
          clear hq
          have Ld := Lib.hid hd
          clear hd
          have Lt2 := Lib.hid ht2
          clear ht2
          obtain ⟨x, hx⟩ : ∃ x, x = f q := ⟨_, rfl⟩
          obtain ⟨y, hy⟩ : ∃ x, x = f d := ⟨_, rfl⟩
          have C := lows_call (W0 := wr) (Lib.hid (fun X => compareL_any x y X (by rw [hx]; exact HK.out.good _ hnq) (by rw [hy]; exact HK.out.good _ hnd)))
          have hne : Nonempty (Cls (Lows wr)) := ⟨⟨_, Lows.self _⟩⟩
          have x0 : ∀ nq : Cls (Lows wr), nq.w.cell? ⟨g, q * 6, none⟩ = some (.int .u64 (x.k : Nat)) := fun nq => by rw [hx]; exact (HK.out.on nq.h).at hnq (j := 0) rfl
          have x1 : ∀ nq : Cls (Lows wr), nq.w.cell? ⟨g, q * 6 + 1, none⟩ = some (.bool x.e.a.v6) := fun nq => by rw [hx]; exact (HK.out.on nq.h).at hnq (j := 1) rfl
          have x2 : ∀ nq : Cls (Lows wr), nq.w.cell? ⟨g, q * 6 + 2, none⟩ = some (.int .u64 x.e.a.hi) := fun nq => by rw [hx]; exact (HK.out.on nq.h).at hnq (j := 2) rfl
          have x3 : ∀ nq : Cls (Lows wr), nq.w.cell? ⟨g, q * 6 + 3, none⟩ = some (.int .u64 x.e.a.lo) := fun nq => by rw [hx]; exact (HK.out.on nq.h).at hnq (j := 3) rfl
          have x4 : ∀ nq : Cls (Lows wr), nq.w.cell? ⟨g, q * 6 + 4, none⟩ = some (.int .i64 x.e.n) := fun nq => by rw [hx]; exact (HK.out.on nq.h).at hnq (j := 4) rfl
          have x5 : ∀ nq : Cls (Lows wr), nq.w.cell? ⟨g, q * 6 + 5, none⟩ = some (.int .i64 x.i) := fun nq => by rw [hx]; exact (HK.out.on nq.h).at hnq (j := 5) rfl
          have y0 : ∀ nq : Cls (Lows wr), nq.w.cell? ⟨g, d * 6, none⟩ = some (.int .u64 (y.k : Nat)) := fun nq => by rw [hy]; exact (HK.out.on nq.h).at hnd (j := 0) rfl
          have y1 : ∀ nq : Cls (Lows wr), nq.w.cell? ⟨g, d * 6 + 1, none⟩ = some (.bool y.e.a.v6) := fun nq => by rw [hy]; exact (HK.out.on nq.h).at hnd (j := 1) rfl
          have y2 : ∀ nq : Cls (Lows wr), nq.w.cell? ⟨g, d * 6 + 2, none⟩ = some (.int .u64 y.e.a.hi) := fun nq => by rw [hy]; exact (HK.out.on nq.h).at hnd (j := 2) rfl
          have y3 : ∀ nq : Cls (Lows wr), nq.w.cell? ⟨g, d * 6 + 3, none⟩ = some (.int .u64 y.e.a.lo) := fun nq => by rw [hy]; exact (HK.out.on nq.h).at hnd (j := 3) rfl
          have y4 : ∀ nq : Cls (Lows wr), nq.w.cell? ⟨g, d * 6 + 4, none⟩ = some (.int .i64 y.e.n) := fun nq => by rw [hy]; exact (HK.out.on nq.h).at hnd (j := 4) rfl
          have y5 : ∀ nq : Cls (Lows wr), nq.w.cell? ⟨g, d * 6 + 5, none⟩ = some (.int .i64 y.i) := fun nq => by rw [hy]; exact (HK.out.on nq.h).at hnd (j := 5) rfl
          have Hx := Lib.hid hx
          have Hy := Lib.hid hy
          clear hx hy
          have hlz : ¬ cmpL x y < 0 := by rw [Hx.out, Hy.out]; simpa [loL] using hlo
          have hlb : (!decide (cmpL x y < 0)) = true := by rw [decide_eq_false hlz]; rfl
          clear hlo
          go_wp2_with fail
          refine Cls.region (Lows wr) (by kernel_rfl) (by kernel_rfl) (low_drewN (Below.refl _ _) 1) ?_
          (try dsimp only [List.append])
          repeat (go_big_quiet_step (first | fail | (with_reducible exact Cls.call (C.out _ (Cls.h _))) | (go_at_fn 70; with_reducible exact Cls.call (C.out _ (Cls.h _)))))
          refine wpQuiet_nil ?_
          intro n9
          have hk9 := n9.h
          generalize n9.w = w9 at hk9 ⊢
          clear hne n9 C x0 x1 x2 x3 x4 x5 y0 y1 y2 y3 y4 y5
          go_wp2_with fail
          all_goals
            go_roundw
            case rel => exact ⟨d + 1, r, by go_num, rfl, by omega, HN, Lib.hid (HK.out.on hk9), Lib.hid (HB.out.trans (Bt.of hk9))⟩
            case measure => simp [intOf]; omega
      · have hltz : ¬ (s : Int) < (r : Int) := by omega
        have hsre : r = s := by omega
        subst hsre
        have D := SD.out r HY.out
        have D1 := D.1
        have D2 := D.2.1
        have D3 := D.2.2.1
        have D4 := D.2.2.2.1
        have D5 := D.2.2.2.2.1
        have D6 := D.2.2.2.2.2.1
        have HV0 := D.2.2.2.2.2.2
        obtain ⟨e, he⟩ : ∃ e : Nat, e = N - r := ⟨_, rfl⟩
        have ee : (N : Int) - (r : Int) = (e : Int) := by omega
        rw [← he] at D4 D5 D6 HV0
        have HV := Lib.hid HV0
        obtain ⟨F, hF⟩ : ∃ F, F = rot r m e f := ⟨_, rfl⟩
        rw [← hF] at HV
        have HF := Lib.hid hF
        have MF : Hid (Mv a b f F) := Lib.hid (by rw [hF]; exact (rot_mv f D3 D5).wide D1 D6)
        clear D HV0 he hF HY HSR HAS HSB HAR HS0 HR0 SD eN ep1
        go_upto_region 39 with fail
        go_cut [185] from 178 to 185 (fun sq wx => ∃ q : Bool, sq = .bool q ∧ Hid (q = true ↔ (r < m ∧ m < e)) ∧ Hid (Rw g n tail f wx) ∧ Hid (Bt g w wx))
        case first =>
          by_cases c1 : r < m
          · have c1z : (r : Int) < (m : Int) := by omega
            by_cases c2 : m < e
            · have c2z : (m : Int) < (e : Int) := by omega
              go_wp2_with fail
              go_meet
              case rel => exact ⟨true, rfl, Lib.hid (by simp; omega), HK, HB⟩
            · have c2z : ¬ (m : Int) < (e : Int) := by omega
              go_wp2_with fail
              go_meet
              case rel => exact ⟨false, rfl, Lib.hid (by simp; omega), HK, HB⟩
          · have c1z : ¬ (r : Int) < (m : Int) := by omega
            go_wp2_with fail
            go_meet
            case rel => exact ⟨false, rfl, Lib.hid (by simp; omega), HK, HB⟩
        case rest =>
          clear HK HB
          obtain ⟨q, rfl, HQ, HK, HB⟩ := hcut
          go_upto_if 185 with fail
          go_cut [] from 185 to 191 (fun wx => Hid (Rw g n tail F wx) ∧ Hid (Bt g w wx))
          case first =>
            cases q
            · have HK1 : Hid (Rw g n tail F wc) := Lib.hid (by
                have hq : ¬ (r < m ∧ m < e) := fun h => by have := HQ.out.2 h; cases this
                rw [HF.out, rot_none f (by omega) D3 D5]; exact HK.out)
              clear HK
              go_wp2_with fail
              go_meet
              case rel => exact ⟨HK1, HB⟩
            · have hq := HQ.out.1 rfl
              have C := Lib.hid (rotate_any (c := c) HK.out hn hq.1 hq.2 (by omega))
              clear hq
              go_wp2_with fail
              refine C.out.mono ?_
              rintro e9 w1 ⟨rfl, hk1, hb1⟩
              have HK1 : Hid (Rw g n tail F w1) := Lib.hid (by rw [HF.out]; exact hk1)
              have HB1 := Lib.hid (HB.out.trans hb1)
              clear hk1 hb1 HK HB C
              go_wp2_with fail
              go_meet
              case rel => exact ⟨HK1, HB1⟩
          case rest =>
            obtain ⟨HK1, HB1⟩ := hcut
            clear HK HB HQ
            go_upto_region 41 with fail
            go_cut [199] from 192 to 199 (fun sq wx => ∃ q : Bool, sq = .bool q ∧ Hid (q = true ↔ (a < r ∧ r < mid)) ∧ Hid (Rw g n tail F wx) ∧ Hid (Bt g w wx))
            case first =>
              by_cases c1 : a < r
              · have c1z : (a : Int) < (r : Int) := by omega
                by_cases c2 : r < mid
                · have c2z : (r : Int) < (mid : Int) := by omega
                  go_wp2_with fail
                  go_meet
                  case rel => exact ⟨true, rfl, Lib.hid (by simp; omega), HK1, HB1⟩
                · have c2z : ¬ (r : Int) < (mid : Int) := by omega
                  go_wp2_with fail
                  go_meet
                  case rel => exact ⟨false, rfl, Lib.hid (by simp; omega), HK1, HB1⟩
              · have c1z : ¬ (a : Int) < (r : Int) := by omega
                go_wp2_with fail
                go_meet
                case rel => exact ⟨false, rfl, Lib.hid (by simp; omega), HK1, HB1⟩
            case rest =>
              clear HK1 HB1
              obtain ⟨q, rfl, HQ, HK1, HB1⟩ := hcut
              go_upto_if 199 with fail
              go_cut [] from 199 to 205 (fun wx => ∃ f1 : Nat → Pl, Hid (Mv a mid F f1) ∧ Hid (St ltL a mid f1) ∧ Hid (Rw g n tail f1 wx) ∧ Hid (Bt g w wx))
              case first =>
                cases q
                · have K2 : Hid (St ltL a mid F) := Lib.hid (HV.out.x.trivial (fun h => by have := HQ.out.2 h; cases this) D1 D2)
                  go_wp2_with fail
                  go_meet
                  case rel => exact ⟨F, Lib.hid (Mv.refl _ _ _), K2, HK1, HB1⟩
                · have hq := HQ.out.1 rfl
                  have C := Lib.hid (RC.out F wc a r mid HK1.out HV.out.x hq.1 hq.2 (by have := HMID.out; omega) (by have := HMID.out; omega))
                  clear hq
                  go_wp2_with fail
                  refine C.out.mono ?_
                  rintro e9 w2 ⟨rfl, f1, k1, k2, k3, k4⟩
                  have K1 := Lib.hid k1
                  have K2 := Lib.hid k2
                  have K3 := Lib.hid k3
                  have K4 := Lib.hid (HB1.out.trans k4)
                  clear k1 k2 k3 k4 HK1 HB1 C
                  go_wp2_with fail
                  go_meet
                  case rel => exact ⟨f1, K1, K2, K3, K4⟩
              case rest =>
                obtain ⟨f1, K1, K2, K3, K4⟩ := hcut
                clear HK1 HB1 HQ
                have Y := Lib.hid (HV.out.y.kept K1.out (Nat.le_refl _) D4)
                go_upto_region 43 with fail
                go_cut [213] from 206 to 213 (fun sq wx => ∃ q : Bool, sq = .bool q ∧ Hid (q = true ↔ (mid < e ∧ e < b)) ∧ Hid (Rw g n tail f1 wx) ∧ Hid (Bt g w wx))
                case first =>
                  by_cases c1 : mid < e
                  · have c1z : (mid : Int) < (e : Int) := by omega
                    by_cases c2 : e < b
                    · have c2z : (e : Int) < (b : Int) := by omega
                      go_wp2_with fail
                      go_meet
                      case rel => exact ⟨true, rfl, Lib.hid (by simp; omega), K3, K4⟩
                    · have c2z : ¬ (e : Int) < (b : Int) := by omega
                      go_wp2_with fail
                      go_meet
                      case rel => exact ⟨false, rfl, Lib.hid (by simp; omega), K3, K4⟩
                  · have c1z : ¬ (mid : Int) < (e : Int) := by omega
                    go_wp2_with fail
                    go_meet
                    case rel => exact ⟨false, rfl, Lib.hid (by simp; omega), K3, K4⟩
                case rest =>
                  clear K3 K4
                  obtain ⟨q, rfl, HQ, K3, K4⟩ := hcut
                  cases q
                  · have Z := Lib.hid (HV.out.done (by have := HMID.out; omega) (by have := HMID.out; omega) K1.out K2.out (Mv.refl _ _ _) (Y.out.trivial (fun h => by have := HQ.out.2 h; cases this) D4 D6))
                    go_wp2_with fail
                    go_end0
                    exact ⟨rfl, f1, MF.out.trans Z.out.1, Z.out.2, K3.out, K4.out⟩
                  · have hq := HQ.out.1 rfl
                    have C := Lib.hid (RC.out f1 wc mid e b K3.out Y.out hq.1 hq.2 hbn (by have := HMID.out; omega))
                    clear hq
                    go_wp2_with fail
                    refine C.out.mono ?_
                    rintro e9 w3 ⟨rfl, f2, k1, k2, k3, k4⟩
                    have Z := Lib.hid (HV.out.done (by have := HMID.out; omega) (by have := HMID.out; omega) K1.out K2.out k1 k2)
                    have Z3 := Lib.hid k3
                    have Z4 := Lib.hid (K4.out.trans k4)
                    clear k1 k2 k3 k4 K1 K2 K3 K4 C
                    go_wp2_with fail
                    go_end0
                    exact ⟨rfl, f2, MF.out.trans Z.out.1, Z.out.2, Z3.out, Z4.out⟩
theorem merge_any {c : Nat} (hn : n ≤ 1000000) : ∀ (k : Nat) (fk : Nat → Pl) (W : World) (a m b : Nat), b - a ≤ k → Rw g n tail fk W → Mg ltL Pl.i a m b fk → a < m → m < b → b ≤ n → Calls Try.prog 85 #[.slice (some ⟨g, 0, none⟩) n c, .int .i64 (a : Nat), .int .i64 (m : Nat), .int .i64 (b : Nat), .func (.func 70) #[] #[]] W (PostM g n tail a b fk W)
  | 0, fk, W, a, m, b, hk, _, _, ha, hb, _ => by omega
  | k + 1, fk, W, a, m, b, hk, h, M, ha, hb, hbn => by
    by_cases h1 : m = a + 1
    · exact merge_one h hn ha hb hbn (Lib.hid M) (Lib.hid h1)
    · by_cases h2 : b = m + 1
      · exact merge_two h hn ha hb hbn (Lib.hid M) h1 (Lib.hid h2)
      · exact merge_walk h hn ha hb hbn (Lib.hid M) h1 h2 (Lib.hid fun f2 W2 a2 m2 b2 k1 k2 k3 k4 k5 k6 => merge_any hn k f2 W2 a2 m2 b2 (by omega) k1 k2 k3 k4 k5)
set_option maxHeartbeats 16000000 in
theorem stable_any (h : Rw g n tail f w) {c : Nat} (hn : n ≤ 1000000) (hasc : ∀ p q, p < q → q < n → (f p).i < (f q).i) :
    Calls Try.prog 78 #[.slice (some ⟨g, 0, none⟩) n c, .int .i64 n, .func (.func 70) #[] #[]] w (PostM g n tail 0 n f w) := by
  have INS : Hid (∀ (fk : Nat → Pl) (W : World) (a b : Nat), Rw g n tail fk W → a ≤ b → b ≤ n → (∀ p q, a ≤ p → p < q → q < b → (fk p).i < (fk q).i) → Calls Try.prog 84 #[.slice (some ⟨g, 0, none⟩) n c, .int .i64 (a : Nat), .int .i64 (b : Nat), .func (.func 70) #[] #[]] W (PostM g n tail a b fk W)) := Lib.hid fun fk W a b h1 h2 h3 h4 => insertion_any h1 hn h2 h3 h4
  have MRG : Hid (∀ (fk : Nat → Pl) (W : World) (a m b : Nat), Rw g n tail fk W → Mg ltL Pl.i a m b fk → a < m → m < b → b ≤ n → Calls Try.prog 85 #[.slice (some ⟨g, 0, none⟩) n c, .int .i64 (a : Nat), .int .i64 (m : Nat), .int .i64 (b : Nat), .func (.func 70) #[] #[]] W (PostM g n tail a b fk W)) := Lib.hid fun fk W a m b h1 h2 h3 h4 h5 => merge_any hn (b - a) fk W a m b (Nat.le_refl _) h1 h2 h3 h4 h5
  have HR := Lib.hid h
  have P0 : Hid (Ph ltL Pl.i n 0 f f) := Lib.hid (Ph.start hasc)
  clear h hasc
  go_enter Try.func78, Try.ntmps78
  go_wp2_with fail
  go_loopw [7, 8] (fun va vb wr => ∃ (k a b : Nat) (fk : Nat → Pl), va = .int .i64 a ∧ vb = .int .i64 b ∧ a ≤ n ∧ Hid (a = k * 20 ∧ b = a + 20) ∧ Hid (Ph ltL Pl.i n k f fk) ∧ Hid (Rw g n tail fk wr) ∧ Hid (Bt g w wr)) (fun va _ _ => n + 20 - (intOf va).toNat)
  case atStart => exact ⟨0, 0, 20, f, rfl, rfl, Nat.zero_le _, Lib.hid ⟨rfl, rfl⟩, P0, HR, Lib.hid (Bt.refl _ _)⟩
  case round =>
    obtain ⟨k, a, b, fk, rfl, rfl, han, HAB, HP, HK, HB⟩ := hrel
    clear HR P0
    have hbb : (b : Int) ≤ 1000020 := by have := HAB.out; omega
    by_cases hlt : b ≤ n
    · have hltz : (b : Int) ≤ (n : Int) := by omega
      have hab : a ≤ b := by have := HAB.out; omega
      have C := Lib.hid (INS.out fk wr a b HK.out hab hlt (fun p q h1 h2 h3 => HP.out.asc hlt p q (by rw [← HAB.out.1]; exact h1) h2 h3))
      go_wp2_with fail
      refine C.out.mono ?_
      rintro e9 w1 ⟨rfl, f1, k1, k2, k3, k4⟩
      have K1 : Hid (Ph ltL Pl.i n (k + 1) f f1) := Lib.hid (by
        obtain ⟨e1, e2⟩ := HAB.out
        subst e2 e1
        exact HP.out.next hlt k1 k2)
      have K3 := Lib.hid k3
      have K4 := Lib.hid (HB.out.trans k4)
      have KA : Hid (b = (k + 1) * 20) := Lib.hid (by have := HAB.out; omega)
      clear k1 k2 k3 k4 C HK HB HP
      go_wp2_with fail
      go_roundw
      case rel => exact ⟨k + 1, b, b + 20, f1, rfl, by go_num, hlt, Lib.hid ⟨KA.out, rfl⟩, K1, K3, K4⟩
      case measure => have := HAB.out; simp [intOf]; omega
    · have hltz : ¬ (b : Int) ≤ (n : Int) := by omega
      have C := Lib.hid (INS.out fk wr a n HK.out han (Nat.le_refl _) (fun p q h1 h2 h3 => HP.out.asc (Nat.le_refl _) p q (by rw [← HAB.out.1]; exact h1) h2 h3))
      go_wp2_with fail
      refine C.out.mono ?_
      rintro e9 w1 ⟨rfl, f1, k1, k2, k3, k4⟩
      have B0 : Hid (Bl ltL Pl.i n 20 f f1) := Lib.hid (by
        obtain ⟨e1, e2⟩ := HAB.out
        subst e2 e1
        exact HP.out.done han (by omega) k1 k2)
      have HR1 := Lib.hid k3
      have HB1 := Lib.hid (HB.out.trans k4)
      clear k1 k2 k3 k4 C HK HB HP HAB hltz hlt hbb han
      go_wp2_with fail
      go_loopw [6] (fun vs wr => ∃ (s : Nat) (fk : Nat → Pl), vs = .int .i64 s ∧ 20 ≤ s ∧ s ≤ 4000000 ∧ Hid (Bl ltL Pl.i n s f fk) ∧ Hid (Rw g n tail fk wr) ∧ Hid (Bt g w wr)) (fun vs _ => n - (intOf vs).toNat)
      case atStart => exact ⟨20, f1, rfl, by omega, by omega, B0, HR1, HB1⟩
      case round =>
        obtain ⟨s, fs, rfl, h20, hs4, HL, HK, HB⟩ := hrel
        clear B0 HR1 HB1
        by_cases hsn : s < n
        · have hsnz : (s : Int) < (n : Int) := by omega
          obtain ⟨ss, hss⟩ : ∃ ss : Nat, ss = 2 * s := ⟨_, rfl⟩
          have ess : 2 * (s : Int) = (ss : Int) := by omega
          have ess2 : (s : Int) * 2 = (ss : Int) := by omega
          have hssb : (ss : Int) ≤ 2000000 := by omega
          have HSS := Lib.hid hss
          have Q0 : Hid (Pr ltL Pl.i n s 0 f fs) := Lib.hid (Pr.start HL.out)
          clear hss HL
          obtain ⟨W, hW⟩ : ∃ W, W = wr := ⟨_, rfl⟩
          subst hW
          go_wp2_with fail
          go_loopw [7, 8] (fun va vb wr => ∃ (k a b : Nat) (fk : Nat → Pl), va = .int .i64 a ∧ vb = .int .i64 b ∧ a ≤ n ∧ Hid (a = k * ss ∧ b = a + ss) ∧ Hid (Pr ltL Pl.i n s k f fk) ∧ Hid (Rw g n tail fk wr) ∧ Hid (Bt g w wr)) (fun va _ _ => n + ss - (intOf va).toNat)
          case atStart => exact ⟨0, 0, ss, fs, rfl, rfl, Nat.zero_le _, Lib.hid (by omega), Q0, HK, HB⟩
          case round =>
            obtain ⟨k, a, b, fk, rfl, rfl, han, HAB, HP, HK2, HB2⟩ := hrel
            clear HK HB Q0
            have hbb : (b : Int) ≤ 4000000 := by have := HAB.out; omega
            obtain ⟨m, hm⟩ : ∃ m : Nat, m = a + s := ⟨_, rfl⟩
            have em : (a : Int) + (s : Int) = (m : Int) := by omega
            have hmb : (m : Int) ≤ 4000000 := by have := HAB.out; have := HSS.out; omega
            have HM := Lib.hid hm
            clear hm
            by_cases hlt : b ≤ n
            · have hltz : (b : Int) ≤ (n : Int) := by omega
              have C := Lib.hid (MRG.out fk wr a m b HK2.out (by
                obtain ⟨e1, e2⟩ := HAB.out
                have e3 := HSS.out
                have e4 := HM.out
                subst e4 e2 e1 e3
                exact HP.out.pair hlt (by omega) (Nat.le_refl _)) (by have := HM.out; omega) (by have := HM.out; have := HAB.out; have := HSS.out; omega) hlt)
              go_wp2_with fail
              refine C.out.mono ?_
              rintro e9 w1 ⟨rfl, f2, k1, k2, k3, k4⟩
              have K1 : Hid (Pr ltL Pl.i n s (k + 1) f f2) := Lib.hid (by
                obtain ⟨e1, e2⟩ := HAB.out
                have e3 := HSS.out
                subst e2 e1 e3
                exact HP.out.next hlt k1 k2)
              have K3 := Lib.hid k3
              have K4 := Lib.hid (HB2.out.trans k4)
              have KA : Hid (b = (k + 1) * ss) := Lib.hid (by rw [Nat.succ_mul, ← HAB.out.1]; exact HAB.out.2)
              clear k1 k2 k3 k4 C HK2 HB2 HP
              go_wp2_with fail
              go_roundw
              case rel => exact ⟨k + 1, b, b + ss, f2, rfl, by go_num, hlt, Lib.hid ⟨KA.out, rfl⟩, K1, K3, K4⟩
              case measure => have := HAB.out; have := HSS.out; simp [intOf]; omega
            · have hltz : ¬ (b : Int) ≤ (n : Int) := by omega
              by_cases hmn : m < n
              · have hmnz : (m : Int) < (n : Int) := by omega
                have C := Lib.hid (MRG.out fk wr a m n HK2.out (by
                  obtain ⟨e1, e2⟩ := HAB.out
                  have e3 := HSS.out
                  have e4 := HM.out
                  subst e4 e2 e1 e3
                  exact HP.out.pair (Nat.le_refl _) (by omega) (by omega)) (by have := HM.out; omega) hmn (Nat.le_refl _))
                go_wp2_with fail
                refine C.out.mono ?_
                rintro e9 w1 ⟨rfl, f2, k1, k2, k3, k4⟩
                have K1 : Hid (Bl ltL Pl.i n ss f f2) := Lib.hid (by
                  obtain ⟨e1, e2⟩ := HAB.out
                  have e3 := HSS.out
                  subst e2 e1 e3
                  exact HP.out.done han (by omega) k1 k2)
                have K3 := Lib.hid k3
                have K4 := Lib.hid (HB2.out.trans k4)
                clear k1 k2 k3 k4 C HK2 HB2 HP
                go_wp2_with fail
                go_roundw
                case rel => exact ⟨ss, f2, rfl, by have := HSS.out; omega, by omega, K1, K3, K4⟩
                case measure => have := HSS.out; simp [intOf]; omega
              · have hmnz : ¬ (m : Int) < (n : Int) := by omega
                have K1 : Hid (Bl ltL Pl.i n ss f fk) := Lib.hid (by
                  obtain ⟨e1, e2⟩ := HAB.out
                  have e3 := HSS.out
                  have e4 := HM.out
                  subst e4 e2 e1 e3
                  exact HP.out.done han (by omega) (Mv.refl _ _ _) (HP.out.one (by omega)))
                clear HP
                go_wp2_with fail
                go_roundw
                case rel => exact ⟨ss, fk, rfl, by have := HSS.out; omega, by omega, K1, HK2, HB2⟩
                case measure => have := HSS.out; simp [intOf]; omega
        · have hsnz : ¬ (s : Int) < (n : Int) := by omega
          have Z := Lib.hid (HL.out.all (by omega))
          go_wp2_with fail
          go_end0
          exact ⟨rfl, fs, Z.out.1, Z.out.2, HK.out, HB.out⟩
theorem sortStable_any (h : Rw g n tail f w) {c : Nat} (hn : n ≤ 1000000) (hasc : ∀ p q, p < q → q < n → (f p).i < (f q).i) :
    Calls Try.prog 69 #[.slice (some ⟨g, 0, none⟩) n c, .func (.func 70) #[] #[]] w (PostM g n tail 0 n f w) := by
  have C := Lib.hid (stable_any (c := c) h hn hasc)
  clear h hasc
  go_enter Try.func69, Try.ntmps69
  go_wp2_with fail
  refine C.out.mono ?_
  rintro e9 w1 ⟨rfl, f2, k1, k2, k3, k4⟩
  have Z := Lib.hid (⟨f2, k1, k2, k3, k4⟩ : ∃ f', Mv 0 n f f' ∧ St ltL 0 n f' ∧ Rw g n tail f' w1 ∧ Bt g w w1)
  clear k1 k2 k3 k4 C
  go_wp2_with fail
  go_end0
  exact ⟨rfl, Z.out⟩
end
end Go.Proofs.Ythmcggbmeabpmaa.Ra
