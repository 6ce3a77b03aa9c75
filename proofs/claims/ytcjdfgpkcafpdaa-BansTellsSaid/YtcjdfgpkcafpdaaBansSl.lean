/- Contracts of package bans, second part: slices.Delete, Insert, DeleteFunc at bans, in a block of the call's own. -/
import Derived.Test.YtcjdfgpkcafpdaaBansLow
import Derived.Lib.Overlaps
import Derived.Deep.RegionLaw
namespace Go.Proofs.Ytcjdfgpkcafpdaa.Ba
set_option maxRecDepth 100000
open Go.ChangeShapes Go.WideShapes Go.ChangeAt Go.RowKit
open Dec Words V4 V6 Ad Ci
set_option linter.unusedVariables false
theorem info_ban : (Try.prog.info? 29).map (fun i => (i.zero, i.size, i.bytes)) = some (some (.agg #[.bool false, .int .u64 0, .int .u64 0, .int .i64 0, .int .i64 0]), 5, 40) := by kernel_rfl
theorem zero_ban (w : World) : (zeroValue 29).run Try.prog w = .ok (.agg #[.bool false, .int .u64 0, .int .u64 0, .int .i64 0, .int .i64 0]) w := Try.zeroValue29 w
theorem clear_bans (w : World) (g o n c : Nat) (hn : 0 < n) (cur : List Value) (hg : Blk w g 29 cur) (hfit : o + n * 5 ≤ cur.length) :
    ∃ (w' : World) (zs : List Value), (∀ ty, (Builtin.clear_ #[22] ty #[.slice (some ⟨g, o, none⟩) n c]).run Try.prog w = .ok (.tuple #[]) w') ∧ zs.length = n * 5 ∧ Blk w' g 29 (splice cur o zs) ∧ Bt g w w' := by
  obtain ⟨w', zs, h1, h2⟩ := run_clear_blk (P := Try.prog) w 22 29 0 29 _ 5 Try.underlying22 zero_ban rfl (by decide) (by decide) g o n c hn cur hg hfit
  exact ⟨w', zs, fun ty => h1, h2⟩
set_option maxHeartbeats 4000000 in
theorem delete_any (g i : Nat) (l : List Ban) (w : World) (hB : Blk w g 29 (flat encB (l ++ [zeroB]))) (hl : l.length ≤ 900000) (hi : i < l.length) :
    Calls Try.prog 27 #[.slice (some ⟨g, 0, none⟩) l.length (l.length + 1), .int .i64 i, .int .i64 ((i : Int) + 1)] w fun e w' => e = .returned (.slice (some ⟨g, 0, none⟩) (l.length - 1) (l.length + 1)) ∧ Bans w' (.slice (some ⟨g, 0, none⟩) (l.length - 1) (l.length + 1)) (l.take i ++ l.drop (i + 1)) ∧ Bt g w w' := by
  obtain ⟨i0, hi0, hz0, hz1, hz2⟩ := info_parts info_ban
  have hB1 := hB.drewN 1
  obtain ⟨W1, R1, b1, t1⟩ := run_append_blk (P := Try.prog) 22 22 29 29 5 encB_len encB_one i0 Try.underlying22 hi0 hz1 g i (l.length - (i + 1)) (l.length + 1) (l.length + 1 - (i + 1)) ⟨g, (i + 1) * 5, none⟩ (l ++ [zeroB]) (l.drop (i + 1)) (by simp) (by omega) (by simp; omega) (w.drewN 1) hB1 (fun j u hu => by
    have hj : j < (l.length - (i + 1)) * 5 := by have := (List.getElem?_eq_some_iff.1 hu).1; rw [flat_len encB_len] at this; simpa using this
    rw [← flat_drop encB_len, List.getElem?_drop] at hu
    rw [add_plain]
    refine hB1.cell ?_
    rw [flat_append, List.getElem?_append_left (by rw [flat_len encB_len]; omega)]
    exact hu)
  obtain ⟨W2, zs, R2, hzs, b2, t2⟩ := clear_bans W1 g ((i + (l.length - (i + 1))) * 5) (l.length - (i + (l.length - (i + 1)))) (l.length + 1 - (i + (l.length - (i + 1)))) (by omega) _ b1 (by rw [flat_len encB_len, length_splice _ _ _ (by simp; omega)]; simp; omega)
  have e1 : i + (l.length - (i + 1)) = l.length - 1 := by omega
  have HR : Hid (Bans W2 (.slice (some ⟨g, 0, none⟩) (l.length - 1) (l.length + 1)) (l.take i ++ l.drop (i + 1))) := Lib.hid (b2.reads encB_len (by
    rw [e1, take_splice _ _ _ _ (Nat.le_refl _) (by rw [flat_len encB_len, length_splice _ _ _ (by simp; omega)]; simp; omega), flat_take encB_len]
    unfold splice
    rw [← List.append_assoc, List.take_append_of_le_length (by simp; omega), List.take_of_length_le (by simp; omega), List.take_append_of_le_length (by omega)]) (by simp; omega) (by omega))
  have HT : Hid (Bt g w W2) := Lib.hid (((Bt.refl g w).drewN 1).trans (t1.trans t2))
  have HR1 := Lib.hid R1
  have HR2 := Lib.hid R2
  clear b1 b2 t1 t2 R1 R2 hB hB1 hi0 hz0 hz1 hz2 hzs e1
  generalize l.length = n at *
  have h1 : ¬ (n + 1 = i + 1) := by omega
  have h2 : (i : Int) ≤ (n : Int) + 1 := by omega
  have h3 : (i : Int) + 1 ≤ (n : Int) := by omega
  have h4 : ((i : Int) + 1).toNat = i + 1 := by omega
  have h5 : (0 : Int) ≤ (i : Int) + 1 := by omega
  have h6 : ¬ n = i := by omega
  go_enter Try.func27, Try.ntmps27
  go_wp2_with fail
  go_region_law (refine step_append_blk rfl (.tmp 22) (.tmp 25) _ _ rfl rfl _ _ _ _ (by simp [Act.eval, Act.put]) (by simp [Act.eval, Act.put]) HR1.out ?_)
  have R2 := HR2.out
  go_wp2_with fail
  go_ret
  exact ⟨by rw [show i + (n - (i + 1)) = n - 1 by omega]; rfl, HR.out, HT.out⟩
theorem overlaps_no (g vb o lb cb : Nat) (w : World) (D E : List Value) (h0 : D ≠ []) (hB : Blk w g 29 D) (hV : Blk w vb 29 E) (hne : vb ≠ g) :
    (callFunc 37 #[.slice (some ⟨vb, 0, none⟩) 1 1, .slice (some ⟨g, o, none⟩) lb cb]).run Try.prog w = .ok (.value (.bool false)) w := by
  rw [run_callFunc_extern Try.func37 (by kernel_rfl) (by kernel_rfl) (by kernel_rfl) (e := Extern.SlicesOverlaps.overlaps #[22, 22] #[4]) (by kernel_rfl),
    Lib.run_overlaps_apart w 22 4 29 Try.underlying22 5 Try.sizeOf29 ⟨vb, 0, none⟩ ⟨g, o, none⟩ 1 1 lb cb hne _ _ _ _ hV.shape hB.shape (by simpa using h0) (hV.free _) (hV.free _)]
  rfl
theorem ins_mid (l : List Ban) (k : Nat) (hk : k ≤ l.length) (b : Ban) : splice (splice (l ++ [zeroB]) (k + 1) (l.drop k)) k [b] = l.take k ++ b :: l.drop k := by
  have e1 : splice (l ++ [zeroB]) (k + 1) (l.drop k) = (l ++ [zeroB]).take (k + 1) ++ l.drop k := by
    unfold splice
    rw [show (l ++ [zeroB]).drop (k + 1 + (l.drop k).length) = [] from List.drop_of_length_le (by simp; omega), List.append_nil]
  rw [e1]
  unfold splice
  rw [List.take_append_of_le_length (by simp; omega), List.take_take, Nat.min_eq_left (by omega), List.take_append_of_le_length hk]
  rw [show k + [b].length = ((l ++ [zeroB]).take (k + 1)).length + 0 by simp; omega, List.drop_append]; simp
theorem ins_end (l : List Ban) (b : Ban) : splice (l ++ [zeroB]) l.length [b] = l.take l.length ++ b :: l.drop l.length := by
  unfold splice
  simp
set_option maxHeartbeats 4000000 in
theorem insert_end (g vb : Nat) (l : List Ban) (b : Ban) (w : World) (hB : Blk w g 29 (flat encB (l ++ [zeroB]))) (hV : Blk w vb 29 (encB b)) (hne : vb ≠ g) (hl : l.length ≤ 900000) :
    Calls Try.prog 22 #[.slice (some ⟨g, 0, none⟩) l.length (l.length + 1), .int .i64 (l.length : Nat), .slice (some ⟨vb, 0, none⟩) 1 1] w fun e w' => e = .returned (.slice (some ⟨g, 0, none⟩) (l.length + 1) (l.length + 1)) ∧ Blk w' g 29 (flat encB (l.take l.length ++ b :: l.drop l.length)) ∧ Bt g w w' := by
  obtain ⟨i0, hi0, hz0, hz1, hz2⟩ := info_parts info_ban
  obtain ⟨W1, R1, b1, t1⟩ := run_append_blk (P := Try.prog) 22 22 29 29 5 encB_len encB_one i0 Try.underlying22 hi0 hz1 g l.length 1 (l.length + 1) 1 ⟨vb, 0, none⟩ (l ++ [zeroB]) [b] rfl (by omega) (by simp) w hB (fun j u hu => by
    rw [flat_one] at hu
    rw [add_plain, Nat.zero_add]
    exact hV.cell hu)
  rw [ins_end] at b1
  have HB1 := Lib.hid b1
  have HT1 := Lib.hid t1
  have HR1 := Lib.hid R1
  clear b1 t1 R1 hB hV hi0 hz0 hz1 hz2
  generalize hn : l.length = n at *
  go_enter Try.func22, Try.ntmps22
  go_wp2_with (first
    | (at_builtin; refine wpList_append_run rfl (.tmp 23) (.tmp 24) _ _ rfl rfl _ _ _ _ rfl rfl HR1.out ?_)
    | fail)
  go_ret
  exact ⟨rfl, HB1.out, HT1.out⟩
set_option maxHeartbeats 4000000 in
theorem insert_mid (g k vb : Nat) (l : List Ban) (b : Ban) (w : World) (hB : Blk w g 29 (flat encB (l ++ [zeroB]))) (hV : Blk w vb 29 (encB b)) (hne : vb ≠ g) (hk : k < l.length) (hl : l.length ≤ 900000) :
    Calls Try.prog 22 #[.slice (some ⟨g, 0, none⟩) l.length (l.length + 1), .int .i64 (k : Nat), .slice (some ⟨vb, 0, none⟩) 1 1] w fun e w' => e = .returned (.slice (some ⟨g, 0, none⟩) (l.length + 1) (l.length + 1)) ∧ Blk w' g 29 (flat encB (l.take k ++ b :: l.drop k)) ∧ Bt g w w' := by
  obtain ⟨i0, hi0, hz0, hz1, hz2⟩ := info_parts info_ban
  have HI : (Try.prog.info? 29).map (·.size) = some 5 := by rw [hi0]; simp [hz1]
  have hB1 := hB.drewN 1
  have hD : (l ++ [zeroB]).length = l.length + 1 := by simp
  obtain ⟨W1, R1, b1, t1⟩ := run_copy_any (P := Try.prog) (w.drewN 1) 22 22 3 29 5 (by decide) Try.underlying22 HI (some ⟨g, (k + 1) * 5, none⟩) (some ⟨g, k * 5, none⟩) (l.length + 1 - (k + 1)) (l.length + 1 - (k + 1)) (l.length + 1 - k) (l.length + 1 - k) g ((k + 1) * 5) _ _ hB1 (flat encB (l.drop k))
    (by rw [flat_len encB_len, List.length_drop, show Nat.min (l.length + 1 - k) (l.length + 1 - (k + 1)) = l.length + 1 - (k + 1) from Nat.min_eq_right (by omega)]; omega) (fun _ => ⟨rfl, _, rfl, fun j u hu => by
      have hj : j < (l.length - k) * 5 := by have := (List.getElem?_eq_some_iff.1 hu).1; rw [flat_len encB_len] at this; simpa using this
      rw [← flat_drop encB_len, List.getElem?_drop] at hu
      rw [add_plain]
      refine hB1.cell ?_
      rw [flat_append, List.getElem?_append_left (by rw [flat_len encB_len]; omega)]
      exact hu⟩) (by rw [flat_len encB_len, flat_len encB_len, hD, List.length_drop]; omega) (fun u hu => by
      obtain ⟨y, _, hu2⟩ := List.mem_flatMap.1 hu
      exact encB_one y u hu2)
  rw [flat_splice encB_len] at b1
  have hV1 := (hV.drewN 1).but t1 hne
  obtain ⟨W2, R2, b2, t2⟩ := run_copy_any (P := Try.prog) W1 22 22 3 29 5 (by decide) Try.underlying22 HI (some ⟨g, k * 5, none⟩) (some ⟨vb, 0, none⟩) (l.length + 1 - k) (l.length + 1 - k) 1 1 g (k * 5) _ _ b1 (encB b)
    (by rw [encB_len, show Nat.min 1 (l.length + 1 - k) = 1 from Nat.min_eq_left (by omega)]) (fun _ => ⟨rfl, _, rfl, fun j u hu => by
      rw [add_plain, Nat.zero_add]
      exact hV1.cell hu⟩) (by rw [flat_len encB_len, length_splice _ _ _ (by simp; omega), encB_len, hD]; omega) (encB_one b)
  have e2 := flat_splice encB_len (splice (l ++ [zeroB]) (k + 1) (l.drop k)) k [b]
  rw [flat_one, ins_mid l k (by omega) b] at e2
  rw [e2] at b2
  rw [show Nat.min (l.length + 1 - k) (l.length + 1 - (k + 1)) = l.length + 1 - (k + 1) from Nat.min_eq_right (by omega)] at R1
  rw [show Nat.min 1 (l.length + 1 - k) = 1 from Nat.min_eq_left (by omega)] at R2
  have OV := Lib.hid (fun o lb cb => overlaps_no g vb o lb cb w _ _ (by simp [flat, encB]) hB hV hne)
  have HB2 := Lib.hid b2
  have HT : Hid (Bt g w W2) := Lib.hid (((Bt.refl g w).drewN 1).trans (t1.trans t2))
  have HR1 := Lib.hid R1
  have HR2 := Lib.hid R2
  clear b1 b2 t1 t2 R1 R2 hB hB1 hV hV1 hi0 hz0 hz1 hz2 HI hD e2
  generalize hn : l.length = n at *
  have h1 : ¬ (n + 1 = k + 1) := by omega
  have h2 : (k : Int) ≤ (n : Int) + 1 := by omega
  have h3 : (k : Int) + 1 ≤ (n : Int) + 1 := by omega
  have h4 : ((k : Int) + 1).toNat = k + 1 := by omega
  have h5 : (0 : Int) ≤ (k : Int) + 1 := by omega
  have h6 : ¬ n = k := by omega
  have h7 : ¬ ((k : Int) = (n : Int)) := by omega
  have h8 : ((n : Int) + 1).toNat = n + 1 := by omega
  have h9 : ¬ (n + 1 = k) := by omega
  have hw : IntKind.i64.wrap ((k : Int) + 1) = (k : Int) + 1 := by rw [IntKind.wrap_i64]; omega
  have OV2 := OV.out
  go_enter Try.func22, Try.ntmps22
  go_wp2_with fail
  go_region_law (refine step_copy_run rfl (.tmp 73) (.tmp 76) _ _ _ rfl rfl _ _ _ _ (by simp [Act.eval, Act.put]) (by simp [Act.eval, Act.put]) HR1.out ?_)
  have R2 := HR2.out
  go_wp2_with fail
  go_ret
  exact ⟨rfl, HB2.out, HT.out⟩
theorem flat_set5 (x : Ban) : ∀ (D : List Ban) (i : Nat), i < D.length → (((((flat encB D).set (i * 5) (.bool x.n.a.v6)).set (i * 5 + 1) (.int .u64 x.n.a.hi)).set (i * 5 + 2) (.int .u64 x.n.a.lo)).set (i * 5 + 3) (.int .i64 x.n.n)).set (i * 5 + 4) (.int .i64 x.t) = flat encB (D.set i x)
  | [], i, h => by simp at h
  | d :: D, 0, _ => rfl
  | d :: D, i + 1, h => by
    have e : ∀ (d : Ban) (D : List Ban), flat encB (d :: D) = encB d ++ flat encB D := fun d D => by unfold flat; rw [List.flatMap_cons]
    have s : ∀ (R : List Value) (t : Nat) (v : Value), (encB d ++ R).set (5 + t) v = encB d ++ R.set t v := fun R t v => by
      rw [List.set_append_right _ _ (by rw [encB_len]; omega), encB_len, Nat.add_sub_cancel_left]
    have ih := flat_set5 x D i (by simpa using h)
    rw [List.set_cons_succ, e, e, ← ih, show (i + 1) * 5 = 5 + i * 5 by omega]
    simp only [Nat.add_assoc, s]
theorem Tells.mono {g : Nat} {lb : Array Value} {p : Ban → Bool} {B C : Nat} {w : World} (h : Tells g lb p B w) (k : B ≤ C) : Tells g lb p C w := fun W x hx hb hB => h W x hx (hb.mono k) (Nat.le_trans k hB)
/-- What stands in a row that is swept as it goes: what was kept so far, and ahead what was there. -/
structure Kept (q : Ban → Bool) (l D : List Ban) (i j : Nat) : Prop where
  len : D.length = l.length
  lt : i < j
  le : j ≤ l.length
  head : D.take i = (l.take j).filter q
  tail : D.drop j = l.drop j
theorem Kept.at {q : Ban → Bool} {l D : List Ban} {i j : Nat} (h : Kept q l D i j) (hj : j < l.length) : D[j]'(by rw [h.len]; exact hj) = l[j] := by
  have e := h.tail
  have h1 : (D.drop j)[0]? = (l.drop j)[0]? := by rw [e]
  rw [List.getElem?_drop, List.getElem?_drop, Nat.add_zero, List.getElem?_eq_getElem (by rw [h.len]; exact hj), List.getElem?_eq_getElem hj] at h1
  exact Option.some.inj h1
theorem Kept.skip {q : Ban → Bool} {l D : List Ban} {i j : Nat} (h : Kept q l D i j) (hj : j < l.length) (hq : q l[j] = false) : Kept q l D i (j + 1) :=
  ⟨h.len, by have := h.lt; omega, hj, by rw [h.head, List.take_succ_eq_append_getElem hj, List.filter_append]; simp [hq], by rw [← List.drop_drop, h.tail, List.drop_drop]⟩
theorem Kept.keep {q : Ban → Bool} {l D : List Ban} {i j : Nat} (h : Kept q l D i j) (hj : j < l.length) (hq : q l[j] = true) : Kept q l (D.set i l[j]) (i + 1) (j + 1) := by
  have h1 := h.lt
  have h2 := h.len
  refine ⟨by rw [List.length_set]; exact h2, by omega, hj, ?_, ?_⟩
  · rw [List.take_succ_eq_append_getElem (by rw [List.length_set]; omega), List.getElem_set_self, List.take_set_of_le (Nat.le_refl _), h.head, List.take_succ_eq_append_getElem hj, List.filter_append]
    simp [hq]
  · rw [List.drop_set_of_lt (by omega), ← List.drop_drop, h.tail, List.drop_drop]
theorem Kept.start {q : Ban → Bool} {l : List Ban} {k : Nat} (hk : k < l.length) (h : ∀ i (h : i < l.length), i < k → q l[i] = true) (hq : q l[k] = false) : Kept q l l k (k + 1) := by
  refine ⟨rfl, by omega, hk, ?_, rfl⟩
  rw [List.take_succ_eq_append_getElem hk, List.filter_append, List.filter_eq_self.2 ?_]
  · simp [hq]
  · intro x hx
    obtain ⟨j, hj, rfl⟩ := List.getElem_of_mem hx
    rw [List.length_take] at hj
    rw [List.getElem_take]
    exact h j (by omega) (by omega)
theorem Kept.done {q : Ban → Bool} {l D : List Ban} {i : Nat} (h : Kept q l D i l.length) : D.take i = l.filter q ∧ i = (l.filter q).length := by
  have e := h.head
  rw [List.take_of_length_le (Nat.le_refl _)] at e
  refine ⟨e, ?_⟩
  rw [← e, List.length_take, h.len]
  have := h.lt; omega
theorem _root_.Go.Proofs.Ytcjdfgpkcafpdaa.Blk.put5 {w : World} {g i : Nat} {t : TypeId} {D : List Ban} (h : Blk w g t (flat encB D)) (hi : i < D.length) (x : Ban) : Blk (((((w.setCell ⟨g, i * 5, none⟩ (.bool x.n.a.v6)).setCell ⟨g, i * 5 + 1, none⟩ (.int .u64 x.n.a.hi)).setCell ⟨g, i * 5 + 2, none⟩ (.int .u64 x.n.a.lo)).setCell ⟨g, i * 5 + 3, none⟩ (.int .i64 x.n.n)).setCell ⟨g, i * 5 + 4, none⟩ (.int .i64 x.t)) g t (flat encB (D.set i x)) := by
  rw [← flat_set5 x D i hi]
  exact ((((h.set _ _).set _ _).set _ _).set _ _).set _ _
theorem _root_.Go.Proofs.Ytcjdfgpkcafpdaa.Bt.put5 {w0 w : World} {g : Nat} (h : Bt g w0 w) (i : Nat) (x : Ban) : Bt g w0 (((((w.setCell ⟨g, i * 5, none⟩ (.bool x.n.a.v6)).setCell ⟨g, i * 5 + 1, none⟩ (.int .u64 x.n.a.hi)).setCell ⟨g, i * 5 + 2, none⟩ (.int .u64 x.n.a.lo)).setCell ⟨g, i * 5 + 3, none⟩ (.int .i64 x.n.n)).setCell ⟨g, i * 5 + 4, none⟩ (.int .i64 x.t)) :=
  ((((h.trans (Bt.setCell _ _ _ _)).trans (Bt.setCell _ _ _ _)).trans (Bt.setCell _ _ _ _)).trans (Bt.setCell _ _ _ _)).trans (Bt.setCell _ _ _ _)
set_option maxHeartbeats 8000000 in
theorem deleteFunc_any (G : Nat) (lb : Array Value) (p : Ban → Bool) (eg : ∀ args w, (callFunc G args).run Try.prog w = .ok (.enter G args) w) (g B0 : Nat) (l : List Ban) (w : World) (hB : Blk w g 29 (flat encB (l ++ [zeroB]))) (hl : l.length ≤ 900000) (hok : ∀ x ∈ l, x.ok) (hp : Tells G lb p B0 w) (hB0 : B0 ≤ g) (hBw : B0 ≤ w.heap.size) :
    Calls Try.prog 28 #[.slice (some ⟨g, 0, none⟩) l.length (l.length + 1), .func (.func G) #[] lb] w fun e w' => e = .returned (.slice (some ⟨g, 0, none⟩) (l.filter fun x => !p x).length (l.length + 1)) ∧ Bans w' (.slice (some ⟨g, 0, none⟩) (l.filter fun x => !p x).length (l.length + 1)) (l.filter fun x => !p x) ∧ Bt g w w' := by
  have hR : Bans w (.slice (some ⟨g, 0, none⟩) l.length (l.length + 1)) l := hB.reads encB_len (by rw [flat_take encB_len]; simp) rfl (by omega)
  have KI := Lib.hid (indexFunc_any G lb p eg _ l w hR (by omega) hok (hp.mono hBw))
  have HB := Lib.hid hB
  have HP := Lib.hid hp
  have HK := Lib.hid hok
  clear hB hp hok hR
  by_cases hq : l.findIdx p < l.length
  · obtain ⟨k0, hk0⟩ : ∃ k0, k0 = l.findIdx p := ⟨_, rfl⟩
    have hlt0 : k0 < l.length := by omega
    have hne : ∀ i (h : i < l.length), i < k0 → (!p l[i]) = true := fun i h hi => by
      have := List.not_of_lt_findIdx (p := p) (xs := l) (i := i) (by omega)
      simpa using this
    have hyes : (!p l[k0]) = false := by subst hk0; simpa using List.findIdx_getElem (p := p) (w := hq)
    have HS := Lib.hid (Kept.start (q := fun x => !p x) hlt0 hne hyes)
    have E : posI p l = (k0 : Int) := by unfold posI; rw [if_pos hq, hk0]
    rw [E] at KI
    clear E hne hyes hk0 hq
    have hm1 : ((k0 : Int) == -1) = false := by rw [beq_eq_false_iff_ne]; omega
    go_enter Try.func28, Try.ntmps28
    go_wp2_with fail
    refine KI.out.mono ?_
    rintro e w1 ⟨rfl, hb1⟩
    have HB1 := Lib.hid (HB.out.on hb1)
    have HT1 : Hid (Bt g w w1) := Lib.hid (Bt.of hb1)
    have hsz1 := hb1.size
    clear hb1
    go_wp2_with fail
    go_loopw [5, 6, 7] (fun si sj _ wr => ∃ (i j : Nat) (D : List Ban), si = .int .i64 i ∧ sj = .int .i64 j ∧ Hid (Kept (fun x => !p x) l D i j) ∧ j ≤ l.length ∧ Hid (Blk wr g 29 (flat encB (D ++ [zeroB]))) ∧ Hid (Bt g w wr)) (fun _ sj _ _ => l.length - (intOf sj).toNat)
    case atStart => exact ⟨k0, k0 + 1, l, rfl, by go_num, HS, by omega, HB1, HT1⟩
    case round =>
      obtain ⟨i, j, D, rfl, rfl, HKe, hjl, HBw, HTw⟩ := hrel
      have hij := HKe.out.lt
      have hDl := HKe.out.len
      by_cases hlt : j < l.length
      · have hjD : j < D.length := by omega
        have hat : D[j] = l[j] := HKe.out.at hlt
        have hxo := HK.out _ (List.getElem_mem hlt)
        have hsk := Lib.hid (fun h => HKe.out.skip hlt h)
        have hke := Lib.hid (fun h => HKe.out.keep hlt h)
        generalize l[j] = x at hat hxo hsk hke
        have hc : ∀ jj v, (encB x)[jj]? = some v → wr.cell? ⟨g, j * 5 + jj, none⟩ = some v := fun jj v hv => HBw.out.at (D := D ++ [zeroB]) encB_len (i := j) (j := jj) (by simp; omega) (by rw [List.getElem_append_left hjD, hat]; exact hv)
        have c0 : wr.cell? ⟨g, j * 5, none⟩ = some (.bool x.n.a.v6) := hc 0 _ rfl
        have c1 : wr.cell? ⟨g, j * 5 + 1, none⟩ = some (.int .u64 x.n.a.hi) := hc 1 _ rfl
        have c2 : wr.cell? ⟨g, j * 5 + 2, none⟩ = some (.int .u64 x.n.a.lo) := hc 2 _ rfl
        have c3 : wr.cell? ⟨g, j * 5 + 3, none⟩ = some (.int .i64 x.n.n) := hc 3 _ rfl
        have c4 : wr.cell? ⟨g, j * 5 + 4, none⟩ = some (.int .i64 x.t) := hc 4 _ rfl
        have hcall := Lib.hid (fun W (hW : Below wr.heap.size wr W) => HP.out W x hxo ((Bt.below (Below.refl _ _) HTw.out hB0 hBw).trans (hW.mono (Nat.le_trans hBw HTw.out.size))) (Nat.le_trans hBw (Nat.le_trans HTw.out.size hW.size)))
        clear hc hat hxo
        cases hp : p x
        · have HKx := Lib.hid (hke.out (by rw [hp]; rfl))
          rw [hp] at hcall
          clear hp hsk hke
          go_wp2_with fail
          refine (hcall.out _ ((Below.refl _ _).alloc (Nat.le_refl _) _)).mono ?_
          rintro e w9 ⟨rfl, hb9⟩
          have HB9 := Lib.hid ((HBw.out.alloc (.cells #[.bool x.n.a.v6, .int .u64 x.n.a.hi, .int .u64 x.n.a.lo, .int .i64 x.n.n, .int .i64 x.t] 29)).on hb9)
          have HT9 := Lib.hid ((HTw.out.alloc (.cells #[.bool x.n.a.v6, .int .u64 x.n.a.hi, .int .u64 x.n.a.lo, .int .i64 x.n.n, .int .i64 x.t] 29)).trans (Bt.of hb9))
          have d0 : w9.cell? ⟨wr.heap.size, 0, none⟩ = some (.bool x.n.a.v6) := cells_left hb9 (cell_at _ _ _ 0 _ rfl)
          have d1 : w9.cell? ⟨wr.heap.size, 1, none⟩ = some (.int .u64 x.n.a.hi) := cells_left hb9 (cell_at _ _ _ 1 _ rfl)
          have d2 : w9.cell? ⟨wr.heap.size, 2, none⟩ = some (.int .u64 x.n.a.lo) := cells_left hb9 (cell_at _ _ _ 2 _ rfl)
          have d3 : w9.cell? ⟨wr.heap.size, 3, none⟩ = some (.int .i64 x.n.n) := cells_left hb9 (cell_at _ _ _ 3 _ rfl)
          have d4 : w9.cell? ⟨wr.heap.size, 4, none⟩ = some (.int .i64 x.t) := cells_left hb9 (cell_at _ _ _ 4 _ rfl)
          have ho : ∀ jj, jj < 5 → ∃ u, w9.cell? ⟨g, i * 5 + jj, none⟩ = some u := fun jj hjj => ⟨_, HB9.out.cell (List.getElem?_eq_getElem (by rw [flat_len encB_len]; simp; omega))⟩
          obtain ⟨u0, g0⟩ := ho 0 (by decide)
          have k0 : w9.frozen? ⟨g, i * 5, none⟩ = false := HB9.out.free _
          obtain ⟨u1, g1⟩ := ho 1 (by decide)
          have k1 : w9.frozen? ⟨g, i * 5 + 1, none⟩ = false := HB9.out.free _
          obtain ⟨u2, g2⟩ := ho 2 (by decide)
          have k2 : w9.frozen? ⟨g, i * 5 + 2, none⟩ = false := HB9.out.free _
          obtain ⟨u3, g3⟩ := ho 3 (by decide)
          have k3 : w9.frozen? ⟨g, i * 5 + 3, none⟩ = false := HB9.out.free _
          obtain ⟨u4, g4⟩ := ho 4 (by decide)
          have k4 : w9.frozen? ⟨g, i * 5 + 4, none⟩ = false := HB9.out.free _
          rw [Nat.add_zero] at g0
          clear ho
          clear hb9 c0 c1 c2 c3 c4
          go_wp2_with fail
          go_roundw
          case rel => exact ⟨i + 1, j + 1, D.set i x, by go_num, by go_num, HKx, by omega, Lib.hid (by rw [← List.set_append_left _ _ (show i < D.length by omega)]; exact HB9.out.put5 (by simp; omega) x), Lib.hid (HT9.out.put5 _ x)⟩
          case measure => simp [intOf]; omega
        · have HKx := Lib.hid (hsk.out (by rw [hp]; rfl))
          rw [hp] at hcall
          clear hp hsk hke
          go_wp2_with fail
          refine (hcall.out _ ((Below.refl _ _).alloc (Nat.le_refl _) _)).mono ?_
          rintro e w9 ⟨rfl, hb9⟩
          have HB9 := Lib.hid ((HBw.out.alloc (.cells #[.bool x.n.a.v6, .int .u64 x.n.a.hi, .int .u64 x.n.a.lo, .int .i64 x.n.n, .int .i64 x.t] 29)).on hb9)
          have HT9 := Lib.hid ((HTw.out.alloc (.cells #[.bool x.n.a.v6, .int .u64 x.n.a.hi, .int .u64 x.n.a.lo, .int .i64 x.n.n, .int .i64 x.t] 29)).trans (Bt.of hb9))
          clear hb9 c0 c1 c2 c3 c4
          go_wp2_with fail
          go_roundw
          case rel => exact ⟨i, j + 1, D, rfl, by go_num, HKx, by omega, HB9, HT9⟩
          case measure => simp [intOf]; omega
      · obtain rfl : j = l.length := by omega
        obtain ⟨hd1, hd2⟩ := HKe.out.done
        obtain ⟨W2, zs, R2, hzs, b2, t2⟩ := clear_bans wr g (i * 5) (l.length - i) (l.length + 1 - i) (by omega) _ HBw.out (by rw [flat_len encB_len]; simp; omega)
        have HR : Hid (Bans W2 (.slice (some ⟨g, 0, none⟩) i (l.length + 1)) (l.filter fun x => !p x)) := Lib.hid (b2.reads encB_len (by
          rw [take_splice _ _ _ _ (Nat.le_refl _) (by rw [flat_len encB_len]; simp; omega), flat_take encB_len, List.take_append_of_le_length (by omega), hd1]) hd2.symm (by omega))
        have HT2 : Hid (Bt g w W2) := Lib.hid (HTw.out.trans t2)
        have HD2 := Lib.hid hd2
        have h1 : ¬ (l.length + 1 = i) := by omega
        have h2 : (i : Int) ≤ (l.length : Int) := by omega
        have h3 : (i : Int) ≤ (l.length : Int) + 1 := by omega
        have h4 : ¬ (l.length = i) := by omega
        clear hd1 hd2 b2 t2 hzs
        go_wp2_with fail
        go_ret
        exact ⟨by rw [← HD2.out]; rfl, by rw [← HD2.out]; exact HR.out, HT2.out⟩
  · have E : posI p l = -1 := by unfold posI; rw [if_neg hq]
    have hall : l.filter (fun x => !p x) = l := List.filter_eq_self.2 fun x hx => by
      obtain ⟨i, hi, rfl⟩ := List.getElem_of_mem hx
      have hle : l.findIdx p ≤ l.length := List.findIdx_le_length
      have := List.not_of_lt_findIdx (p := p) (xs := l) (i := i) (by omega)
      simpa using this
    rw [hall]
    rw [E] at KI
    clear E hall hq
    go_enter Try.func28, Try.ntmps28
    go_wp2_with fail
    refine KI.out.mono ?_
    rintro e w1 ⟨rfl, hb1⟩
    have HB1 : Hid (Bans w1 (.slice (some ⟨g, 0, none⟩) l.length (l.length + 1)) l) := Lib.hid ((HB.out.on hb1).reads encB_len (by rw [flat_take encB_len]; simp) rfl (by omega))
    have HT1 : Hid (Bt g w w1) := Lib.hid (Bt.of hb1)
    clear hb1
    go_wp2_with fail
    go_ret
    exact ⟨rfl, HB1.out, HT1.out⟩
end Go.Proofs.Ytcjdfgpkcafpdaa.Ba
