/- What the statements of layer 11 take in: acts upon a tree; what they do to a list. -/
import Derived.Test.YtgnpnmdndlodlaaRecsDoor
import Derived.Test.YtgnpnmdndlodlaaRef11All
import Derived.Test.YtgnpnmdndlodlaaDoor
import Derived.Deep.RegionHeld3
namespace Go.Proofs.Ytgnpnmdndlodlaa.Tr
set_option maxRecDepth 100000
open Go.ChangeShapes Go.WideShapes Go.ChangeAt Go.RowKit
open Dec Words V4 V6 Ad Ci Go.Deep
set_option linter.unusedVariables false
structure Act where
  kind : Int
  n : Net
  v : Int
instance : Inhabited Act := ⟨⟨0, ⟨⟨false, 0, 0⟩, 0⟩, 0⟩⟩
def Act.ok (a : Act) : Prop := a.n.ok ∧ -9223372036854775808 ≤ a.v ∧ a.v ≤ 9223372036854775807
def encA (a : Act) : List Value := [.int .i64 a.kind, .bool a.n.a.v6, .int .u64 a.n.a.hi, .int .u64 a.n.a.lo, .int .i64 a.n.n, .int .i64 a.v]
abbrev Acts (w : World) (v : Value) (l : List Act) : Prop := Recs 6 encA w v l
/-- The six cells of an element. -/
theorem act_cells {w : World} {b o : Nat} {l : List Act} (h : ∀ i (h : i < l.length) j u, (encA l[i])[j]? = some u → w.cell? ⟨b, o + i * 6 + j, none⟩ = some u) {k : Nat} (hk : k < l.length) :
    w.cell? ⟨b, o + k * 6, none⟩ = some (.int .i64 l[k].kind) ∧ w.cell? ⟨b, o + k * 6 + 1, none⟩ = some (.bool l[k].n.a.v6) ∧ w.cell? ⟨b, o + k * 6 + 2, none⟩ = some (.int .u64 l[k].n.a.hi) ∧ w.cell? ⟨b, o + k * 6 + 3, none⟩ = some (.int .u64 l[k].n.a.lo) ∧ w.cell? ⟨b, o + k * 6 + 4, none⟩ = some (.int .i64 l[k].n.n) ∧ w.cell? ⟨b, o + k * 6 + 5, none⟩ = some (.int .i64 l[k].v) :=
  ⟨h k hk 0 _ rfl, h k hk 1 _ rfl, h k hk 2 _ rfl, h k hk 3 _ rfl, h k hk 4 _ rfl, h k hk 5 _ rfl⟩
theorem open_acts {H : Type} {enc : TypeId × Value → H} {W : World} {v : Value} {d : DataW H} {ps : List MemPlace} {r : Reach} {b0 : Nat}
    (hval : Value.okWide Try.prog W r b0 22 v) (h : DataW.Trod enc Try.prog W 0 (fun _ => true) true 22 v d ps) : ∃ xs : List Act, Acts W v xs ∧ xs.length ≤ 9223372036854775807 ∧ ∀ x ∈ xs, x.ok := by
  refine open_recs (encR := encA) (good := Act.ok) Try.underlying22 (by kernel_rfl) (by decide) ?_ hval h
  intro n cs y hf hl
  match cs, hl with
  | [c0, c1, c2, c3, c4, c5], _ =>
  obtain ⟨y0, y1, y2, m, _, _, h0, h1, h2⟩ := trod_struct3 Try.underlying34 hf
  have k1 : Try.prog.cellsOf 3 = 1 := by kernel_rfl
  have k4 : Try.prog.cellsOf 27 = 4 := by kernel_rfl
  have h0' : DataW.trod enc Try.prog W 0 (fun _ => true) true m 3 (([c0, c1, c2, c3, c4, c5].drop 0).take (Try.prog.cellsOf 3)) = some y0 := h0
  have h1' : DataW.trod enc Try.prog W 0 (fun _ => true) true m 27 (([c0, c1, c2, c3, c4, c5].drop 1).take (Try.prog.cellsOf 27)) = some y1 := h1
  have h2' : DataW.trod enc Try.prog W 0 (fun _ => true) true m 3 (([c0, c1, c2, c3, c4, c5].drop 5).take (Try.prog.cellsOf 3)) = some y2 := h2
  rw [k1] at h0' h2'
  rw [k4] at h1'
  have g0 : DataW.trod enc Try.prog W 0 (fun _ => true) true m 3 [c0] = some y0 := h0'
  have g1 : DataW.trod enc Try.prog W 0 (fun _ => true) true m 27 [c1, c2, c3, c4] = some y1 := h1'
  have g2 : DataW.trod enc Try.prog W 0 (fun _ => true) true m 3 [c5] = some y2 := h2'
  obtain ⟨x0, j0, _, w0⟩ := DataW.trod_int Try.underlying3 g0
  obtain ⟨x2, j2, _, w2⟩ := DataW.trod_int Try.underlying3 g2
  obtain ⟨N, hN, jN⟩ := net_cells (ta := 25) (tb := 4) (tu := 23) (ti := 3) Try.underlying27 rfl rfl Try.underlying25 (by kernel_rfl) rfl rfl (by kernel_rfl) (by kernel_rfl) (by kernel_rfl) rfl rfl rfl Try.underlying4 Try.underlying23 Try.underlying3 g1
  simp only [List.cons.injEq, and_true] at j0 j2 jN
  obtain ⟨rfl, rfl, rfl, rfl⟩ := jN
  subst j0 j2
  exact ⟨⟨x0, N, x2⟩, rfl, hN, wf64 w2⟩
/-- What an act does to a list. -/
def doA (l : List Hit) (a : Act) : List Hit := if a.kind = 0 then withH l a.n a.v else cut l a.n
def play (l : List Hit) (ac : List Act) : List Hit := ac.foldl doA l
theorem play_snoc (l : List Hit) (ac : List Act) (k : Nat) (h : k < ac.length) : play l (ac.take (k + 1)) = doA (play l (ac.take k)) ac[k] := by
  unfold play; rw [List.take_succ_eq_append_getElem h, List.foldl_append]; rfl
theorem withH_len (l : List Hit) (n : Net) (v : Int) : (withH l n v).length ≤ l.length + 1 := by
  unfold withH
  split
  · rw [putIn_len]; have := List.length_filter_le (fun h => !sameN h.n n) l; unfold cut; omega
  · omega
theorem doA_len (l : List Hit) (a : Act) : (doA l a).length ≤ l.length + 1 := by
  unfold doA
  split
  · exact withH_len l a.n a.v
  · exact Nat.le_trans (List.length_filter_le _ _) (by omega)
theorem play_len (ac : List Act) : ∀ k, k ≤ ac.length → (play [] (ac.take k)).length ≤ k
  | 0, _ => by simp [play]
  | k + 1, h => by
    rw [play_snoc [] ac k (by omega)]
    have := play_len ac k (by omega)
    have := doA_len (play [] (ac.take k)) ac[k]
    omega
theorem putIn_ok {n : Net} {v : Int} (h : (⟨n, v⟩ : Hit).ok) : ∀ {l : List Hit}, (∀ x ∈ l, x.ok) → ∀ x ∈ putIn n v l, x.ok
  | [], _, x, hx => by simp [putIn] at hx; subst hx; exact h
  | y :: l, hl, x, hx => by
    unfold putIn at hx
    split at hx
    · rcases List.mem_cons.1 hx with rfl | hx
      · exact h
      · exact hl x hx
    · rcases List.mem_cons.1 hx with rfl | hx
      · exact hl x (by simp)
      · exact putIn_ok h (l := l) (fun z hz => hl z (by simp [hz])) x hx
theorem doA_ok {l : List Hit} {a : Act} (h : ∀ x ∈ l, x.ok) (ha : a.ok) : ∀ x ∈ doA l a, x.ok := by
  unfold doA
  split
  · unfold withH
    split
    · exact putIn_ok ha (cut_ok h _)
    · exact h
  · exact cut_ok h _
theorem play_ok (ac : List Act) (h : ∀ x ∈ ac, x.ok) : ∀ k, k ≤ ac.length → ∀ x ∈ play [] (ac.take k), x.ok
  | 0, _ => by simp [play]
  | k + 1, hk => by
    rw [play_snoc [] ac k (by omega)]
    exact doA_ok (play_ok ac h k (by omega)) (h _ (List.getElem_mem (by omega)))
/-- Are two lists one? -/
def sameL (xs ys : List Hit) : Bool := decide (xs.length = ys.length) && (List.range xs.length).all fun i => match xs[i]?, ys[i]? with | some x, some y => sameN x.n y.n && x.v == y.v | _, _ => false
theorem sameL_refl (xs : List Hit) : sameL xs xs = true := by
  unfold sameL
  simp only [decide_true, Bool.true_and, List.all_eq_true, List.mem_range]
  intro i hi
  rw [List.getElem?_eq_getElem hi]
  simp [(sameN_iff _ _).2 rfl]
end Go.Proofs.Ytgnpnmdndlodlaa.Tr
/- What is asked of the trees of layer 11, as a structure; the statements' own small functions over it. -/
namespace Go.Proofs.Ytgnpnmdndlodlaa.Tr
set_option maxRecDepth 100000
open Go.ChangeShapes Go.WideShapes Go.ChangeAt Go.RowKit
open Dec Words V4 V6 Ad Ci
set_option linter.unusedVariables false
theorem eqInNet (d : Nat) (m n : Net) (w : World) : (Op.equalIn (d + 3) 27 (.agg #[.bool m.a.v6, .int .u64 m.a.hi, .int .u64 m.a.lo, .int .i64 m.n]) (.agg #[.bool n.a.v6, .int .u64 n.a.hi, .int .u64 n.a.lo, .int .i64 n.n])).run Try.prog w = .ok (sameN m n) w := by
  have hA : ∀ w : World, (isAgg 25).run Try.prog w = .ok true w := fun _ => by kernel_rfl
  have hz : ∀ w : World, (sizeOf 25).run Try.prog w = .ok 3 w := fun _ => by kernel_rfl
  have h3 : ∀ w : World, (isAgg 3).run Try.prog w = .ok false w := fun _ => by kernel_rfl
  rw [run_equalIn_struct w (d + 2) _ _ _ (by kernel_rfl) (by kernel_rfl)]
  rw [show (Try.prog.fieldsOf 27).toList = [⟨"Addr", 25, 0, false, "", "", 0⟩, ⟨"Bits", 3, 3, false, "", "", 24⟩] from by kernel_rfl]
  have p0 : ∀ n : Net, (part 25 #[.bool n.a.v6, .int .u64 n.a.hi, .int .u64 n.a.lo, .int .i64 n.n] 0).run Try.prog w = .ok (.agg #[.bool n.a.v6, .int .u64 n.a.hi, .int .u64 n.a.lo]) w := fun n => by simp [part, hA, hz]
  have p1 : ∀ n : Net, (part 3 #[.bool n.a.v6, .int .u64 n.a.hi, .int .u64 n.a.lo, .int .i64 n.n] 3).run Try.prog w = .ok (.int .i64 n.n) w := fun n => part_one w _ _ _ _ (h3 w) rfl
  have q0 := eqInAdr d m.a n.a w
  have q1 : (Op.equalIn (d + 2) 3 (.int .i64 m.n) (.int .i64 n.n)).run Try.prog w = .ok (m.n == n.n) w := run_equalIn_int w (d + 1) _ _ _ _ _ Try.underlying3
  simp only [Op.eqFields, Sem.run_bind, Sem.run_ite, p0, p1, q0, q1, Result.andThen_ok, sameN]
  cases (sameA m.a n.a) <;> cases (m.n == n.n) <;> simp
def sameH (x y : Hit) : Bool := sameN x.n y.n && x.v == y.v
theorem sameH_self (x : Hit) : sameH x x = true := by unfold sameH; rw [(sameN_iff _ _).2 rfl]; simp
theorem eqHit (x y : Hit) (w : World) : (binOp .eql 48 (.agg #[.bool x.n.a.v6, .int .u64 x.n.a.hi, .int .u64 x.n.a.lo, .int .i64 x.n.n, .int .i64 x.v]) (.agg #[.bool y.n.a.v6, .int .u64 y.n.a.hi, .int .u64 y.n.a.lo, .int .i64 y.n.n, .int .i64 y.v])).run Try.prog w = .ok (.bool (sameH x y)) w := by
  have hA : ∀ w : World, (isAgg 27).run Try.prog w = .ok true w := fun _ => by kernel_rfl
  have hz : ∀ w : World, (sizeOf 27).run Try.prog w = .ok 4 w := fun _ => by kernel_rfl
  have h3 : ∀ w : World, (isAgg 3).run Try.prog w = .ok false w := fun _ => by kernel_rfl
  rw [run_eql_struct, run_equalIn_struct w 9999 _ _ _ (by kernel_rfl) (by kernel_rfl)]
  rw [show (Try.prog.fieldsOf 48).toList = [⟨"Net", 27, 0, false, "", "", 0⟩, ⟨"V", 3, 4, false, "", "", 32⟩] from by kernel_rfl]
  have p0 : ∀ x : Hit, (part 27 #[.bool x.n.a.v6, .int .u64 x.n.a.hi, .int .u64 x.n.a.lo, .int .i64 x.n.n, .int .i64 x.v] 0).run Try.prog w = .ok (.agg #[.bool x.n.a.v6, .int .u64 x.n.a.hi, .int .u64 x.n.a.lo, .int .i64 x.n.n]) w := fun x => by simp [part, hA, hz]
  have p1 : ∀ x : Hit, (part 3 #[.bool x.n.a.v6, .int .u64 x.n.a.hi, .int .u64 x.n.a.lo, .int .i64 x.n.n, .int .i64 x.v] 4).run Try.prog w = .ok (.int .i64 x.v) w := fun x => part_one w _ _ _ _ (h3 w) rfl
  have q0 := eqInNet 9996 x.n y.n w
  have q1 : (Op.equalIn 9999 3 (.int .i64 x.v) (.int .i64 y.v)).run Try.prog w = .ok (x.v == y.v) w := run_equalIn_int w 9998 _ _ _ _ _ Try.underlying3
  simp only [Op.eqFields, Sem.run_bind, Sem.run_ite, p0, p1, q0, q1, Result.andThen_ok, sameH]
  cases (sameN x.n y.n) <;> cases (x.v == y.v) <;> simp
theorem neqHit (x y : Hit) (w : World) : (binOp .neq 48 (.agg #[.bool x.n.a.v6, .int .u64 x.n.a.hi, .int .u64 x.n.a.lo, .int .i64 x.n.n, .int .i64 x.v]) (.agg #[.bool y.n.a.v6, .int .u64 y.n.a.hi, .int .u64 y.n.a.lo, .int .i64 y.n.n, .int .i64 y.v])).run Try.prog w = .ok (.bool (!sameH x y)) w := by
  have h := eqHit x y w
  rw [run_eql_struct] at h
  rw [run_neq_struct]
  generalize (Op.equalIn 10000 48 (.agg #[.bool x.n.a.v6, .int .u64 x.n.a.hi, .int .u64 x.n.a.lo, .int .i64 x.n.n, .int .i64 x.v]) (.agg #[.bool y.n.a.v6, .int .u64 y.n.a.hi, .int .u64 y.n.a.lo, .int .i64 y.n.n, .int .i64 y.v])).run Try.prog w = r at h
  cases r with
  | ok x w' =>
    simp only [Result.andThen_ok, Result.ok.injEq, Value.bool.injEq] at h ⊢
    obtain ⟨rfl, rfl⟩ := h
    exact ⟨rfl, rfl⟩
  | halt x w' => cases h
/-- Trees that are never changed: what they hold, as a list; what each function tells of it. -/
structure TrieApi where
  Is : World → Value → List Hit → Prop
  below : ∀ {w w1 : World} {t : Value} {l : List Hit}, Is w t l → Below w.heap.size w w1 → Is w1 t l
  shape : ∀ {w : World} {t : Value} {l : List Hit}, Is w t l → ∃ p, t = .pointer p
  new : ∀ w : World, Calls Try.prog 7 #[] w fun e w' => ∃ u, e = .returned u ∧ Is w' u [] ∧ Below w.heap.size w w'
  put : ∀ (t : Value) (l : List Hit) (n : Net) (V : Int) (w : World), Is w t l → l.length ≤ 1000 → n.ok → -9223372036854775808 ≤ V → V ≤ 9223372036854775807 →
    Calls Try.prog 18 #[t, .agg #[.bool n.a.v6, .int .u64 n.a.hi, .int .u64 n.a.lo, .int .i64 n.n], .int .i64 V] w fun e w' => ∃ u, e = .returned u ∧ Is w' u (withH l n V) ∧ Below w.heap.size w w'
  drop : ∀ (t : Value) (l : List Hit) (n : Net) (w : World), Is w t l → l.length ≤ 1000 → n.ok →
    Calls Try.prog 20 #[t, .agg #[.bool n.a.v6, .int .u64 n.a.hi, .int .u64 n.a.lo, .int .i64 n.n]] w fun e w' => ∃ u, e = .returned u ∧ Is w' u (cut l n) ∧ Below w.heap.size w w'
  get : ∀ (t : Value) (l : List Hit) (n : Net) (w : World), Is w t l → l.length ≤ 1000 → n.ok →
    Calls Try.prog 11 #[t, .agg #[.bool n.a.v6, .int .u64 n.a.hi, .int .u64 n.a.lo, .int .i64 n.n]] w fun e w' => e = .returned (.tuple #[.int .i64 (getV l n), .bool (getB l n)]) ∧ Below w.heap.size w w'
  cov : ∀ (t : Value) (l : List Hit) (a : Adr) (w : World), Is w t l → l.length ≤ 1000 → a.ok →
    Calls Try.prog 16 #[t, .agg #[.bool a.v6, .int .u64 a.hi, .int .u64 a.lo]] w fun e w' => ∃ u, e = .returned u ∧ Hits w' u (cover l a) ∧ Below w.heap.size w w'
  all : ∀ (t : Value) (l : List Hit) (w : World), Is w t l → l.length ≤ 1000 →
    Calls Try.prog 15 #[t] w fun e w' => ∃ u, e = .returned u ∧ Hits w' u l ∧ Below w.heap.size w w'
  len : ∀ (t : Value) (l : List Hit) (w : World), Is w t l → l.length ≤ 1000 →
    Calls Try.prog 13 #[t] w fun e w' => e = .returned (.int .i64 (l.length : Nat)) ∧ Below w.heap.size w w'
set_option maxHeartbeats 2000000 in
theorem does_any (T : TrieApi) (t : Value) (l : List Hit) (x : Act) (w : World) (h : T.Is w t l) (hl : l.length ≤ 1000) (hx : x.ok) :
    Calls Try.prog 8 #[t, .agg #[.int .i64 x.kind, .bool x.n.a.v6, .int .u64 x.n.a.hi, .int .u64 x.n.a.lo, .int .i64 x.n.n, .int .i64 x.v]] w fun e w' => ∃ u, e = .returned u ∧ T.Is w' u (doA l x) ∧ Below w.heap.size w w' := by
  have hb0 : Below w.heap.size w (w.alloc (.cells #[.int .i64 x.kind, .bool x.n.a.v6, .int .u64 x.n.a.hi, .int .u64 x.n.a.lo, .int .i64 x.n.n, .int .i64 x.v] 34)) := (Below.refl _ _).alloc (Nat.le_refl _) _
  have P1 := Lib.hid (fun W (hW : Below w.heap.size w W) => T.put t l x.n x.v W (T.below h hW) hl hx.1 hx.2.1 hx.2.2)
  have P2 := Lib.hid (fun W (hW : Below w.heap.size w W) => T.drop t l x.n W (T.below h hW) hl hx.1)
  have HB := Lib.hid hb0
  clear h hb0
  by_cases hk : x.kind = 0
  · have E : Hid (doA l x = withH l x.n x.v) := Lib.hid (by unfold doA; rw [if_pos hk])
    have hk2 : (x.kind == 0) = true := by simp [hk]
    clear hk
    go_enter Try.func8, Try.ntmps8
    go_wp2_with fail
    (with_reducible refine (P1.out _ HB.out).mono ?_)
    rintro e w1 ⟨u, rfl, hu, hb⟩
    have HU := Lib.hid hu
    have HW := Lib.hid (low_trans HB.out hb)
    clear hu hb
    go_wp2_with fail
    go_ret
    exact ⟨u, rfl, by rw [E.out]; exact HU.out, HW.out⟩
  · have E : Hid (doA l x = cut l x.n) := Lib.hid (by unfold doA; rw [if_neg hk])
    have hk2 : (x.kind == 0) = false := by simp [hk]
    clear hk
    go_enter Try.func8, Try.ntmps8
    go_wp2_with fail
    (with_reducible refine (P2.out _ HB.out).mono ?_)
    rintro e w1 ⟨u, rfl, hu, hb⟩
    have HU := Lib.hid hu
    have HW := Lib.hid (low_trans HB.out hb)
    clear hu hb
    go_wp2_with fail
    go_ret
    exact ⟨u, rfl, by rw [E.out]; exact HU.out, HW.out⟩
set_option maxHeartbeats 2000000 in
theorem same_one (va vb : Value) (l : List Hit) (w : World) (ha : Hits w va l) (hb : Hits w vb l) (hl : l.length ≤ 1000000) :
    Calls Try.prog 14 #[va, vb] w fun e w' => e = .returned (.bool true) ∧ Below w.heap.size w w' := by
  obtain ⟨A, ca, rfl, hca, _, hcella⟩ := ha
  obtain ⟨B, cb, rfl, hcb, _, hcellb⟩ := hb
  have HA := Lib.hid hcella
  have HB := Lib.hid hcellb
  have NQ := Lib.hid (fun (k : Nat) (hk : k < l.length) W => neqNet l[k].n l[k].n W)
  clear hcella hcellb
  go_enter Try.func14, Try.ntmps14
  go_wp2_with fail
  go_loopw [5] (fun i wr => ∃ k : Nat, k ≤ l.length ∧ i = .int .i64 k ∧ Below w.heap.size w wr) (fun i _ => l.length - (intOf i).toNat)
  case atStart => exact ⟨0, Nat.zero_le _, rfl, Below.refl _ _⟩
  case round =>
    obtain ⟨k, hk, rfl, hs⟩ := hrel
    by_cases hlt : k < l.length
    · obtain ⟨b, o, rfl, hb, hcc⟩ := HA.out (by omega)
      obtain ⟨b', o', rfl, hb', hcc'⟩ := HB.out (by omega)
      obtain ⟨c0, c1, c2, c3, c4⟩ := hit_cells (fun i h j u hu => (hs.cell (p := ⟨b, o + i * 5 + j, none⟩) hb).trans (hcc i h j u hu)) hlt
      obtain ⟨d0, d1, d2, d3, d4⟩ := hit_cells (fun i h j u hu => (hs.cell (p := ⟨b', o' + i * 5 + j, none⟩) hb').trans (hcc' i h j u hu)) hlt
      have N1 := NQ.out k hlt
      have hsm : sameN l[k].n l[k].n = true := (sameN_iff _ _).2 rfl
      simp only [hsm, Bool.not_true] at N1
      clear hcc hcc' hsm
      have hv : (l[k].v != l[k].v) = false := by simp
      have hb3 : b < wr.heap.size := Nat.lt_of_lt_of_le hb hs.size
      have hb4 : b' < wr.heap.size := Nat.lt_of_lt_of_le hb' hs.size
      go_wp2_with fail
      have hne : Nonempty (Cls (Stays wr)) := ⟨⟨wr, Below.refl _ _⟩⟩
      have f0 : ∀ q : Cls (Stays wr), q.w.cell? ⟨b, o + k * 5, none⟩ = some (.bool l[k].n.a.v6) := fun q => (Below.cell (p := ⟨b, o + k * 5, none⟩) q.h hb3).trans c0
      have f1 : ∀ q : Cls (Stays wr), q.w.cell? ⟨b, o + k * 5 + 1, none⟩ = some (.int .u64 l[k].n.a.hi) := fun q => (Below.cell (p := ⟨b, o + k * 5 + 1, none⟩) q.h hb3).trans c1
      have f2 : ∀ q : Cls (Stays wr), q.w.cell? ⟨b, o + k * 5 + 2, none⟩ = some (.int .u64 l[k].n.a.lo) := fun q => (Below.cell (p := ⟨b, o + k * 5 + 2, none⟩) q.h hb3).trans c2
      have f3 : ∀ q : Cls (Stays wr), q.w.cell? ⟨b, o + k * 5 + 3, none⟩ = some (.int .i64 l[k].n.n) := fun q => (Below.cell (p := ⟨b, o + k * 5 + 3, none⟩) q.h hb3).trans c3
      have f4 : ∀ q : Cls (Stays wr), q.w.cell? ⟨b, o + k * 5 + 4, none⟩ = some (.int .i64 l[k].v) := fun q => (Below.cell (p := ⟨b, o + k * 5 + 4, none⟩) q.h hb3).trans c4
      have f5 : ∀ q : Cls (Stays wr), q.w.cell? ⟨b', o' + k * 5, none⟩ = some (.bool l[k].n.a.v6) := fun q => (Below.cell (p := ⟨b', o' + k * 5, none⟩) q.h hb4).trans d0
      have f6 : ∀ q : Cls (Stays wr), q.w.cell? ⟨b', o' + k * 5 + 1, none⟩ = some (.int .u64 l[k].n.a.hi) := fun q => (Below.cell (p := ⟨b', o' + k * 5 + 1, none⟩) q.h hb4).trans d1
      have f7 : ∀ q : Cls (Stays wr), q.w.cell? ⟨b', o' + k * 5 + 2, none⟩ = some (.int .u64 l[k].n.a.lo) := fun q => (Below.cell (p := ⟨b', o' + k * 5 + 2, none⟩) q.h hb4).trans d2
      have f8 : ∀ q : Cls (Stays wr), q.w.cell? ⟨b', o' + k * 5 + 3, none⟩ = some (.int .i64 l[k].n.n) := fun q => (Below.cell (p := ⟨b', o' + k * 5 + 3, none⟩) q.h hb4).trans d3
      have f9 : ∀ q : Cls (Stays wr), q.w.cell? ⟨b', o' + k * 5 + 4, none⟩ = some (.int .i64 l[k].v) := fun q => (Below.cell (p := ⟨b', o' + k * 5 + 4, none⟩) q.h hb4).trans d4
      refine Cls.region (Stays wr) (by kernel_rfl) (by kernel_rfl) (low_drewN (Below.refl _ _) 1) ?_
      repeat (go_big_quiet_step (first | fail))
      refine wpQuiet_nil ?_
      intro n9
      have hs9 := n9.h
      generalize n9.w = w9 at hs9 ⊢
      clear hne n9 f0 f1 f2 f3 f4 f5 f6 f7 f8 f9
      have HB9 := Lib.hid (low_trans hs hs9)
      go_wp2_with fail
      go_roundw
      case rel => exact ⟨k + 1, by omega, by go_num, HB9.out⟩
      case measure => simp [intOf]; omega
    · go_wp2_with fail
      go_ret
      exact ⟨rfl, hs⟩
theorem ten_any (m : Int) (w : World) : Calls Try.prog 19 #[.int .i64 m] w fun e w' => e = .returned (.agg #[.bool false, .int .u64 0, .int .u64 167772160, .int .i64 m]) ∧ Below w.heap.size w w' := by
  go_enter Try.func19, Try.ntmps19
  go_wp2_with fail
  exact bodyPost_ret (v := .agg #[.bool false, .int .u64 0, .int .u64 167772160, .int .i64 m]) (by simp [results, Try.results19, go_sem]) rfl ⟨rfl, (Below.refl _ _).alloc (Nat.le_refl _) _⟩
end Go.Proofs.Ytgnpnmdndlodlaa.Tr
/- Of the statements of layer 11: the example. -/
namespace Go.Proofs.Ytgnpnmdndlodlaa.Tr
set_option maxRecDepth 100000
open Go.ChangeShapes Go.WideShapes Go.ChangeAt Go.RowKit
open Dec Words V4 V6 Ad Ci
set_option linter.unusedVariables false
def ten8 : Net := ⟨⟨false, 0, 167772160⟩, 8⟩
def ten16 : Net := ⟨⟨false, 0, 167772160⟩, 16⟩
theorem ten8_ok : ten8.ok := ⟨⟨by decide, by decide⟩, by decide, by decide⟩
theorem ten16_ok : ten16.ok := ⟨⟨by decide, by decide⟩, by decide, by decide⟩
theorem tens1 : withH [] ten8 5 = [⟨ten8, 5⟩] := by
  unfold withH; rw [if_pos (show rightN ten8 = true by decide +kernel)]; rfl
theorem tens2 : withH [⟨ten8, 5⟩] ten16 6 = [⟨ten8, 5⟩, ⟨ten16, 6⟩] := by
  unfold withH; rw [if_pos (show rightN ten16 = true by decide +kernel)]
  have e : cut [⟨ten8, 5⟩] ten16 = [⟨ten8, 5⟩] := by unfold cut; rw [List.filter_cons_of_pos (by decide +kernel)]; rfl
  rw [e, putIn, if_neg (by decide +kernel)]; rfl
theorem tens3 : cut [⟨ten8, 5⟩, ⟨ten16, 6⟩] ten8 = [⟨ten16, 6⟩] := by
  unfold cut; rw [List.filter_cons_of_neg (by decide +kernel), List.filter_cons_of_pos (by decide +kernel)]; rfl
theorem tens4 : cover [⟨ten8, 5⟩, ⟨ten16, 6⟩] ⟨false, 0, 167772675⟩ = [⟨ten8, 5⟩, ⟨ten16, 6⟩] := by kernel_rfl
theorem tens5 : getV [⟨ten8, 5⟩, ⟨ten16, 6⟩] ten8 = 5 ∧ getB [⟨ten8, 5⟩, ⟨ten16, 6⟩] ten8 = true := ⟨by kernel_rfl, by kernel_rfl⟩
abbrev SA (b off : Nat) (wr w' : World) : Prop := w'.cell? ⟨b, off, none⟩ = some (.bool false) ∧ w'.cell? ⟨b, off + 1, none⟩ = some (.int .u64 0) ∧ w'.cell? ⟨b, off + 2, none⟩ = some (.int .u64 167772160) ∧ w'.cell? ⟨b, off + 3, none⟩ = some (.int .i64 8) ∧ w'.cell? ⟨b, off + 4, none⟩ = some (.int .i64 5) ∧ Stays wr w'
set_option maxHeartbeats 4000000 in
theorem awake11_any (T : TrieApi) (w : World) : Calls Try.prog 6 #[] w fun e w' => e = .returned (.bool true) ∧ Below w.heap.size w w' := by
  have TN8 := Lib.hid (fun W => ten_any 8 W)
  have TN16 := Lib.hid (fun W => ten_any 16 W)
  have NW := Lib.hid (T.new w)
  go_enter Try.func6, Try.ntmps6
  go_wp2_with fail
  (with_reducible refine NW.out.mono ?_)
  rintro e w1 ⟨t0, rfl, ht0, hb1⟩
  have HT0 := Lib.hid ht0
  have HB1 := Lib.hid hb1
  clear ht0 hb1 NW
  go_wp2_with fail
  (with_reducible refine (TN8.out _).mono ?_)
  rintro e w2 ⟨rfl, hb⟩
  have P1 := Lib.hid (T.put t0 [] ten8 5 w2 (T.below HT0.out hb) (by decide) ten8_ok (by decide) (by decide))
  rw [tens1] at P1
  have HB2 := Lib.hid (low_trans HB1.out hb)
  clear hb HT0 HB1
  go_wp2_with fail
  refine P1.out.mono ?_
  rintro e w3 ⟨t1, rfl, ht1, hb⟩
  have HT1 := Lib.hid ht1
  have HB3 := Lib.hid (low_trans HB2.out hb)
  clear ht1 hb P1 HB2
  go_wp2_with fail
  (with_reducible refine (TN16.out _).mono ?_)
  rintro e w4 ⟨rfl, hb⟩
  have P2 := Lib.hid (T.put t1 [⟨ten8, 5⟩] ten16 6 w4 (T.below HT1.out hb) (by decide) ten16_ok (by decide) (by decide))
  rw [tens2] at P2
  have HB4 := Lib.hid (low_trans HB3.out hb)
  clear hb HT1 HB3
  go_wp2_with fail
  refine P2.out.mono ?_
  rintro e w5 ⟨t, rfl, ht, hb⟩
  have HT := Lib.hid ht
  have HB5 := Lib.hid (low_trans HB4.out hb)
  have PC := Lib.hid (T.cov t [⟨ten8, 5⟩, ⟨ten16, 6⟩] ⟨false, 0, 167772675⟩ w5 ht (by decide) ⟨by decide, by decide⟩)
  rw [tens4] at PC
  clear ht hb P2 HB4
  go_wp2_with fail
  refine PC.out.mono ?_
  rintro e w6 ⟨vl, rfl, hl, hb⟩
  have HB6 := Lib.hid (low_trans HB5.out hb)
  have HT6 := Lib.hid (T.below HT.out hb)
  have HL := Lib.hid hl
  clear hl hb PC HB5 HT
  go_wp2_with fail
  (with_reducible refine (TN8.out _).mono ?_)
  rintro e w7 ⟨rfl, hb⟩
  have HB7 := Lib.hid (low_trans HB6.out hb)
  have HT7 := Lib.hid (T.below HT6.out hb)
  have HL7 := Lib.hid (HL.out.below hb)
  have PG := Lib.hid (T.get t [⟨ten8, 5⟩, ⟨ten16, 6⟩] ten8 w7 HT7.out (by decide) ten8_ok)
  rw [tens5.1, tens5.2] at PG
  clear hb HB6 HT6 HL
  go_wp2_with fail
  refine PG.out.mono ?_
  rintro e wr ⟨rfl, hb⟩
  have HB8 := Lib.hid (low_trans HB7.out hb)
  have ht8 := T.below HT7.out hb
  obtain ⟨A, c, rfl, h2, _, hc⟩ := HL7.out.below hb
  obtain ⟨b, off, rfl, hbl, hcc⟩ := hc (by decide)
  obtain ⟨c0, c1, c2, c3, c4⟩ : wr.cell? ⟨b, off, none⟩ = some (.bool false) ∧ wr.cell? ⟨b, off + 1, none⟩ = some (.int .u64 0) ∧ wr.cell? ⟨b, off + 2, none⟩ = some (.int .u64 167772160) ∧ wr.cell? ⟨b, off + 3, none⟩ = some (.int .i64 8) ∧ wr.cell? ⟨b, off + 4, none⟩ = some (.int .i64 5) :=
    ⟨hcc 0 (by decide) 0 _ rfl, hcc 0 (by decide) 1 _ rfl, hcc 0 (by decide) 2 _ rfl, hcc 0 (by decide) 3 _ rfl, hcc 0 (by decide) 4 _ rfl⟩
  replace h2 : 2 ≤ c := h2
  simp only [List.length_cons, List.length_nil, Nat.zero_add, Nat.reduceAdd]
  have EQ : ∀ W, (binOp .eql 48 (.agg #[.bool false, .int .u64 0, .int .u64 167772160, .int .i64 8, .int .i64 5]) (.agg #[.bool false, .int .u64 0, .int .u64 167772160, .int .i64 8, .int .i64 5])).run Try.prog W = .ok (.bool true) W := fun W => eqHit ⟨ten8, 5⟩ ⟨ten8, 5⟩ W
  have IN : Hid (∀ W, Stays wr W → SA b off wr W) := Lib.hid fun W h => ⟨(h.cell (p := ⟨b, off, none⟩) hbl).trans c0, (h.cell (p := ⟨b, off + 1, none⟩) hbl).trans c1, (h.cell (p := ⟨b, off + 2, none⟩) hbl).trans c2, (h.cell (p := ⟨b, off + 3, none⟩) hbl).trans c3, (h.cell (p := ⟨b, off + 4, none⟩) hbl).trans c4, h⟩
  have hk0 : SA b off wr wr := ⟨c0, c1, c2, c3, c4, Below.refl _ _⟩
  have JD : Hid (∀ W, SA b off wr W → SA b off wr W.drew) := Lib.hid fun W h => IN.out _ (low_drewN h.2.2.2.2.2 1)
  have JA : Hid (∀ W o, SA b off wr W → SA b off wr (W.alloc o)) := Lib.hid fun W o h => IN.out _ (Below.alloc h.2.2.2.2.2 (Below.size h.2.2.2.2.2) o)
  have L1 : Hid (∀ W, SA b off wr W → Calls Try.prog 13 #[t] W fun e w' => e = .returned (.int .i64 2) ∧ SA b off wr w') := Lib.hid fun W h => (T.len t [⟨ten8, 5⟩, ⟨ten16, 6⟩] W (T.below ht8 h.2.2.2.2.2) (by decide)).mono fun e w' ⟨he, hb⟩ => ⟨he, IN.out _ (low_trans h.2.2.2.2.2 hb)⟩
  have L2 : Hid (∀ W, SA b off wr W → Calls Try.prog 19 #[.int .i64 8] W fun e w' => e = .returned (.agg #[.bool false, .int .u64 0, .int .u64 167772160, .int .i64 8]) ∧ SA b off wr w') := Lib.hid fun W h => (TN8.out W).mono fun e w' ⟨he, hb⟩ => ⟨he, IN.out _ (low_trans h.2.2.2.2.2 hb)⟩
  have L3 : Hid (∀ W, SA b off wr W → Calls Try.prog 20 #[t, .agg #[.bool false, .int .u64 0, .int .u64 167772160, .int .i64 8]] W fun e w' => ∃ u, e = .returned u ∧ T.Is w' u [⟨ten16, 6⟩] ∧ SA b off wr w') := Lib.hid fun W h => (T.drop t [⟨ten8, 5⟩, ⟨ten16, 6⟩] ten8 W (T.below ht8 h.2.2.2.2.2) (by decide) ten8_ok).mono fun e w' ⟨u, he, hu, hb⟩ => ⟨u, he, by rw [tens3] at hu; exact hu, IN.out _ (low_trans h.2.2.2.2.2 hb)⟩
  have L4 : Hid (∀ W u, T.Is W u [⟨ten16, 6⟩] → SA b off wr W → Calls Try.prog 13 #[u] W fun e w' => e = .returned (.int .i64 1) ∧ SA b off wr w') := Lib.hid fun W u hu h => (T.len u [⟨ten16, 6⟩] W hu (by decide)).mono fun e w' ⟨he, hb⟩ => ⟨he, IN.out _ (low_trans h.2.2.2.2.2 hb)⟩
  have HT8 := Lib.hid ht8
  clear hc hcc ht8 hb HB7 HT7 HL7 PG
  go_wp2_with fail
  go_region_held3 (fun w' => w'.cell? ⟨b, off, none⟩ = some (.bool false) ∧ w'.cell? ⟨b, off + 1, none⟩ = some (.int .u64 0) ∧ w'.cell? ⟨b, off + 2, none⟩ = some (.int .u64 167772160) ∧ w'.cell? ⟨b, off + 3, none⟩ = some (.int .i64 8) ∧ w'.cell? ⟨b, off + 4, none⟩ = some (.int .i64 5) ∧ Stays wr w')
    (first | assumption | exact JD.out _ ‹_› | exact JA.out _ _ ‹_›)
    (first
      | (go_at_call 20; (with_reducible refine (L3.out _ ‹_›).mono ?_); rintro e w9 ⟨u, rfl, hu, hkw⟩)
      | (go_at_call 13; first | ((with_reducible refine (L1.out _ ‹_›).mono ?_); rintro e w9 ⟨rfl, hkw⟩) | ((with_reducible refine (L4.out _ _ ‹_› ‹_›).mono ?_); rintro e w9 ⟨rfl, hkw⟩))
      | (go_at_call 19; (with_reducible refine (L2.out _ ‹_›).mono ?_); rintro e w9 ⟨rfl, hkw⟩))
  all_goals (go_wp2; go_ret; exact ⟨rfl, low_trans HB8.out (‹SA b off wr _›).2.2.2.2.2⟩)
end Go.Proofs.Ytgnpnmdndlodlaa.Tr
/- Of layer 11, in plain words: a list of subnets put in is sorted, holds just what was put in, and so is one, whatever the order. -/
namespace Go.Proofs.Ytgnpnmdndlodlaa.Tr
set_option maxRecDepth 100000
open Ad Ci
set_option linter.unusedVariables false
def Sorted (l : List Hit) : Prop := l.Pairwise fun x y => cmpN x.n y.n < 0
theorem cut_mem {l : List Hit} {n : Net} {y : Hit} : y ∈ cut l n ↔ y ∈ l ∧ y.n ≠ n := by
  unfold cut
  rw [List.mem_filter]
  constructor
  · rintro ⟨h, g⟩
    refine ⟨h, fun e => ?_⟩
    rw [(sameN_iff _ _).2 e] at g
    simp at g
  · rintro ⟨h, g⟩
    refine ⟨h, ?_⟩
    cases hs : sameN y.n n
    · rfl
    · exact absurd ((sameN_iff _ _).1 hs) g
theorem cut_sorted {l : List Hit} (h : Sorted l) (n : Net) : Sorted (cut l n) := List.Pairwise.sublist List.filter_sublist h
theorem putIn_mem {n : Net} {v : Int} {y : Hit} : ∀ {l : List Hit}, y ∈ putIn n v l ↔ y = ⟨n, v⟩ ∨ y ∈ l
  | [] => by simp [putIn]
  | x :: l => by
    unfold putIn
    split
    · simp
    · rw [List.mem_cons, putIn_mem (l := l), List.mem_cons]
      constructor
      · rintro (h | h | h)
        · exact Or.inr (Or.inl h)
        · exact Or.inl h
        · exact Or.inr (Or.inr h)
      · rintro (h | h | h)
        · exact Or.inr (Or.inl h)
        · exact Or.inl h
        · exact Or.inr (Or.inr h)
theorem cmpN_over {m n : Net} (h : m ≠ n) (hl : ¬ cmpN m n < 0) : cmpN n m < 0 := by
  have h0 : cmpN m n ≠ 0 := fun e => h ((cmpN_zero m n).1 e)
  have := cmpN_flip m n
  omega
theorem putIn_sorted {n : Net} {v : Int} : ∀ {l : List Hit}, Sorted l → (∀ x ∈ l, x.n ≠ n) → Sorted (putIn n v l)
  | [], _, _ => by unfold putIn Sorted; simp
  | x :: l, h, hn => by
    unfold Sorted at h
    rw [List.pairwise_cons] at h
    unfold putIn
    split
    · rename_i hlt
      unfold Sorted
      rw [List.pairwise_cons, List.pairwise_cons]
      refine ⟨fun y hy => ?_, h⟩
      rcases List.mem_cons.1 hy with rfl | hy
      · exact hlt
      · exact cmpN_less hlt (h.1 y hy)
    · rename_i hlt
      unfold Sorted
      rw [List.pairwise_cons]
      refine ⟨fun y hy => ?_, putIn_sorted (l := l) h.2 (fun z hz => hn z (by simp [hz]))⟩
      rcases putIn_mem.1 hy with rfl | hy
      · exact cmpN_over (fun e => hn x (by simp) e.symm) hlt
      · exact h.1 y hy
theorem withH_sorted {l : List Hit} (h : Sorted l) (n : Net) (v : Int) : Sorted (withH l n v) := by
  unfold withH
  split
  · exact putIn_sorted (cut_sorted h n) fun x hx => (cut_mem.1 hx).2
  · exact h
theorem withH_mem {l : List Hit} {n : Net} {v : Int} {y : Hit} (hl : ∀ x ∈ l, x.n ≠ n) : y ∈ withH l n v ↔ y ∈ l ∨ (y = ⟨n, v⟩ ∧ rightN n = true) := by
  unfold withH
  split
  · rename_i hr
    rw [putIn_mem, cut_mem]
    constructor
    · rintro (h | ⟨h, _⟩)
      · exact Or.inr ⟨h, hr⟩
      · exact Or.inl h
    · rintro (h | ⟨h, _⟩)
      · exact Or.inr ⟨h, hl y h⟩
      · exact Or.inl h
  · rename_i hr
    exact ⟨Or.inl, fun h => h.resolve_right fun g => hr g.2⟩
def fill (l : List Hit) (ac : List Act) : List Hit := ac.foldl (fun l x => withH l x.n x.v) l
theorem fill_snoc (l : List Hit) (ac : List Act) (x : Act) : fill l (ac ++ [x]) = withH (fill l ac) x.n x.v := by unfold fill; rw [List.foldl_append]; rfl
theorem fill_sorted : ∀ (ac : List Act) {l : List Hit}, Sorted l → Sorted (fill l ac)
  | [], _, h => h
  | x :: ac, l, h => by
    have e : fill l (x :: ac) = fill (withH l x.n x.v) ac := rfl
    rw [e]; exact fill_sorted ac (withH_sorted h _ _)
def Unlike (ac : List Act) : Prop := ac.Pairwise fun x y => x.n ≠ y.n
theorem fill_mem {y : Hit} : ∀ (ac : List Act) {l : List Hit}, Unlike ac → (∀ x ∈ l, ∀ z ∈ ac, x.n ≠ z.n) → (y ∈ fill l ac ↔ y ∈ l ∨ ∃ z ∈ ac, y = ⟨z.n, z.v⟩ ∧ rightN z.n = true)
  | [], l, _, _ => by simp [fill]
  | x :: ac, l, hu, hl => by
    unfold Unlike at hu
    rw [List.pairwise_cons] at hu
    have e : fill l (x :: ac) = fill (withH l x.n x.v) ac := rfl
    have hx : ∀ z ∈ l, z.n ≠ x.n := fun z hz => hl z hz x (by simp)
    rw [e, fill_mem ac hu.2 (fun z hz w hw => by
      rcases (withH_mem hx).1 hz with h | ⟨rfl, _⟩
      · exact hl z h w (by simp [hw])
      · exact hu.1 w hw), withH_mem hx]
    constructor
    · rintro ((h | ⟨h, g⟩) | ⟨z, hz, h⟩)
      · exact Or.inl h
      · exact Or.inr ⟨x, by simp, h, g⟩
      · exact Or.inr ⟨z, by simp [hz], h⟩
    · rintro (h | ⟨z, hz, h⟩)
      · exact Or.inl (Or.inl h)
      · rcases List.mem_cons.1 hz with rfl | hz
        · exact Or.inl (Or.inr h)
        · exact Or.inr ⟨z, hz, h⟩
/-- Two sorted lists that hold the same are one. -/
theorem sorted_one : ∀ {a b : List Hit}, Sorted a → Sorted b → (∀ y, y ∈ a ↔ y ∈ b) → a = b
  | [], [], _, _, _ => rfl
  | [], y :: b, _, _, h => absurd ((h y).2 (by simp)) (by simp)
  | x :: a, [], _, _, h => absurd ((h x).1 (by simp)) (by simp)
  | x :: a, y :: b, ha, hb, h => by
    unfold Sorted at ha hb
    rw [List.pairwise_cons] at ha hb
    have self : ∀ z : Hit, ¬ cmpN z.n z.n < 0 := fun z => by rw [(cmpN_zero z.n z.n).2 rfl]; omega
    have e : x = y := by
      rcases List.mem_cons.1 ((h x).1 (by simp)) with e | hx
      · exact e
      · rcases List.mem_cons.1 ((h y).2 (by simp)) with e | hy
        · exact e.symm
        · have h1 := hb.1 x hx
          have h2 := ha.1 y hy
          have := cmpN_flip x.n y.n
          omega
    subst e
    have t : a = b := sorted_one ha.2 hb.2 fun z => by
      constructor
      · intro hz
        rcases List.mem_cons.1 ((h z).1 (by simp [hz])) with rfl | g
        · exact absurd (ha.1 z hz) (self z)
        · exact g
      · intro hz
        rcases List.mem_cons.1 ((h z).2 (by simp [hz])) with rfl | g
        · exact absurd (hb.1 z hz) (self z)
        · exact g
    rw [t]
/-- The statement's other order: from the end, turned by a number. -/
def back (n m i : Nat) : Nat := n - 1 - (i + m) % n
theorem back_lt {n m i : Nat} (h : 0 < n) : back n m i < n := by unfold back; omega
theorem mod_two {x n : Nat} (h : x < n + n) : x % n = if x < n then x else x - n := by
  split
  · exact Nat.mod_eq_of_lt ‹_›
  · rw [Nat.mod_eq_sub_mod (by omega), Nat.mod_eq_of_lt (by omega)]
theorem back_one {n m i j : Nat} (hm : m < n) (hi : i < n) (hj : j < n) (h : back n m i = back n m j) : i = j := by
  unfold back at h
  rw [mod_two (x := i + m) (by omega), mod_two (x := j + m) (by omega)] at h
  split at h <;> split at h <;> omega
theorem back_all {n m j : Nat} (hm : m < n) (hj : j < n) : ∃ i, i < n ∧ back n m i = j := by
  by_cases h : m ≤ n - 1 - j
  · refine ⟨n - 1 - j - m, by omega, ?_⟩
    unfold back
    rw [Nat.mod_eq_of_lt (by omega)]; omega
  · refine ⟨n - 1 - j + n - m, by omega, ?_⟩
    unfold back
    rw [mod_two (by omega), if_neg (by omega)]; omega
/-- The acts in that order, the first k of them. -/
def turnedA (ac : List Act) (m k : Nat) : List Act := (List.range k).filterMap fun i => ac[back ac.length m i]?
theorem turnedA_next (ac : List Act) (m k : Nat) (h : back ac.length m k < ac.length) : turnedA ac m (k + 1) = turnedA ac m k ++ [ac[back ac.length m k]] := by
  unfold turnedA
  rw [List.range_succ, List.filterMap_append]
  congr 1
  simp [List.getElem?_eq_getElem h]
theorem turnedA_mem {ac : List Act} {m : Nat} (hm : m < ac.length) (x : Act) : x ∈ turnedA ac m ac.length ↔ x ∈ ac := by
  unfold turnedA
  rw [List.mem_filterMap]
  constructor
  · rintro ⟨i, _, h⟩
    exact List.mem_of_getElem? h
  · intro h
    obtain ⟨j, hj, rfl⟩ := List.getElem_of_mem h
    obtain ⟨i, hi, e⟩ := back_all hm hj
    exact ⟨i, List.mem_range.2 hi, by rw [e, List.getElem?_eq_getElem hj]⟩
theorem turnedA_unlike {ac : List Act} {m : Nat} (hm : m < ac.length) (h : Unlike ac) : Unlike (turnedA ac m ac.length) := by
  unfold Unlike turnedA
  rw [List.pairwise_filterMap]
  refine List.Pairwise.imp_of_mem (fun {i j} hi hj hij => ?_) List.pairwise_lt_range
  intro x hx y hy
  rw [List.mem_range] at hi hj
  have hne : back ac.length m i ≠ back ac.length m j := fun e => absurd (back_one hm hi hj e) (by omega)
  obtain ⟨h1, rfl⟩ := List.getElem?_eq_some_iff.1 hx
  obtain ⟨h2, rfl⟩ := List.getElem?_eq_some_iff.1 hy
  unfold Unlike at h
  rw [List.pairwise_iff_getElem] at h
  rcases Nat.lt_or_gt_of_ne hne with g | g
  · exact h _ _ h1 h2 g
  · exact fun e => h _ _ h2 h1 g e.symm
/-- Whatever the order, one list. -/
theorem fill_turned {ac : List Act} {m : Nat} (hm : m < ac.length) (h : Unlike ac) : fill [] (turnedA ac m ac.length) = fill [] ac := by
  refine sorted_one (fill_sorted _ (by unfold Sorted; simp)) (fill_sorted _ (by unfold Sorted; simp)) fun y => ?_
  rw [fill_mem _ (turnedA_unlike hm h) (by simp), fill_mem _ h (by simp)]
  constructor
  · rintro (g | ⟨z, hz, g⟩)
    · exact Or.inl g
    · exact Or.inr ⟨z, (turnedA_mem hm z).1 hz, g⟩
  · rintro (g | ⟨z, hz, g⟩)
    · exact Or.inl g
    · exact Or.inr ⟨z, (turnedA_mem hm z).2 hz, g⟩
theorem fill_len : ∀ (ac : List Act) (l : List Hit), (fill l ac).length ≤ l.length + ac.length
  | [], l => by simp [fill]
  | x :: ac, l => by
    have e : fill l (x :: ac) = fill (withH l x.n x.v) ac := rfl
    have := fill_len ac (withH l x.n x.v)
    have := withH_len l x.n x.v
    rw [e, List.length_cons]; omega
theorem turnedA_len (ac : List Act) (m k : Nat) : (turnedA ac m k).length ≤ k := by
  unfold turnedA
  exact Nat.le_trans (List.length_filterMap_le _ _) (by simp)
end Go.Proofs.Ytgnpnmdndlodlaa.Tr
