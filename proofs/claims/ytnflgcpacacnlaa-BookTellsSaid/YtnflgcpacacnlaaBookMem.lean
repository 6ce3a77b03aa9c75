/- Entries in memory: put behind each other, stored, compared; slices.Grow, Concat, Clone at entries, walked in the library's own text. -/
import Derived.Test.YtnflgcpacacnlaaBookMath
import Derived.Test.YtnflgcpacacnlaaEntryDoor
import Derived.Test.YtnflgcpacacnlaaEndpDoor
import Derived.Test.YtnflgcpacacnlaaRecsDoor
import Derived.Test.YtnflgcpacacnlaaDoor
import Derived.Test.YtnflgcpacacnlaaBox
import Derived.Deep.CutRange
import Derived.Lib.MinMax
import Derived.Deep.DeepCutAuto
import Derived.Laws.AppendOwn
import Derived.Laws.Cover3
namespace Go.Proofs.Ytnflgcpacacnlaa.Bo
set_option maxRecDepth 100000
open Go.ChangeShapes Go.WideShapes Go.ChangeAt Go.RowKit
open Ad Ci En Sat Bk Et Go.Deep
set_option linter.unusedVariables false
abbrev Books (w : World) (v : Value) (l : List Ey) : Prop := Recs 7 encY w v l
theorem lowT {B : Nat} {a b c : World} (h : Below B a b) (k : Lows b c) (hB : B ≤ a.heap.size := by exact Nat.le_refl _) : Below B a c := h.trans (k.mono (Nat.le_trans hB h.size))
theorem entry_at {w : World} {bb o : Nat} {l : List Ey} {wr : World} (hlow : Below w.heap.size w wr) (hb : bb < w.heap.size) (hcc : ∀ i (h : i < l.length) j u, (encY l[i])[j]? = some u → w.cell? ⟨bb, o + i * 7 + j, none⟩ = some u) {i : Nat} (hi : i < l.length) {j : Nat} {u : Value} (hu : (encY l[i]!)[j]? = some u) : wr.cell? ⟨bb, o + i * 7 + j, none⟩ = some u := by
  rw [getElem!_pos l i hi] at hu
  exact (hlow.cell (p := ⟨bb, o + i * 7 + j, none⟩) hb).trans (hcc i hi j u hu)
theorem encY_len7 (y : Ey) : (encY y).length = 7 := rfl
abbrev OwnY (B : Nat) (w : World) (v : Value) (l : List Ey) : Prop := w.ownsRow B 29 7 v l.length (flat encY l)
theorem encY_one : ∀ x, ∀ u ∈ encY x, u.oneCell' = true := fun x u hu => by
  simp only [encY, List.mem_cons, List.not_mem_nil, or_false] at hu
  rcases hu with rfl | rfl | rfl | rfl | rfl | rfl | rfl <;> rfl
theorem ownY_lit (W : World) {B : Nat} (hB : B ≤ W.heap.size) : OwnY B (W.alloc (.cells #[] 29)) (.slice (some ⟨W.heap.size, 0, none⟩) 0 0) [] := World.ownsRow_made W #[] 0 hB (by simp [maxLen]) rfl
theorem ownY_nil_at {B : Nat} (W : World) (g : Nat) (hg : g = W.heap.size) (hB : B ≤ W.heap.size) : OwnY B (W.alloc (.cells #[] 29)) (.slice (some ⟨g, 0, none⟩) 0 0) [] := by rw [hg]; exact ownY_lit W hB
theorem ownY_drew {B : Nat} {W : World} {v : Value} {l : List Ey} (h : OwnY B W v l) : OwnY B W.drew v l := World.ownsRow.drew h
theorem ownY_alloc {B : Nat} {W : World} {v : Value} {l : List Ey} (h : OwnY B W v l) (o : Obj) : OwnY B (W.alloc o) v l := World.ownsRow.alloc h o
theorem blkN_at (W : World) (g : Nat) {cs : Array Value} {t : TypeId} {L : List Value} (hg : g = W.heap.size) (hL : cs.toList = L) : Blk (W.alloc (.cells cs t)) g t L := by rw [hg, ← hL]; exact Blk.new W cs t
/-- Entries put behind entries: no block but the row's own is touched. -/
theorem append_ys {B : Nat} {W : World} {v x : Value} {xs ys : List Ey} (hown : OwnY B W v xs) (hy : Books W x ys) (hlen : xs.length + ys.length ≤ 1000000) (hB : B ≤ W.heap.size) :
    ∃ v' w', (Builtin.append_ #[22, 22] 22 #[v, x]).run Try.prog W = .ok v' w' ∧ OwnY B w' v' (xs ++ ys) ∧ Below B W w' ∧ ∀ k, k < W.heap.size → some k ≠ v.ownBlock → w'.heap[k]? = W.heap[k]? := by
  obtain ⟨i, hi, hz0, hz1, hz2⟩ := info_parts (P := Try.prog) (e := 29) (z := .agg #[.bool false, .int .u64 0, .int .u64 0, .int .i64 0, .int .i64 0, .int .i64 0, .int .i64 0]) (size := 7) (bytes := 56) (by kernel_rfl)
  obtain ⟨A, c, rfl, hc, hnil, hcell⟩ := hy
  cases A with
  | none =>
    obtain rfl := hnil rfl
    obtain rfl : ys = [] := List.eq_nil_of_length_eq_zero (by omega)
    have hr := run_append_owned_none (P := Try.prog) (w := W) B 22 22 29 i 7 Try.underlying22 hi v xs.length (flat encY xs) hown
    refine ⟨v, W, hr, ?_, Below.refl _ _, fun _ _ _ => rfl⟩
    rw [List.append_nil]; exact hown
  | some a =>
    obtain ⟨v', w', hr, h2, h3, _⟩ := run_append_own (P := Try.prog) W B 22 22 29 i _ 7 56 Try.underlying22 hi hz0 hz1 hz2 rfl (by decide) v xs.length (flat encY xs) hown
      a ys.length c (flat encY ys) (flat_len encY_len7 ys) (fun j u hj => by
        have hlt : j < ys.length * 7 := by have := (List.getElem?_eq_some_iff.1 hj).1; rwa [flat_len encY_len7] at this
        have hq : j / 7 < ys.length := by omega
        have hjm : j = j / 7 * 7 + j % 7 := by omega
        rw [hjm, flat_at encY_len7 ys _ _ hq (Nat.mod_lt _ (by decide))] at hj
        obtain ⟨b, o, e, _, hcc⟩ := hcell (Nat.lt_of_le_of_lt (Nat.zero_le _) hq)
        obtain rfl : a = ⟨b, o, none⟩ := Option.some.inj e
        rw [add_plain, hjm, ← Nat.add_assoc]
        exact hcc _ hq _ _ hj) (fun u hu => by
        obtain ⟨y, _, hu2⟩ := List.mem_flatMap.1 hu
        exact encY_one y u hu2) (by simp only [maxLen]; omega) (by omega) hB
    refine ⟨v', w', hr, ?_, (Below.refl B W).grown h3 hB (fun k hk => (hown.lt k hk).1), fun k h1 h2 => h3.block k h1 h2⟩
    unfold OwnY
    rw [List.length_append, flat_append]
    exact h2
theorem append_entries {B : Nat} {W : World} {v x : Value} {xs ys : List Ey} (hown : OwnY B W v xs) (hy : Books W x ys) (hlen : xs.length + ys.length ≤ 1000000) (hB : B ≤ W.heap.size) :
    ∃ v' w', (Builtin.append_ #[22, 22] 22 #[v, x]).run Try.prog W = .ok v' w' ∧ OwnY B w' v' (xs ++ ys) ∧ Below B W w' := by
  obtain ⟨v', w', h1, h2, h3, _⟩ := append_ys hown hy hlen hB
  exact ⟨v', w', h1, h2, h3⟩
theorem ownY_books {B : Nat} {w : World} {v : Value} {l : List Ey} (h : OwnY B w v l) : Books w v l := (recs_own encY_len7 (by decide) h).1
theorem ownY_blk {B : Nat} {w : World} {v : Value} {l : List Ey} (h : OwnY B w v l) (h0 : 0 < l.length) : ∃ g cap Z, v = .slice (some ⟨g, 0, none⟩) l.length cap ∧ B ≤ g ∧ l.length ≤ cap ∧ Blk w g 29 (flat encY l ++ Z) := by
  obtain ⟨h1, h2⟩ := h
  rcases h2 with ⟨_, h3⟩ | ⟨g, cap, cur, rfl, hB, hg, hn, _, _, ht⟩
  · omega
  · refine ⟨g, cap, cur.toList.drop (l.length * 7), rfl, hB, hn, ?_⟩
    unfold Blk
    rw [hg, ← ht, List.take_append_drop]
theorem spliceZ {α : Type} (A Z vs : List α) (o : Nat) (h : o + vs.length ≤ A.length) : splice (A ++ Z) o vs = splice A o vs ++ Z := by
  unfold splice
  rw [List.take_append_of_le_length (by omega), List.drop_append_of_le_length h]
  simp only [List.append_assoc]
theorem spliceY (D : List Ey) (i : Nat) (x : Ey) (h : i < D.length) : splice D i [x] = D.set i x := by
  unfold splice
  rw [List.set_eq_take_append_cons_drop, if_pos h]
  simp
theorem put_entry {w : World} {g : Nat} {t : TypeId} {D : List Ey} {Z : List Value} (h : Blk w g t (flat encY D ++ Z)) {i : Nat} (hi : i < D.length) (x : Ey) :
    Blk (((((((w.setCell ⟨g, i * 7, none⟩ (.bool x.e.a.v6)).setCell ⟨g, i * 7 + 1, none⟩ (.int .u64 x.e.a.hi)).setCell ⟨g, i * 7 + 2, none⟩ (.int .u64 x.e.a.lo)).setCell ⟨g, i * 7 + 3, none⟩ (.int .i64 x.e.n)).setCell ⟨g, i * 7 + 4, none⟩ (.int .i64 x.st)).setCell ⟨g, i * 7 + 5, none⟩ (.int .i64 x.f)).setCell ⟨g, i * 7 + 6, none⟩ (.int .i64 x.nx)) g t (flat encY (D.set i x) ++ Z) ∧ Bt g w (((((((w.setCell ⟨g, i * 7, none⟩ (.bool x.e.a.v6)).setCell ⟨g, i * 7 + 1, none⟩ (.int .u64 x.e.a.hi)).setCell ⟨g, i * 7 + 2, none⟩ (.int .u64 x.e.a.lo)).setCell ⟨g, i * 7 + 3, none⟩ (.int .i64 x.e.n)).setCell ⟨g, i * 7 + 4, none⟩ (.int .i64 x.st)).setCell ⟨g, i * 7 + 5, none⟩ (.int .i64 x.f)).setCell ⟨g, i * 7 + 6, none⟩ (.int .i64 x.nx)) := by
  have k := setCells_blk g t (encY x) (i * 7) w _ h (by rw [encY_len7, List.length_append, flat_len encY_len7]; omega)
  rw [spliceZ _ _ _ _ (by rw [encY_len7, flat_len encY_len7]; omega), ← flat_one encY x, flat_splice encY_len7, spliceY _ _ _ hi, flat_one] at k
  exact k
theorem cellY {w : World} {g : Nat} {t : TypeId} {D : List Ey} {Z : List Value} (h : Blk w g t (flat encY D ++ Z)) {i j : Nat} {u : Value} (hi : i < D.length) (hu : (encY D[i]!)[j]? = some u) : w.cell? ⟨g, i * 7 + j, none⟩ = some u := by
  have hj : j < 7 := by have := (List.getElem?_eq_some_iff.1 hu).1; rwa [encY_len7] at this
  refine h.cell ?_
  rw [List.getElem?_append_left (by rw [flat_len encY_len7]; omega), flat_at encY_len7 D i j hi hj, ← hu, getElem!_pos D i hi]
theorem readsY {w : World} {g cap : Nat} {t : TypeId} {D : List Ey} {Z : List Value} (h : Blk w g t (flat encY D ++ Z)) (hc : D.length ≤ cap) : Books w (.slice (some ⟨g, 0, none⟩) D.length cap) D :=
  Blk.reads (m := D.length) encY_len7 h (by rw [List.take_left' (flat_len encY_len7 D)]) rfl hc
theorem flat_st : ∀ (D : List Ey) (i : Nat) (s : Int), i < D.length → (flat encY D).set (i * 7 + 4) (.int .i64 s) = flat encY (D.set i (stateY D[i]! s))
  | [], i, s, h => by simp at h
  | d :: D, 0, s, _ => rfl
  | d :: D, i + 1, s, h => by
    have e : ∀ (d : Ey) (D : List Ey), flat encY (d :: D) = encY d ++ flat encY D := fun d D => by unfold flat; rw [List.flatMap_cons]
    have ih := flat_st D i s (by simpa using h)
    rw [List.set_cons_succ, e, e, show (d :: D)[i + 1]! = D[i]! from rfl, ← ih, show (i + 1) * 7 + 4 = 7 + (i * 7 + 4) by omega]
    rw [List.set_append_right _ _ (by rw [encY_len7]; omega), encY_len7, Nat.add_sub_cancel_left]
theorem put_st {w : World} {g : Nat} {t : TypeId} {D : List Ey} {Z : List Value} (h : Blk w g t (flat encY D ++ Z)) {i : Nat} (hi : i < D.length) (s : Int) :
    Blk (w.setCell ⟨g, i * 7 + 4, none⟩ (.int .i64 s)) g t (flat encY (D.set i (stateY D[i]! s)) ++ Z) := by
  have e := h.set (i * 7 + 4) (.int .i64 s)
  rw [List.set_append_left _ _ (by rw [flat_len encY_len7]; omega), flat_st D i s hi] at e
  exact e
theorem neqEntry_self (y : Ey) (w : World) : (binOp .neq 29 (.agg #[.bool y.e.a.v6, .int .u64 y.e.a.hi, .int .u64 y.e.a.lo, .int .i64 y.e.n, .int .i64 y.st, .int .i64 y.f, .int .i64 y.nx]) (.agg #[.bool y.e.a.v6, .int .u64 y.e.a.hi, .int .u64 y.e.a.lo, .int .i64 y.e.n, .int .i64 y.st, .int .i64 y.f, .int .i64 y.nx])).run Try.prog w = .ok (.bool false) w := by
  have h := eqEntry_self y w
  rw [run_eql_struct] at h
  rw [run_neq_struct]
  generalize (Op.equalIn 10000 29 (.agg #[.bool y.e.a.v6, .int .u64 y.e.a.hi, .int .u64 y.e.a.lo, .int .i64 y.e.n, .int .i64 y.st, .int .i64 y.f, .int .i64 y.nx]) (.agg #[.bool y.e.a.v6, .int .u64 y.e.a.hi, .int .u64 y.e.a.lo, .int .i64 y.e.n, .int .i64 y.st, .int .i64 y.f, .int .i64 y.nx])).run Try.prog w = r at h
  cases r with
  | ok x w' =>
    simp only [Result.andThen_ok, Result.ok.injEq, Value.bool.injEq] at h ⊢
    obtain ⟨rfl, rfl⟩ := h
    exact ⟨rfl, rfl⟩
  | halt x w' => cases h
section
variable {P : Program}
/-- 'append(s, make([]T, n)...)' at a nil slice. -/
theorem run_append_zeros (w : World) (t u ty e : TypeId) (i : TypeInfo) (z : Value) (kd : IntKind) (ht : P.underlying t = some (.slice e)) (hu : P.underlying u = some (.int kd)) (hi : P.info? e = some i) (hz : i.zero = some z)
    (n : Nat) (h0 : 0 < n) (hs : 0 < i.size) (h63 : (n : Int) ≤ 9223372036854775807) (h48 : n * i.bytes ≤ 281474976710656) :
    (Builtin.append_ #[t, u] ty #[.slice none 0 0, .int .i64 n]).run P w =
      .ok (.slice (some ⟨w.heap.size, 0, none⟩) n (grownCap w n 0 e)) (w.drew.alloc (.cells (Builtin.zeroCells z.cells n ++ Builtin.zeroCells z.cells (grownCap w n 0 e - n)) e)) := by
  have hn : n ≠ 0 := by omega
  have hw : IntKind.i64.wrap (n : Int) = (n : Int) := by rw [IntKind.wrap_i64]; omega
  have hng : ¬ ((n : Int) < 0) := by omega
  have h48' : ¬ (281474976710656 < Builtin.nextslicecap n 0 * i.bytes) := by rw [nextslicecap_zero h0]; omega
  have h48'' : ¬ (281474976710656 < (n : Int) * (i.bytes : Int)) := by
    have : ((n * i.bytes : Nat) : Int) ≤ 281474976710656 := by omega
    rw [Int.natCast_mul] at this
    omega
  have hm : ¬ (n * i.size = 0) := by
    intro h
    rcases Nat.mul_eq_zero.1 h with h | h <;> omega
  have h63' : ¬ (9223372036854775807 < (n : Int)) := by omega
  have hmx : max (n : Int) 0 = (n : Int) := by omega
  simp [Builtin.append_, run_underlying ht, run_underlying hu, sizeOf, typeInfo, zeroValue, hi, hz, asInt, asIntOf, hw, hng, hn, hm, h48', h48'', h63', hmx, Question.forced, run_firstCells_none, newRow, grownCap]
theorem wpList_append_run2 {w : World} {ops : Array Oper} {rest : List Oper} {o : Oper} {a : Act} {Q : Exit → Act → World → Prop} (hgd : o.guard = none) (s x : Operand) (t u ty : TypeId)
    (ho : o.op = .call { callee := .builtin .append, args := #[s, x], argTypes := #[t, u] }) (hty : o.type = ty) (vs vx v : Value) (w' : World) (hs : a.eval s = vs) (hx : a.eval x = vx)
    (hrun : (Builtin.append_ #[t, u] ty #[vs, vx]).run P w = .ok v w') (h : wpList P ops Q rest (a.put o.dst v) w') : wpList P ops Q (o :: rest) a w := by
  subst hty
  refine wpList_plain hgd fun K hK => ?_
  unfold Oper.wp
  simp [execOp, ho, resolve, invoke, builtin, hs, hx, hrun, Result.andThen]
  exact hK _ _ h
end
set_option maxHeartbeats 4000000 in
theorem growY_any (n : Nat) (w : World) (hn : n ≤ 1000000) :
    Calls Try.prog 36 #[.slice none 0 0, .int .i64 n] w fun e w' => ∃ u, e = .returned u ∧ OwnY w.heap.size w' u [] ∧ Below w.heap.size w w' := by
  by_cases h0 : n = 0
  · subst h0
    rw [show ((0 : Nat) : Int) = 0 from rfl]
    go_enter Try.func36, Try.ntmps36
    go_wp2_with fail
    go_ret
    exact ⟨_, rfl, ⟨rfl, Or.inl ⟨rfl, rfl⟩⟩, Below.refl _ _⟩
  · obtain ⟨i, hi, hz, hsz, hby⟩ := info_parts (P := Try.prog) (e := 29) (z := .agg #[.bool false, .int .u64 0, .int .u64 0, .int .i64 0, .int .i64 0, .int .i64 0, .int .i64 0]) (size := 7) (bytes := 56) (by kernel_rfl)
    have RR := run_append_zeros (P := Try.prog) w 22 3 22 29 i _ .i64 Try.underlying22 Try.underlying3 hi hz n (by omega) (by omega) (by omega) (by rw [hby]; omega)
    have HO : Hid (OwnY w.heap.size (w.drew.alloc (.cells (Builtin.zeroCells (Value.agg #[.bool false, .int .u64 0, .int .u64 0, .int .i64 0, .int .i64 0, .int .i64 0, .int .i64 0]).cells n ++ Builtin.zeroCells (Value.agg #[.bool false, .int .u64 0, .int .u64 0, .int .i64 0, .int .i64 0, .int .i64 0, .int .i64 0]).cells (grownCap w n 0 29 - n)) 29)) (.slice (some ⟨w.heap.size, 0, none⟩) 0 (grownCap w n 0 29)) []) := Lib.hid (by
      have hge := grownCap_ge w n 0 29
      refine World.ownsRow_made w.drew _ _ (Nat.le_refl _) (grownCap_le_maxLen w n 0 _ (by simp only [maxLen]; omega)) ?_
      rw [Array.size_append, size_zeroCells, size_zeroCells, show (Value.cells (.agg #[.bool false, .int .u64 0, .int .u64 0, .int .i64 0, .int .i64 0, .int .i64 0, .int .i64 0])).size = 7 from rfl, ← Nat.add_mul]
      congr 1
      omega)
    have HL : Hid (Below w.heap.size w (w.drew.alloc (.cells (Builtin.zeroCells (Value.agg #[.bool false, .int .u64 0, .int .u64 0, .int .i64 0, .int .i64 0, .int .i64 0, .int .i64 0]).cells n ++ Builtin.zeroCells (Value.agg #[.bool false, .int .u64 0, .int .u64 0, .int .i64 0, .int .i64 0, .int .i64 0, .int .i64 0]).cells (grownCap w n 0 29 - n)) 29))) := Lib.hid ((low_drewN (Below.refl _ _) 1).alloc (Nat.le_refl _) _)
    generalize w.drew.alloc (.cells (Builtin.zeroCells (Value.agg #[.bool false, .int .u64 0, .int .u64 0, .int .i64 0, .int .i64 0, .int .i64 0, .int .i64 0]).cells n ++ Builtin.zeroCells (Value.agg #[.bool false, .int .u64 0, .int .u64 0, .int .i64 0, .int .i64 0, .int .i64 0, .int .i64 0]).cells (grownCap w n 0 29 - n)) 29) = W1 at RR HO HL
    generalize grownCap w n 0 29 = cap at RR HO
    have R1 := Lib.hid RR
    clear RR hi hz hsz hby
    have hng : ¬ ((n : Int) < 0) := by omega
    have hps : (0 : Int) < (n : Int) := by omega
    go_enter Try.func36, Try.ntmps36
    go_wp2_with (first
      | (at_builtin; refine wpList_append_run2 rfl (.tmp 20) (.tmp 21) _ _ _ rfl rfl _ _ _ _ rfl rfl R1.out ?_)
      | fail)
    go_ret
    exact ⟨_, rfl, HO.out, HL.out⟩
set_option maxHeartbeats 4000000 in
/-- slices.Concat: rows put one behind the other, in a row of the call's own. -/
theorem concatY_any (b : Nat) (us : List Value) (Ls : List (List Ey)) (w : World) (hB : Blk w b 22 us) (hul : us.length = Ls.length) (hP : ∀ k (h : k < us.length), Books w us[k] (Ls[k]'(by omega))) (hn : us.length ≤ 1000000) (hl : Ls.flatten.length ≤ 900000) :
    Calls Try.prog 23 #[.slice (some ⟨b, 0, none⟩) us.length us.length] w fun e w' => ∃ u, e = .returned u ∧ OwnY w.heap.size w' u Ls.flatten ∧ Below w.heap.size w w' := by
  have HB := Lib.hid hB
  have HP := Lib.hid hP
  obtain ⟨n, hnn⟩ : ∃ n, n = us.length := ⟨_, rfl⟩
  have HN := Lib.hid hnn
  have HUL := Lib.hid hul
  have HT : Hid (∀ k, k < us.length → (Ls.take (k + 1)).flatten = (Ls.take k).flatten ++ Ls[k]! ∧ ((Ls.take k).flatten.length + (Ls[k]!).length ≤ Ls.flatten.length)) := Lib.hid fun k hk => by
    have e : (Ls.take (k + 1)).flatten = (Ls.take k).flatten ++ Ls[k]! := by
      rw [List.take_succ_eq_append_getElem (by omega), List.flatten_append, getElem!_pos Ls k (by omega)]
      simp
    refine ⟨e, ?_⟩
    have h2 : ((Ls.take (k + 1)).flatten ++ (Ls.drop (k + 1)).flatten).length = Ls.flatten.length := by rw [← List.flatten_append, List.take_append_drop]
    rw [e] at h2
    simp only [List.length_append] at h2
    omega
  have KG := Lib.hid fun W (m : Nat) (hm : m ≤ 1000000) => growY_any m W hm
  rw [← hnn] at hn ⊢
  clear hB hP hnn
  go_enter Try.func23, Try.ntmps23
  go_wp2_with fail
  go_loopw [3, 5, 11] (fun vs _ vk wr => ∃ (k m : Nat), vs = .int .i64 m ∧ vk = .int .i64 k ∧ k ≤ n ∧ m = (Ls.take k).flatten.length ∧ Hid (w = wr)) (fun _ _ vk _ => n - (intOf vk).toNat)
  case atStart => exact ⟨0, 0, rfl, rfl, Nat.zero_le _, rfl, Lib.hid rfl⟩
  case round =>
    obtain ⟨k, m, rfl, rfl, hk, hm, HWr⟩ := hrel
    have hwr := HWr.out
    subst hwr
    by_cases hkn : k < n
    · have hknz : (k : Int) < (n : Int) := by omega
      have hku : k < us.length := by have := HN.out; omega
      obtain ⟨A, c, hu, hc, hnil, _⟩ := HP.out k hku
      have c0 := HB.out.cell (j := k) (List.getElem?_eq_getElem hku)
      rw [hu] at c0
      obtain ⟨hT1, hT2⟩ := HT.out k hku
      have hLk : Ls[k]! = Ls[k]'(by have := HUL.out; omega) := getElem!_pos Ls k _
      obtain ⟨z, hz⟩ : ∃ z, z = (Ls[k]'(by have := HUL.out; omega)).length := ⟨_, rfl⟩
      rw [← hz] at c0
      rw [← hm, hLk, ← hz] at hT2
      have hmz : m + z ≤ 900000 := by omega
      obtain ⟨s, hs⟩ : ∃ s, s = m + z := ⟨_, rfl⟩
      have hw : IntKind.i64.wrap ((m : Int) + (z : Int)) = (s : Int) := by rw [IntKind.wrap_i64]; omega
      have hsz : ¬ ((s : Int) < 0) := by omega
      have HS : Hid (s = (Ls.take (k + 1)).flatten.length) := Lib.hid (by rw [hT1, List.length_append, ← hm, hLk, ← hz]; exact hs)
      clear hs hz hT1 hT2 hLk hm hu hnil hc
      go_wp2_with fail
      go_roundw
      case rel => exact ⟨k + 1, s, rfl, by go_num, by omega, HS.out, by first | exact Lib.hid rfl | exact Lib.hid trivial⟩
      case measure => simp [intOf]; omega
    · have hknz : ¬ (k : Int) < (n : Int) := by omega
      have hml : m ≤ 900000 := by
        rw [hm, List.take_of_length_le (by have := HN.out; have := HUL.out; omega)]; exact hl
      have KG1 := Lib.hid (KG.out w m (by omega))
      clear hm KG
      go_wp2_with fail
      refine KG1.out.mono ?_; rintro e9 w1 ⟨u1, rfl, hO, hb1⟩
      have HO := Lib.hid hO
      have HL := Lib.hid hb1
      clear hO hb1 KG1
      go_wp2_with fail
      go_loopw [6, 8, 27] (fun vs _ vk wq => ∃ (j : Nat), vk = .int .i64 j ∧ j ≤ n ∧ Hid (OwnY w.heap.size wq vs (Ls.take j).flatten) ∧ Hid (Below w.heap.size w wq)) (fun _ _ vk _ => n - (intOf vk).toNat)
      case atStart => exact ⟨0, rfl, Nat.zero_le _, HO, HL⟩
      case round =>
        obtain ⟨j, rfl, hj, HO2, HL2⟩ := hrel
        by_cases hjn : j < n
        · have hjnz : (j : Int) < (n : Int) := by omega
          have hju : j < us.length := by have := HN.out; omega
          have hPj := HP.out j hju
          have c0 := (HB.out.on HL2.out).cell (j := j) (List.getElem?_eq_getElem hju)
          obtain ⟨hT1, hT2⟩ := HT.out j hju
          have hLj : Ls[j]! = Ls[j]'(by have := HUL.out; omega) := getElem!_pos Ls j _
          obtain ⟨v2, w2, R2, O2, b2⟩ := append_entries HO2.out (hPj.below HL2.out) (by rw [← hLj]; omega) HL2.out.size
          obtain ⟨A, c, hu, hc, hnil, _⟩ := hPj
          rw [hu] at c0 R2
          have R1 := Lib.hid R2
          have HO3 : Hid (OwnY w.heap.size w2 v2 (Ls.take (j + 1)).flatten) := Lib.hid (by rw [hT1, hLj]; exact O2)
          have HL3 := Lib.hid (HL2.out.trans b2)
          clear hT1 hT2 hLj R2 O2 b2 hu hc hnil
          go_wp2_with (first
            | (at_builtin; refine wpList_append_run rfl (.tmp 31) (.tmp 32) _ _ rfl rfl _ _ _ _ rfl rfl R1.out ?_)
            | fail)
          go_roundw
          case rel => exact ⟨j + 1, by go_num, by omega, HO3, HL3⟩
          case measure => simp [intOf]; omega
        · have hjnz : ¬ (j : Int) < (n : Int) := by omega
          have HE : Hid ((Ls.take j).flatten = Ls.flatten) := Lib.hid (by rw [List.take_of_length_le (by have := HN.out; have := HUL.out; omega)])
          go_wp2_with fail
          go_ret
          exact ⟨_, rfl, by rw [← HE.out]; exact HO2.out, HL2.out⟩
theorem eql_nilY (a : Option Addr) (l c : Nat) (w : World) : (binOp .eql 22 (.slice a l c) (.slice none 0 0)).run Try.prog w = .ok (.bool a.isNone) w := by
  simp only [binOp]
  simp [run_equal_slice_nil w 22 29 a l c Try.underlying22]
set_option maxHeartbeats 4000000 in
theorem cloneY_any (v : Value) (l : List Ey) (w : World) (h : Books w v l) (hl : l.length ≤ 900000) :
    Calls Try.prog 28 #[v] w fun e w' => ∃ u, e = .returned u ∧ OwnY w.heap.size w' u l ∧ Below w.heap.size w w' := by
  have PW := Lib.hid h
  obtain ⟨A, c, rfl, hc, hnil, hcell⟩ := h
  clear hcell
  cases A with
  | none =>
    obtain rfl := hnil rfl
    have h0 : l = [] := List.eq_nil_of_length_eq_zero (by omega)
    subst h0
    clear hc hnil PW
    have EN := fun W => eql_nilY none 0 0 W
    go_enter Try.func28, Try.ntmps28
    go_wp2_with fail
    go_ret
    exact ⟨_, rfl, ⟨rfl, Or.inl ⟨rfl, rfl⟩⟩, Below.refl _ _⟩
  | some a =>
    obtain ⟨v2, w2, R2, O2, b2⟩ := append_entries (B := w.heap.size) (ownY_lit w (Nat.le_refl _)) (PW.out.below ((Below.refl _ _).alloc (Nat.le_refl _) (.cells #[] 29))) (by simp; omega) (by simp)
    have R1 := Lib.hid R2
    have HP := Lib.hid O2
    have HL : Hid (Below w.heap.size w w2) := Lib.hid (((Below.refl _ _).alloc (Nat.le_refl _) _).trans b2)
    clear R2 O2 b2 PW hnil
    have EN := fun W => eql_nilY (some a) l.length c W
    go_enter Try.func28, Try.ntmps28
    go_wp2_with (first
      | (at_builtin; refine wpList_append_run rfl (.tmp 5) (.tmp 6) _ _ rfl rfl _ _ _ _ rfl rfl R1.out ?_)
      | fail)
    go_ret
    exact ⟨_, rfl, HP.out, HL.out⟩
end Go.Proofs.Ytnflgcpacacnlaa.Bo
