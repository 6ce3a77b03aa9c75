/- Lists of records in memory: each element lies in k cells, one behind the other. What is put behind them by append. -/
import Derived.Test.YtgnjbbohphoojaaKit
import Derived.OwnWalk
import Derived.Laws.OwnMore
import Derived.Below
import Derived.Laws.CopyOwn
import Derived.Laws.CopyRow
import Derived.Laws.IdiomCopy
import Derived.Deep.RegionLaw
import Derived.ArgAppend
namespace Go.Proofs.Ytgnjbbohphoojaa
set_option maxRecDepth 100000
open Go.ChangeShapes Go.WideShapes Go.ChangeAt Go.RowKit
section
variable {α : Type}
/-- The value v is a slice that reads as these records. -/
def Recs (k : Nat) (enc : α → List Value) (w : World) (v : Value) (xs : List α) : Prop :=
  ∃ A c, v = .slice A xs.length c ∧ xs.length ≤ c ∧ (A = none → c = 0) ∧ (0 < xs.length → ∃ b o, A = some ⟨b, o, none⟩ ∧ b < w.heap.size ∧ ∀ i (h : i < xs.length) j u, (enc xs[i])[j]? = some u → w.cell? ⟨b, o + i * k + j, none⟩ = some u)
theorem Recs.below {k : Nat} {enc : α → List Value} {w w1 : World} {v : Value} {xs : List α} (h : Recs k enc w v xs) (hb : Below w.heap.size w w1) : Recs k enc w1 v xs := by
  obtain ⟨A, c, h1, h2, h0, h3⟩ := h
  refine ⟨A, c, h1, h2, h0, fun hp => ?_⟩
  obtain ⟨b, o, e, hlt, hc⟩ := h3 hp
  exact ⟨b, o, e, Nat.lt_of_lt_of_le hlt hb.size, fun i hi j u hu => (hb.cell (p := ⟨b, o + i * k + j, none⟩) hlt).trans (hc i hi j u hu)⟩
theorem Recs.nil (k : Nat) (enc : α → List Value) (w : World) : Recs k enc w (.slice none 0 0) [] := ⟨none, 0, rfl, Nat.le_refl _, fun _ => rfl, fun h => absurd h (by simp)⟩
def flat (enc : α → List Value) (xs : List α) : List Value := xs.flatMap enc
theorem flat_nil (enc : α → List Value) : flat enc [] = [] := rfl
theorem flat_append (enc : α → List Value) (xs ys : List α) : flat enc (xs ++ ys) = flat enc xs ++ flat enc ys := by unfold flat; rw [List.flatMap_append]
theorem flat_one (enc : α → List Value) (x : α) : flat enc [x] = enc x := by unfold flat; simp
theorem flat_len {k : Nat} {enc : α → List Value} (hk : ∀ x, (enc x).length = k) (xs : List α) : (flat enc xs).length = xs.length * k := by
  induction xs with
  | nil => simp [flat]
  | cons x xs ih =>
    have e : flat enc (x :: xs) = enc x ++ flat enc xs := by unfold flat; rw [List.flatMap_cons]
    rw [e, List.length_append, hk, ih, List.length_cons, Nat.succ_mul]; omega
theorem flat_at {k : Nat} {enc : α → List Value} (hk : ∀ x, (enc x).length = k) : ∀ (xs : List α) (i j : Nat) (h : i < xs.length), j < k → (flat enc xs)[i * k + j]? = (enc xs[i])[j]?
  | [], i, j, h, _ => by simp at h
  | x :: xs, 0, j, h, hj => by
    have e : flat enc (x :: xs) = enc x ++ flat enc xs := by unfold flat; rw [List.flatMap_cons]
    rw [e, Nat.zero_mul, Nat.zero_add, List.getElem?_append_left (by rw [hk]; exact hj)]; rfl
  | x :: xs, i + 1, j, h, hj => by
    have e : flat enc (x :: xs) = enc x ++ flat enc xs := by unfold flat; rw [List.flatMap_cons]
    have h2 : (i + 1) * k + j = k + (i * k + j) := by rw [Nat.succ_mul]; omega
    rw [e, h2, List.getElem?_append_right (by rw [hk]; omega), hk, Nat.add_sub_cancel_left, flat_at hk xs i j (by simp at h; omega) hj]; rfl
/-- What a call's own slice holds reads as records. -/
theorem recs_own {k : Nat} {enc : α → List Value} (hk : ∀ x, (enc x).length = k) (h0 : 0 < k) {W : World} {B : Nat} {e : TypeId} {v : Value} {n : Nat} {xs : List α} (h : W.ownsRow B e k v n (flat enc xs)) : Recs k enc W v xs ∧ n = xs.length := by
  have hn : n = xs.length := by
    have := h.1
    rw [flat_len hk] at this
    exact (Nat.mul_right_cancel h0 this).symm
  refine ⟨?_, hn⟩
  rcases h.2 with ⟨rfl, h0⟩ | ⟨g, cap, cur, rfl, hb, hg, h1, h2, h3, h4⟩
  · obtain rfl : xs = [] := List.eq_nil_of_length_eq_zero (by omega)
    exact Recs.nil k enc W
  · refine ⟨some ⟨g, 0, none⟩, cap, by rw [hn], by rw [← hn]; exact h1, (fun h => by simp at h), fun _ => ⟨g, 0, rfl, (Array.getElem?_eq_some_iff.1 hg).1, fun i hi j u hu => ?_⟩⟩
    have hj : j < k := by have := (List.getElem?_eq_some_iff.1 hu).1; rwa [hk] at this
    have := h.cells (g := g) rfl (i * k + j) u (by rw [flat_at hk xs i j hi hj]; exact hu)
    rw [add_plain] at this
    rwa [Nat.add_assoc]
/-- Records put behind records. -/
theorem append_recs {P : Program} {t e : TypeId} {z : Value} {k bytes : Nat} {enc : α → List Value} (hT : P.underlying t = some (.slice e)) (hI : (P.info? e).map (fun i => (i.zero, i.size, i.bytes)) = some (some z, k, bytes)) (hz : z.cells.size = k) (h0 : 0 < k)
    (hk : ∀ x, (enc x).length = k) (h1 : ∀ x, ∀ u ∈ enc x, u.oneCell' = true) {B : Nat} {W : World} {v : Value} {xs : List α} (hown : W.ownsRow B e k v xs.length (flat enc xs)) {x : Value} {ys : List α} (hy : Recs k enc W x ys)
    (hlen : xs.length + ys.length ≤ 9223372036854775807) (hbytes : (xs.length + ys.length) * bytes ≤ 140737488355328) (hB : B ≤ W.heap.size) :
    ∃ v' w', (Builtin.append_ #[t, t] t #[v, x]).run P W = .ok v' w' ∧ w'.ownsRow B e k v' (xs ++ ys).length (flat enc (xs ++ ys)) ∧ Below B W w' := by
  obtain ⟨i, hi, hz0, hz1, hz2⟩ := info_parts (P := P) hI
  obtain ⟨A, c, rfl, hc, hnil, hcell⟩ := hy
  cases A with
  | none =>
    obtain rfl := hnil rfl
    obtain rfl : ys = [] := List.eq_nil_of_length_eq_zero (by omega)
    have hr := run_append_owned_none (P := P) (w := W) B t t e i k hT hi v xs.length (flat enc xs) hown
    refine ⟨v, W, hr, ?_, Below.refl _ _⟩
    rw [List.append_nil]; exact hown
  | some a =>
    obtain ⟨v', w', hr, h2, h3, _⟩ := run_append_own (P := P) W B t t e i z k bytes hT hi hz0 hz1 hz2 hz h0 v xs.length (flat enc xs) hown
      a ys.length c (flat enc ys) (flat_len hk ys) (fun j u hj => by
        have hlt : j < ys.length * k := by have := (List.getElem?_eq_some_iff.1 hj).1; rwa [flat_len hk] at this
        have hq : j / k < ys.length := (Nat.div_lt_iff_lt_mul h0).2 hlt
        have hjm : j = j / k * k + j % k := by rw [Nat.mul_comm]; exact (Nat.div_add_mod j k).symm
        rw [hjm, flat_at hk ys _ _ hq (Nat.mod_lt _ h0)] at hj
        obtain ⟨b, o, e, _, hcc⟩ := hcell (Nat.lt_of_le_of_lt (Nat.zero_le _) hq)
        obtain rfl : a = ⟨b, o, none⟩ := Option.some.inj e
        rw [add_plain, hjm, ← Nat.add_assoc]
        exact hcc _ hq _ _ hj) (fun u hu => by
        obtain ⟨y, _, hu2⟩ := List.mem_flatMap.1 hu
        exact h1 y u hu2) (by simp only [maxLen]; omega) hbytes hB
    refine ⟨v', w', hr, ?_, (Below.refl B W).grown h3 hB (fun k hk => (hown.lt k hk).1)⟩
    rw [List.length_append, flat_append]
    exact h2
/-- Records that were just written out. -/
theorem Recs.lit {k : Nat} {enc : α → List Value} (hk : ∀ x, (enc x).length = k) (w : World) (xs : List α) (cs : Array Value) (e : TypeId) (h : cs.toList = flat enc xs) : Recs k enc (w.alloc (.cells cs e)) (.slice (some ⟨w.heap.size, 0, none⟩) xs.length xs.length) xs := by
  refine ⟨some ⟨w.heap.size, 0, none⟩, xs.length, rfl, Nat.le_refl _, fun h => by simp at h, fun _ => ⟨w.heap.size, 0, rfl, by simp, fun i hi j u hu => ?_⟩⟩
  have hj : j < k := by have := (List.getElem?_eq_some_iff.1 hu).1; rwa [hk] at this
  rw [cell_of_row _ _ _ _ _ _ (heap_alloc_new w _), Nat.zero_add, ← Array.getElem?_toList, h, flat_at hk xs i j hi hj, hu]
/-- An append whose run is known, for the walk. -/
theorem wpList_append_run {P : Program} {w : World} {ops : Array Oper} {rest : List Oper} {o : Oper} {a : Act} {Q : Exit → Act → World → Prop} (hgd : o.guard = none) (s x : Operand) (t ty : TypeId)
    (ho : o.op = .call { callee := .builtin .append, args := #[s, x], argTypes := #[t, t] }) (hty : o.type = ty) (vs vx v : Value) (w' : World) (hs : a.eval s = vs) (hx : a.eval x = vx)
    (hrun : (Builtin.append_ #[t, t] ty #[vs, vx]).run P w = .ok v w') (h : wpList P ops Q rest (a.put o.dst v) w') : wpList P ops Q (o :: rest) a w := by
  subst hty
  refine wpList_plain hgd fun K hK => ?_
  unfold Oper.wp
  simp [execOp, ho, resolve, invoke, builtin, hs, hx, hrun, Result.andThen]
  exact hK _ _ h
end
end Go.Proofs.Ytgnjbbohphoojaa
/- A block known whole, whose cells are records one behind the other: what copy, clear and append in place do to it; worlds in which one block alone has turned. Of no program. -/
namespace Go.Proofs.Ytgnjbbohphoojaa
set_option maxRecDepth 100000
open Go.ChangeShapes Go.WideShapes Go.ChangeAt Go.RowKit
set_option linter.unusedVariables false
/-- A block whose cells are known and may be written. -/
def Blk (w : World) (b : Nat) (t : TypeId) (vs : List Value) : Prop := w.heap[b]? = some (.cells vs.toArray t (0, 0))
/-- All blocks but one are as they were. -/
structure Bt (g : Nat) (w w' : World) : Prop where
  os : w'.os = w.os
  tape : w'.tape = w.tape
  output : w'.output = w.output
  size : w.heap.size ≤ w'.heap.size
  block : ∀ k, k ≠ g → k < w.heap.size → w'.heap[k]? = w.heap[k]?
section
variable {α : Type}
theorem Blk.lt {w : World} {b : Nat} {t : TypeId} {vs : List Value} (h : Blk w b t vs) : b < w.heap.size := lt_of_block h
theorem Blk.cell {w : World} {b : Nat} {t : TypeId} {vs : List Value} (h : Blk w b t vs) {j : Nat} {v : Value} (hj : vs[j]? = some v) : w.cell? ⟨b, j, none⟩ = some v := by
  rw [cell_of_row _ _ _ _ _ _ h]; simpa using hj
theorem Blk.free {w : World} {b : Nat} {t : TypeId} {vs : List Value} (h : Blk w b t vs) (j : Nat) : w.frozen? ⟨b, j, none⟩ = false := by
  unfold Blk at h
  simp [World.frozen?, h]
theorem Blk.set {w : World} {b : Nat} {t : TypeId} {vs : List Value} (h : Blk w b t vs) (j : Nat) (u : Value) : Blk (w.setCell ⟨b, j, none⟩ u) b t (vs.set j u) := by
  have := heap_setCell_same w b j vs.toArray t u h
  unfold Blk
  rw [this]; simp
theorem Blk.new (w : World) (cs : Array Value) (t : TypeId) : Blk (w.alloc (.cells cs t)) w.heap.size t cs.toList := by
  unfold Blk
  rw [heap_alloc_new]
theorem Blk.on {w w' : World} {b : Nat} {t : TypeId} {vs : List Value} (h : Blk w b t vs) (k : Below w.heap.size w w') : Blk w' b t vs := (k.block b h.lt).trans h
theorem Blk.but {w w' : World} {b g : Nat} {t : TypeId} {vs : List Value} (h : Blk w b t vs) (k : Bt g w w') (hb : b ≠ g) : Blk w' b t vs := (k.block b hb h.lt).trans h
theorem Blk.shape {w : World} {b : Nat} {t : TypeId} {vs : List Value} (h : Blk w b t vs) : w.shape? b = some (t, vs.length) := by
  unfold Blk at h
  simp [World.shape?, h]
theorem Bt.refl (g : Nat) (w : World) : Bt g w w := ⟨rfl, rfl, rfl, Nat.le_refl _, fun _ _ _ => rfl⟩
theorem Bt.trans {g : Nat} {a b c : World} (h : Bt g a b) (k : Bt g b c) : Bt g a c :=
  ⟨k.os.trans h.os, k.tape.trans h.tape, k.output.trans h.output, Nat.le_trans h.size k.size, fun i hi hl => (k.block i hi (Nat.lt_of_lt_of_le hl h.size)).trans (h.block i hi hl)⟩
theorem Bt.of {g : Nat} {a b : World} (h : Below a.heap.size a b) : Bt g a b := ⟨h.os, h.tape, h.output, h.size, fun k _ hl => h.block k hl⟩
theorem Bt.low {g : Nat} {a b : World} (h : Bt g a b) {B : Nat} (hB : B ≤ g) (hs : B ≤ a.heap.size) : Below B a b := ⟨h.os, h.tape, h.output, h.size, fun k hk => h.block k (by omega) (by omega)⟩
theorem Bt.below {g B : Nat} {w0 a b : World} (h : Below B w0 a) (k : Bt g a b) (hB : B ≤ g) (hs : B ≤ a.heap.size) : Below B w0 b := h.trans (k.low hB hs)
theorem Bt.setRow (w : World) (g : Nat) (cs : Array Value) : Bt g w (w.setRow g cs) := ⟨rfl, rfl, rfl, by simp [World.setRow], fun k hk _ => setRow_other w g k cs hk⟩
theorem Bt.setCell (w : World) (g j : Nat) (u : Value) : Bt g w (w.setCell ⟨g, j, none⟩ u) :=
  ⟨rfl, rfl, rfl, by simp [World.setCell], fun k hk _ => Below.heap_setCell _ _ _ _ (by simpa using hk)⟩
theorem Bt.drewN {g : Nat} {a b : World} (h : Bt g a b) (n : Nat) : Bt g a (b.drewN n) := ⟨h.os, h.tape, h.output, h.size, h.block⟩
theorem Bt.alloc {g : Nat} {a b : World} (h : Bt g a b) (o : Obj) : Bt g a (b.alloc o) := h.trans (Bt.of ((Below.refl _ _).alloc (Nat.le_refl _) o))
theorem Blk.drewN {w : World} {b : Nat} {t : TypeId} {vs : List Value} (h : Blk w b t vs) (n : Nat) : Blk (w.drewN n) b t vs := h
theorem Blk.drew {w : World} {b : Nat} {t : TypeId} {vs : List Value} (h : Blk w b t vs) : Blk w.drew b t vs := h
theorem Blk.alloc {w : World} {b : Nat} {t : TypeId} {vs : List Value} (h : Blk w b t vs) (o : Obj) : Blk (w.alloc o) b t vs := h.on ((Below.refl _ _).alloc (Nat.le_refl _) o)
theorem setCells_blk (b : Nat) (t : TypeId) : ∀ (vs : List Value) (o : Nat) (w : World) (cur : List Value), Blk w b t cur → o + vs.length ≤ cur.length → Blk (w.setCells b o vs) b t (splice cur o vs) ∧ Bt b w (w.setCells b o vs)
  | [], o, w, cur, h, _ => ⟨by simpa [World.setCells, splice] using h, Bt.refl _ _⟩
  | v :: r, o, w, cur, h, hl => by
    obtain ⟨h1, h2⟩ := setCells_blk b t r (o + 1) (w.setCell ⟨b, o, none⟩ v) (cur.set o v) (h.set o v) (by simp at hl ⊢; omega)
    refine ⟨?_, (Bt.setCell w b o v).trans h2⟩
    rw [World.setCells]
    have e := list_seg_step cur o v r (by simp at hl ⊢; omega)
    have e2 : splice (cur.set o v) (o + 1) r = splice cur o (v :: r) := by
      unfold splice
      rw [← List.append_assoc, e, List.append_assoc, List.length_cons]
    rwa [e2] at h1
/-! Records, one behind the other. -/
theorem flat_take {k : Nat} {enc : α → List Value} (hk : ∀ x, (enc x).length = k) : ∀ (xs : List α) (i : Nat), (flat enc xs).take (i * k) = flat enc (xs.take i)
  | [], i => by simp [flat]
  | x :: xs, 0 => by simp [flat]
  | x :: xs, i + 1 => by
    have e : flat enc (x :: xs) = enc x ++ flat enc xs := by unfold flat; rw [List.flatMap_cons]
    have e2 : flat enc (x :: xs.take i) = enc x ++ flat enc (xs.take i) := by unfold flat; rw [List.flatMap_cons]
    rw [e, List.take_succ_cons, e2, ← flat_take hk xs i, Nat.succ_mul, Nat.add_comm, List.take_append, hk x, Nat.add_sub_cancel_left, List.take_of_length_le (by rw [hk]; omega)]
theorem flat_drop {k : Nat} {enc : α → List Value} (hk : ∀ x, (enc x).length = k) : ∀ (xs : List α) (i : Nat), (flat enc xs).drop (i * k) = flat enc (xs.drop i)
  | [], i => by simp [flat]
  | x :: xs, 0 => by simp [flat]
  | x :: xs, i + 1 => by
    have e : flat enc (x :: xs) = enc x ++ flat enc xs := by unfold flat; rw [List.flatMap_cons]
    rw [e, List.drop_succ_cons, ← flat_drop hk xs i, Nat.succ_mul, Nat.add_comm, List.drop_append, hk x, Nat.add_sub_cancel_left, List.drop_of_length_le (by rw [hk]; omega), List.nil_append]
theorem flat_splice {k : Nat} {enc : α → List Value} (hk : ∀ x, (enc x).length = k) (D : List α) (i : Nat) (E : List α) : splice (flat enc D) (i * k) (flat enc E) = flat enc (splice D i E) := by
  unfold splice
  rw [flat_take hk, flat_len hk, ← Nat.add_mul, flat_drop hk, flat_append, flat_append]
/-- What a block's records read as. -/
theorem Blk.recs {k : Nat} {enc : α → List Value} (hk : ∀ x, (enc x).length = k) {w : World} {b : Nat} {t : TypeId} {D xs : List α} {m cap : Nat} (h : Blk w b t (flat enc D)) (hx : D.take m = xs) (hm : m ≤ D.length) (hc : m ≤ cap) : Recs k enc w (.slice (some ⟨b, 0, none⟩) m cap) xs := by
  subst hx
  have hl : (D.take m).length = m := by rw [List.length_take]; omega
  refine ⟨some ⟨b, 0, none⟩, cap, by rw [hl], by rw [hl]; exact hc, fun h => by simp at h, fun _ => ⟨b, 0, rfl, h.lt, fun i hi j u hu => ?_⟩⟩
  have hj : j < k := by have := (List.getElem?_eq_some_iff.1 hu).1; rwa [hk] at this
  have hi2 : i < D.length := by rw [hl] at hi; omega
  rw [Nat.zero_add]
  refine h.cell ?_
  rw [flat_at hk D i j hi2 hj, ← hu, List.getElem_take]
theorem Blk.at {k : Nat} {enc : α → List Value} (hk : ∀ x, (enc x).length = k) {w : World} {b : Nat} {t : TypeId} {D : List α} (h : Blk w b t (flat enc D)) {i j : Nat} {v : Value} (hi : i < D.length) (hv : (enc D[i])[j]? = some v) : w.cell? ⟨b, i * k + j, none⟩ = some v := by
  have hj : j < k := by have := (List.getElem?_eq_some_iff.1 hv).1; rwa [hk] at this
  refine h.cell ?_
  rw [flat_at hk D i j hi hj, hv]
end
section
variable {P : Program}
/-- copy(dst, src) of records: as many as the shorter of the two has. -/
theorem run_copy_blk (w : World) (dT sT ty elem : TypeId) (k g o dLen dCap : Nat) (a : Addr) (sLen sCap : Nat) (cur : Array Value) (t : TypeId) (cs : List Value)
    (hu : P.underlying dT = some (.slice elem)) (hs : (P.info? elem).map (·.size) = some k)
    (hg : w.heap[g]? = some (.cells cur t (0, 0))) (hn : cs.length = Nat.min sLen dLen * k)
    (hsrc : ∀ j v, cs[j]? = some v → w.cell? (a.add j) = some v) (hfit : o + cs.length ≤ cur.size) (h1 : ∀ v ∈ cs, v.oneCell' = true) :
    (Builtin.copy_ #[dT, sT] ty #[.slice (some ⟨g, o, none⟩) dLen dCap, .slice (some a) sLen sCap]).run P w =
      .ok (goInt (Nat.min sLen dLen)) (w.setRow g (cur.toList.take o ++ cs ++ cur.toList.drop (o + cs.length)).toArray) := by
  have hl := run_loadCells_list (P := P) w a cs hsrc
  have hst := run_storeCells_at P g o t cs 0 cur w hg (by simpa using hfit) h1
  cases hq : P.info? elem with
  | none => simp [hq] at hs
  | some i =>
    have hi : i.size = k := by simpa [hq] using hs
    simp [Builtin.copy_, run_underlying hu, Builtin.lenOf, Builtin.firstCells, sizeOf, typeInfo, hq, hi, ← hn, hl, hst]
theorem run_copy_blk0 (w : World) (dT sT ty elem : TypeId) (d a : Option Addr) (dLen dCap sLen sCap : Nat) (hu : P.underlying dT = some (.slice elem)) (hs : ((P.info? elem).map (·.size)).isSome = true) (hn : Nat.min sLen dLen = 0) :
    (Builtin.copy_ #[dT, sT] ty #[.slice d dLen dCap, .slice a sLen sCap]).run P w = .ok (goInt 0) w := by
  cases hq : P.info? elem with
  | none => simp [hq] at hs
  | some i =>
    have hl : ∀ (x : Addr), (loadCells x 0).run P w = .ok #[] w := fun x => by simpa using run_loadCells_list (P := P) w x [] (by simp)
    cases d <;> cases a <;> simp [Builtin.copy_, run_underlying hu, Builtin.lenOf, Builtin.firstCells, sizeOf, typeInfo, hq, hn, storeCells, hl]
/-- One statement for both: the place and the cells are given; only where a cell goes over must there be addresses. -/
theorem run_copy_any (w : World) (dT sT ty elem : TypeId) (k : Nat) (hk : 0 < k) (hu : P.underlying dT = some (.slice elem)) (hs : (P.info? elem).map (·.size) = some k)
    (dp sp : Option Addr) (dLen dCap sLen sCap g off : Nat) (cur : List Value) (t : TypeId) (hg : Blk w g t cur) (cs : List Value) (hn : cs.length = Nat.min sLen dLen * k)
    (hpos : 0 < cs.length → dp = some ⟨g, off, none⟩ ∧ ∃ ad, sp = some ad ∧ ∀ j v, cs[j]? = some v → w.cell? (ad.add j) = some v)
    (hfit : off + cs.length ≤ cur.length) (h1 : ∀ v ∈ cs, v.oneCell' = true) :
    ∃ w', (Builtin.copy_ #[dT, sT] ty #[.slice dp dLen dCap, .slice sp sLen sCap]).run P w = .ok (goInt (Nat.min sLen dLen)) w' ∧ Blk w' g t (splice cur off cs) ∧ Bt g w w' := by
  by_cases h0 : cs.length = 0
  · obtain rfl : cs = [] := List.eq_nil_of_length_eq_zero h0
    have h00 : Nat.min sLen dLen = 0 := by
      rcases Nat.mul_eq_zero.1 (hn.symm.trans h0) with h | h
      · exact h
      · omega
    refine ⟨w, ?_, ?_, Bt.refl _ _⟩
    · rw [h00]; exact run_copy_blk0 w dT sT ty elem dp sp dLen dCap sLen sCap hu (by cases hq : P.info? elem <;> simp [hq] at hs ⊢) h00
    · simpa [splice] using hg
  · obtain ⟨rfl, ad, rfl, hsrc⟩ := hpos (by omega)
    refine ⟨_, run_copy_blk w dT sT ty elem k g off dLen dCap ad sLen sCap cur.toArray t cs hu hs hg hn hsrc (by simpa using hfit) h1, ?_, Bt.setRow _ _ _⟩
    unfold Blk
    rw [setRow_heap w g _ _ t _ hg]
    simp [splice]
/-- clear(s) of records. -/
theorem run_clear_blk (w : World) (t e ty T : TypeId) (z : Value) (k : Nat) (ht : P.underlying t = some (.slice e)) (hv : ∀ w, (zeroValue e).run P w = .ok z w) (hz : z.cells.size = k) (h1 : ∀ u ∈ z.cells, u.oneCell' = true) (hk : 0 < k)
    (g o n c : Nat) (hn : 0 < n) (cur : List Value) (hg : Blk w g T cur) (hfit : o + n * k ≤ cur.length) :
    ∃ (w' : World) (zs : List Value), (Builtin.clear_ #[t] ty #[.slice (some ⟨g, o, none⟩) n c]).run P w = .ok (.tuple #[]) w' ∧ zs.length = n * k ∧ Blk w' g T (splice cur o zs) ∧ Bt g w w' := by
  have hlen : (Builtin.zeroCells z.cells n).toList.length = n * k := by simp [Builtin.zeroCells, hz]
  have hone : ∀ v ∈ (Builtin.zeroCells z.cells n).toList, v.oneCell' = true := fun v hv2 => by
    simp only [Builtin.zeroCells, Array.toList_map, List.mem_map] at hv2
    obtain ⟨i, _, rfl⟩ := hv2
    have hi : i % z.cells.size < z.cells.size := Nat.mod_lt _ (by omega)
    rw [getElem!_pos z.cells _ hi]
    exact h1 _ (Array.getElem_mem hi)
  have hst := run_storeCells_at P g o T (Builtin.zeroCells z.cells n).toList 0 cur.toArray w hg (by rw [hlen]; simpa using hfit) hone
  obtain ⟨m, rfl⟩ : ∃ m, n = m + 1 := ⟨n - 1, by omega⟩
  refine ⟨_, (Builtin.zeroCells z.cells (m + 1)).toList, by simp [Builtin.clear_, run_underlying ht, hv, hst]; rfl, hlen, ?_, Bt.setRow _ _ _⟩
  unfold Blk
  rw [setRow_heap w g _ _ T _ hg]
  simp [splice]
/-- A copy whose run is known, for the walk and for a region that draws. -/
theorem wpList_copy_run {w : World} {ops : Array Oper} {rest : List Oper} {o : Oper} {a : Act} {Q : Exit → Act → World → Prop} (hgd : o.guard = none) (d s : Operand) (t t' ty : TypeId)
    (ho : o.op = .call { callee := .builtin .copy, args := #[d, s], argTypes := #[t, t'] }) (hty : o.type = ty) (v u v' : Value) (w' : World) (hd : a.eval d = v) (hs : a.eval s = u)
    (hr : (Builtin.copy_ #[t, t'] ty #[v, u]).run P w = .ok v' w') (h : wpList P ops Q rest (a.put o.dst v') w') : wpList P ops Q (o :: rest) a w := by
  subst hty
  refine wpList_plain hgd fun K hK => ?_
  unfold Oper.wp
  simp [execOp, ho, resolve, invoke, builtin, hd, hs, hr, Result.andThen]
  exact hK _ _ h
theorem step_copy_run {ops : Array Oper} {o : Oper} {a : Act} {w : World} {K : Act → World → Prop} {Q : Exit → Act → World → Prop} {E : Prop} (hg : o.guard = none) (d s : Operand) (t t' ty : TypeId)
    (ho : o.op = .call { callee := .builtin .copy, args := #[d, s], argTypes := #[t, t'] }) (hty : o.type = ty) (v u v' : Value) (w' : World) (hd : a.eval d = v) (hs : a.eval s = u)
    (hr : (Builtin.copy_ #[t, t'] ty #[v, u]).run P w = .ok v' w') (hK : K (a.put o.dst v') w') : if Region.wanted o (yielded ops a.tmps) = true then Oper.wp P o a w K Q else E := by
  have hw : Region.wanted o (yielded ops a.tmps) = true := by simp [Region.wanted, hg]
  rw [if_pos hw]
  subst hty
  unfold Oper.wp
  simp [execOp, ho, resolve, invoke, builtin, hd, hs, hr, Result.andThen]
  exact hK
theorem step_append_blk {ops : Array Oper} {o : Oper} {a : Act} {w : World} {K : Act → World → Prop} {Q : Exit → Act → World → Prop} {E : Prop} (hg : o.guard = none) (s x : Operand) (t ty : TypeId)
    (ho : o.op = .call { callee := .builtin .append, args := #[s, x], argTypes := #[t, t] }) (hty : o.type = ty) (vs vx v : Value) (w' : World) (hs : a.eval s = vs) (hx : a.eval x = vx)
    (hrun : (Builtin.append_ #[t, t] ty #[vs, vx]).run P w = .ok v w') (hK : K (a.put o.dst v) w') : if Region.wanted o (yielded ops a.tmps) = true then Oper.wp P o a w K Q else E := by
  have hw : Region.wanted o (yielded ops a.tmps) = true := by simp [Region.wanted, hg]
  rw [if_pos hw]
  subst hty
  unfold Oper.wp
  simp [execOp, ho, resolve, invoke, builtin, hs, hx, hrun, Result.andThen]
  exact hK
/-- An append of which is known what comes of it. -/
theorem step_append_ex {ops : Array Oper} {o : Oper} {a : Act} {w : World} {K : Act → World → Prop} {Q : Exit → Act → World → Prop} {E : Prop} {Pst : Value → World → Prop} (hg : o.guard = none) (s x : Operand) (t ty : TypeId)
    (ho : o.op = .call { callee := .builtin .append, args := #[s, x], argTypes := #[t, t] }) (hty : o.type = ty) (vs vx : Value) (hs : a.eval s = vs) (hx : a.eval x = vx)
    (hrun : ∃ v w', (Builtin.append_ #[t, t] ty #[vs, vx]).run P w = .ok v w' ∧ Pst v w') (hK : ∀ v w', Pst v w' → K (a.put o.dst v) w') : if Region.wanted o (yielded ops a.tmps) = true then Oper.wp P o a w K Q else E := by
  obtain ⟨v, w', h1, h2⟩ := hrun
  exact step_append_blk hg s x t ty ho hty vs vx v w' hs hx h1 (hK v w' h2)
theorem wpList_append_ex {w : World} {ops : Array Oper} {rest : List Oper} {o : Oper} {a : Act} {Q : Exit → Act → World → Prop} {Pst : Value → World → Prop} (hgd : o.guard = none) (s x : Operand) (t ty : TypeId)
    (ho : o.op = .call { callee := .builtin .append, args := #[s, x], argTypes := #[t, t] }) (hty : o.type = ty) (vs vx : Value) (hs : a.eval s = vs) (hx : a.eval x = vx)
    (hrun : ∃ v w', (Builtin.append_ #[t, t] ty #[vs, vx]).run P w = .ok v w' ∧ Pst v w') (h : ∀ v w', Pst v w' → wpList P ops Q rest (a.put o.dst v) w') : wpList P ops Q (o :: rest) a w := by
  obtain ⟨v, w', h1, h2⟩ := hrun
  exact wpList_append_run hgd s x t ty ho hty vs vx v w' hs hx h1 (h v w' h2)
/-- Records put behind a part of a block, where there is room. -/
theorem run_append_blk {α : Type} {enc : α → List Value} (t ty e T : TypeId) (k : Nat) (hk : ∀ x, (enc x).length = k) (h1 : ∀ x, ∀ u ∈ enc x, u.oneCell' = true) (i : TypeInfo) (ht : P.underlying t = some (.slice e)) (hi : P.info? e = some i) (hz : i.size = k)
    (g n m cap c : Nat) (a : Addr) (D E : List α) (hm : E.length = m) (hroom : n + m ≤ cap) (hfit : n + m ≤ D.length) (W : World) (hW : Blk W g T (flat enc D)) (hsrc : ∀ j u, (flat enc E)[j]? = some u → W.cell? (a.add j) = some u) :
    ∃ W', (Builtin.append_ #[t, t] ty #[.slice (some ⟨g, 0, none⟩) n cap, .slice (some a) m c]).run P W = .ok (.slice (some ⟨g, 0, none⟩) (n + m) cap) W' ∧ Blk W' g T (flat enc (splice D n E)) ∧ Bt g W W' := by
  subst hz hm
  have hl : (flat enc E).length = E.length * i.size := flat_len hk E
  have hle : n * i.size + E.length * i.size ≤ D.length * i.size := by rw [← Nat.add_mul]; exact Nat.mul_le_mul_right _ hfit
  have hD : (flat enc D).length = D.length * i.size := flat_len hk D
  have hrun := run_append_room_cells (P := P) W t ty e i ht hi g 0 n cap a E.length c (flat enc E) hl hsrc (fun u hu => by
    obtain ⟨y, _, hu2⟩ := List.mem_flatMap.1 hu
    exact h1 y u hu2) hroom (fun j hj => by
      have hlt : 0 + n * i.size + j < (flat enc D).length := by omega
      rw [hW.cell (List.getElem?_eq_getElem hlt)]; rfl) (fun j hj => hW.free _)
  rw [Nat.zero_add] at hrun
  obtain ⟨b1, t1⟩ := setCells_blk g T (flat enc E) (n * i.size) W _ hW (by omega)
  rw [flat_splice hk] at b1
  exact ⟨_, hrun, b1, t1⟩
end
section
variable {α : Type}
/-- What the front of a block reads as. -/
theorem Blk.reads {k : Nat} {enc : α → List Value} (hk : ∀ x, (enc x).length = k) {w : World} {b : Nat} {t : TypeId} {vs : List Value} {xs : List α} {m cap : Nat} (h : Blk w b t vs) (hx : vs.take (m * k) = flat enc xs) (hm : xs.length = m) (hc : m ≤ cap) : Recs k enc w (.slice (some ⟨b, 0, none⟩) m cap) xs := by
  subst hm
  refine ⟨some ⟨b, 0, none⟩, cap, rfl, hc, fun h => by simp at h, fun _ => ⟨b, 0, rfl, h.lt, fun i hi j u hu => ?_⟩⟩
  have hj : j < k := by have := (List.getElem?_eq_some_iff.1 hu).1; rwa [hk] at this
  rw [Nat.zero_add]
  refine h.cell ?_
  have e := flat_at hk xs i j hi hj
  rw [← hx, hu, List.getElem?_take] at e
  split at e
  · exact e
  · cases e
theorem Recs.part {k : Nat} {enc : α → List Value} {w : World} {A : Option Addr} {n c : Nat} {xs : List α} (h : Recs k enc w (.slice A n c) xs) {i : Nat} (hi : i ≤ xs.length) : Recs k enc w (.slice A i c) (xs.take i) := by
  obtain ⟨A1, c1, e, h1, h2, h3⟩ := h
  obtain ⟨rfl, rfl, rfl⟩ : A = A1 ∧ n = xs.length ∧ c = c1 := by simpa using e
  have hl : (xs.take i).length = i := by rw [List.length_take]; omega
  refine ⟨A, c, by rw [hl], by omega, h2, fun hp => ?_⟩
  obtain ⟨b, o, rfl, hb, hc⟩ := h3 (by omega)
  exact ⟨b, o, rfl, hb, fun j hj q u hu => hc j (by omega) q u (by rw [List.getElem_take] at hu; exact hu)⟩
theorem Recs.rest {k : Nat} {enc : α → List Value} {w : World} {b o n c : Nat} {xs : List α} (h : Recs k enc w (.slice (some ⟨b, o, none⟩) n c) xs) {i : Nat} (hi : i ≤ xs.length) : Recs k enc w (.slice (some ⟨b, o + i * k, none⟩) (n - i) (c - i)) (xs.drop i) := by
  obtain ⟨A1, c1, e, h1, h2, h3⟩ := h
  obtain ⟨rfl, rfl, rfl⟩ : (some ⟨b, o, none⟩ : Option Addr) = A1 ∧ n = xs.length ∧ c = c1 := by simpa using e
  refine ⟨_, c - i, by rw [List.length_drop], by rw [List.length_drop]; omega, (fun h => by simp at h), fun hp => ?_⟩
  rw [List.length_drop] at hp
  obtain ⟨b', o', e2, hb, hc⟩ := h3 (by omega)
  obtain ⟨rfl, rfl⟩ : b = b' ∧ o = o' := by simpa using e2
  refine ⟨b, o + i * k, rfl, hb, fun j hj q u hu => ?_⟩
  rw [List.length_drop] at hj
  rw [Nat.add_assoc o, ← Nat.add_mul]
  exact hc (i + j) (by omega) q u (by rw [List.getElem_drop] at hu; exact hu)
theorem Recs.void (k : Nat) (enc : α → List Value) (w : World) (A : Option Addr) {c : Nat} (h : A = none → c = 0) : Recs k enc w (.slice A 0 c) [] := ⟨A, c, rfl, Nat.zero_le _, h, fun h => absurd h (by simp)⟩
theorem Recs.grown {k : Nat} {enc : α → List Value} {w w1 : World} {b o n c : Nat} {xs : List α} {row : Option Nat} (h : Recs k enc w (.slice (some ⟨b, o, none⟩) n c) xs) (hg : w.grownBy w1 row) (hne : some b ≠ row) : Recs k enc w1 (.slice (some ⟨b, o, none⟩) n c) xs := by
  obtain ⟨A1, c1, e, h1, h2, h3⟩ := h
  refine ⟨A1, c1, e, h1, h2, fun hp => ?_⟩
  obtain ⟨b', o', rfl, hb, hc⟩ := h3 hp
  obtain ⟨⟨rfl, rfl⟩, _⟩ : (b = b' ∧ o = o') ∧ _ := by simpa using e
  exact ⟨b, o, rfl, Nat.lt_of_lt_of_le hb hg.size, fun i hi j u hu => hg.cell (hc i hi j u hu) hne⟩
theorem take_splice (L : List α) (i n : Nat) (cs : List α) (h : n ≤ i) (hi : i ≤ L.length) : (splice L i cs).take n = L.take n := by
  unfold splice
  rw [List.take_append_of_le_length (by rw [List.length_take]; omega), List.take_take, Nat.min_eq_left h]
end
end Go.Proofs.Ytgnjbbohphoojaa
