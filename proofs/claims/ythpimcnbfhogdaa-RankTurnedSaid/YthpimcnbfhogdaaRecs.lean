/- Lists of records in memory: each element lies in k cells, one behind the other. What is put behind them by append. -/
import Derived.Test.YthpimcnbfhogdaaKit
import Derived.OwnWalk
import Derived.Laws.OwnMore
import Derived.Below
namespace Go.Proofs.Ythpimcnbfhogdaa
set_option maxRecDepth 100000
open Go.ChangeShapes Go.WideShapes Go.ChangeAt Go.RowKit
section
variable {α : Type}
/-- The value v is a slice that reads as these records. -/
def Recs (k : Nat) (enc : α → List Value) (w : World) (v : Value) (xs : List α) : Prop :=
  ∃ A c, v = .slice A xs.length c ∧ xs.length ≤ c ∧ (A = none → c = 0) ∧ (0 < xs.length → ∃ b o, A = some ⟨b, o, none⟩ ∧ b < w.heap.size ∧ ∀ i (h : i < xs.length) j u, (enc xs[i])[j]? = some u → w.cell? ⟨b, o + i * k + j, none⟩ = some u)
theorem Recs.below {k : Nat} {enc : α → List Value} {w w1 : World} {v : Value} {xs : List α} (h : Recs k enc w v xs) (hb : Below w.heap.size w w1) : Recs k enc w1 v xs := by
  obtain ⟨A, c, h1, h2, h0, h3⟩ := h
  refine ⟨A, c, h1, h2, h0, fun hp => ?_⟩
  obtain ⟨b, o, e, hlt, hc⟩ := h3 hp
  exact ⟨b, o, e, Nat.lt_of_lt_of_le hlt hb.size, fun i hi j u hu => (hb.cell (p := ⟨b, o + i * k + j, none⟩) hlt).trans (hc i hi j u hu)⟩
theorem Recs.nil (k : Nat) (enc : α → List Value) (w : World) : Recs k enc w (.slice none 0 0) [] := ⟨none, 0, rfl, Nat.le_refl _, fun _ => rfl, fun h => absurd h (by simp)⟩
def flat (enc : α → List Value) (xs : List α) : List Value := xs.flatMap enc
theorem flat_nil (enc : α → List Value) : flat enc [] = [] := rfl
theorem flat_append (enc : α → List Value) (xs ys : List α) : flat enc (xs ++ ys) = flat enc xs ++ flat enc ys := by unfold flat; rw [List.flatMap_append]
theorem flat_one (enc : α → List Value) (x : α) : flat enc [x] = enc x := by unfold flat; simp
theorem flat_len {k : Nat} {enc : α → List Value} (hk : ∀ x, (enc x).length = k) (xs : List α) : (flat enc xs).length = xs.length * k := by
  induction xs with
  | nil => simp [flat]
  | cons x xs ih =>
    have e : flat enc (x :: xs) = enc x ++ flat enc xs := by unfold flat; rw [List.flatMap_cons]
    rw [e, List.length_append, hk, ih, List.length_cons, Nat.succ_mul]; omega
theorem flat_at {k : Nat} {enc : α → List Value} (hk : ∀ x, (enc x).length = k) : ∀ (xs : List α) (i j : Nat) (h : i < xs.length), j < k → (flat enc xs)[i * k + j]? = (enc xs[i])[j]?
  | [], i, j, h, _ => by simp at h
  | x :: xs, 0, j, h, hj => by
    have e : flat enc (x :: xs) = enc x ++ flat enc xs := by unfold flat; rw [List.flatMap_cons]
    rw [e, Nat.zero_mul, Nat.zero_add, List.getElem?_append_left (by rw [hk]; exact hj)]; rfl
  | x :: xs, i + 1, j, h, hj => by
    have e : flat enc (x :: xs) = enc x ++ flat enc xs := by unfold flat; rw [List.flatMap_cons]
    have h2 : (i + 1) * k + j = k + (i * k + j) := by rw [Nat.succ_mul]; omega
    rw [e, h2, List.getElem?_append_right (by rw [hk]; omega), hk, Nat.add_sub_cancel_left, flat_at hk xs i j (by simp at h; omega) hj]; rfl
/-- What a call's own slice holds reads as records. -/
theorem recs_own {k : Nat} {enc : α → List Value} (hk : ∀ x, (enc x).length = k) (h0 : 0 < k) {W : World} {B : Nat} {e : TypeId} {v : Value} {n : Nat} {xs : List α} (h : W.ownsRow B e k v n (flat enc xs)) : Recs k enc W v xs ∧ n = xs.length := by
  have hn : n = xs.length := by
    have := h.1
    rw [flat_len hk] at this
    exact (Nat.mul_right_cancel h0 this).symm
  refine ⟨?_, hn⟩
  rcases h.2 with ⟨rfl, h0⟩ | ⟨g, cap, cur, rfl, hb, hg, h1, h2, h3, h4⟩
  · obtain rfl : xs = [] := List.eq_nil_of_length_eq_zero (by omega)
    exact Recs.nil k enc W
  · refine ⟨some ⟨g, 0, none⟩, cap, by rw [hn], by rw [← hn]; exact h1, (fun h => by simp at h), fun _ => ⟨g, 0, rfl, (Array.getElem?_eq_some_iff.1 hg).1, fun i hi j u hu => ?_⟩⟩
    have hj : j < k := by have := (List.getElem?_eq_some_iff.1 hu).1; rwa [hk] at this
    have := h.cells (g := g) rfl (i * k + j) u (by rw [flat_at hk xs i j hi hj]; exact hu)
    rw [add_plain] at this
    rwa [Nat.add_assoc]
/-- Records put behind records. -/
theorem append_recs {P : Program} {t e : TypeId} {z : Value} {k bytes : Nat} {enc : α → List Value} (hT : P.underlying t = some (.slice e)) (hI : (P.info? e).map (fun i => (i.zero, i.size, i.bytes)) = some (some z, k, bytes)) (hz : z.cells.size = k) (h0 : 0 < k)
    (hk : ∀ x, (enc x).length = k) (h1 : ∀ x, ∀ u ∈ enc x, u.oneCell' = true) {B : Nat} {W : World} {v : Value} {xs : List α} (hown : W.ownsRow B e k v xs.length (flat enc xs)) {x : Value} {ys : List α} (hy : Recs k enc W x ys)
    (hlen : xs.length + ys.length ≤ 9223372036854775807) (hbytes : (xs.length + ys.length) * bytes ≤ 140737488355328) (hB : B ≤ W.heap.size) :
    ∃ v' w', (Builtin.append_ #[t, t] t #[v, x]).run P W = .ok v' w' ∧ w'.ownsRow B e k v' (xs ++ ys).length (flat enc (xs ++ ys)) ∧ Below B W w' := by
  obtain ⟨i, hi, hz0, hz1, hz2⟩ := info_parts (P := P) hI
  obtain ⟨A, c, rfl, hc, hnil, hcell⟩ := hy
  cases A with
  | none =>
    obtain rfl := hnil rfl
    obtain rfl : ys = [] := List.eq_nil_of_length_eq_zero (by omega)
    have hr := run_append_owned_none (P := P) (w := W) B t t e i k hT hi v xs.length (flat enc xs) hown
    refine ⟨v, W, hr, ?_, Below.refl _ _⟩
    rw [List.append_nil]; exact hown
  | some a =>
    obtain ⟨v', w', hr, h2, h3, _⟩ := run_append_own (P := P) W B t t e i z k bytes hT hi hz0 hz1 hz2 hz h0 v xs.length (flat enc xs) hown
      a ys.length c (flat enc ys) (flat_len hk ys) (fun j u hj => by
        have hlt : j < ys.length * k := by have := (List.getElem?_eq_some_iff.1 hj).1; rwa [flat_len hk] at this
        have hq : j / k < ys.length := (Nat.div_lt_iff_lt_mul h0).2 hlt
        have hjm : j = j / k * k + j % k := by rw [Nat.mul_comm]; exact (Nat.div_add_mod j k).symm
        rw [hjm, flat_at hk ys _ _ hq (Nat.mod_lt _ h0)] at hj
        obtain ⟨b, o, e, _, hcc⟩ := hcell (Nat.lt_of_le_of_lt (Nat.zero_le _) hq)
        obtain rfl : a = ⟨b, o, none⟩ := Option.some.inj e
        rw [add_plain, hjm, ← Nat.add_assoc]
        exact hcc _ hq _ _ hj) (fun u hu => by
        obtain ⟨y, _, hu2⟩ := List.mem_flatMap.1 hu
        exact h1 y u hu2) (by simp only [maxLen]; omega) hbytes hB
    refine ⟨v', w', hr, ?_, (Below.refl B W).grown h3 hB (fun k hk => (hown.lt k hk).1)⟩
    rw [List.length_append, flat_append]
    exact h2
/-- Records that were just written out. -/
theorem Recs.lit {k : Nat} {enc : α → List Value} (hk : ∀ x, (enc x).length = k) (w : World) (xs : List α) (cs : Array Value) (e : TypeId) (h : cs.toList = flat enc xs) : Recs k enc (w.alloc (.cells cs e)) (.slice (some ⟨w.heap.size, 0, none⟩) xs.length xs.length) xs := by
  refine ⟨some ⟨w.heap.size, 0, none⟩, xs.length, rfl, Nat.le_refl _, fun h => by simp at h, fun _ => ⟨w.heap.size, 0, rfl, by simp, fun i hi j u hu => ?_⟩⟩
  have hj : j < k := by have := (List.getElem?_eq_some_iff.1 hu).1; rwa [hk] at this
  rw [cell_of_row _ _ _ _ _ _ (heap_alloc_new w _), Nat.zero_add, ← Array.getElem?_toList, h, flat_at hk xs i j hi hj, hu]
/-- An append whose run is known, for the walk. -/
theorem wpList_append_run {P : Program} {w : World} {ops : Array Oper} {rest : List Oper} {o : Oper} {a : Act} {Q : Exit → Act → World → Prop} (hgd : o.guard = none) (s x : Operand) (t ty : TypeId)
    (ho : o.op = .call { callee := .builtin .append, args := #[s, x], argTypes := #[t, t] }) (hty : o.type = ty) (vs vx v : Value) (w' : World) (hs : a.eval s = vs) (hx : a.eval x = vx)
    (hrun : (Builtin.append_ #[t, t] ty #[vs, vx]).run P w = .ok v w') (h : wpList P ops Q rest (a.put o.dst v) w') : wpList P ops Q (o :: rest) a w := by
  subst hty
  refine wpList_plain hgd fun K hK => ?_
  unfold Oper.wp
  simp [execOp, ho, resolve, invoke, builtin, hs, hx, hrun, Result.andThen]
  exact hK _ _ h
end
end Go.Proofs.Ythpimcnbfhogdaa
