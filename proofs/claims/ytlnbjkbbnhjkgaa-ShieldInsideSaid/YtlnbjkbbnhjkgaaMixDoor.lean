/- Lists of numbers that came in, and such as are put together by append. -/
import Derived.Test.YtlnbjkbbnhjkgaaMixAll
import Derived.Test.YtlnbjkbbnhjkgaaDoor
import Derived.OwnWalk
import Derived.Laws.OwnMore
import Derived.Below
namespace Go.Proofs.Ytlnbjkbbnhjkgaa
set_option maxRecDepth 100000
open Go.ChangeShapes Go.WideShapes Go.ChangeAt Go.RowKit
section
variable {H : Type} {enc : TypeId × Value → H} {P : Program}
/-- A list of numbers that came in. -/
theorem open_nums {W : World} {t e : TypeId} {v : Value} {d : DataW H} {ps : List MemPlace} {r : Reach} {b0 : Nat} (ht : P.underlying t = some (.slice e)) (he : P.underlying e = some (.int .u64)) (hc : P.cellsOf e = 1)
    (hval : Value.okWide P W r b0 t v) (h : DataW.Trod enc P W 0 (fun _ => true) true t v d ps) : ∃ ls : List Nat, Nums W v ls ∧ ls.length ≤ 9223372036854775807 ∧ ∀ l ∈ ls, l < 18446744073709551616 := by
  obtain ⟨a0, len, cap, rfl⟩ := okWide_slice ht hval
  obtain ⟨fuel, hf⟩ := h
  rcases open_ints ht he hc hf with ⟨hcs, _⟩ | ⟨a, len', cap', zs, hcs, _, hl, hm, hz, _, hcell, hws⟩
  · simp [Value.cells] at hcs
    obtain ⟨rfl, rfl, rfl⟩ := hcs
    exact ⟨[], Nums.nil _, by simp, by simp⟩
  · simp [Value.cells] at hcs
    obtain ⟨rfl, rfl, rfl⟩ := hcs
    simp only [if_true] at hz
    unfold maxLen at hm
    have hlen : ((zs.take len).map Int.toNat).length = len := by rw [List.length_map, List.length_take]; omega
    have hb : ∀ z ∈ zs, 0 ≤ z ∧ z < 18446744073709551616 := fun z hz => by
      have := hws z hz
      obtain ⟨n, rfl, hn⟩ := nat_of_u64 this
      omega
    refine ⟨(zs.take len).map Int.toNat, ⟨some a, cap, by rw [hlen], by rw [hlen]; exact hl, (fun h => by simp at h), fun hp => ?_⟩, by rw [hlen]; omega, fun l hl2 => ?_⟩
    · rw [hlen] at hp
      obtain ⟨b, off, spot⟩ := a
      have hspot : spot = none := by simpa [Addr.add] using World.cell?_spot (hcell 0 (by omega))
      subst hspot
      refine ⟨b, off, rfl, World.block_lt_of_cell? _ _ (hcell 0 (by omega)), fun j hj => ?_⟩
      rw [← add_plain, hcell j (by rw [hlen] at hj; omega)]
      have hj2 : j < zs.length := by rw [hlen] at hj; omega
      rw [List.getElem_map, List.getElem_take, List.getD, List.getElem?_eq_getElem hj2, Option.getD_some, Int.toNat_of_nonneg (hb _ (List.getElem_mem _)).1]
    · obtain ⟨z, hs, rfl⟩ := List.mem_map.1 hl2
      have := hb z (List.mem_of_mem_take hs)
      omega
end
/-- An append whose run is known, for the walk. -/
theorem wpList_append_run {P : Program} {w : World} {ops : Array Oper} {rest : List Oper} {o : Oper} {a : Act} {Q : Exit → Act → World → Prop} (hgd : o.guard = none) (s x : Operand) (t ty : TypeId)
    (ho : o.op = .call { callee := .builtin .append, args := #[s, x], argTypes := #[t, t] }) (hty : o.type = ty) (vs vx v : Value) (w' : World) (hs : a.eval s = vs) (hx : a.eval x = vx)
    (hrun : (Builtin.append_ #[t, t] ty #[vs, vx]).run P w = .ok v w') (h : wpList P ops Q rest (a.put o.dst v) w') : wpList P ops Q (o :: rest) a w := by
  subst hty
  refine wpList_plain hgd fun K hK => ?_
  unfold Oper.wp
  simp [execOp, ho, resolve, invoke, builtin, hs, hx, hrun, Result.andThen]
  exact hK _ _ h
namespace Mi
def ints (l : List Nat) : List Value := l.map fun x => Value.int .u64 (x : Nat)
/-- What a call's own slice holds reads as numbers. -/
theorem nums_own {W : World} {B : Nat} {e : TypeId} {v : Value} {n : Nat} {l : List Nat} (h : W.ownsRow B e 1 v n (ints l)) : Nums W v l ∧ n = l.length := by
  have hn : n = l.length := by have := h.1; simp only [ints, List.length_map, Nat.mul_one] at this; exact this.symm
  refine ⟨?_, hn⟩
  rcases h.2 with ⟨rfl, h0⟩ | ⟨g, cap, cur, rfl, hb, hg, h1, h2, h3, h4⟩
  · obtain rfl : l = [] := List.eq_nil_of_length_eq_zero (by omega)
    exact Nums.nil W
  · refine ⟨some ⟨g, 0, none⟩, cap, by rw [hn], by rw [← hn]; exact h1, (fun h => by simp at h), fun _ => ⟨g, 0, rfl, (Array.getElem?_eq_some_iff.1 hg).1, fun j hj => ?_⟩⟩
    have := h.cells (g := g) rfl j (.int .u64 (l[j] : Nat)) (by rw [ints, List.getElem?_map, List.getElem?_eq_getElem hj]; rfl)
    rwa [add_plain] at this
/-- Numbers put behind numbers. -/
theorem append_nums (B : Nat) (W : World) (v : Value) (xs : List Nat) (hown : W.ownsRow B 25 1 v xs.length (ints xs)) (x : Value) (ys : List Nat) (hy : Nums W x ys) (hlen : xs.length + ys.length ≤ 1000000) (hB : B ≤ W.heap.size) :
    ∃ v' w', (Builtin.append_ #[72, 72] 72 #[v, x]).run Try.prog W = .ok v' w' ∧ w'.ownsRow B 25 1 v' (xs ++ ys).length (ints (xs ++ ys)) ∧ Below B W w' := by
  obtain ⟨i, hi, hz0, hz1, hz2⟩ := info_parts (P := Try.prog) (e := 25) (z := .int .u64 0) (size := 1) (bytes := 8) (by kernel_rfl)
  obtain ⟨A, c, rfl, hc, hnil, hcell⟩ := hy
  cases A with
  | none =>
    obtain rfl := hnil rfl
    obtain rfl : ys = [] := List.eq_nil_of_length_eq_zero (by omega)
    have hr := run_append_owned_none (P := Try.prog) (w := W) B 72 72 25 i 1 Try.underlying72 hi v xs.length (ints xs) hown
    refine ⟨v, W, hr, ?_, Below.refl _ _⟩
    rw [List.append_nil]; exact hown
  | some a =>
    obtain ⟨v', w', hr, h2, h3, _⟩ := run_append_own (P := Try.prog) W B 72 72 25 i (.int .u64 0) 1 8 Try.underlying72 hi hz0 hz1 hz2 rfl (by decide) v xs.length (ints xs) hown
      a ys.length c (ints ys) (by simp [ints]) (fun j u hj => by
        rw [ints, List.getElem?_map] at hj
        cases hj2 : ys[j]? with
        | none => rw [hj2] at hj; simp at hj
        | some y =>
          rw [hj2] at hj
          simp at hj
          obtain ⟨hlt, hy⟩ := List.getElem?_eq_some_iff.1 hj2
          obtain ⟨b, o, e, _, hcc⟩ := hcell (by omega)
          obtain rfl : a = ⟨b, o, none⟩ := Option.some.inj e
          rw [add_plain, hcc j hlt, ← hj, hy]) (fun u hu => by
        obtain ⟨y, _, rfl⟩ := List.mem_map.1 hu
        rfl) (by simp only [maxLen]; omega) (by omega) hB
    refine ⟨v', w', hr, ?_, (Below.refl B W).grown h3 hB (fun k hk => (hown.lt k hk).1)⟩
    rw [List.length_append]
    simpa [ints] using h2
/-- A list written out empty, a list put behind it, and one number more: as the statements write a list and its last number. -/
theorem list_last (w : World) (v : Value) (l : List Nat) (a : Nat) (h : Nums w v l) (hl : l.length ≤ 100) :
    ∃ v1 w1 v2 w2, (Builtin.append_ #[72, 72] 72 #[.slice (some ⟨w.heap.size, 0, none⟩) 0 0, v]).run Try.prog (w.alloc (.cells #[] 25)) = .ok v1 w1 ∧
      (Builtin.append_ #[72, 72] 72 #[v1, .slice (some ⟨w1.heap.size, 0, none⟩) 1 1]).run Try.prog (w1.alloc (.cells #[.int .u64 a] 25)) = .ok v2 w2 ∧ Nums w2 v2 (l ++ [a]) ∧ Below w.heap.size w w2 := by
  have b1 : Below w.heap.size w (w.alloc (.cells #[] 25)) := (Below.refl _ _).alloc (Nat.le_refl _) _
  have o1 : (w.alloc (.cells #[] 25)).ownsRow w.heap.size 25 1 (.slice (some ⟨w.heap.size, 0, none⟩) 0 0) ([] : List Nat).length (ints []) := World.ownsRow_made w #[] 0 (Nat.le_refl _) (by simp [maxLen]) rfl
  obtain ⟨v1, w1, r1, p1, q1⟩ := append_nums w.heap.size _ _ [] o1 v l (h.below b1) (by simp; omega) (by simp)
  have b2 : Below w.heap.size w w1 := b1.trans q1
  have b3 : Below w.heap.size w (w1.alloc (.cells #[.int .u64 a] 25)) := b2.alloc b2.size _
  rw [List.nil_append] at p1
  obtain ⟨v2, w2, r2, p2, q2⟩ := append_nums w.heap.size _ _ l (p1.alloc (.cells #[.int .u64 a] 25)) _ [a] (Nums.lit w1 [a] #[.int .u64 a] 25 rfl) (by simp; omega) b3.size
  exact ⟨v1, w1, v2, w2, r1, r2, (nums_own p2).1, b3.trans q2⟩
end Mi
end Go.Proofs.Ytlnbjkbbnhjkgaa
