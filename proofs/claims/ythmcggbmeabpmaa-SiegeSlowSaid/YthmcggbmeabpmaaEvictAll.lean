/- Of layer 21 (evict), in plain words: who came, of whom one would go, whose end is chosen; who is protected is never chosen; one and the same goes, however peers stand. -/
import Derived.Test.YthmcggbmeabpmaaShieldMath
import Derived.Test.YthmcggbmeabpmaaCrowdAll
import Derived.Test.YthmcggbmeabpmaaShieldAll
import Derived.Test.YthmcggbmeabpmaaRef19All
namespace Go.Proofs.Ythmcggbmeabpmaa.Ev
set_option maxRecDepth 100000
set_option linter.unusedVariables false
open Dec Words V4 V6 Ad Ci En Sat Ha Pe Stb Gr Mi Ra Sh Cw
def cameR (l : List Pr) : List Pr := l.filter fun x => x.i
def candR (l : List Pr) (q : Qt) (s : Nat) : List Pr := thoseR (cameR l) (leftR (cameR l) q s)
/-- The end of who is picked; of none, the zero end. -/
def exitR (c : List Pr) : Endp := if c.length = 0 then zeroE else (c[bestR c (c.length - 1)]!).e
section
variable {l m : List Pr} {q : Qt} {s i k : Nat} {b : Int} {S T : Nat → Bool}
theorem came_yes (hi : i < l.length) (h : (l[i]!).i = true) : cameR (l.take (i + 1)) = cameR (l.take i) ++ [l[i]!] := by
  unfold cameR
  rw [List.take_succ_eq_append_getElem hi, List.filter_append, ← getElem!_pos l i hi]
  congr 1
  exact List.filter_cons_of_pos h
theorem came_no (hi : i < l.length) (h : (l[i]!).i = false) : cameR (l.take (i + 1)) = cameR (l.take i) := by
  unfold cameR
  rw [List.take_succ_eq_append_getElem hi, List.filter_append, ← getElem!_pos l i hi]
  rw [show List.filter (fun x : Pr => x.i) [l[i]!] = [] from List.filter_cons_of_neg (by rw [h]; simp), List.append_nil]
theorem came_done (h : l.length ≤ i) : cameR (l.take i) = cameR l := by rw [List.take_of_length_le h]
theorem came_le (l : List Pr) : (cameR l).length ≤ l.length := List.length_filter_le _ _
theorem came_take (l : List Pr) (i : Nat) : (cameR (l.take i)).length ≤ l.length := Nat.le_trans (came_le _) (by rw [List.length_take]; omega)
theorem came_ok (h : ∀ x ∈ l, x.ok) : ∀ x ∈ cameR l, x.ok := fun x hx => h x (List.mem_filter.1 hx).1
theorem came_unlike (h : Unlike l) : Unlike (cameR l) := List.Pairwise.filter _ h
theorem came_perm (h : m.Perm l) : (cameR m).Perm (cameR l) := h.filter _
theorem left_lt {i : Nat} (h : i ∈ leftR l q s) : i < l.length := (rest_mem.1 h).1
theorem left_le (l : List Pr) (q : Qt) (s : Nat) : (leftR l q s).length ≤ l.length := rest_le _ _
theorem cand_length (l : List Pr) (q : Qt) (s : Nat) : (candR l q s).length = (leftR (cameR l) q s).length := those_length _ _
theorem cand_le (l : List Pr) (q : Qt) (s : Nat) : (candR l q s).length ≤ l.length := by
  rw [cand_length]; exact Nat.le_trans (left_le _ _ _) (came_le _)
theorem cand_ok (h : ∀ x ∈ l, x.ok) (q : Qt) (s : Nat) : ∀ x ∈ candR l q s, x.ok := those_ok (came_ok h) fun i hi => left_lt hi
theorem those_yes (h : S i = true) : thoseR l (restR (i + 1) S) = thoseR l (restR i S) := by rw [rest_yes h]
theorem those_no (h : S i = false) : thoseR l (restR (i + 1) S) = thoseR l (restR i S) ++ [l[i]!] := by
  rw [rest_no h]; unfold thoseR; rw [List.map_append]; rfl
/-! One and the same goes, however they stand. -/
theorem perm_at (hp : m.Perm l) {i : Nat} (hi : i < l.length) : ∃ j, j < m.length ∧ m[j]! = l[i]! := by
  have h : l[i]! ∈ m := hp.mem_iff.2 (by rw [getElem!_pos l i hi]; exact List.getElem_mem _)
  obtain ⟨j, hj, e⟩ := List.getElem_of_mem h
  exact ⟨j, hj, by rw [getElem!_pos m j hj]; exact e⟩
/-- Two sets of places, of the same peers. -/
def Ag (l m : List Pr) (S T : Nat → Bool) : Prop := ∀ i j, i < l.length → j < m.length → l[i]! = m[j]! → S i = T j
theorem sortedX (h : Unlike l) (b : Int) (s : Nat) (S : Nat → Bool) : ((ordX l b s S).map fun i : Nat => l[i]!).Pairwise (ltP b s) := by
  rw [List.pairwise_map]
  have hs := ordX_sorted l b s S
  rw [List.pairwise_iff_getElem] at hs ⊢
  intro i j hi hj hij
  have mi := ordX_mem.1 (List.getElem_mem hi)
  have mj := ordX_mem.1 (List.getElem_mem hj)
  exact ltP_of h mi.1 mj.1 (counts_by mi.2.1) (hs i j hi hj hij)
theorem mapX_mem {x : Pr} : x ∈ ((ordX l b s S).map fun i : Nat => l[i]!) ↔ ∃ i, i < l.length ∧ countsR l[i]! b = true ∧ S i = false ∧ l[i]! = x := by
  simp only [List.mem_map, ordX_mem]
  constructor
  · rintro ⟨i, ⟨h1, h2, h3⟩, h4⟩; exact ⟨i, h1, h2, h3, h4⟩
  · rintro ⟨i, h1, h2, h3, h4⟩; exact ⟨i, ⟨h1, h2, h3⟩, h4⟩
theorem ordX_one (hp : m.Perm l) (hl : Unlike l) (hm : Unlike m) (h : Ag l m S T) : ((ordX l b s S).map fun i : Nat => l[i]!) = ((ordX m b s T).map fun i : Nat => m[i]!) := by
  refine sorted_one (ltP_irr b s) (ltP_asy b s) (sortedX hl b s S) (sortedX hm b s T) fun x => ?_
  rw [mapX_mem, mapX_mem]
  constructor
  · rintro ⟨i, h1, h2, h3, rfl⟩
    obtain ⟨j, hj, e⟩ := perm_at hp h1
    exact ⟨j, hj, by rw [e]; exact h2, by rw [← h i j h1 hj e.symm]; exact h3, e⟩
  · rintro ⟨j, h1, h2, h3, rfl⟩
    obtain ⟨i, hi, e⟩ := perm_at hp.symm h1
    exact ⟨i, hi, by rw [e]; exact h2, by rw [h i j hi h1 e]; exact h3, e⟩
theorem take_at (hl : Unlike l) {k i : Nat} (hi : i < l.length) : (i ∈ (ordX l b s S).take k) ↔ l[i]! ∈ ((ordX l b s S).map fun i : Nat => l[i]!).take k := by
  rw [← List.map_take, List.mem_map]
  constructor
  · intro h; exact ⟨i, h, rfl⟩
  · rintro ⟨j, hj, e⟩
    have hjl := (ordX_mem.1 (List.mem_of_mem_take hj)).1
    have := unlike_at hl hjl hi (by rw [e])
    rw [← this]; exact hj
theorem upto_one (hp : m.Perm l) (hl : Unlike l) (hm : Unlike m) (h : Ag l m S T) (k : Nat) : Ag l m (upto S (ordX l b s S) k) (upto T (ordX m b s T) k) := by
  intro i j hi hj e
  unfold upto
  rw [h i j hi hj e]
  congr 1
  rw [decide_eq_decide, take_at hl hi, take_at hm hj, ordX_one hp hl hm h, e]
theorem saved_one (hp : m.Perm l) (hl : Unlike l) (hm : Unlike m) (q : Qt) (s : Nat) : ∀ k, Ag l m (savedR l q s k) (savedR m q s k)
  | 0 => fun i j _ _ _ => rfl
  | k + 1 => upto_one hp hl hm (saved_one hp hl hm q s k) _
theorem unlike_nodup (h : Unlike l) : l.Nodup := List.Pairwise.imp (fun {x y} hn e => hn (by rw [e])) h
theorem perm_unlike (hp : m.Perm l) (h : Unlike l) : Unlike m := (hp.pairwise_iff (fun h e => h e.symm)).2 h
theorem those_unlike (h : Unlike l) (S : Nat → Bool) : Unlike (thoseR l (restR l.length S)) := by
  show List.Pairwise _ ((restR l.length S).map fun i => l[i]!)
  rw [List.pairwise_map]
  refine List.Pairwise.imp_of_mem ?_ (rest_sorted l.length S)
  intro i j hi hj hij e
  have := unlike_at h (rest_mem.1 hi).1 (rest_mem.1 hj).1 e
  omega
theorem those_mem {x : Pr} : x ∈ thoseR l (restR l.length S) ↔ ∃ i, i < l.length ∧ S i = false ∧ l[i]! = x := by
  unfold thoseR
  simp only [List.mem_map, rest_mem]
  constructor
  · rintro ⟨i, ⟨h1, h2⟩, h3⟩; exact ⟨i, h1, h2, h3⟩
  · rintro ⟨i, h1, h2, h3⟩; exact ⟨i, ⟨h1, h2⟩, h3⟩
theorem those_perm (hp : m.Perm l) (hl : Unlike l) (hm : Unlike m) (h : Ag l m S T) : (thoseR m (restR m.length T)).Perm (thoseR l (restR l.length S)) := by
  rw [List.perm_ext_iff_of_nodup (unlike_nodup (those_unlike hm T)) (unlike_nodup (those_unlike hl S))]
  intro x
  rw [those_mem, those_mem]
  constructor
  · rintro ⟨j, h1, h2, rfl⟩
    obtain ⟨i, hi, e⟩ := perm_at hp.symm h1
    exact ⟨i, hi, by rw [h i j hi h1 e]; exact h2, e⟩
  · rintro ⟨i, h1, h2, rfl⟩
    obtain ⟨j, hj, e⟩ := perm_at hp h1
    exact ⟨j, hj, by rw [← h i j h1 hj e.symm]; exact h2, e⟩
theorem cand_perm (hp : m.Perm l) (hl : Unlike l) (q : Qt) (s : Nat) : (candR m q s).Perm (candR l q s) :=
  those_perm (came_perm hp) (came_unlike hl) (came_unlike (perm_unlike hp hl)) (saved_one (came_perm hp) (came_unlike hl) (came_unlike (perm_unlike hp hl)) q s 4)
theorem cand_unlike (h : Unlike l) (q : Qt) (s : Nat) : Unlike (candR l q s) := those_unlike (came_unlike h) _
theorem end_perm (hp : m.Perm l) (hu : Unlike l) : exitR m = exitR l := by
  unfold exitR
  rw [hp.length_eq]
  by_cases h0 : l.length = 0
  · rw [if_pos h0, if_pos h0]
  · rw [if_neg h0, if_neg h0]
    have := pick_turned hp hu (by omega)
    rw [hp.length_eq] at this
    rw [this]
/-- One and the same goes. -/
theorem end_one (hp : m.Perm l) (hu : Unlike l) (q : Qt) (s : Nat) : exitR (candR m q s) = exitR (candR l q s) := end_perm (cand_perm hp hu q s) (cand_unlike hu q s)
theorem length_one (hp : m.Perm l) (hu : Unlike l) (q : Qt) (s : Nat) : (candR m q s).length = (candR l q s).length := (cand_perm hp hu q s).length_eq
/-- Two neighbours, exchanged. -/
def swR2 (l : List Pr) (i : Nat) : List Pr := (l.set i l[i + 1]!).set (i + 1) l[i]!
theorem sw_length (l : List Pr) (i : Nat) : (swR2 l i).length = l.length := by unfold swR2; simp
theorem sw_perm : ∀ (l : List Pr) (i : Nat), i + 1 < l.length → (swR2 l i).Perm l
  | x :: y :: l, 0, _ => List.Perm.swap _ _ _
  | [x], 0, h => by simp at h
  | [], i, h => by simp at h
  | x :: l, i + 1, h => by
    have e : swR2 (x :: l) (i + 1) = x :: swR2 l i := rfl
    rw [e]
    exact (sw_perm l i (by simp at h; omega)).cons x
/-! Who is protected is never chosen. -/
def fndR (c : List Pr) (E : Endp) (i : Nat) : Bool := (List.range i).any fun j => sameE (c[j]!).e E
theorem fnd_zero (c : List Pr) (E : Endp) : fndR c E 0 = false := rfl
theorem fnd_next (c : List Pr) (E : Endp) (i : Nat) : fndR c E (i + 1) = (fndR c E i || sameE (c[i]!).e E) := by
  unfold fndR
  rw [List.range_succ, List.any_append]
  simp
theorem best_at {c : List Pr} (h : 0 < c.length) : bestR c (c.length - 1) < c.length := by
  have := best_le c (c.length - 1)
  omega
theorem end_at (h : 0 < (candR l q s).length) : ∃ i, i < (cameR l).length ∧ savedR (cameR l) q s 4 i = false ∧ (cameR l)[i]!.e = exitR (candR l q s) := by
  have hb := best_at h
  have hb2 : bestR (candR l q s) ((candR l q s).length - 1) < (restR (cameR l).length (savedR (cameR l) q s 4)).length := by
    have := cand_length l q s
    unfold leftR at this
    omega
  have e1 := those_at (l := cameR l) hb2
  have e2 := rest_at hb2
  refine ⟨_, e2.1, e2.2, ?_⟩
  unfold exitR
  rw [if_neg (by omega), ← e1]
  rfl
theorem never (hu : Unlike l) {i : Nat} (hi : i < (cameR l).length) (hc : 0 < (candR l q s).length) (he : (cameR l)[i]!.e = exitR (candR l q s)) : savedR (cameR l) q s 4 i = false ∧ insideR (cameR l) i q s = false := by
  obtain ⟨j, h1, h2, h3⟩ := end_at hc
  obtain rfl := unlike_at (came_unlike hu) hi h1 (he.trans h3.symm)
  refine ⟨h2, ?_⟩
  unfold insideR
  rw [decide_eq_true (by omega), Int.toNat_natCast, Bool.true_and]
  cases h : insR (cameR l) i q s with
  | false => rfl
  | true =>
    have := inside_saved (came_unlike hu) hi h
    rw [h2] at this; cases this
theorem fnd_done (hc : 0 < (candR l q s).length) : fndR (cameR l) (exitR (candR l q s)) (cameR l).length = true := by
  obtain ⟨j, h1, h2, h3⟩ := end_at hc
  unfold fndR
  rw [List.any_eq_true]
  exact ⟨j, List.mem_range.2 h1, (sameE_iff _ _).2 h3⟩
end
/-- Whether all ends are unlike. -/
noncomputable def unlikeB (l : List Pr) : Bool := @decide (Unlike l) (Classical.propDecidable _)
theorem unlikeB_yes {l : List Pr} (h : Unlike l) : unlikeB l = true := by unfold unlikeB; exact @decide_eq_true _ (Classical.propDecidable _) h
theorem unlikeB_no {l : List Pr} (h : ¬ Unlike l) : unlikeB l = false := by unfold unlikeB; exact @decide_eq_false _ (Classical.propDecidable _) h
theorem unlike_yes {l : List Pr} (h : ∀ p q, p < q → q < l.length → (l[p]!).e ≠ (l[q]!).e) : Unlike l := List.pairwise_iff_getElem.2 fun p q hp hq hpq => by
  have h2 := h p q hpq hq
  rw [getElem!_pos l p hp, getElem!_pos l q hq] at h2
  exact h2
end Go.Proofs.Ythmcggbmeabpmaa.Ev
/- Contracts of package evict: who came, of whom one would go, who goes. -/
namespace Go.Proofs.Ythmcggbmeabpmaa.Ev
set_option maxRecDepth 100000
open Go.ChangeShapes Go.WideShapes Go.ChangeAt Go.RowKit
open Dec Words V4 V6 Ad Ci En Sat Ha Pe Stb Gr Mi Ra Sh Cw Go.Deep
set_option linter.unusedVariables false
theorem append_peer {B : Nat} {W : World} {v : Value} {xs : List Pr} (hown : OwnP B W v xs) (y : Pr) (hlen : xs.length ≤ 900000) (hB : B ≤ W.heap.size) :
    ∃ v' w', (Builtin.append_ #[22, 22] 22 #[v, .slice (some ⟨W.heap.size, 0, none⟩) 1 1]).run Try.prog (W.alloc (.cells #[.bool y.e.a.v6, .int .u64 y.e.a.hi, .int .u64 y.e.a.lo, .int .i64 y.e.n, .bool y.i, .int .i64 y.t, .int .i64 y.c.p, .int .i64 y.c.a, .int .i64 y.g, .int .i64 y.k] 41)) = .ok v' w' ∧ OwnP B w' v' (xs ++ [y]) ∧ Below B W w' := by
  obtain ⟨v', w', h1, h2, h3⟩ := append_peers (B := B) (hown.alloc (.cells #[.bool y.e.a.v6, .int .u64 y.e.a.hi, .int .u64 y.e.a.lo, .int .i64 y.e.n, .bool y.i, .int .i64 y.t, .int .i64 y.c.p, .int .i64 y.c.a, .int .i64 y.g, .int .i64 y.k] 41)) (Recs.lit encP_len W [y] #[.bool y.e.a.v6, .int .u64 y.e.a.hi, .int .u64 y.e.a.lo, .int .i64 y.e.n, .bool y.i, .int .i64 y.t, .int .i64 y.c.p, .int .i64 y.c.a, .int .i64 y.g, .int .i64 y.k] 41 (by rw [flat_one]; rfl)) (by simp; omega) (Nat.le_trans hB (by simp))
  exact ⟨v', w', h1, h2, ((Below.refl B W).alloc hB _).trans h3⟩
theorem ownP_peers {B : Nat} {w : World} {v : Value} {l : List Pr} (h : OwnP B w v l) : Peers w v l := (recs_own encP_len (by decide) h).1
/-- A row that a call made, as a block. -/
theorem ownP_blk {B : Nat} {w : World} {v : Value} {l : List Pr} (h : OwnP B w v l) (h0 : 0 < l.length) : ∃ g cap Z, v = .slice (some ⟨g, 0, none⟩) l.length cap ∧ B ≤ g ∧ l.length ≤ cap ∧ Blk w g 41 (flat encP l ++ Z) := by
  obtain ⟨h1, h2⟩ := h
  rcases h2 with ⟨_, h3⟩ | ⟨g, cap, cur, rfl, hB, hg, hn, _, _, ht⟩
  · omega
  · refine ⟨g, cap, cur.toList.drop (l.length * 10), rfl, hB, hn, ?_⟩
    unfold Blk
    rw [hg, ← ht, List.take_append_drop]
theorem splice_tail {α : Type} (A Z vs : List α) (o : Nat) (h : o + vs.length ≤ A.length) : splice (A ++ Z) o vs = splice A o vs ++ Z := by
  unfold splice
  rw [List.take_append_of_le_length (by omega), List.drop_append_of_le_length h]
  simp only [List.append_assoc]
theorem put_peerZ {w : World} {g : Nat} {t : TypeId} {D : List Pr} {Z : List Value} (h : Blk w g t (flat encP D ++ Z)) {i : Nat} (hi : i < D.length) (x : Pr) :
    Blk (((((((((((w).setCell ⟨g, i * 10, none⟩ (.bool x.e.a.v6)).setCell ⟨g, i * 10 + 1, none⟩ (.int .u64 x.e.a.hi)).setCell ⟨g, i * 10 + 2, none⟩ (.int .u64 x.e.a.lo)).setCell ⟨g, i * 10 + 3, none⟩ (.int .i64 x.e.n)).setCell ⟨g, i * 10 + 4, none⟩ (.bool x.i)).setCell ⟨g, i * 10 + 5, none⟩ (.int .i64 x.t)).setCell ⟨g, i * 10 + 6, none⟩ (.int .i64 x.c.p)).setCell ⟨g, i * 10 + 7, none⟩ (.int .i64 x.c.a)).setCell ⟨g, i * 10 + 8, none⟩ (.int .i64 x.g)).setCell ⟨g, i * 10 + 9, none⟩ (.int .i64 x.k)) g t (flat encP (D.set i x) ++ Z) ∧ Bt g w (((((((((((w).setCell ⟨g, i * 10, none⟩ (.bool x.e.a.v6)).setCell ⟨g, i * 10 + 1, none⟩ (.int .u64 x.e.a.hi)).setCell ⟨g, i * 10 + 2, none⟩ (.int .u64 x.e.a.lo)).setCell ⟨g, i * 10 + 3, none⟩ (.int .i64 x.e.n)).setCell ⟨g, i * 10 + 4, none⟩ (.bool x.i)).setCell ⟨g, i * 10 + 5, none⟩ (.int .i64 x.t)).setCell ⟨g, i * 10 + 6, none⟩ (.int .i64 x.c.p)).setCell ⟨g, i * 10 + 7, none⟩ (.int .i64 x.c.a)).setCell ⟨g, i * 10 + 8, none⟩ (.int .i64 x.g)).setCell ⟨g, i * 10 + 9, none⟩ (.int .i64 x.k)) := by
  have k := setCells_blk g t (encP x) (i * 10) w _ h (by rw [encP_len, List.length_append, flat_len encP_len]; omega)
  rw [splice_tail _ _ _ _ (by rw [encP_len, flat_len encP_len]; omega), ← flat_one encP x, flat_splice encP_len, splice_one _ _ _ hi, flat_one] at k
  exact k
theorem cellZ {w : World} {g : Nat} {t : TypeId} {D : List Pr} {Z : List Value} (h : Blk w g t (flat encP D ++ Z)) {i j : Nat} {u : Value} (hi : i < D.length) (hu : (encP D[i]!)[j]? = some u) : w.cell? ⟨g, i * 10 + j, none⟩ = some u := by
  have hj : j < 10 := by have := (List.getElem?_eq_some_iff.1 hu).1; rwa [encP_len] at this
  refine h.cell ?_
  rw [List.getElem?_append_left (by rw [flat_len encP_len]; omega), flat_at encP_len D i j hi hj, ← hu, getElem!_pos D i hi]
theorem readsZ {w : World} {g cap : Nat} {t : TypeId} {D : List Pr} {Z : List Value} (h : Blk w g t (flat encP D ++ Z)) (hc : D.length ≤ cap) : Peers w (.slice (some ⟨g, 0, none⟩) D.length cap) D :=
  Blk.reads (m := D.length) encP_len h (by rw [List.take_left' (flat_len encP_len D)]) rfl hc
set_option maxHeartbeats 8000000 in
theorem inbound_any (v : Value) (l : List Pr) (w : World) (h : Peers w v l) (hl : l.length ≤ 900000) :
    Calls Try.prog 32 #[v] w fun e w' => ∃ u, e = .returned u ∧ Peers w' u (cameR l) ∧ Below w.heap.size w w' := by
  obtain ⟨A, c, rfl, hc, _, hcell⟩ := h
  have HC := Lib.hid hcell
  clear hcell hc
  go_enter Try.func32, Try.ntmps32
  go_wp2_with fail
  go_loopw [3, 8] (fun vr vi wr => ∃ (i : Nat), vi = .int .i64 i ∧ i ≤ l.length ∧ Hid (OwnP w.heap.size wr vr (cameR (l.take i))) ∧ Hid (Below w.heap.size w wr)) (fun _ vi _ => l.length - (intOf vi).toNat)
  case atStart => exact ⟨0, rfl, Nat.zero_le _, Lib.hid ⟨rfl, Or.inl ⟨rfl, rfl⟩⟩, Lib.hid (Below.refl _ _)⟩
  case round =>
    obtain ⟨i, rfl, hi, HO, HL⟩ := hrel
    by_cases hli : i < l.length
    · have hliz : (i : Int) < (l.length : Int) := by omega
      obtain ⟨bb, o, rfl, hb, hcc⟩ := HC.out (by omega)
      obtain ⟨x, hx⟩ : ∃ x, x = l[i]! := ⟨_, rfl⟩
      have c0 : wr.cell? ⟨bb, o + i * 10, none⟩ = some (.bool x.e.a.v6) := peer_at HL.out hb hcc hli (j := 0) (by rw [← hx]; rfl)
      have c1 : wr.cell? ⟨bb, o + i * 10 + 1, none⟩ = some (.int .u64 x.e.a.hi) := peer_at HL.out hb hcc hli (j := 1) (by rw [← hx]; rfl)
      have c2 : wr.cell? ⟨bb, o + i * 10 + 2, none⟩ = some (.int .u64 x.e.a.lo) := peer_at HL.out hb hcc hli (j := 2) (by rw [← hx]; rfl)
      have c3 : wr.cell? ⟨bb, o + i * 10 + 3, none⟩ = some (.int .i64 x.e.n) := peer_at HL.out hb hcc hli (j := 3) (by rw [← hx]; rfl)
      have c4 : wr.cell? ⟨bb, o + i * 10 + 4, none⟩ = some (.bool x.i) := peer_at HL.out hb hcc hli (j := 4) (by rw [← hx]; rfl)
      have c5 : wr.cell? ⟨bb, o + i * 10 + 5, none⟩ = some (.int .i64 x.t) := peer_at HL.out hb hcc hli (j := 5) (by rw [← hx]; rfl)
      have c6 : wr.cell? ⟨bb, o + i * 10 + 6, none⟩ = some (.int .i64 x.c.p) := peer_at HL.out hb hcc hli (j := 6) (by rw [← hx]; rfl)
      have c7 : wr.cell? ⟨bb, o + i * 10 + 7, none⟩ = some (.int .i64 x.c.a) := peer_at HL.out hb hcc hli (j := 7) (by rw [← hx]; rfl)
      have c8 : wr.cell? ⟨bb, o + i * 10 + 8, none⟩ = some (.int .i64 x.g) := peer_at HL.out hb hcc hli (j := 8) (by rw [← hx]; rfl)
      have c9 : wr.cell? ⟨bb, o + i * 10 + 9, none⟩ = some (.int .i64 x.k) := peer_at HL.out hb hcc hli (j := 9) (by rw [← hx]; rfl)
      have hlen : (cameR (l.take i)).length ≤ 900000 := by have := came_take l i; omega
      have HX := Lib.hid hx
      clear hcc hb hx
      cases hq : x.i with
      | false =>
        rw [hq] at c4
        have HY : Hid (cameR (l.take (i + 1)) = cameR (l.take i)) := Lib.hid (came_no hli (by rw [← HX.out]; exact hq))
        clear hq HX
        go_wp2_with fail
        go_roundw
        case rel => exact ⟨i + 1, by go_num, by omega, Lib.hid (by rw [HY.out]; exact HO.out.alloc _), Lib.hid (Lows.alloc HL.out _)⟩
        case measure => simp [intOf]; omega
      | true =>
        obtain ⟨v', w', RR, HO2, hb5⟩ := append_peer (B := w.heap.size) (HO.out.alloc (.cells #[.bool x.e.a.v6, .int .u64 x.e.a.hi, .int .u64 x.e.a.lo, .int .i64 x.e.n, .bool x.i, .int .i64 x.t, .int .i64 x.c.p, .int .i64 x.c.a, .int .i64 x.g, .int .i64 x.k] 41)) x hlen (Nat.le_trans HL.out.size (by simp))
        rw [show (wr.alloc (.cells #[.bool x.e.a.v6, .int .u64 x.e.a.hi, .int .u64 x.e.a.lo, .int .i64 x.e.n, .bool x.i, .int .i64 x.t, .int .i64 x.c.p, .int .i64 x.c.a, .int .i64 x.g, .int .i64 x.k] 41)).heap.size = wr.heap.size + 1 by simp, hq] at RR
        have R1 := Lib.hid RR
        have HO3 : Hid (OwnP w.heap.size w' v' (cameR (l.take (i + 1)))) := Lib.hid (by rw [came_yes hli (by rw [← HX.out]; exact hq), ← HX.out]; exact HO2)
        have HL3 : Hid (Below w.heap.size w w') := Lib.hid ((Lows.alloc HL.out _).trans hb5)
        rw [hq] at c4
        clear RR HO2 hb5 HO HL hq HX
        go_wp2_with (first
          | (at_builtin; refine wpList_append_run rfl (.tmp 14) (.tmp 16) _ _ rfl rfl _ _ _ _ rfl rfl R1.out ?_)
          | fail)
        go_roundw
        case rel => exact ⟨i + 1, by go_num, by omega, HO3, HL3⟩
        case measure => simp [intOf]; omega
    · have hliz : ¬ (i : Int) < (l.length : Int) := by omega
      have HR := Lib.hid (ownP_peers HO.out)
      have HE : Hid (cameR (l.take i) = cameR l) := Lib.hid (came_done (by omega))
      clear HO
      go_wp2_with fail
      go_ret
      exact ⟨_, rfl, by rw [← HE.out]; exact HR.out, HL.out⟩
set_option maxHeartbeats 8000000 in
theorem candidates_any (v : Value) (l : List Pr) (q : Qt) (s : Nat) (w : World) (h : Peers w v l) (hok : ∀ x ∈ l, x.ok) (hl : l.length ≤ 900000) (hs : s < 18446744073709551616) :
    Calls Try.prog 20 #[v, .agg #[.int .i64 q.g, .int .i64 q.p, .int .i64 q.w, .int .i64 q.t], .int .u64 (s : Nat)] w fun e w' => ∃ u, e = .returned u ∧ Peers w' u (candR l q s) ∧ Below w.heap.size w w' := by
  have L0 : Hid (Lows w (w.alloc (.cells #[.int .i64 q.g, .int .i64 q.p, .int .i64 q.w, .int .i64 q.t] 24))) := Lib.hid (Lows.alloc (Lows.self w) _)
  have OQ := Lib.hid (Blk.new w #[.int .i64 q.g, .int .i64 q.p, .int .i64 q.w, .int .i64 q.t] 24)
  have KI := Lib.hid (inbound_any v l (w.alloc (.cells #[.int .i64 q.g, .int .i64 q.p, .int .i64 q.w, .int .i64 q.t] 24)) (h.below L0.out) hl)
  have E : Hid (candR l q s = thoseR (cameR l) (leftR (cameR l) q s)) := Lib.hid rfl
  have KL : Hid (∀ W u, Peers W u (cameR l) → Calls Try.prog 33 #[u, .agg #[.int .i64 q.g, .int .i64 q.p, .int .i64 q.w, .int .i64 q.t], .int .u64 (s : Nat)] W fun e w' => ∃ u, e = .returned u ∧ NumsI w' u (leftR (cameR l) q s) ∧ Below W.heap.size W w') := Lib.hid fun W u hu => sleft_any u (cameR l) q s W hu (came_ok hok) (Nat.le_trans (came_le l) (by omega)) hs
  have HRL : Hid (∀ i ∈ leftR (cameR l) q s, i < (cameR l).length) := Lib.hid fun i hi => left_lt hi
  have hn : (cameR l).length ≤ 900000 := Nat.le_trans (came_le l) hl
  have hm : (leftR (cameR l) q s).length ≤ 900000 := Nat.le_trans (left_le _ _ _) hn
  generalize leftR (cameR l) q s = R at *
  generalize cameR l = L at *
  clear h hok hs hl
  go_enter Try.func20, Try.ntmps20
  go_wp2_with fail
  refine KI.out.mono ?_; rintro e9 w1 ⟨u, rfl, hU, hb1⟩
  have L1 := Lib.hid (low_trans L0.out hb1)
  have OQ1 := OQ.out.on hb1
  have q0 := OQ1.cell (j := 0) rfl
  have q1 := OQ1.cell (j := 1) rfl
  have q2 := OQ1.cell (j := 2) rfl
  have q3 := OQ1.cell (j := 3) rfl
  have KF := Lib.hid (KL.out w1 u hU)
  have HU := Lib.hid hU
  clear hb1 hU KI KL OQ OQ1
  go_wp2_with fail
  refine KF.out.mono ?_; rintro e9 w2 ⟨u2, rfl, hN, hb2⟩
  have L2 := Lib.hid (low_trans L1.out hb2)
  have hU := HU.out.below hb2
  clear hb2 KF HU q0 q1 q2 q3
  obtain ⟨A, c, rfl, hc, _, hcell⟩ := hU
  obtain ⟨A2, c2, rfl, hc2, _, hcell2⟩ := hN
  have HC := Lib.hid hcell
  have HC2 := Lib.hid hcell2
  obtain ⟨k, hk⟩ : ∃ k, k = R.length := ⟨_, rfl⟩
  rw [← hk] at hm ⊢
  have HK := Lib.hid hk
  have R1 := Lib.hid (make_peers w2 k (by omega))
  have B0 : Hid (Blk (w2.alloc (.cells (madeCells (Value.cells (.agg #[.bool false, .int .u64 0, .int .u64 0, .int .i64 0, .bool false, .int .i64 0, .int .i64 0, .int .i64 0, .int .i64 0, .int .i64 0])) (k * 10)) 41)) w2.heap.size 41 (flat encP (ls k (inP L R 0)))) := Lib.hid (by
    have h := Blk.new w2 (madeCells (Value.cells (.agg #[.bool false, .int .u64 0, .int .u64 0, .int .i64 0, .bool false, .int .i64 0, .int .i64 0, .int .i64 0, .int .i64 0, .int .i64 0])) (k * 10)) 41
    rw [made_peers] at h
    exact h)
  have L3 : Hid (Lows w2 (w2.alloc (.cells (madeCells (Value.cells (.agg #[.bool false, .int .u64 0, .int .u64 0, .int .i64 0, .bool false, .int .i64 0, .int .i64 0, .int .i64 0, .int .i64 0, .int .i64 0])) (k * 10)) 41))) := Lib.hid (Lows.alloc (Lows.self w2) _)
  generalize w2.alloc (.cells (madeCells (Value.cells (.agg #[.bool false, .int .u64 0, .int .u64 0, .int .i64 0, .bool false, .int .i64 0, .int .i64 0, .int .i64 0, .int .i64 0, .int .i64 0])) (k * 10)) 41) = W4 at R1 B0 L3
  clear hcell hcell2 hk hc2 hc
  go_wp2_with (first
    | (at_make; refine wpList_make_run rfl _ _ _ rfl _ _ _ _ rfl rfl R1.out ?_)
    | fail)
  go_loopw [23] (fun vi wr => ∃ j : Nat, vi = .int .i64 j ∧ j ≤ k ∧ Hid (Blk wr w2.heap.size 41 (flat encP (ls k (inP L R j)))) ∧ Hid (Lows w2 wr)) (fun vi _ => k - (intOf vi).toNat)
  case atStart => exact ⟨0, rfl, Nat.zero_le _, B0, L3⟩
  case round =>
    obtain ⟨j, rfl, hj, HB, HL⟩ := hrel
    clear B0 L3 R1
    by_cases hlj : j < k
    · have hljz : (j : Int) < (k : Int) := by omega
      obtain ⟨b2, o2, rfl, hb2, hcc2⟩ := HC2.out (by have := HK.out; omega)
      have e1 := num_at hb2 hcc2 (i := j) (by have := HK.out; omega) (fun p hp => HL.out.cell (p := p) (by omega))
      have hrl : R[j]! < L.length := by
        have hj2 : j < R.length := by have := HK.out; omega
        rw [getElem!_pos R j hj2]; exact HRL.out _ (List.getElem_mem _)
      obtain ⟨r, hr⟩ : ∃ r, r = R[j]! := ⟨_, rfl⟩
      rw [← hr] at e1 hrl
      have HRJ := Lib.hid hr
      clear hr hcc2 hb2
      have hrz : (r : Int) < (L.length : Int) := by omega
      have hrb : (r : Int) ≤ 9223372036854775807 := by omega
      obtain ⟨bb, o, rfl, hb, hcc⟩ := HC.out (by omega)
      obtain ⟨x, hx⟩ : ∃ x, x = L[r]! := ⟨_, rfl⟩
      have hlow := HL.out
      have c0 : wr.cell? ⟨bb, o + r * 10, none⟩ = some (.bool x.e.a.v6) := peer_at hlow hb hcc hrl (j := 0) (by rw [← hx]; rfl)
      have c1 : wr.cell? ⟨bb, o + r * 10 + 1, none⟩ = some (.int .u64 x.e.a.hi) := peer_at hlow hb hcc hrl (j := 1) (by rw [← hx]; rfl)
      have c2 : wr.cell? ⟨bb, o + r * 10 + 2, none⟩ = some (.int .u64 x.e.a.lo) := peer_at hlow hb hcc hrl (j := 2) (by rw [← hx]; rfl)
      have c3 : wr.cell? ⟨bb, o + r * 10 + 3, none⟩ = some (.int .i64 x.e.n) := peer_at hlow hb hcc hrl (j := 3) (by rw [← hx]; rfl)
      have c4 : wr.cell? ⟨bb, o + r * 10 + 4, none⟩ = some (.bool x.i) := peer_at hlow hb hcc hrl (j := 4) (by rw [← hx]; rfl)
      have c5 : wr.cell? ⟨bb, o + r * 10 + 5, none⟩ = some (.int .i64 x.t) := peer_at hlow hb hcc hrl (j := 5) (by rw [← hx]; rfl)
      have c6 : wr.cell? ⟨bb, o + r * 10 + 6, none⟩ = some (.int .i64 x.c.p) := peer_at hlow hb hcc hrl (j := 6) (by rw [← hx]; rfl)
      have c7 : wr.cell? ⟨bb, o + r * 10 + 7, none⟩ = some (.int .i64 x.c.a) := peer_at hlow hb hcc hrl (j := 7) (by rw [← hx]; rfl)
      have c8 : wr.cell? ⟨bb, o + r * 10 + 8, none⟩ = some (.int .i64 x.g) := peer_at hlow hb hcc hrl (j := 8) (by rw [← hx]; rfl)
      have c9 : wr.cell? ⟨bb, o + r * 10 + 9, none⟩ = some (.int .i64 x.k) := peer_at hlow hb hcc hrl (j := 9) (by rw [← hx]; rfl)
      have HX := Lib.hid hx
      clear hx hcc hlow
      have d0 := HB.out.cell (j := j * 10 + 0) (by rw [flat_at encP_len _ j 0 (by rw [ls_length]; exact hlj) (by decide), ls_get]; unfold inP; rw [if_neg (Nat.lt_irrefl _)]; rfl)
      have df0 := HB.out.free (j * 10)
      have d1 := HB.out.cell (j := j * 10 + 1) (by rw [flat_at encP_len _ j 1 (by rw [ls_length]; exact hlj) (by decide), ls_get]; unfold inP; rw [if_neg (Nat.lt_irrefl _)]; rfl)
      have df1 := HB.out.free (j * 10 + 1)
      have d2 := HB.out.cell (j := j * 10 + 2) (by rw [flat_at encP_len _ j 2 (by rw [ls_length]; exact hlj) (by decide), ls_get]; unfold inP; rw [if_neg (Nat.lt_irrefl _)]; rfl)
      have df2 := HB.out.free (j * 10 + 2)
      have d3 := HB.out.cell (j := j * 10 + 3) (by rw [flat_at encP_len _ j 3 (by rw [ls_length]; exact hlj) (by decide), ls_get]; unfold inP; rw [if_neg (Nat.lt_irrefl _)]; rfl)
      have df3 := HB.out.free (j * 10 + 3)
      have d4 := HB.out.cell (j := j * 10 + 4) (by rw [flat_at encP_len _ j 4 (by rw [ls_length]; exact hlj) (by decide), ls_get]; unfold inP; rw [if_neg (Nat.lt_irrefl _)]; rfl)
      have df4 := HB.out.free (j * 10 + 4)
      have d5 := HB.out.cell (j := j * 10 + 5) (by rw [flat_at encP_len _ j 5 (by rw [ls_length]; exact hlj) (by decide), ls_get]; unfold inP; rw [if_neg (Nat.lt_irrefl _)]; rfl)
      have df5 := HB.out.free (j * 10 + 5)
      have d6 := HB.out.cell (j := j * 10 + 6) (by rw [flat_at encP_len _ j 6 (by rw [ls_length]; exact hlj) (by decide), ls_get]; unfold inP; rw [if_neg (Nat.lt_irrefl _)]; rfl)
      have df6 := HB.out.free (j * 10 + 6)
      have d7 := HB.out.cell (j := j * 10 + 7) (by rw [flat_at encP_len _ j 7 (by rw [ls_length]; exact hlj) (by decide), ls_get]; unfold inP; rw [if_neg (Nat.lt_irrefl _)]; rfl)
      have df7 := HB.out.free (j * 10 + 7)
      have d8 := HB.out.cell (j := j * 10 + 8) (by rw [flat_at encP_len _ j 8 (by rw [ls_length]; exact hlj) (by decide), ls_get]; unfold inP; rw [if_neg (Nat.lt_irrefl _)]; rfl)
      have df8 := HB.out.free (j * 10 + 8)
      have d9 := HB.out.cell (j := j * 10 + 9) (by rw [flat_at encP_len _ j 9 (by rw [ls_length]; exact hlj) (by decide), ls_get]; unfold inP; rw [if_neg (Nat.lt_irrefl _)]; rfl)
      have df9 := HB.out.free (j * 10 + 9)
      rw [Nat.add_zero] at d0
      have HN := Lib.hid (put_peer HB.out (i := j) (by rw [ls_length]; exact hlj) x)
      have HE : Hid ((ls k (inP L R j)).set j x = ls k (inP L R (j + 1))) := Lib.hid (by rw [HX.out, HRJ.out]; exact inP_next L R k j hlj)
      go_wp2_with fail
      go_roundw
      case rel => exact ⟨j + 1, by go_num, by omega, Lib.hid (by rw [← HE.out]; exact HN.out.1), Lib.hid (HL.out.trans (HN.out.2.low (Nat.le_refl _) HL.out.size))⟩
      case measure => simp [intOf]; omega
    · have hljz : ¬ (j : Int) < (k : Int) := by omega
      have hjk : Hid (k = j) := Lib.hid (by omega)
      have HRR : Hid (Peers wr (.slice (some ⟨w2.heap.size, 0, none⟩) k k) (thoseR L R)) := Lib.hid (by
        have e := inP_done L R
        have h := HB.out
        have e2 := HK.out
        have e3 := hjk.out
        subst e3
        subst e2
        rw [e] at h
        exact h.recs encP_len (xs := thoseR L R) (m := R.length) (cap := R.length) (by rw [List.take_of_length_le (by rw [those_length]; omega)]) (by rw [those_length]; omega) (Nat.le_refl _))
      go_wp2_with fail
      go_ret
      exact ⟨_, rfl, by rw [E.out]; exact HRR.out, low_trans L2.out HL.out⟩
set_option maxHeartbeats 8000000 in
theorem choose_any (v : Value) (l : List Pr) (q : Qt) (s : Nat) (w : World) (h : Peers w v l) (hok : ∀ x ∈ l, x.ok) (hl : l.length ≤ 900000) (hs : s < 18446744073709551616) :
    Calls Try.prog 27 #[v, .agg #[.int .i64 q.g, .int .i64 q.p, .int .i64 q.w, .int .i64 q.t], .int .u64 (s : Nat)] w fun e w' => e = .returned (.tuple #[.agg #[.bool (exitR (candR l q s)).a.v6, .int .u64 (exitR (candR l q s)).a.hi, .int .u64 (exitR (candR l q s)).a.lo, .int .i64 (exitR (candR l q s)).n], .bool (decide (0 < (candR l q s).length))]) ∧ Below w.heap.size w w' := by
  have L0 : Hid (Lows w ((w.alloc (.cells #[.int .i64 q.g, .int .i64 q.p, .int .i64 q.w, .int .i64 q.t] 24)).alloc (.cells #[.bool false, .int .u64 0, .int .u64 0, .int .i64 0] 34))) := Lib.hid (Lows.alloc (Lows.alloc (Lows.self w) _) _)
  have OQ := Lib.hid ((Blk.new w #[.int .i64 q.g, .int .i64 q.p, .int .i64 q.w, .int .i64 q.t] 24).alloc (.cells #[.bool false, .int .u64 0, .int .u64 0, .int .i64 0] 34))
  have OE := Lib.hid (Blk.two w (.cells #[.int .i64 q.g, .int .i64 q.p, .int .i64 q.w, .int .i64 q.t] 24) #[.bool false, .int .u64 0, .int .u64 0, .int .i64 0] 34)
  have KI := Lib.hid (candidates_any v l q s ((w.alloc (.cells #[.int .i64 q.g, .int .i64 q.p, .int .i64 q.w, .int .i64 q.t] 24)).alloc (.cells #[.bool false, .int .u64 0, .int .u64 0, .int .i64 0] 34)) (h.below L0.out) hok hl hs)
  have KP : Hid (∀ W u, Peers W u (candR l q s) → Calls Try.prog 37 #[u] W fun e w' => e = .returned (.int .i64 (pickR (candR l q s))) ∧ Below W.heap.size W w') := Lib.hid fun W u hu => pick_any u (candR l q s) W hu (cand_ok hok q s) (Nat.le_trans (cand_le l q s) (by omega))
  have hn : (candR l q s).length ≤ 900000 := Nat.le_trans (cand_le l q s) hl
  have q0 := OQ.out.cell (j := 0) rfl
  have q1 := OQ.out.cell (j := 1) rfl
  have q2 := OQ.out.cell (j := 2) rfl
  have q3 := OQ.out.cell (j := 3) rfl
  generalize candR l q s = C at *
  obtain ⟨g, hg⟩ : ∃ g : Bool, g = decide (0 < C.length) := ⟨_, rfl⟩
  obtain ⟨E, hE⟩ : ∃ E, E = exitR C := ⟨_, rfl⟩
  rw [← hg, ← hE]
  have HG := Lib.hid hg
  have HEE := Lib.hid hE
  clear h hok hs hl OQ hg hE
  go_enter Try.func27, Try.ntmps27
  go_wp2_with fail
  refine KI.out.mono ?_; rintro e9 w1 ⟨u, rfl, hU, hb1⟩
  have L1 := Lib.hid (low_trans L0.out hb1)
  have OE1 := OE.out.on hb1
  have KF := Lib.hid (KP.out w1 u hU)
  have HU := Lib.hid hU
  have OE1 := Lib.hid OE1
  clear hb1 hU KI KP q0 q1 q2 q3 OE
  go_wp2_with fail
  refine KF.out.mono ?_; rintro e9 w2 ⟨rfl, hb2⟩
  have L2 := Lib.hid (low_trans L1.out hb2)
  have hU := HU.out.below hb2
  have own2 := OE1.out.on hb2
  have s0 := own2.cell (j := 0) rfl
  have f0 := own2.free 0
  have s1 := own2.cell (j := 1) rfl
  have f1 := own2.free 1
  have s2 := own2.cell (j := 2) rfl
  have f2 := own2.free 2
  have s3 := own2.cell (j := 3) rfl
  have f3 := own2.free 3
  clear hb2 KF HU own2 OE1
  by_cases h0 : C.length = 0
  · have hp : pickR C = -1 := by unfold pickR; rw [if_pos h0]
    have hd : g = false := by rw [HG.out]; exact decide_eq_false (by omega)
    have he : E = zeroE := by rw [HEE.out]; unfold exitR; rw [if_pos h0]
    rw [hp]
    clear hp h0 hU hn HG HEE
    subst hd he
    go_wp2_with fail
    exact bodyPost_ret (v := .tuple #[.agg #[.bool false, .int .u64 0, .int .u64 0, .int .i64 0], .bool false]) (by simp [results, Try.results27, go_sem, s0, s1, s2, s3]) rfl ⟨rfl, by repeat (first | (with_reducible exact L2.out) | (with_reducible refine Below.setCell ?_ (by first | exact Nat.le_refl _ | exact Nat.le_succ _ | (simp; done) | (simp; omega)) _) | (refine low_drewN ?_ 1))⟩
  · have hm : bestR C (C.length - 1) < C.length := best_at (by omega)
    have hp : pickR C = (bestR C (C.length - 1) : Int) := by unfold pickR; rw [if_neg h0]
    have hd : g = true := by rw [HG.out]; exact decide_eq_true (by omega)
    have he : E = (C[bestR C (C.length - 1)]!).e := by rw [HEE.out]; unfold exitR; rw [if_neg h0]
    rw [hp]
    clear hp HG HEE
    generalize bestR C (C.length - 1) = m at *
    obtain ⟨A, c, rfl, hc, _, hcell⟩ := hU
    obtain ⟨bb, o, rfl, hb, hcc⟩ := hcell (by omega)
    obtain ⟨x, hx⟩ : ∃ x, x = C[m]! := ⟨_, rfl⟩
    have c0 : w2.cell? ⟨bb, o + m * 10, none⟩ = some (.bool x.e.a.v6) := peer_at (Below.refl _ _) hb hcc hm (j := 0) (by rw [← hx]; rfl)
    have c1 : w2.cell? ⟨bb, o + m * 10 + 1, none⟩ = some (.int .u64 x.e.a.hi) := peer_at (Below.refl _ _) hb hcc hm (j := 1) (by rw [← hx]; rfl)
    have c2 : w2.cell? ⟨bb, o + m * 10 + 2, none⟩ = some (.int .u64 x.e.a.lo) := peer_at (Below.refl _ _) hb hcc hm (j := 2) (by rw [← hx]; rfl)
    have c3 : w2.cell? ⟨bb, o + m * 10 + 3, none⟩ = some (.int .i64 x.e.n) := peer_at (Below.refl _ _) hb hcc hm (j := 3) (by rw [← hx]; rfl)
    rw [← hx] at he
    subst hd he
    have hmz : (m : Int) < (C.length : Int) := by omega
    have hmn : ¬ (m : Int) < 0 := by omega
    have hmb : (m : Int) ≤ 9223372036854775807 := by omega
    clear hcell hcc hb hx h0
    go_wp2_with fail
    exact bodyPost_ret (v := .tuple #[.agg #[.bool x.e.a.v6, .int .u64 x.e.a.hi, .int .u64 x.e.a.lo, .int .i64 x.e.n], .bool true]) (by simp [results, Try.results27, go_sem, s0, s1, s2, s3]) rfl ⟨rfl, by repeat (first | (with_reducible exact L2.out) | (with_reducible refine Below.setCell ?_ (by first | exact Nat.le_refl _ | exact Nat.le_succ _ | (simp; done) | (simp; omega)) _) | (refine low_drewN ?_ 1))⟩
end Go.Proofs.Ythmcggbmeabpmaa.Ev
/- The document's answers of layer 21: who came, of whom one would go, who goes; two lists of peers compared. -/
namespace Go.Proofs.Ythmcggbmeabpmaa.Ev
set_option maxRecDepth 100000
open Go.ChangeShapes Go.WideShapes Go.ChangeAt Go.RowKit
open Dec Words V4 V6 Ad Ci En Sat Ha Pe Stb Gr Mi Ra Sh Cw Go.Deep
set_option linter.unusedVariables false
set_option maxHeartbeats 8000000 in
theorem rcame_any (v : Value) (l : List Pr) (w : World) (h : Peers w v l) (hl : l.length ≤ 900000) :
    Calls Try.prog 15 #[v] w fun e w' => ∃ u, e = .returned u ∧ Peers w' u (cameR l) ∧ Below w.heap.size w w' := by
  obtain ⟨A, c, rfl, hc, _, hcell⟩ := h
  have HC := Lib.hid hcell
  clear hcell hc
  go_enter Try.func15, Try.ntmps15
  go_wp2_with fail
  go_loopw [3, 4] (fun vr vi wr => ∃ (i : Nat), vi = .int .i64 i ∧ i ≤ l.length ∧ Hid (OwnP w.heap.size wr vr (cameR (l.take i))) ∧ Hid (Below w.heap.size w wr)) (fun _ vi _ => l.length - (intOf vi).toNat)
  case atStart => exact ⟨0, rfl, Nat.zero_le _, Lib.hid (ownP_lit w (Nat.le_refl _)), Lib.hid (Lows.alloc (Lows.self _) _)⟩
  case round =>
    obtain ⟨i, rfl, hi, HO, HL⟩ := hrel
    by_cases hli : i < l.length
    · have hliz : (i : Int) < (l.length : Int) := by omega
      obtain ⟨bb, o, rfl, hb, hcc⟩ := HC.out (by omega)
      obtain ⟨x, hx⟩ : ∃ x, x = l[i]! := ⟨_, rfl⟩
      have c0 : wr.cell? ⟨bb, o + i * 10, none⟩ = some (.bool x.e.a.v6) := peer_at HL.out hb hcc hli (j := 0) (by rw [← hx]; rfl)
      have c1 : wr.cell? ⟨bb, o + i * 10 + 1, none⟩ = some (.int .u64 x.e.a.hi) := peer_at HL.out hb hcc hli (j := 1) (by rw [← hx]; rfl)
      have c2 : wr.cell? ⟨bb, o + i * 10 + 2, none⟩ = some (.int .u64 x.e.a.lo) := peer_at HL.out hb hcc hli (j := 2) (by rw [← hx]; rfl)
      have c3 : wr.cell? ⟨bb, o + i * 10 + 3, none⟩ = some (.int .i64 x.e.n) := peer_at HL.out hb hcc hli (j := 3) (by rw [← hx]; rfl)
      have c4 : wr.cell? ⟨bb, o + i * 10 + 4, none⟩ = some (.bool x.i) := peer_at HL.out hb hcc hli (j := 4) (by rw [← hx]; rfl)
      have c5 : wr.cell? ⟨bb, o + i * 10 + 5, none⟩ = some (.int .i64 x.t) := peer_at HL.out hb hcc hli (j := 5) (by rw [← hx]; rfl)
      have c6 : wr.cell? ⟨bb, o + i * 10 + 6, none⟩ = some (.int .i64 x.c.p) := peer_at HL.out hb hcc hli (j := 6) (by rw [← hx]; rfl)
      have c7 : wr.cell? ⟨bb, o + i * 10 + 7, none⟩ = some (.int .i64 x.c.a) := peer_at HL.out hb hcc hli (j := 7) (by rw [← hx]; rfl)
      have c8 : wr.cell? ⟨bb, o + i * 10 + 8, none⟩ = some (.int .i64 x.g) := peer_at HL.out hb hcc hli (j := 8) (by rw [← hx]; rfl)
      have c9 : wr.cell? ⟨bb, o + i * 10 + 9, none⟩ = some (.int .i64 x.k) := peer_at HL.out hb hcc hli (j := 9) (by rw [← hx]; rfl)
      have hlen : (cameR (l.take i)).length ≤ 900000 := by have := came_take l i; omega
      have HX := Lib.hid hx
      clear hcc hb hx
      cases hq : x.i with
      | false =>
        rw [hq] at c4
        have HY : Hid (cameR (l.take (i + 1)) = cameR (l.take i)) := Lib.hid (came_no hli (by rw [← HX.out]; exact hq))
        clear hq HX
        go_wp2_with fail
        go_roundw
        case rel => exact ⟨i + 1, by go_num, by omega, Lib.hid (by rw [HY.out]; exact HO.out), HL⟩
        case measure => simp [intOf]; omega
      | true =>
        obtain ⟨v', w', RR, HO2, hb5⟩ := append_peer (B := w.heap.size) HO.out x hlen HL.out.size
        rw [hq] at RR
        have R1 := Lib.hid RR
        have HO3 : Hid (OwnP w.heap.size w' v' (cameR (l.take (i + 1)))) := Lib.hid (by rw [came_yes hli (by rw [← HX.out]; exact hq), ← HX.out]; exact HO2)
        have HL3 : Hid (Below w.heap.size w w') := Lib.hid (HL.out.trans hb5)
        rw [hq] at c4
        clear RR HO2 hb5 HO HL hq HX
        go_wp2_with (first
          | (at_builtin; refine wpList_append_run rfl (.tmp 17) (.tmp 22) _ _ rfl rfl _ _ _ _ rfl rfl R1.out ?_)
          | fail)
        go_roundw
        case rel => exact ⟨i + 1, by go_num, by omega, HO3, HL3⟩
        case measure => simp [intOf]; omega
    · have hliz : ¬ (i : Int) < (l.length : Int) := by omega
      have HR := Lib.hid (ownP_peers HO.out)
      have HE : Hid (cameR (l.take i) = cameR l) := Lib.hid (came_done (by omega))
      clear HO
      go_wp2_with fail
      go_ret
      exact ⟨_, rfl, by rw [← HE.out]; exact HR.out, HL.out⟩
set_option maxHeartbeats 8000000 in
theorem rcandidates_any (v : Value) (l : List Pr) (q : Qt) (s : Nat) (w : World) (h : Peers w v l) (hok : ∀ x ∈ l, x.ok) (hl : l.length ≤ 900000) (hs : s < 18446744073709551616) :
    Calls Try.prog 38 #[v, .agg #[.int .i64 q.g, .int .i64 q.p, .int .i64 q.w, .int .i64 q.t], .int .u64 (s : Nat)] w fun e w' => ∃ u, e = .returned u ∧ Peers w' u (candR l q s) ∧ Below w.heap.size w w' := by
  have L0 : Hid (Lows w (w.alloc (.cells #[.int .i64 q.g, .int .i64 q.p, .int .i64 q.w, .int .i64 q.t] 24))) := Lib.hid (Lows.alloc (Lows.self w) _)
  have OQ := Lib.hid (Blk.new w #[.int .i64 q.g, .int .i64 q.p, .int .i64 q.w, .int .i64 q.t] 24)
  have KI := Lib.hid (rcame_any v l (w.alloc (.cells #[.int .i64 q.g, .int .i64 q.p, .int .i64 q.w, .int .i64 q.t] 24)) (h.below L0.out) hl)
  have E : Hid (candR l q s = thoseR (cameR l) (restR (cameR l).length (savedR (cameR l) q s 4))) := Lib.hid rfl
  have KL : Hid (∀ W u, Peers W u (cameR l) → Calls Try.prog 48 #[u, .agg #[.int .i64 q.g, .int .i64 q.p, .int .i64 q.w, .int .i64 q.t], .int .u64 (s : Nat)] W fun e w' => ∃ u, e = .returned u ∧ BoolsI w' u (ls (cameR l).length (savedR (cameR l) q s 4)) ∧ Below W.heap.size W w') := Lib.hid fun W u hu => rsaved_any u (cameR l) q s W hu (came_ok hok) (Nat.le_trans (came_le l) (by omega)) hs
  have hn : (cameR l).length ≤ 900000 := Nat.le_trans (came_le l) hl
  generalize savedR (cameR l) q s 4 = S at *
  generalize cameR l = L at *
  clear h hok hs hl
  go_enter Try.func38, Try.ntmps38
  go_wp2_with fail
  refine KI.out.mono ?_; rintro e9 w1 ⟨u, rfl, hU, hb1⟩
  have L1 := Lib.hid (low_trans L0.out hb1)
  have OQ1 := OQ.out.on hb1
  have q0 := OQ1.cell (j := 0) rfl
  have q1 := OQ1.cell (j := 1) rfl
  have q2 := OQ1.cell (j := 2) rfl
  have q3 := OQ1.cell (j := 3) rfl
  have KF := Lib.hid (KL.out w1 u hU)
  have HU := Lib.hid hU
  clear hb1 hU KI KL OQ OQ1
  go_wp2_with fail
  refine KF.out.mono ?_; rintro e9 w2 ⟨u2, rfl, hN, hb2⟩
  have L2 := Lib.hid (low_trans L1.out hb2)
  have hU := HU.out.below hb2
  clear hb2 KF HU q0 q1 q2 q3
  obtain ⟨A, c, rfl, hc, _, hcell⟩ := hU
  obtain ⟨A2, c2, rfl, hc2, _, hcell2⟩ := hN
  have HC := Lib.hid hcell
  have HC2 := Lib.hid hcell2
  have HLN : Hid ((ls L.length S).length = L.length) := Lib.hid (ls_length _ S)
  rw [ls_length]
  clear hcell hcell2 hc2 hc
  go_wp2_with fail
  go_loopw [9, 10] (fun vr vi wr => ∃ (i : Nat), vi = .int .i64 i ∧ i ≤ L.length ∧ Hid (OwnP w2.heap.size wr vr (thoseR L (restR i S))) ∧ Hid (Lows w2 wr)) (fun _ vi _ => L.length - (intOf vi).toNat)
  case atStart => exact ⟨0, rfl, Nat.zero_le _, Lib.hid (ownP_lit w2 (Nat.le_refl _)), Lib.hid (Lows.alloc (Lows.self _) _)⟩
  case round =>
    obtain ⟨i, rfl, hi, HO, HL⟩ := hrel
    by_cases hli : i < L.length
    · have hliz : (i : Int) < (L.length : Int) := by omega
      obtain ⟨bb, o, rfl, hb, hcc⟩ := HC.out (by omega)
      obtain ⟨b2, o2, rfl, hb2, hcc2⟩ := HC2.out (by rw [HLN.out]; omega)
      have e0 := bool_at HL.out hb2 hcc2 hli
      obtain ⟨x, hx⟩ : ∃ x, x = L[i]! := ⟨_, rfl⟩
      have c0 : wr.cell? ⟨bb, o + i * 10, none⟩ = some (.bool x.e.a.v6) := peer_at HL.out hb hcc hli (j := 0) (by rw [← hx]; rfl)
      have c1 : wr.cell? ⟨bb, o + i * 10 + 1, none⟩ = some (.int .u64 x.e.a.hi) := peer_at HL.out hb hcc hli (j := 1) (by rw [← hx]; rfl)
      have c2 : wr.cell? ⟨bb, o + i * 10 + 2, none⟩ = some (.int .u64 x.e.a.lo) := peer_at HL.out hb hcc hli (j := 2) (by rw [← hx]; rfl)
      have c3 : wr.cell? ⟨bb, o + i * 10 + 3, none⟩ = some (.int .i64 x.e.n) := peer_at HL.out hb hcc hli (j := 3) (by rw [← hx]; rfl)
      have c4 : wr.cell? ⟨bb, o + i * 10 + 4, none⟩ = some (.bool x.i) := peer_at HL.out hb hcc hli (j := 4) (by rw [← hx]; rfl)
      have c5 : wr.cell? ⟨bb, o + i * 10 + 5, none⟩ = some (.int .i64 x.t) := peer_at HL.out hb hcc hli (j := 5) (by rw [← hx]; rfl)
      have c6 : wr.cell? ⟨bb, o + i * 10 + 6, none⟩ = some (.int .i64 x.c.p) := peer_at HL.out hb hcc hli (j := 6) (by rw [← hx]; rfl)
      have c7 : wr.cell? ⟨bb, o + i * 10 + 7, none⟩ = some (.int .i64 x.c.a) := peer_at HL.out hb hcc hli (j := 7) (by rw [← hx]; rfl)
      have c8 : wr.cell? ⟨bb, o + i * 10 + 8, none⟩ = some (.int .i64 x.g) := peer_at HL.out hb hcc hli (j := 8) (by rw [← hx]; rfl)
      have c9 : wr.cell? ⟨bb, o + i * 10 + 9, none⟩ = some (.int .i64 x.k) := peer_at HL.out hb hcc hli (j := 9) (by rw [← hx]; rfl)
      have hlen : (thoseR L (restR i S)).length ≤ 900000 := by rw [those_length]; have := rest_le i S; omega
      have HX := Lib.hid hx
      clear hcc hb hx hcc2 hb2
      cases hq : S i with
      | true =>
        rw [hq] at e0
        have HY : Hid (thoseR L (restR (i + 1) S) = thoseR L (restR i S)) := Lib.hid (those_yes hq)
        clear hq HX
        go_wp2_with fail
        go_roundw
        case rel => exact ⟨i + 1, by go_num, by omega, Lib.hid (by rw [HY.out]; exact HO.out), HL⟩
        case measure => simp [intOf]; omega
      | false =>
        rw [hq] at e0
        obtain ⟨v', w', RR, HO2, hb5⟩ := append_peer (B := w2.heap.size) HO.out x hlen HL.out.size
        have R1 := Lib.hid RR
        have HO3 : Hid (OwnP w2.heap.size w' v' (thoseR L (restR (i + 1) S))) := Lib.hid (by rw [those_no hq, ← HX.out]; exact HO2)
        have HL3 : Hid (Lows w2 w') := Lib.hid (HL.out.trans hb5)
        clear RR HO2 hb5 HO HL hq HX
        go_wp2_with (first
          | (at_builtin; refine wpList_append_run rfl (.tmp 29) (.tmp 34) _ _ rfl rfl _ _ _ _ rfl rfl R1.out ?_)
          | fail)
        go_roundw
        case rel => exact ⟨i + 1, by go_num, by omega, HO3, HL3⟩
        case measure => simp [intOf]; omega
    · have hliz : ¬ (i : Int) < (L.length : Int) := by omega
      have HR := Lib.hid (ownP_peers HO.out)
      have HE : Hid (L.length = i) := Lib.hid (by omega)
      clear HO
      go_wp2_with fail
      go_ret
      exact ⟨_, rfl, by rw [E.out, HE.out]; exact HR.out, low_trans L2.out HL.out⟩
set_option maxHeartbeats 8000000 in
theorem rchoose_any (v : Value) (l : List Pr) (q : Qt) (s : Nat) (w : World) (h : Peers w v l) (hok : ∀ x ∈ l, x.ok) (hl : l.length ≤ 900000) (hs : s < 18446744073709551616) :
    Calls Try.prog 28 #[v, .agg #[.int .i64 q.g, .int .i64 q.p, .int .i64 q.w, .int .i64 q.t], .int .u64 (s : Nat)] w fun e w' => e = .returned (.tuple #[.agg #[.bool (exitR (candR l q s)).a.v6, .int .u64 (exitR (candR l q s)).a.hi, .int .u64 (exitR (candR l q s)).a.lo, .int .i64 (exitR (candR l q s)).n], .bool (decide (0 < (candR l q s).length))]) ∧ Below w.heap.size w w' := by
  have L0 : Hid (Lows w ((w.alloc (.cells #[.int .i64 q.g, .int .i64 q.p, .int .i64 q.w, .int .i64 q.t] 24)).alloc (.cells #[.bool false, .int .u64 0, .int .u64 0, .int .i64 0] 34))) := Lib.hid (Lows.alloc (Lows.alloc (Lows.self w) _) _)
  have OQ := Lib.hid ((Blk.new w #[.int .i64 q.g, .int .i64 q.p, .int .i64 q.w, .int .i64 q.t] 24).alloc (.cells #[.bool false, .int .u64 0, .int .u64 0, .int .i64 0] 34))
  have OE := Lib.hid (Blk.two w (.cells #[.int .i64 q.g, .int .i64 q.p, .int .i64 q.w, .int .i64 q.t] 24) #[.bool false, .int .u64 0, .int .u64 0, .int .i64 0] 34)
  have KI := Lib.hid (rcandidates_any v l q s ((w.alloc (.cells #[.int .i64 q.g, .int .i64 q.p, .int .i64 q.w, .int .i64 q.t] 24)).alloc (.cells #[.bool false, .int .u64 0, .int .u64 0, .int .i64 0] 34)) (h.below L0.out) hok hl hs)
  have KP : Hid (∀ W u, Peers W u (candR l q s) → Calls Try.prog 39 #[u] W fun e w' => e = .returned (.int .i64 (pickR (candR l q s))) ∧ Below W.heap.size W w') := Lib.hid fun W u hu => rpick_any u (candR l q s) W hu (cand_ok hok q s) (Nat.le_trans (cand_le l q s) (by omega))
  have hn : (candR l q s).length ≤ 900000 := Nat.le_trans (cand_le l q s) hl
  have q0 := OQ.out.cell (j := 0) rfl
  have q1 := OQ.out.cell (j := 1) rfl
  have q2 := OQ.out.cell (j := 2) rfl
  have q3 := OQ.out.cell (j := 3) rfl
  generalize candR l q s = C at *
  obtain ⟨g, hg⟩ : ∃ g : Bool, g = decide (0 < C.length) := ⟨_, rfl⟩
  obtain ⟨E, hE⟩ : ∃ E, E = exitR C := ⟨_, rfl⟩
  rw [← hg, ← hE]
  have HG := Lib.hid hg
  have HEE := Lib.hid hE
  clear h hok hs hl OQ hg hE
  go_enter Try.func28, Try.ntmps28
  go_wp2_with fail
  refine KI.out.mono ?_; rintro e9 w1 ⟨u, rfl, hU, hb1⟩
  have L1 := Lib.hid (low_trans L0.out hb1)
  have OE1 := OE.out.on hb1
  have KF := Lib.hid (KP.out w1 u hU)
  have HU := Lib.hid hU
  have OE1 := Lib.hid OE1
  clear hb1 hU KI KP q0 q1 q2 q3 OE
  go_wp2_with fail
  refine KF.out.mono ?_; rintro e9 w2 ⟨rfl, hb2⟩
  have L2 := Lib.hid (low_trans L1.out hb2)
  have hU := HU.out.below hb2
  have own2 := OE1.out.on hb2
  have s0 := own2.cell (j := 0) rfl
  have f0 := own2.free 0
  have s1 := own2.cell (j := 1) rfl
  have f1 := own2.free 1
  have s2 := own2.cell (j := 2) rfl
  have f2 := own2.free 2
  have s3 := own2.cell (j := 3) rfl
  have f3 := own2.free 3
  clear hb2 KF HU own2 OE1
  by_cases h0 : C.length = 0
  · have hp : pickR C = -1 := by unfold pickR; rw [if_pos h0]
    have hd : g = false := by rw [HG.out]; exact decide_eq_false (by omega)
    have he : E = zeroE := by rw [HEE.out]; unfold exitR; rw [if_pos h0]
    rw [hp]
    clear hp h0 hU hn HG HEE
    subst hd he
    go_wp2_with fail
    exact bodyPost_ret (v := .tuple #[.agg #[.bool false, .int .u64 0, .int .u64 0, .int .i64 0], .bool false]) (by simp [results, Try.results28, go_sem, s0, s1, s2, s3]) rfl ⟨rfl, by repeat (first | (with_reducible exact L2.out) | (with_reducible refine Below.setCell ?_ (by first | exact Nat.le_refl _ | exact Nat.le_succ _ | (simp; done) | (simp; omega)) _) | (refine low_drewN ?_ 1))⟩
  · have hm : bestR C (C.length - 1) < C.length := best_at (by omega)
    have hp : pickR C = (bestR C (C.length - 1) : Int) := by unfold pickR; rw [if_neg h0]
    have hd : g = true := by rw [HG.out]; exact decide_eq_true (by omega)
    have he : E = (C[bestR C (C.length - 1)]!).e := by rw [HEE.out]; unfold exitR; rw [if_neg h0]
    rw [hp]
    clear hp HG HEE
    generalize bestR C (C.length - 1) = m at *
    obtain ⟨A, c, rfl, hc, _, hcell⟩ := hU
    obtain ⟨bb, o, rfl, hb, hcc⟩ := hcell (by omega)
    obtain ⟨x, hx⟩ : ∃ x, x = C[m]! := ⟨_, rfl⟩
    have c0 : w2.cell? ⟨bb, o + m * 10, none⟩ = some (.bool x.e.a.v6) := peer_at (Below.refl _ _) hb hcc hm (j := 0) (by rw [← hx]; rfl)
    have c1 : w2.cell? ⟨bb, o + m * 10 + 1, none⟩ = some (.int .u64 x.e.a.hi) := peer_at (Below.refl _ _) hb hcc hm (j := 1) (by rw [← hx]; rfl)
    have c2 : w2.cell? ⟨bb, o + m * 10 + 2, none⟩ = some (.int .u64 x.e.a.lo) := peer_at (Below.refl _ _) hb hcc hm (j := 2) (by rw [← hx]; rfl)
    have c3 : w2.cell? ⟨bb, o + m * 10 + 3, none⟩ = some (.int .i64 x.e.n) := peer_at (Below.refl _ _) hb hcc hm (j := 3) (by rw [← hx]; rfl)
    rw [← hx] at he
    subst hd he
    have hmz : (m : Int) < (C.length : Int) := by omega
    have hmn : ¬ (m : Int) < 0 := by omega
    have hmb : (m : Int) ≤ 9223372036854775807 := by omega
    clear hcell hcc hb hx h0
    go_wp2_with fail
    exact bodyPost_ret (v := .tuple #[.agg #[.bool x.e.a.v6, .int .u64 x.e.a.hi, .int .u64 x.e.a.lo, .int .i64 x.e.n], .bool true]) (by simp [results, Try.results28, go_sem, s0, s1, s2, s3]) rfl ⟨rfl, by repeat (first | (with_reducible exact L2.out) | (with_reducible refine Below.setCell ?_ (by first | exact Nat.le_refl _ | exact Nat.le_succ _ | (simp; done) | (simp; omega)) _) | (refine low_drewN ?_ 1))⟩
set_option maxHeartbeats 4000000 in
theorem samePeers_any (u1 u2 : Value) (L : List Pr) (w : World) (h1 : Peers w u1 L) (h2 : Peers w u2 L) (hl : L.length ≤ 1000000) :
    Calls Try.prog 11 #[u1, u2] w fun e w' => e = .returned (.bool true) ∧ Below w.heap.size w w' := by
  obtain ⟨A1, c1, rfl, hc1, _, hcell1⟩ := h1
  obtain ⟨A2, c2, rfl, hc2, _, hcell2⟩ := h2
  have HC1 := Lib.hid hcell1
  have HC2 := Lib.hid hcell2
  have z0 : ((L.length : Int) != (L.length : Int)) = false := by simp
  clear hcell1 hcell2
  go_enter Try.func11, Try.ntmps11
  go_wp2_with fail
  go_loopw [5] (fun vi wr => ∃ i : Nat, vi = .int .i64 i ∧ i ≤ L.length ∧ Hid (Lows w wr)) (fun vi _ => L.length - (intOf vi).toNat)
  case atStart => exact ⟨0, rfl, Nat.zero_le _, Lib.hid (Lows.self _)⟩
  case round =>
    obtain ⟨i, rfl, hi, HL⟩ := hrel
    by_cases hli : i < L.length
    · have hliz : (i : Int) < (L.length : Int) := by omega
      obtain ⟨b1, o1, rfl, hb1, hcc1⟩ := HC1.out (by omega)
      obtain ⟨b2, o2, rfl, hb2, hcc2⟩ := HC2.out (by omega)
      obtain ⟨x, hx⟩ : ∃ x, x = L[i]! := ⟨_, rfl⟩
      have NQ := fun W => neqPeer_self x W
      have hne : Nonempty (Cls (Lows wr)) := ⟨⟨_, Lows.self _⟩⟩
      have f0 : ∀ nq : Cls (Lows wr), nq.w.cell? ⟨b1, o1 + i * 10, none⟩ = some (.bool x.e.a.v6) := fun nq => by rw [hx]; exact peer_at (low_trans'' HL.out nq.h) hb1 hcc1 hli (j := 0) rfl
      have f1 : ∀ nq : Cls (Lows wr), nq.w.cell? ⟨b1, o1 + i * 10 + 1, none⟩ = some (.int .u64 x.e.a.hi) := fun nq => by rw [hx]; exact peer_at (low_trans'' HL.out nq.h) hb1 hcc1 hli (j := 1) rfl
      have f2 : ∀ nq : Cls (Lows wr), nq.w.cell? ⟨b1, o1 + i * 10 + 2, none⟩ = some (.int .u64 x.e.a.lo) := fun nq => by rw [hx]; exact peer_at (low_trans'' HL.out nq.h) hb1 hcc1 hli (j := 2) rfl
      have f3 : ∀ nq : Cls (Lows wr), nq.w.cell? ⟨b1, o1 + i * 10 + 3, none⟩ = some (.int .i64 x.e.n) := fun nq => by rw [hx]; exact peer_at (low_trans'' HL.out nq.h) hb1 hcc1 hli (j := 3) rfl
      have f4 : ∀ nq : Cls (Lows wr), nq.w.cell? ⟨b1, o1 + i * 10 + 4, none⟩ = some (.bool x.i) := fun nq => by rw [hx]; exact peer_at (low_trans'' HL.out nq.h) hb1 hcc1 hli (j := 4) rfl
      have f5 : ∀ nq : Cls (Lows wr), nq.w.cell? ⟨b1, o1 + i * 10 + 5, none⟩ = some (.int .i64 x.t) := fun nq => by rw [hx]; exact peer_at (low_trans'' HL.out nq.h) hb1 hcc1 hli (j := 5) rfl
      have f6 : ∀ nq : Cls (Lows wr), nq.w.cell? ⟨b1, o1 + i * 10 + 6, none⟩ = some (.int .i64 x.c.p) := fun nq => by rw [hx]; exact peer_at (low_trans'' HL.out nq.h) hb1 hcc1 hli (j := 6) rfl
      have f7 : ∀ nq : Cls (Lows wr), nq.w.cell? ⟨b1, o1 + i * 10 + 7, none⟩ = some (.int .i64 x.c.a) := fun nq => by rw [hx]; exact peer_at (low_trans'' HL.out nq.h) hb1 hcc1 hli (j := 7) rfl
      have f8 : ∀ nq : Cls (Lows wr), nq.w.cell? ⟨b1, o1 + i * 10 + 8, none⟩ = some (.int .i64 x.g) := fun nq => by rw [hx]; exact peer_at (low_trans'' HL.out nq.h) hb1 hcc1 hli (j := 8) rfl
      have f9 : ∀ nq : Cls (Lows wr), nq.w.cell? ⟨b1, o1 + i * 10 + 9, none⟩ = some (.int .i64 x.k) := fun nq => by rw [hx]; exact peer_at (low_trans'' HL.out nq.h) hb1 hcc1 hli (j := 9) rfl
      have g0 : ∀ nq : Cls (Lows wr), nq.w.cell? ⟨b2, o2 + i * 10, none⟩ = some (.bool x.e.a.v6) := fun nq => by rw [hx]; exact peer_at (low_trans'' HL.out nq.h) hb2 hcc2 hli (j := 0) rfl
      have g1 : ∀ nq : Cls (Lows wr), nq.w.cell? ⟨b2, o2 + i * 10 + 1, none⟩ = some (.int .u64 x.e.a.hi) := fun nq => by rw [hx]; exact peer_at (low_trans'' HL.out nq.h) hb2 hcc2 hli (j := 1) rfl
      have g2 : ∀ nq : Cls (Lows wr), nq.w.cell? ⟨b2, o2 + i * 10 + 2, none⟩ = some (.int .u64 x.e.a.lo) := fun nq => by rw [hx]; exact peer_at (low_trans'' HL.out nq.h) hb2 hcc2 hli (j := 2) rfl
      have g3 : ∀ nq : Cls (Lows wr), nq.w.cell? ⟨b2, o2 + i * 10 + 3, none⟩ = some (.int .i64 x.e.n) := fun nq => by rw [hx]; exact peer_at (low_trans'' HL.out nq.h) hb2 hcc2 hli (j := 3) rfl
      have g4 : ∀ nq : Cls (Lows wr), nq.w.cell? ⟨b2, o2 + i * 10 + 4, none⟩ = some (.bool x.i) := fun nq => by rw [hx]; exact peer_at (low_trans'' HL.out nq.h) hb2 hcc2 hli (j := 4) rfl
      have g5 : ∀ nq : Cls (Lows wr), nq.w.cell? ⟨b2, o2 + i * 10 + 5, none⟩ = some (.int .i64 x.t) := fun nq => by rw [hx]; exact peer_at (low_trans'' HL.out nq.h) hb2 hcc2 hli (j := 5) rfl
      have g6 : ∀ nq : Cls (Lows wr), nq.w.cell? ⟨b2, o2 + i * 10 + 6, none⟩ = some (.int .i64 x.c.p) := fun nq => by rw [hx]; exact peer_at (low_trans'' HL.out nq.h) hb2 hcc2 hli (j := 6) rfl
      have g7 : ∀ nq : Cls (Lows wr), nq.w.cell? ⟨b2, o2 + i * 10 + 7, none⟩ = some (.int .i64 x.c.a) := fun nq => by rw [hx]; exact peer_at (low_trans'' HL.out nq.h) hb2 hcc2 hli (j := 7) rfl
      have g8 : ∀ nq : Cls (Lows wr), nq.w.cell? ⟨b2, o2 + i * 10 + 8, none⟩ = some (.int .i64 x.g) := fun nq => by rw [hx]; exact peer_at (low_trans'' HL.out nq.h) hb2 hcc2 hli (j := 8) rfl
      have g9 : ∀ nq : Cls (Lows wr), nq.w.cell? ⟨b2, o2 + i * 10 + 9, none⟩ = some (.int .i64 x.k) := fun nq => by rw [hx]; exact peer_at (low_trans'' HL.out nq.h) hb2 hcc2 hli (j := 9) rfl
      clear hx hcc1 hcc2 hb1 hb2
      go_wp2_with fail
      refine Cls.region (Lows wr) (by kernel_rfl) (by kernel_rfl) (low_drewN (Below.refl _ _) 1) ?_
      (try dsimp only [List.append])
      repeat (go_big_quiet_step (first | fail))
      refine wpQuiet_nil ?_
      intro n9
      have hk9 := n9.h
      generalize n9.w = w9 at hk9 ⊢
      clear hne n9 NQ f0 f1 f2 f3 f4 f5 f6 f7 f8 f9 g0 g1 g2 g3 g4 g5 g6 g7 g8 g9
      go_wp2_with fail
      go_roundw
      case rel => exact ⟨i + 1, by go_num, by omega, Lib.hid (low_trans HL.out hk9)⟩
      case measure => simp [intOf]; omega
    · have hliz : ¬ (i : Int) < (L.length : Int) := by omega
      go_wp2_with fail
      go_ret
      exact ⟨rfl, HL.out⟩
end Go.Proofs.Ythmcggbmeabpmaa.Ev
