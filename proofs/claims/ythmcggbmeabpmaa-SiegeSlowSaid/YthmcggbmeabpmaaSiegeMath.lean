/- Of layer 22 (siege), in plain words: what becomes of peers when some come, one behind the other; who is safe, and that the safe stay. -/
import Derived.Test.YthmcggbmeabpmaaEvictAll
namespace Go.Proofs.Ythmcggbmeabpmaa.Si
set_option maxRecDepth 100000
set_option linter.unusedVariables false
open Dec Words V4 V6 Ad Ci En Sat Ha Pe Stb Gr Mi Ra Sh Cw Ev
/-- A peer that came. -/
def setI (x : Pr) : Pr := ⟨x.e, true, x.t, x.c, x.g, x.k⟩
def sameP (x y : Pr) : Bool := sameE x.e y.e && (x.i == y.i) && (x.t == y.t) && (x.c.p == y.c.p && x.c.a == y.c.a) && (x.g == y.g) && (x.k == y.k)
/-- Where an end stands first; behind the last, if nowhere. -/
def fstN (l : List Pr) (e : Endp) : Nat := l.findIdx fun x => sameE x.e e
def ixE (l : List Pr) (e : Endp) : Int := if fstN l e < l.length then (fstN l e : Int) else -1
def goneR (l : List Pr) (i : Nat) : List Pr := l.take i ++ l.drop (i + 1)
/-- How many may come, the quotas, the secret. -/
structure Sit where
  (m : Int) (q : Qt) (s : Nat)
def Sit.ok (S : Sit) : Prop := I64 S.m ∧ S.q.ok ∧ S.s < 18446744073709551616
def arrL (l : List Pr) (p : Pr) (S : Sit) : List Pr :=
  if fstN l p.e < l.length then l else if ((cameR l).length : Int) < S.m then l ++ [setI p] else if (candR l S.q S.s).length = 0 then l else goneR l (fstN l (exitR (candR l S.q S.s))) ++ [setI p]
def arrE (l : List Pr) (p : Pr) (S : Sit) : Endp :=
  if fstN l p.e < l.length then zeroE else if ((cameR l).length : Int) < S.m then zeroE else exitR (candR l S.q S.s)
def arrC (l : List Pr) (p : Pr) (S : Sit) : Int :=
  if fstN l p.e < l.length then 7 else if ((cameR l).length : Int) < S.m then 0 else if (candR l S.q S.s).length = 0 then 5 else 0
def runR (S : Sit) (l news : List Pr) : List Pr := news.foldl (fun l p => arrL l p S) l
def allR (l news : List Pr) (i : Nat) : List Pr := l[i]! :: (cameR l ++ news)
def safeR (l news : List Pr) (i : Nat) (q : Qt) (s : Nat) : Bool := (l[i]!).i && insR (allR l news i) 0 q s
/-- All others, as if they were there. -/
def rivR (y : Pr) (l news : List Pr) : List Pr := (l ++ news.map setI).filter fun x => !sameP x y
def aloneQ (q : Qt) (b : Nat) : Qt := if b = 1 then ⟨q.g, 0, 0, 0⟩ else if b = 2 then ⟨0, q.p, 0, 0⟩ else if b = 3 then ⟨0, 0, q.w, 0⟩ else ⟨0, 0, 0, q.t⟩
def testB (c : List Pr) (y : Pr) : Bool := decide (c.length = 0) || !sameP c[0]! y
section
variable {l m news : List Pr} {p x y : Pr} {q : Qt} {s i k : Nat} {b : Int} {S : Sit}
theorem sameP_iff (x y : Pr) : sameP x y = true ↔ x = y := by
  unfold sameP
  simp only [Bool.and_eq_true, beq_iff_eq, sameE_iff]
  constructor
  · rintro ⟨⟨⟨⟨⟨h1, h2⟩, h3⟩, h4, h5⟩, h6⟩, h7⟩
    obtain ⟨xe, xi, xt, ⟨xp, xa⟩, xg, xk⟩ := x
    obtain ⟨ye, yi, yt, ⟨yp, ya⟩, yg, yk⟩ := y
    simp only at h1 h2 h3 h4 h5 h6 h7
    subst h1 h2 h3 h4 h5 h6 h7
    rfl
  · rintro rfl
    exact ⟨⟨⟨⟨⟨rfl, rfl⟩, rfl⟩, rfl, rfl⟩, rfl⟩, rfl⟩
theorem sameP_not (h : x ≠ y) : sameP x y = false := by
  cases e : sameP x y with
  | false => rfl
  | true => exact (h ((sameP_iff _ _).1 e)).elim
theorem setI_ok (h : x.ok) : (setI x).ok := h
/-! How many stand ahead. -/
theorem map_bang (l : List Pr) : (List.range l.length).map (fun j => l[j]!) = l := by
  refine List.ext_getElem (by simp) fun j h1 h2 => ?_
  rw [List.getElem_map, List.getElem_range, getElem!_pos l j h2]
theorem count_bang (l : List Pr) (f : Pr → Bool) : ((List.range l.length).filter fun j => f l[j]!).length = l.countP f := by
  rw [← List.countP_eq_length_filter]
  conv => rhs; rw [← map_bang l, List.countP_map]
  rfl
def ahF (y : Pr) (b : Int) (s : Nat) (x : Pr) : Bool := countsR x b && aheadR x y b s
theorem rank_count (l : List Pr) (h : i < l.length) (b : Int) (s : Nat) : rankR l (i : Int) b s = ((l.countP (ahF l[i]! b s) : Nat) : Int) := by
  unfold rankR
  rw [if_pos (by omega), Int.toNat_natCast]
  congr 1
  exact count_bang l (ahF l[i]! b s)
theorem ahF_self (y : Pr) (b : Int) (s : Nat) : ahF y b s y = false := by
  have h := ltP_irr b s y
  unfold ahF aheadR loL
  unfold ltP at h
  rw [decide_eq_false h, Bool.and_false]
theorem ahF_set (x y : Pr) (b : Int) (s : Nat) : ahF y b s (setI x) = ahF y b s x := rfl
theorem rank_head (y : Pr) (C : List Pr) (b : Int) (s : Nat) : rankR (y :: C) 0 b s = ((C.countP (ahF y b s) : Nat) : Int) := by
  have h := rank_count (y :: C) (i := 0) (by simp) b s
  rw [show ((0 : Nat) : Int) = 0 from rfl] at h
  rw [h]
  congr 1
  exact List.countP_cons_of_neg (by rw [show (y :: C)[0]! = y from rfl, ahF_self]; simp)
/-- The first of a list is in the order's first ones just if its rank is small. -/
theorem first_head (y : Pr) (C : List Pr) (b n : Int) (s : Nat) : decide (0 ∈ firstR (y :: C) b n s) = (countsR y b && decide (rankR (y :: C) 0 b s < n)) := by
  obtain ⟨l, hl⟩ : ∃ l, l = y :: C := ⟨_, rfl⟩
  have h0 : l[0]! = y := by rw [hl]; rfl
  have hlen : 0 < l.length := by rw [hl]; simp
  rw [← hl]
  have hr : rankR l 0 b s = ((beforeR l 0 b s l.length).length : Int) := by unfold rankR; rw [if_pos (by omega)]; rfl
  rw [hr]
  cases hc : countsR y b with
  | false =>
    rw [Bool.false_and, decide_eq_false_iff_not]
    intro hm
    unfold firstR at hm
    have := (ordR_mem.1 (List.mem_of_mem_take hm)).2
    rw [h0, hc] at this; cases this
  | true =>
    rw [Bool.true_and, decide_eq_decide]
    obtain ⟨p, hp, e0⟩ := List.getElem_of_mem (ordR_mem (s := s).2 ⟨hlen, by rw [h0]; exact hc⟩)
    have hs := List.pairwise_iff_getElem.1 (ordR_sorted l b s)
    have hnO : (ordR l b s).Nodup := (ordR_sorted l b s).imp fun {i j} hl e => by subst e; exact ltL_irr _ hl
    have hn1 : (beforeR l 0 b s l.length).Nodup := by unfold beforeR; exact List.Pairwise.filter _ List.nodup_range
    have hn2 : ((ordR l b s).take p).Nodup := List.Pairwise.sublist (List.take_sublist _ _) hnO
    have e : (beforeR l 0 b s l.length).Perm ((ordR l b s).take p) := by
      rw [List.perm_ext_iff_of_nodup hn1 hn2]
      intro i
      unfold beforeR
      rw [List.mem_filter, List.mem_range, Bool.and_eq_true]
      constructor
      · rintro ⟨hi, hc, ha⟩
        have hlt : cmpL (placeR l[i]! b s 0) (placeR l[0]! b s 0) < 0 := by simpa [aheadR, loL] using ha
        obtain ⟨q, hq, rfl⟩ := List.getElem_of_mem (ordR_mem (s := s).2 ⟨hi, hc⟩)
        have hqp : q < p := by
          rcases Nat.lt_trichotomy q p with c | c | c
          · exact c
          · subst c
            rw [e0] at hlt
            exact (ltP_irr b s _ hlt).elim
          · have := hs p q hp hq c
            rw [e0] at this
            have h2 : ltL (plR l b s (ordR l b s)[q]) (plR l b s 0) := Or.inl (by rw [cmp_plR]; exact hlt)
            exact (ltL_asy _ _ this h2).elim
        have : ((ordR l b s).take p)[q]'(by rw [List.length_take]; omega) = (ordR l b s)[q] := List.getElem_take
        rw [← this]
        exact List.getElem_mem _
      · intro hi
        obtain ⟨q, hq, e⟩ := List.getElem_of_mem hi
        rw [List.length_take] at hq
        rw [List.getElem_take] at e
        subst e
        have mq := ordR_mem.1 (List.getElem_mem (show q < (ordR l b s).length by omega))
        refine ⟨mq.1, mq.2, ?_⟩
        have hlt := hs q p (by omega) hp (by omega)
        rw [e0] at hlt
        rcases hlt with h | ⟨_, h⟩
        · have h : cmpL (placeR l[(ordR l b s)[q]]! b s 0) (placeR l[0]! b s 0) < 0 := h
          unfold aheadR loL
          exact decide_eq_true h
        · have h : ((ordR l b s)[q] : Int) < ((0 : Nat) : Int) := h
          omega
    rw [e.length_eq, List.length_take]
    unfold firstR
    constructor
    · intro hm
      obtain ⟨q, hq, e⟩ := List.getElem_of_mem hm
      rw [List.length_take] at hq
      rw [List.getElem_take, ← e0] at e
      have : q = p := by
        have h2 := List.pairwise_iff_getElem.1 hnO
        rcases Nat.lt_trichotomy q p with c | c | c
        · exact (h2 q p (by omega) hp c e).elim
        · exact c
        · exact (h2 p q hp (by omega) c e.symm).elim
      omega
    · intro hlt
      have : ((ordR l b s).take n.toNat)[p]'(by rw [List.length_take]; omega) = (ordR l b s)[p] := List.getElem_take
      rw [← e0, ← this]
      exact List.getElem_mem _
theorem saved_still {Q : Qt} (h : (Q.by ((k + 1 : Nat) : Int)).toNat = 0) : savedR l Q s (k + 1) = savedR l Q s k := by
  show upto _ _ _ = _
  rw [h, upto_zero]
theorem saved_first {Q : Qt} (h : savedR l Q s k = fun _ => false) : savedR l Q s (k + 1) = fun p => decide (p ∈ firstR l ((k + 1 : Nat) : Int) (Q.by ((k + 1 : Nat) : Int)) s) := by
  show upto _ _ _ = _
  rw [h]
  funext p
  unfold upto firstR ordX
  show (false || decide (p ∈ List.take _ (List.filter (fun _ => true) _))) = _
  rw [List.filter_eq_self.2 (fun _ _ => rfl), Bool.false_or]
theorem alone_by (q : Qt) {b : Nat} (hb : 1 ≤ b ∧ b ≤ 4) : (aloneQ q b).by (b : Int) = q.by (b : Int) ∧ ∀ c : Nat, 1 ≤ c → c ≤ 4 → c ≠ b → (aloneQ q b).by (c : Int) = 0 := by
  obtain rfl | rfl | rfl | rfl : b = 1 ∨ b = 2 ∨ b = 3 ∨ b = 4 := by omega
  all_goals
    refine ⟨by simp [aloneQ, Qt.by], fun c h1 h2 h3 => ?_⟩
    obtain rfl | rfl | rfl | rfl : c = 1 ∨ c = 2 ∨ c = 3 ∨ c = 4 := by omega
    all_goals first | (exact absurd rfl h3) | simp [aloneQ, Qt.by]
/-- Under one quota alone, whoever is among the first is protected. -/
theorem saved_alone (l : List Pr) (q : Qt) (s : Nat) {b : Nat} (hb : 1 ≤ b ∧ b ≤ 4) : savedR l (aloneQ q b) s 4 = fun p => decide (p ∈ firstR l (b : Int) (q.by (b : Int)) s) := by
  obtain ⟨h1, h2⟩ := alone_by q hb
  have z : ∀ k : Nat, k < 4 → k + 1 ≠ b → savedR l (aloneQ q b) s (k + 1) = savedR l (aloneQ q b) s k := fun k hk hn => saved_still (by rw [h2 (k + 1) (by omega) (by omega) hn]; rfl)
  have u : ∀ k : Nat, k ≤ 4 → k < b → savedR l (aloneQ q b) s k = fun _ => false := by
    intro k
    induction k with
    | zero => intro _ _; rfl
    | succ k ih => intro h3 h4; rw [z k (by omega) (by omega)]; exact ih (by omega) (by omega)
  have a : ∀ k : Nat, k ≤ 4 → b ≤ k → savedR l (aloneQ q b) s k = fun p => decide (p ∈ firstR l (b : Int) (q.by (b : Int)) s) := by
    intro k
    induction k with
    | zero => intro h3 h4; omega
    | succ k ih =>
      intro h3 h4
      by_cases e : k + 1 = b
      · rw [saved_first (u k (by omega) (by omega)), e, h1]
      · rw [z k (by omega) e]; exact ih (by omega) (by omega)
  exact a 4 (Nat.le_refl _) hb.2
theorem head_saved (C : List Pr) (hC : ∀ x ∈ C, x ≠ y) (S : Nat → Bool) : testB (thoseR (y :: C) (restR (y :: C).length S)) y = S 0 := by
  cases hS : S 0 with
  | true =>
    unfold testB
    by_cases h0 : (thoseR (y :: C) (restR (y :: C).length S)).length = 0
    · rw [decide_eq_true h0]; rfl
    · have hm : (thoseR (y :: C) (restR (y :: C).length S))[0]! ∈ thoseR (y :: C) (restR (y :: C).length S) := by
        rw [getElem!_pos _ 0 (by omega)]; exact List.getElem_mem _
      obtain ⟨i, h1, h2, h3⟩ := those_mem.1 hm
      rw [← h3]
      cases i with
      | zero => rw [hS] at h2; cases h2
      | succ j =>
        have hj : j < C.length := by simp at h1; omega
        have e : (y :: C)[j + 1]! = C[j] := by rw [getElem!_pos (y :: C) (j + 1) h1]; rfl
        rw [e, sameP_not (hC _ (List.getElem_mem hj))]
        simp
  | false =>
    have e : restR (y :: C).length S = 0 :: ((List.range C.length).map Nat.succ).filter fun i => !S i := by
      unfold restR
      rw [List.length_cons, List.range_succ_eq_map, List.filter_cons_of_pos (by rw [hS]; rfl)]
    rw [e]
    unfold testB thoseR
    simp only [List.map_cons, List.length_cons]
    rw [show ((y :: C)[0]! :: List.map (fun i => (y :: C)[i]!) ((List.map Nat.succ (List.range C.length)).filter fun i => !S i))[0]! = y from rfl, (sameP_iff y y).2 rfl]
    simp
theorem cand_alone (C : List Pr) (hC : ∀ x ∈ C, x ≠ y) (hi : y.i = true) {b : Nat} (hb : 1 ≤ b ∧ b ≤ 4) : testB (candR (y :: C) (aloneQ q b) s) y = Sh.inR (y :: cameR C) 0 q s (b : Int) := by
  have e : cameR (y :: C) = y :: cameR C := by unfold cameR; exact List.filter_cons_of_pos hi
  unfold candR leftR
  rw [e, head_saved (cameR C) (fun x hx => hC x (List.mem_filter.1 hx).1), saved_alone _ q s hb]
  exact first_head y (cameR C) b (q.by b) s
theorem came_set (l : List Pr) : cameR (l.map setI) = l.map setI := by
  unfold cameR
  rw [List.filter_eq_self]
  intro x hx
  obtain ⟨z, _, rfl⟩ := List.mem_map.1 hx
  rfl
theorem came_app (l m : List Pr) : cameR (l ++ m) = cameR l ++ cameR m := List.filter_append ..
theorem count_set (f : Pr → Bool) (hf : ∀ x, f (setI x) = f x) (l : List Pr) : (l.map setI).countP f = l.countP f := by
  rw [List.countP_map]
  congr 1
  funext x
  exact hf x
theorem riv_count (y : Pr) (l news : List Pr) (b : Int) (s : Nat) : (cameR (rivR y l news)).countP (ahF y b s) = (cameR l ++ news).countP (ahF y b s) := by
  have e : cameR (rivR y l news) = (cameR (l ++ news.map setI)).filter fun x => !sameP x y := by
    unfold cameR rivR
    rw [List.filter_filter, List.filter_filter]
    congr 1
    funext x
    exact Bool.and_comm _ _
  rw [e, came_app, came_set, List.countP_filter, List.countP_append, List.countP_append]
  have h : ∀ x, (ahF y b s x && !sameP x y) = ahF y b s x := by
    intro x
    by_cases h : x = y
    · rw [h, ahF_self]; rfl
    · rw [sameP_not h]; simp
  simp only [h]
  rw [count_set _ (fun x => rfl)]
/-- What the code asks of a row in which the peer stands first is what the document asks. -/
theorem safe_test (hi : (l[i]!).i = true) {b : Nat} (hb : 1 ≤ b ∧ b ≤ 4) : testB (candR (l[i]! :: rivR l[i]! l news) (aloneQ q b) s) l[i]! = Sh.inR (allR l news i) 0 q s (b : Int) := by
  rw [cand_alone _ (fun x hx e => by
    have h := (List.mem_filter.1 hx).2
    rw [e, (sameP_iff _ _).2 rfl] at h
    cases h) hi hb]
  unfold Sh.inR allR
  rw [show (l[i]! :: cameR (rivR l[i]! l news))[0]! = l[i]! from rfl, show (l[i]! :: (cameR l ++ news))[0]! = l[i]! from rfl]
  rw [show ((0 : Nat) : Int) = 0 from rfl, rank_head, rank_head, riv_count]
theorem ins_no (h : ∀ b : Nat, 1 ≤ b → b ≤ 4 → Sh.inR l i q s (b : Int) = false) : insR l i q s = false := by
  unfold insR
  rw [show (1 : Int) = ((1 : Nat) : Int) from rfl, show (2 : Int) = ((2 : Nat) : Int) from rfl, show (3 : Int) = ((3 : Nat) : Int) from rfl, show (4 : Int) = ((4 : Nat) : Int) from rfl]
  rw [h 1 (by omega) (by omega), h 2 (by omega) (by omega), h 3 (by omega) (by omega), h 4 (by omega) (by omega)]
  rfl
theorem ins_yes {b : Nat} (h1 : 1 ≤ b) (h2 : b ≤ 4) (h : Sh.inR l i q s (b : Int) = true) : insR l i q s = true := by
  unfold insR
  obtain rfl | rfl | rfl | rfl : b = 1 ∨ b = 2 ∨ b = 3 ∨ b = 4 := by omega
  all_goals
    first
      | rw [show ((1 : Nat) : Int) = 1 from rfl] at h
      | rw [show ((2 : Nat) : Int) = 2 from rfl] at h
      | rw [show ((3 : Nat) : Int) = 3 from rfl] at h
      | rw [show ((4 : Nat) : Int) = 4 from rfl] at h
    rw [h]
    simp
theorem ins_some (h : insR l i q s = true) : ∃ b : Nat, 1 ≤ b ∧ b ≤ 4 ∧ Sh.inR l i q s (b : Int) = true := by
  unfold insR at h
  simp only [Bool.or_eq_true] at h
  rcases h with ((h | h) | h) | h
  · exact ⟨1, by omega, by omega, h⟩
  · exact ⟨2, by omega, by omega, h⟩
  · exact ⟨3, by omega, by omega, h⟩
  · exact ⟨4, by omega, by omega, h⟩
/-! Ends. -/
theorem fst_lt (hy : y ∈ l) : fstN l y.e < l.length := List.findIdx_lt_length.2 ⟨y, hy, (sameE_iff _ _).2 rfl⟩
theorem fst_end {E : Endp} (h : fstN l E < l.length) : (l[fstN l E]!).e = E := by
  rw [getElem!_pos l _ h]
  exact (sameE_iff _ _).1 (List.findIdx_getElem (w := h))
theorem fst_at (hu : Unlike l) (hk : k < l.length) : fstN l (l[k]!).e = k := by
  have hm : l[k]! ∈ l := by rw [getElem!_pos l k hk]; exact List.getElem_mem _
  have h := fst_lt hm
  exact unlike_at hu h hk (fst_end h)
theorem fst_none {E : Endp} (h : ¬ fstN l E < l.length) : ∀ x ∈ l, x.e ≠ E := fun x hx e => h (by rw [← e]; exact fst_lt hx)
theorem gone_is (l : List Pr) (i : Nat) : goneR l i = l.eraseIdx i := (List.eraseIdx_eq_take_drop_succ l i).symm
theorem gone_sub (l : List Pr) (i : Nat) : (goneR l i).Sublist l := by rw [gone_is]; exact List.eraseIdx_sublist _ _
theorem arr_sub (l : List Pr) (p : Pr) (S : Sit) : (arrL l p S).Sublist (l ++ [setI p]) := by
  unfold arrL
  split
  · exact List.sublist_append_left _ _
  · split
    · exact List.Sublist.refl _
    · split
      · exact List.sublist_append_left _ _
      · exact List.Sublist.append (gone_sub _ _) (List.Sublist.refl _)
theorem arr_unlike (hu : Unlike l) (p : Pr) (S : Sit) : Unlike (arrL l p S) := by
  by_cases h : fstN l p.e < l.length
  · unfold arrL; rw [if_pos h]; exact hu
  · refine List.Pairwise.sublist (arr_sub l p S) ?_
    rw [List.pairwise_append]
    refine ⟨hu, List.pairwise_singleton _ _, fun a ha b hb => ?_⟩
    obtain rfl : b = setI p := by simpa using hb
    exact fst_none h a ha
theorem arr_length (l : List Pr) (p : Pr) (S : Sit) : (arrL l p S).length ≤ l.length + 1 := by
  have := (arr_sub l p S).length_le
  simpa using this
theorem arr_ok (h : ∀ x ∈ l, x.ok) (hp : p.ok) (S : Sit) : ∀ x ∈ arrL l p S, x.ok := fun x hx => by
  have := (arr_sub l p S).subset hx
  rcases List.mem_append.1 this with h2 | h2
  · exact h x h2
  · obtain rfl : x = setI p := by simpa using h2
    exact setI_ok hp
/-! The run. -/
theorem run_zero (S : Sit) (l : List Pr) : runR S l [] = l := rfl
theorem run_next (S : Sit) (l : List Pr) (hk : k < news.length) : runR S l (news.take (k + 1)) = arrL (runR S l (news.take k)) news[k]! S := by
  unfold runR
  rw [List.take_succ_eq_append_getElem hk, List.foldl_append, getElem!_pos news k hk]
  rfl
theorem run_cons (S : Sit) (l : List Pr) (p : Pr) (ps : List Pr) : runR S l (p :: ps) = runR S (arrL l p S) ps := rfl
theorem run_length (S : Sit) : ∀ (news l : List Pr), (runR S l news).length ≤ l.length + news.length
  | [], l => by simp [run_zero]
  | p :: ps, l => by
    rw [run_cons]
    have h1 := run_length S ps (arrL l p S)
    have h2 := arr_length l p S
    simp only [List.length_cons]
    omega
theorem run_ok (S : Sit) : ∀ (news l : List Pr), (∀ x ∈ l, x.ok) → (∀ x ∈ news, x.ok) → ∀ x ∈ runR S l news, x.ok
  | [], l, h, _ => h
  | p :: ps, l, h, hn => by
    rw [run_cons]
    exact run_ok S ps _ (arr_ok h (hn p (by simp)) S) fun x hx => hn x (by simp [hx])
theorem run_unlike (S : Sit) : ∀ (news l : List Pr), Unlike l → Unlike (runR S l news)
  | [], l, h => h
  | p :: ps, l, h => by rw [run_cons]; exact run_unlike S ps _ (arr_unlike h p S)
theorem take_ok (h : ∀ x ∈ news, x.ok) (k : Nat) : ∀ x ∈ news.take k, x.ok := fun x hx => h x (List.mem_of_mem_take hx)
/-! Whoever is safe stays. -/
/-- Whom an order's quota covers, among so many. -/
def Cov (y : Pr) (C : List Pr) (S : Sit) : Prop := ∃ b : Nat, 1 ≤ b ∧ b ≤ 4 ∧ countsR y b = true ∧ ((C.countP (ahF y b S.s) : Nat) : Int) < S.q.by b
theorem Cov.sub {C D : List Pr} (h : Cov y D S) (k : C.Sublist D) : Cov y C S := by
  obtain ⟨b, h1, h2, h3, h4⟩ := h
  have := k.countP_le (p := ahF y b S.s)
  exact ⟨b, h1, h2, h3, by omega⟩
theorem cov_safe (h : safeR l news i S.q S.s = true) : (l[i]!).i = true ∧ Cov l[i]! (cameR l ++ news.map setI) S := by
  unfold safeR at h
  rw [Bool.and_eq_true] at h
  refine ⟨h.1, ?_⟩
  obtain ⟨b, h1, h2, h3⟩ := ins_some h.2
  unfold Sh.inR allR at h3
  rw [Bool.and_eq_true, decide_eq_true_eq, show ((0 : Nat) : Int) = 0 from rfl, rank_head] at h3
  refine ⟨b, h1, h2, h3.1, ?_⟩
  rw [List.countP_append, count_set _ (fun x => rfl), ← List.countP_append]
  exact h3.2
theorem cov_inside (hi : i < l.length) (h : Cov l[i]! l S) : insideR l (i : Int) S.q S.s = true := by
  obtain ⟨b, h1, h2, h3, h4⟩ := h
  unfold insideR
  rw [decide_eq_true (by omega), Int.toNat_natCast, Bool.true_and]
  refine ins_yes h1 h2 ?_
  unfold Sh.inR
  rw [h3, rank_count l hi, decide_eq_true h4]
  rfl
theorem stay (hu : Unlike l) (hy : y ∈ l) (hi : y.i = true) (h : Cov y (cameR l) S) (p : Pr) : y ∈ arrL l p S := by
  unfold arrL
  split
  · exact hy
  · split
    · exact List.mem_append_left _ hy
    · split
      · exact hy
      · rename_i h1 h2 h3
        refine List.mem_append_left _ ?_
        obtain ⟨j, hj, ej⟩ := List.getElem_of_mem (show y ∈ cameR l from List.mem_filter.2 ⟨hy, hi⟩)
        have ej2 : (cameR l)[j]! = y := by rw [getElem!_pos _ j hj]; exact ej
        have hne : y.e ≠ exitR (candR l S.q S.s) := by
          intro he
          have := (never (q := S.q) (s := S.s) hu hj (by omega) (by rw [ej2]; exact he)).2
          rw [cov_inside hj (by rw [ej2]; exact h)] at this
          cases this
        obtain ⟨k, hk, ek⟩ := List.getElem_of_mem hy
        rw [gone_is, List.mem_eraseIdx_iff_getElem]
        refine ⟨k, hk, ?_, ek⟩
        intro e
        have h4 : fstN l (exitR (candR l S.q S.s)) < l.length := by rw [← e]; exact hk
        have h5 := fst_end h4
        rw [← e, getElem!_pos l k hk, ek] at h5
        exact hne h5
theorem came_sub {l m : List Pr} (h : l.Sublist m) : (cameR l).Sublist (cameR m) := h.filter _
theorem run_stay (S : Sit) : ∀ (news l : List Pr), Unlike l → y ∈ l → y.i = true → Cov y (cameR l ++ news.map setI) S → y ∈ runR S l news
  | [], l, _, hy, _, _ => hy
  | p :: ps, l, hu, hy, hi, h => by
    rw [run_cons]
    refine run_stay S ps _ (arr_unlike hu p S) (stay hu hy hi (h.sub (List.sublist_append_left _ _)) p) hi (h.sub ?_)
    have h1 := came_sub (arr_sub l p S)
    rw [came_app, show cameR [setI p] = [setI p] from came_set [p]] at h1
    have h2 := List.Sublist.append h1 (List.Sublist.refl (ps.map setI))
    rw [List.append_assoc] at h2
    exact h2
/-- The theorem of sieges. -/
theorem safe_stays (hu : Unlike l) (hi : i < l.length) (h : safeR l news i S.q S.s = true) : fstN (runR S l news) (l[i]!).e < (runR S l news).length ∧ (runR S l news)[fstN (runR S l news) (l[i]!).e]! = l[i]! := by
  obtain ⟨h1, h2⟩ := cov_safe h
  have hm : l[i]! ∈ l := by rw [getElem!_pos l i hi]; exact List.getElem_mem _
  have hr := run_stay S news l hu hm h1 h2
  refine ⟨fst_lt hr, ?_⟩
  obtain ⟨k, hk, ek⟩ := List.getElem_of_mem hr
  have ek2 : (runR S l news)[k]! = l[i]! := by rw [getElem!_pos _ k hk]; exact ek
  have := fst_at (run_unlike S news l hu) hk
  rw [ek2] at this
  rw [this, ek2]
/-- One goes for one that comes. -/
theorem gone_count (hu : Unlike l) (hc : 0 < (candR l S.q S.s).length) : (cameR (goneR l (fstN l (exitR (candR l S.q S.s))))).length + 1 = (cameR l).length ∧ fstN l (exitR (candR l S.q S.s)) < l.length := by
  obtain ⟨j, hj, _, he⟩ := end_at hc
  obtain ⟨E, hE⟩ : ∃ E, E = exitR (candR l S.q S.s) := ⟨_, rfl⟩
  rw [← hE] at he ⊢
  have hx : (cameR l)[j]! ∈ cameR l := by rw [getElem!_pos _ j hj]; exact List.getElem_mem _
  obtain ⟨hxl, hxi⟩ := List.mem_filter.1 hx
  have hlt : fstN l E < l.length := by rw [← he]; exact fst_lt hxl
  refine ⟨?_, hlt⟩
  obtain ⟨k, hk, ek⟩ := List.getElem_of_mem hxl
  have hkE : fstN l E = k := by
    have h := fst_at hu hk
    rw [getElem!_pos l k hk, ek, he] at h
    exact h
  rw [hkE]
  have hki : (l[k]).i = true := by rw [ek]; exact hxi
  conv => rhs; rw [← List.take_append_drop k l, List.drop_eq_getElem_cons hk]
  unfold goneR
  rw [came_app, came_app, show cameR (l[k] :: l.drop (k + 1)) = l[k] :: cameR (l.drop (k + 1)) from List.filter_cons_of_pos hki]
  simp only [List.length_append, List.length_cons]
  omega
theorem arr_count (hu : Unlike l) (p : Pr) (S : Sit) : ((cameR (arrL l p S)).length : Int) ≤ max S.m (cameR l).length := by
  unfold arrL
  split
  · omega
  · split
    · rw [came_app, show cameR [setI p] = [setI p] from came_set [p]]
      simp only [List.length_append, List.length_cons, List.length_nil]
      omega
    · split
      · omega
      · rename_i h1 h2 h3
        have := (gone_count (S := S) hu (by omega)).1
        rw [came_app, show cameR [setI p] = [setI p] from came_set [p]]
        simp only [List.length_append, List.length_cons, List.length_nil]
        omega
theorem run_count (S : Sit) : ∀ (news l : List Pr), Unlike l → ((cameR (runR S l news)).length : Int) ≤ max S.m (cameR l).length
  | [], l, _ => by rw [run_zero]; omega
  | p :: ps, l, hu => by
    rw [run_cons]
    have h1 := run_count S ps _ (arr_unlike hu p S)
    have h2 := arr_count hu p S
    omega
/-! The quick ones. -/
def quickP (x : Pr) (i : Nat) : Pr := ⟨⟨x.e.a, 1 + i⟩, true, x.t, x.c, 1 + i, x.k⟩
def slowP (x : Pr) (i : Nat) : Pr := ⟨⟨x.e.a, 1000 + i⟩, x.i, x.t, x.c, 100 + i, x.k⟩
def quickR (l : List Pr) (k : Nat) : List Pr := (List.range k).map fun i => quickP l[i]! i
def slowR (l : List Pr) (k : Nat) : List Pr := (List.range k).map fun i => slowP l[i]! i
theorem quick_length (l : List Pr) (k : Nat) : (quickR l k).length = k := by simp [quickR]
theorem slow_length (l : List Pr) (k : Nat) : (slowR l k).length = k := by simp [slowR]
theorem quick_next (l : List Pr) (k : Nat) : quickR l (k + 1) = quickR l k ++ [quickP l[k]! k] := by unfold quickR; rw [List.range_succ, List.map_append]; rfl
theorem slow_next (l : List Pr) (k : Nat) : slowR l (k + 1) = slowR l k ++ [slowP l[k]! k] := by unfold slowR; rw [List.range_succ, List.map_append]; rfl
theorem quick_get (l : List Pr) {k i : Nat} (h : i < k) : (quickR l k)[i]! = quickP l[i]! i := by
  rw [getElem!_pos _ i (by rw [quick_length]; exact h)]; simp [quickR]
theorem quick_ok (h : ∀ x ∈ l, x.ok) {k : Nat} (hk : k ≤ l.length) (hk2 : k ≤ 100000) : ∀ x ∈ quickR l k, x.ok := by
  intro x hx
  obtain ⟨i, hi, rfl⟩ := List.mem_map.1 hx
  have hik := List.mem_range.1 hi
  have hx := h l[i]! (by rw [getElem!_pos l i (by omega)]; exact List.getElem_mem _)
  exact ⟨⟨hx.1.1, by show -9223372036854775808 ≤ 1 + (i : Int); omega, by show 1 + (i : Int) ≤ 9223372036854775807; omega⟩, hx.2.1, hx.2.2.1, ⟨by show -9223372036854775808 ≤ 1 + (i : Int); omega, by show 1 + (i : Int) ≤ 9223372036854775807; omega⟩, hx.2.2.2.2⟩
theorem slow_ok (h : ∀ x ∈ l, x.ok) {k : Nat} (hk : k ≤ l.length) (hk2 : k ≤ 100000) : ∀ x ∈ slowR l k, x.ok := by
  intro x hx
  obtain ⟨i, hi, rfl⟩ := List.mem_map.1 hx
  have hik := List.mem_range.1 hi
  have hx := h l[i]! (by rw [getElem!_pos l i (by omega)]; exact List.getElem_mem _)
  exact ⟨⟨hx.1.1, by show -9223372036854775808 ≤ 1000 + (i : Int); omega, by show 1000 + (i : Int) ≤ 9223372036854775807; omega⟩, hx.2.1, hx.2.2.1, ⟨by show -9223372036854775808 ≤ 100 + (i : Int); omega, by show 100 + (i : Int) ≤ 9223372036854775807; omega⟩, hx.2.2.2.2⟩
theorem quick_unlike (l : List Pr) (k : Nat) : Unlike (quickR l k) := by
  show List.Pairwise _ ((List.range k).map fun i => quickP l[i]! i)
  rw [List.pairwise_map]
  refine List.Pairwise.imp ?_ List.pairwise_lt_range
  intro i j hij e
  have h : (1 + (i : Int)) = 1 + (j : Int) := congrArg Endp.n e
  omega
theorem slower_no {x y : Pr} (s : Nat) (h1 : 0 ≤ y.g) (h : y.g < x.g) : ahF y 2 s x = false := by
  unfold ahF aheadR loL
  have e : ¬ cmpL (placeR x 2 s 0) (placeR y 2 s 0) < 0 := by
    have hx : numR x 2 s = rise x.g := rfl
    have hy : numR y 2 s = rise y.g := rfl
    unfold cmpL placeR
    simp only [hx, hy]
    unfold rise
    rw [if_neg (by omega), if_neg (by omega)]
    omega
  rw [decide_eq_false e, Bool.and_false]
theorem count_lt (k i : Nat) (f : Nat → Bool) (h : ∀ j, j < k → i ≤ j → f j = false) : (List.range k).countP f ≤ i := by
  induction k with
  | zero => simp
  | succ k ih =>
    rw [List.range_succ, List.countP_append]
    by_cases hk : i ≤ k
    · have h1 := ih fun j hj hij => h j (by omega) hij
      rw [List.countP_singleton, h k (by omega) hk]
      simpa using h1
    · have h1 : (List.range k).countP f ≤ k := by
        have := List.countP_le_length (p := f) (l := List.range k)
        simpa using this
      have h2 : [k].countP f ≤ 1 := by
        have := List.countP_le_length (p := f) (l := [k])
        simpa using this
      omega
theorem quick_came (l : List Pr) (k : Nat) : cameR (quickR l k) = quickR l k := by
  unfold cameR
  rw [List.filter_eq_self]
  intro x hx
  obtain ⟨i, _, rfl⟩ := List.mem_map.1 hx
  rfl
theorem quick_safe {k n : Nat} (hi : i < k) (hk : k ≤ 50) (hq : (k : Int) ≤ S.q.p) : safeR (quickR l k) (slowR m n) i S.q S.s = true := by
  unfold safeR
  rw [quick_get l hi]
  rw [Bool.and_eq_true]
  refine ⟨rfl, ins_yes (b := 2) (by omega) (by omega) ?_⟩
  unfold Sh.inR allR
  rw [quick_get l hi, show ((0 : Nat) : Int) = 0 from rfl, rank_head, show (quickP l[i]! i :: (cameR (quickR l k) ++ slowR m n))[0]! = quickP l[i]! i from rfl]
  have hg : (quickP l[i]! i).g = 1 + (i : Int) := rfl
  have hc : countsR (quickP l[i]! i) ((2 : Nat) : Int) = true := by
    unfold countsR
    refine decide_eq_true (Or.inr (Or.inr (Or.inl ⟨rfl, ?_⟩)))
    rw [hg]; omega
  rw [hc, Bool.true_and, quick_came, List.countP_append]
  have h1 : (quickR l k).countP (ahF (quickP l[i]! i) ((2 : Nat) : Int) S.s) ≤ i := by
    unfold quickR
    rw [List.countP_map]
    refine count_lt k i _ fun j hj hij => ?_
    show ahF (quickP l[i]! i) 2 S.s (quickP l[j]! j) = false
    by_cases e : i = j
    · subst e; exact ahF_self _ _ _
    · refine slower_no S.s (by rw [hg]; omega) ?_
      show 1 + (i : Int) < 1 + (j : Int)
      omega
  have h2 : (slowR m n).countP (ahF (quickP l[i]! i) ((2 : Nat) : Int) S.s) = 0 := by
    rw [List.countP_eq_zero]
    intro x hx
    obtain ⟨j, _, rfl⟩ := List.mem_map.1 hx
    rw [show ahF (quickP l[i]! i) ((2 : Nat) : Int) S.s (slowP m[j]! j) = false from slower_no S.s (by rw [hg]; omega) (by
      show 1 + (i : Int) < 100 + (j : Int)
      omega)]
    simp
  have h3 : S.q.by ((2 : Nat) : Int) = S.q.p := rfl
  rw [h3]
  exact decide_eq_true (by omega)
end
end Go.Proofs.Ythmcggbmeabpmaa.Si
