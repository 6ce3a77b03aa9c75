/- Plain mathematics of lists of bans. Imports nothing of the dump. -/
import Derived.Test.YtefkolkagebffaaGreatDoorBanMath
import Derived.Test.YtefkolkagebffaaGreatDoorRef11All
namespace Go.Proofs.YtefkolkagebffaaGreatDoor.Ba
open Dec Words V4 V6 Ad Ci
set_option linter.unusedVariables false
/-- Where a subnet's ban stands first; the length: nowhere. -/
def ix (l : List Ban) (n : Net) : Nat := l.findIdx (fun b => sameN b.n n)
def ixI (l : List Ban) (n : Net) : Int := if ix l n < l.length then (ix l n : Int) else -1
def Sorted (l : List Ban) : Prop := l.Pairwise fun x y => cmpN x.n y.n < 0
def Right (l : List Ban) : Prop := (∀ x ∈ l, rightB x = true) ∧ Sorted l
open Classical in
noncomputable def rightL (l : List Ban) : Bool := decide (Right l)
/-- Where a subnet goes. -/
def spot (l : List Ban) (n : Net) : Nat := l.findIdx (fun b => decide (0 < cmpN b.n n))
def putB (l : List Ban) (b : Ban) : List Ban := l.take (spot l b.n) ++ b :: l.drop (spot l b.n)
def addL (l : List Ban) (b : Ban) (most : Int) : List Ban × Int :=
  if rightB b then
    if h : ix l b.n < l.length then (l.set (ix l b.n) (joinB l[ix l b.n] b), 0)
    else if most ≤ (l.length : Int) then ([], 5) else (putB l b, 0)
  else ([], 1)
def dropL (l : List Ban) (n : Net) : List Ban × Int :=
  if ix l n < l.length then (l.take (ix l n) ++ l.drop (ix l n + 1), 0) else ([], 6)
/-- The longest of the bans that hold of an address: with what was met so far. -/
def longest (a : Adr) (now : Int) (s : Int × Bool) (b : Ban) : Int × Bool := if hitsB b a now && (!s.2 || decide (s.1 < b.t)) then (b.t, true) else s
def untilS (l : List Ban) (a : Adr) (now : Int) : Int × Bool := l.foldl (longest a now) (0, false)
def untilL (l : List Ban) (a : Adr) (now : Int) : Int := (untilS l a now).1
def sweepL (l : List Ban) (now : Int) : List Ban := l.filter (fun b => decide (now < b.t))
theorem sweep_snoc (l : List Ban) (now : Int) (k : Nat) (h : k < l.length) : sweepL (l.take (k + 1)) now = if now < l[k].t then sweepL (l.take k) now ++ [l[k]] else sweepL (l.take k) now := by
  unfold sweepL
  rw [List.take_succ_eq_append_getElem h, List.filter_append]
  by_cases h2 : now < l[k].t <;> simp [h2]
theorem sweep_le (l : List Ban) (now : Int) : (sweepL l now).length ≤ l.length := List.length_filter_le _ _
theorem sweep_take (l : List Ban) (now : Int) (k : Nat) : (sweepL (l.take k) now).length ≤ l.length := Nat.le_trans (sweep_le _ now) (by rw [List.length_take]; omega)
theorem sweep_ok {l : List Ban} {P : Ban → Prop} (h : ∀ x ∈ l, P x) (now : Int) : ∀ x ∈ sweepL l now, P x := fun x hx => h x (List.mem_filter.1 hx).1
theorem until_snoc (l : List Ban) (a : Adr) (now : Int) (k : Nat) (h : k < l.length) : untilS (l.take (k + 1)) a now = longest a now (untilS (l.take k) a now) l[k] := by
  unfold untilS
  rw [List.take_succ_eq_append_getElem h, List.foldl_append]; rfl
theorem ix_le (l : List Ban) (n : Net) : ix l n ≤ l.length := List.findIdx_le_length
theorem ix_at {l : List Ban} {n : Net} {k : Nat} (hk : k < l.length) (h : ∀ i (h : i < l.length), i < k → sameN l[i].n n = false) (hs : sameN l[k].n n = true) : ix l n = k := by
  unfold ix
  exact (List.findIdx_eq hk).2 ⟨hs, fun j hj => by simpa using h j (by omega) hj⟩
theorem ix_none {l : List Ban} {n : Net} (h : ∀ i (h : i < l.length), sameN l[i].n n = false) : ix l n = l.length := by
  unfold ix
  rw [List.findIdx_eq_length]
  intro x hx
  obtain ⟨i, hi, rfl⟩ := List.getElem_of_mem hx
  simpa using h i hi
theorem ix_same {l : List Ban} {n : Net} (h : ix l n < l.length) : l[ix l n].n = n := by
  have := List.findIdx_getElem (p := fun b : Ban => sameN b.n n) (w := h)
  exact (sameN_iff _ _).1 this
theorem ix_before {l : List Ban} {n : Net} {i : Nat} (h : i < l.length) (hi : i < ix l n) : sameN l[i].n n = false := by
  have := List.not_of_lt_findIdx (p := fun b : Ban => sameN b.n n) (xs := l) hi
  simpa using this
theorem ix_no {l : List Ban} {n : Net} (h : ¬ ix l n < l.length) : ∀ i (h : i < l.length), sameN l[i].n n = false := fun i hi => by
  have := ix_le l n
  exact ix_before hi (by omega)
theorem spot_le (l : List Ban) (n : Net) : spot l n ≤ l.length := List.findIdx_le_length
theorem spot_at {l : List Ban} {n : Net} {k : Nat} (hk : k ≤ l.length) (h : ∀ i (h : i < l.length), i < k → cmpN l[i].n n ≤ 0) (hs : ∀ h : k < l.length, 0 < cmpN l[k].n n) : spot l n = k := by
  unfold spot
  rcases Nat.lt_or_ge k l.length with hlt | hge
  · exact (List.findIdx_eq hlt).2 ⟨by simpa using hs hlt, fun j hj => by simpa using h j (by omega) hj⟩
  · obtain rfl : k = l.length := by omega
    rw [List.findIdx_eq_length]
    intro x hx
    obtain ⟨i, hi, rfl⟩ := List.getElem_of_mem hx
    simpa using h i hi hi
theorem spot_below {l : List Ban} {n : Net} {i : Nat} (h : i < l.length) (hi : i < spot l n) : cmpN l[i].n n ≤ 0 := by
  have := List.not_of_lt_findIdx (p := fun b : Ban => decide (0 < cmpN b.n n)) (xs := l) hi
  simpa using this
theorem spot_above {l : List Ban} {n : Net} (h : spot l n < l.length) : 0 < cmpN l[spot l n].n n := by
  have e : decide (0 < cmpN l[spot l n].n n) = true := List.findIdx_getElem (p := fun b : Ban => decide (0 < cmpN b.n n)) (w := h)
  exact of_decide_eq_true e
theorem put_len (l : List Ban) (b : Ban) : (putB l b).length = l.length + 1 := by
  have := spot_le l b.n
  unfold putB; simp; omega
theorem addL_wrong {l : List Ban} {b : Ban} {most : Int} (h : rightB b = false) : addL l b most = ([], 1) := by unfold addL; rw [h]; rfl
theorem addL_join {l : List Ban} {b : Ban} {most : Int} (h : rightB b = true) (hi : ix l b.n < l.length) : addL l b most = (l.set (ix l b.n) (joinB l[ix l b.n] b), 0) := by unfold addL; rw [if_pos h, dif_pos hi]
theorem addL_full {l : List Ban} {b : Ban} {most : Int} (h : rightB b = true) (hi : ¬ ix l b.n < l.length) (hm : most ≤ (l.length : Int)) : addL l b most = ([], 5) := by unfold addL; rw [if_pos h, dif_neg hi, if_pos hm]
theorem addL_put {l : List Ban} {b : Ban} {most : Int} (h : rightB b = true) (hi : ¬ ix l b.n < l.length) (hm : ¬ most ≤ (l.length : Int)) : addL l b most = (putB l b, 0) := by unfold addL; rw [if_pos h, dif_neg hi, if_neg hm]
theorem addL_len (l : List Ban) (b : Ban) (most : Int) : (addL l b most).1.length ≤ l.length + 1 := by
  unfold addL
  split
  · split
    · simp
    · split
      · simp
      · simp [put_len]
  · simp
theorem set_ok {l : List Ban} {P : Ban → Prop} (h : ∀ x ∈ l, P x) (i : Nat) {b : Ban} (hb : P b) : ∀ x ∈ l.set i b, P x := fun x hx => by
  rcases List.mem_or_eq_of_mem_set hx with hx | rfl
  · exact h x hx
  · exact hb
theorem put_ok {l : List Ban} {P : Ban → Prop} (h : ∀ x ∈ l, P x) {b : Ban} (hb : P b) : ∀ x ∈ putB l b, P x := fun x hx => by
  unfold putB at hx
  rcases List.mem_append.1 hx with hx | hx
  · exact h x (List.mem_of_mem_take hx)
  · rcases List.mem_cons.1 hx with rfl | hx
    · exact hb
    · exact h x (List.mem_of_mem_drop hx)
theorem addL_ok {l : List Ban} {b : Ban} {most : Int} (h : ∀ x ∈ l, x.ok) (hb : b.ok) : ∀ x ∈ (addL l b most).1, x.ok := by
  unfold addL
  split
  · split
    · rename_i hi
      exact set_ok h _ (joinB_ok (h _ (List.getElem_mem hi)) hb)
    · split
      · simp
      · exact put_ok h hb
  · simp
theorem dropL_ok {l : List Ban} {n : Net} {P : Ban → Prop} (h : ∀ x ∈ l, P x) : ∀ x ∈ (dropL l n).1, P x := by
  unfold dropL
  split
  · intro x hx
    rcases List.mem_append.1 hx with hx | hx
    · exact h x (List.mem_of_mem_take hx)
    · exact h x (List.mem_of_mem_drop hx)
  · simp
theorem dropL_len (l : List Ban) (n : Net) : (dropL l n).1.length ≤ l.length := by
  unfold dropL
  split
  · simp; omega
  · simp
/-! The longest ban. -/
theorem longest_true {a : Adr} {now : Int} {s : Int × Bool} {b : Ban} (h : s.2 = true → now < s.1) : (longest a now s b).2 = true → now < (longest a now s b).1 := by
  unfold longest
  split
  · rename_i hc
    intro _
    simp only [Bool.and_eq_true] at hc
    have := hc.1
    unfold hitsB livesB at this
    simp only [Bool.and_eq_true, decide_eq_true_eq] at this
    exact this.1
  · exact h
theorem fold_inv (a : Adr) (now : Int) : ∀ (l : List Ban) (s : Int × Bool), (s.2 = true → now < s.1) → (s.2 = false → s.1 = 0) → ((l.foldl (longest a now) s).2 = true → now < (l.foldl (longest a now) s).1) ∧ ((l.foldl (longest a now) s).2 = false → (l.foldl (longest a now) s).1 = 0)
  | [], s, h1, h2 => ⟨h1, h2⟩
  | b :: l, s, h1, h2 => by
    rw [List.foldl_cons]
    refine fold_inv a now l _ (longest_true h1) ?_
    unfold longest
    split
    · intro h; cases h
    · exact h2
theorem until_zero (l : List Ban) (a : Adr) (now : Int) : untilL l a now = 0 ∨ now < untilL l a now := by
  obtain ⟨h1, h2⟩ := fold_inv a now l (0, false) (by simp) (by simp)
  unfold untilL untilS
  cases h : (l.foldl (longest a now) (0, false)).2
  · exact .inl (h2 h)
  · exact .inr (h1 h)
/-- What was swept held of nobody. -/
theorem until_sweep (l : List Ban) (a : Adr) (now : Int) : untilL (sweepL l now) a now = untilL l a now := by
  have h : ∀ (l : List Ban) (s : Int × Bool), (sweepL l now).foldl (longest a now) s = l.foldl (longest a now) s := by
    intro l
    induction l with
    | nil => intro s; rfl
    | cons b l ih =>
      intro s
      unfold sweepL at ih ⊢
      rw [List.foldl_cons]
      by_cases hb : now < b.t
      · rw [List.filter_cons_of_pos (by simpa using hb), List.foldl_cons]; exact ih _
      · rw [List.filter_cons_of_neg (by simpa using hb)]
        rw [show longest a now s b = s from by unfold longest hitsB livesB; simp [hb]]
        exact ih s
  unfold untilL untilS
  rw [h]
/-! Which lists may be. -/
theorem sorted_at {l : List Ban} : Sorted l ↔ ∀ k i (hk : k < l.length) (hi : i < l.length), k < i → cmpN l[k].n l[i].n < 0 := List.pairwise_iff_getElem
open Classical in
theorem right_iff (l : List Ban) : rightL l = true ↔ Right l := by unfold rightL; exact decide_eq_true_iff
open Classical in
theorem right_not {l : List Ban} (h : ¬ Right l) : rightL l = false := by unfold rightL; exact decide_eq_false h
/-- Each ban follows the one ahead of it. -/
def Steps (l : List Ban) : Prop := ∀ i (h : i < l.length), 0 < i → 0 < cmpN l[i].n (l[i - 1]'(by omega)).n
theorem sorted_steps {l : List Ban} (h : Steps l) : Sorted l := by
  rw [sorted_at]
  intro k i hk hi hki
  induction i with
  | zero => omega
  | succ i ih =>
    have h1 := h (i + 1) hi (by omega)
    simp only [Nat.add_sub_cancel] at h1
    rw [cmpN_flip] at h1
    have h2 : cmpN l[i].n l[i + 1].n < 0 := by omega
    rcases Nat.lt_or_ge k i with hlt | hge
    · exact cmpN_less (ih (by omega) hlt) h2
    · obtain rfl : k = i := by omega
      exact h2
theorem steps_sorted {l : List Ban} (h : Sorted l) : Steps l := fun i hi h0 => by
  have := sorted_at.1 h (i - 1) i (by omega) hi (by omega)
  rw [cmpN_flip]; omega
theorem right_set {l : List Ban} (h : Right l) {i : Nat} (hi : i < l.length) {b : Ban} (hb : rightB b = true) (hn : b.n = l[i].n) : Right (l.set i b) := by
  refine ⟨set_ok h.1 i hb, ?_⟩
  have h2 := sorted_at.1 h.2
  rw [sorted_at]
  intro k j hk hj hkj
  rw [List.length_set] at hk hj
  rw [List.getElem_set, List.getElem_set]
  have := h2 k j hk hj hkj
  split <;> split
  · omega
  · rename_i e _; subst e; rw [hn]; exact this
  · rename_i _ e; subst e; rw [hn]; exact this
  · exact this
theorem joinB_is {a b : Ban} (h : a.n = b.n) : (joinB a b).n = a.n ∧ (joinB a b).t = max a.t b.t := by
  rw [joinB_max, if_pos ((sameN_iff _ _).2 h)]; exact ⟨rfl, rfl⟩
theorem join_right {a b : Ban} (ha : rightB a = true) (hb : rightB b = true) (h : a.n = b.n) : rightB (joinB a b) = true := by
  obtain ⟨e1, e2⟩ := joinB_is h
  obtain ⟨h1, h2, h3⟩ := (rightB_iff _).1 ha
  obtain ⟨_, h5, h6⟩ := (rightB_iff _).1 hb
  exact (rightB_iff _).2 ⟨by rw [e1]; exact h1, by rw [e2]; omega, by rw [e2]; omega⟩
theorem right_put {l : List Ban} (h : Right l) {b : Ban} (hb : rightB b = true) (hi : ¬ ix l b.n < l.length) : Right (putB l b) := by
  refine ⟨put_ok h.1 hb, ?_⟩
  have hne : ∀ i (h : i < l.length), cmpN l[i].n b.n ≠ 0 := fun i hlt e => by
    have := ix_no hi i hlt
    rw [(cmpN_zero _ _).1 e, (sameN_iff _ _).2 rfl] at this; cases this
  have hs := h.2
  unfold Sorted at hs ⊢
  unfold putB
  rw [List.pairwise_append, List.pairwise_cons]
  have hle := spot_le l b.n
  have hbig : ∀ y ∈ l.drop (spot l b.n), cmpN b.n y.n < 0 := by
    intro y hy
    obtain ⟨j, hj, rfl⟩ := List.getElem_of_mem hy
    rw [List.length_drop] at hj
    rw [List.getElem_drop]
    have h0 : spot l b.n < l.length := by omega
    have h1 := spot_above h0
    rw [cmpN_flip] at h1
    rcases Nat.eq_zero_or_pos j with rfl | hp
    · simp only [Nat.add_zero]; omega
    · exact cmpN_less (b := l[spot l b.n].n) (by omega) (sorted_at.1 h.2 (spot l b.n) (spot l b.n + j) h0 (by omega) (by omega))
  have hsmall : ∀ x ∈ l.take (spot l b.n), cmpN x.n b.n < 0 := by
    intro x hx
    obtain ⟨j, hj, rfl⟩ := List.getElem_of_mem hx
    rw [List.length_take] at hj
    rw [List.getElem_take]
    have h1 := spot_below (l := l) (n := b.n) (i := j) (by omega) (by omega)
    have h2 := hne j (by omega)
    omega
  refine ⟨List.Pairwise.sublist (List.take_sublist _ _) hs, ⟨hbig, List.Pairwise.sublist (List.drop_sublist _ _) hs⟩, fun x hx y hy => ?_⟩
  rcases List.mem_cons.1 hy with rfl | hy
  · exact hsmall x hx
  · exact cmpN_less (hsmall x hx) (hbig y hy)
theorem right_add {l : List Ban} (h : Right l) (b : Ban) (most : Int) (hc : (addL l b most).2 = 0) : Right (addL l b most).1 := by
  by_cases hb : rightB b = true
  · by_cases hi : ix l b.n < l.length
    · rw [addL_join hb hi]
      have hs := ix_same hi
      have hm : rightB l[ix l b.n] = true := h.1 _ (List.getElem_mem hi)
      exact right_set h hi (join_right hm hb hs) (joinB_is hs).1
    · by_cases hm : most ≤ (l.length : Int)
      · rw [addL_full hb hi hm] at hc; cases hc
      · rw [addL_put hb hi hm]; exact right_put h hb hi
  · rw [addL_wrong (by simpa using hb)] at hc; cases hc
theorem right_sub {l m : List Ban} (h : Right l) (hs : List.Sublist m l) : Right m := ⟨fun x hx => h.1 x (hs.subset hx), List.Pairwise.sublist hs h.2⟩
theorem right_drop {l : List Ban} (h : Right l) (n : Net) : Right (dropL l n).1 := by
  unfold dropL
  split
  · refine right_sub h ?_
    rw [← List.eraseIdx_eq_take_drop_succ]
    exact List.eraseIdx_sublist _ _
  · exact ⟨by simp, List.Pairwise.nil⟩
theorem right_sweep {l : List Ban} (h : Right l) (now : Int) : Right (sweepL l now) := right_sub h List.filter_sublist
theorem right_nil : Right [] := ⟨by simp, List.Pairwise.nil⟩
theorem add_most {l : List Ban} {b : Ban} {most : Int} (h : (l.length : Int) ≤ max most 0) (hc : (addL l b most).2 = 0) : ((addL l b most).1.length : Int) ≤ max most 0 := by
  by_cases hb : rightB b = true
  · by_cases hi : ix l b.n < l.length
    · rw [addL_join hb hi, List.length_set]; exact h
    · by_cases hm : most ≤ (l.length : Int)
      · rw [addL_full hb hi hm] at hc; cases hc
      · rw [addL_put hb hi hm, put_len]; omega
  · rw [addL_wrong (by simpa using hb)] at hc; cases hc
theorem drop_count {l : List Ban} {n : Net} (hc : (dropL l n).2 = 0) : ((dropL l n).1.length : Int) = (l.length : Int) - 1 := by
  unfold dropL at *
  split at hc
  · rename_i h
    rw [if_pos h]; simp; omega
  · cases hc
/-! The longest ban is no shorter than any that holds. -/
theorem fold_ge (a : Adr) (now : Int) : ∀ (l : List Ban) (s : Int × Bool), (s.2 = true → s.1 ≤ (l.foldl (longest a now) s).1 ∧ (l.foldl (longest a now) s).2 = true) ∧ ∀ b ∈ l, hitsB b a now = true → b.t ≤ (l.foldl (longest a now) s).1
  | [], s => ⟨fun h => ⟨Int.le_refl _, h⟩, by simp⟩
  | c :: l, s => by
    rw [List.foldl_cons]
    obtain ⟨h1, h2⟩ := fold_ge a now l (longest a now s c)
    have hs : s.2 = true → s.1 ≤ (longest a now s c).1 ∧ (longest a now s c).2 = true := fun h => by
      unfold longest
      split
      · rename_i hc
        simp only [h, Bool.and_eq_true, Bool.not_true, Bool.false_or, decide_eq_true_eq] at hc
        exact ⟨by simp only; omega, rfl⟩
      · exact ⟨Int.le_refl _, h⟩
    have hc : hitsB c a now = true → c.t ≤ (longest a now s c).1 ∧ (longest a now s c).2 = true := fun h => by
      unfold longest
      rw [h]
      cases h2 : s.2
      · simp
      · by_cases h3 : s.1 < c.t
        · simp [h3]
        · simp [h3, h2]; omega
    refine ⟨fun h => ?_, fun b hb hh => ?_⟩
    · obtain ⟨a1, a2⟩ := hs h
      obtain ⟨b1, b2⟩ := h1 a2
      exact ⟨by omega, b2⟩
    · rcases List.mem_cons.1 hb with rfl | hb
      · obtain ⟨a1, a2⟩ := hc hh
        obtain ⟨b1, _⟩ := h1 a2
        omega
      · exact h2 b hb hh
theorem until_ge {l : List Ban} {b : Ban} {a : Adr} {now : Int} (h : b ∈ l) (hh : hitsB b a now = true) : b.t ≤ untilL l a now := (fold_ge a now l (0, false)).2 b h hh
/-- What was added holds of its subnet's first address. -/
theorem has_first {n : Net} (h : rightN n = true) : hasN n n.a = true := h
theorem add_holds {l : List Ban} {b : Ban} {most : Int} (hc : (addL l b most).2 = 0) : b.t ≤ untilL (addL l b most).1 b.n.a (b.t - 1) := by
  by_cases hb : rightB b = true
  · have hh : hasN b.n b.n.a = true := has_first ((rightB_iff b).1 hb).1
    by_cases hi : ix l b.n < l.length
    · rw [addL_join hb hi]
      obtain ⟨e1, e2⟩ := joinB_is (ix_same hi)
      refine Int.le_trans ?_ (until_ge (List.mem_set hi _) ?_)
      · rw [e2]; omega
      · unfold hitsB livesB
        rw [e1, e2, ix_same hi, hh]; simp; omega
    · by_cases hm : most ≤ (l.length : Int)
      · rw [addL_full hb hi hm] at hc; cases hc
      · rw [addL_put hb hi hm]
        refine until_ge (b := b) ?_ ?_
        · unfold putB; simp
        · unfold hitsB livesB; rw [hh]; simp; omega
  · rw [addL_wrong (by simpa using hb)] at hc; cases hc
/-- Until as the program reckons it: how long one is banned so far, from the tick on. -/
def ends (a : Adr) (e : Int) (b : Ban) : Int := if hitsB b a e then b.t else e
def endsL (l : List Ban) (a : Adr) (now : Int) : Int := l.foldl (ends a) now
theorem ends_snoc (l : List Ban) (a : Adr) (now : Int) (k : Nat) (h : k < l.length) : endsL (l.take (k + 1)) a now = ends a (endsL (l.take k) a now) l[k] := by
  unfold endsL
  rw [List.take_succ_eq_append_getElem h, List.foldl_append]; rfl
theorem ends_fold (a : Adr) (now : Int) : ∀ (l : List Ban) (s : Int × Bool) (e : Int), (s.2 = true → e = s.1 ∧ now < s.1) → (s.2 = false → e = now) →
    ((l.foldl (longest a now) s).2 = true → l.foldl (ends a) e = (l.foldl (longest a now) s).1 ∧ now < (l.foldl (longest a now) s).1) ∧ ((l.foldl (longest a now) s).2 = false → l.foldl (ends a) e = now)
  | [], s, e, h1, h2 => ⟨h1, h2⟩
  | b :: l, s, e, h1, h2 => by
    rw [List.foldl_cons, List.foldl_cons]
    refine ends_fold a now l _ _ ?_ ?_
    all_goals
      unfold longest ends
      cases hs : s.2
      · rw [h2 hs]
        cases hh : hitsB b a now
        · simp [hs]
        · have : now < b.t := by unfold hitsB livesB at hh; simp at hh; exact hh.1
          simp [this]
      · obtain ⟨rfl, hlt⟩ := h1 hs
        have hq : hitsB b a s.1 = (hitsB b a now && decide (s.1 < b.t)) := by
          unfold hitsB livesB
          by_cases h5 : s.1 < b.t
          · have h6 : now < b.t := by omega
            simp [h5, h6]
          · simp [h5]
        rw [hq]
        by_cases h5 : s.1 < b.t
        · cases hh : hitsB b a now <;> simp [h5, hs, hlt] <;> try omega
        · cases hh : hitsB b a now <;> simp [h5, hs, hlt]
theorem ends_until (l : List Ban) (a : Adr) (now : Int) : untilL l a now = if endsL l a now = now then 0 else endsL l a now := by
  obtain ⟨h1, h2⟩ := ends_fold a now l (0, false) now (by simp) (by simp)
  obtain ⟨_, h4⟩ := fold_inv a now l (0, false) (by simp) (by simp)
  unfold untilL untilS endsL
  cases h : (l.foldl (longest a now) (0, false)).2
  · rw [if_pos (h2 h), h4 h]
  · obtain ⟨h5, h6⟩ := h1 h
    rw [if_neg (by rw [h5]; omega), h5]
end Go.Proofs.YtefkolkagebffaaGreatDoor.Ba
