/- Plain mathematics of lists of bans. Imports nothing of the dump. -/
import Derived.Test.YtgnjbbohphoojaaBanDoor
import Derived.Test.YtgnjbbohphoojaaRef11All
import Derived.Test.YtgnjbbohphoojaaBlk
import Derived.Test.YtgnjbbohphoojaaKit
import Derived.Lib.MinMax
import Derived.Deep.RegionHeld3
import Derived.Deep.RegionWith
import Derived.Test.YtgnjbbohphoojaaBan
import Derived.Deep.LoopGhost
import Derived.Lib.Overlaps
import Derived.Deep.RegionLaw
namespace Go.Proofs.Ytgnjbbohphoojaa.Ba
open Dec Words V4 V6 Ad Ci
set_option linter.unusedVariables false
/-- Where a subnet's ban stands first; the length: nowhere. -/
def ix (l : List Ban) (n : Net) : Nat := l.findIdx (fun b => sameN b.n n)
def ixI (l : List Ban) (n : Net) : Int := if ix l n < l.length then (ix l n : Int) else -1
def Sorted (l : List Ban) : Prop := l.Pairwise fun x y => cmpN x.n y.n < 0
def Right (l : List Ban) : Prop := (∀ x ∈ l, rightB x = true) ∧ Sorted l
open Classical in
noncomputable def rightL (l : List Ban) : Bool := decide (Right l)
/-- Where a subnet goes. -/
def spot (l : List Ban) (n : Net) : Nat := l.findIdx (fun b => decide (0 < cmpN b.n n))
def putB (l : List Ban) (b : Ban) : List Ban := l.take (spot l b.n) ++ b :: l.drop (spot l b.n)
def addL (l : List Ban) (b : Ban) (most : Int) : List Ban × Int :=
  if rightB b then
    if h : ix l b.n < l.length then (l.set (ix l b.n) (joinB l[ix l b.n] b), 0)
    else if most ≤ (l.length : Int) then ([], 5) else (putB l b, 0)
  else ([], 1)
def dropL (l : List Ban) (n : Net) : List Ban × Int :=
  if ix l n < l.length then (l.take (ix l n) ++ l.drop (ix l n + 1), 0) else ([], 6)
/-- The longest of the bans that hold of an address: with what was met so far. -/
def longest (a : Adr) (now : Int) (s : Int × Bool) (b : Ban) : Int × Bool := if hitsB b a now && (!s.2 || decide (s.1 < b.t)) then (b.t, true) else s
def untilS (l : List Ban) (a : Adr) (now : Int) : Int × Bool := l.foldl (longest a now) (0, false)
def untilL (l : List Ban) (a : Adr) (now : Int) : Int := (untilS l a now).1
def sweepL (l : List Ban) (now : Int) : List Ban := l.filter (fun b => decide (now < b.t))
theorem sweep_snoc (l : List Ban) (now : Int) (k : Nat) (h : k < l.length) : sweepL (l.take (k + 1)) now = if now < l[k].t then sweepL (l.take k) now ++ [l[k]] else sweepL (l.take k) now := by
  unfold sweepL
  rw [List.take_succ_eq_append_getElem h, List.filter_append]
  by_cases h2 : now < l[k].t <;> simp [h2]
theorem sweep_le (l : List Ban) (now : Int) : (sweepL l now).length ≤ l.length := List.length_filter_le _ _
theorem sweep_take (l : List Ban) (now : Int) (k : Nat) : (sweepL (l.take k) now).length ≤ l.length := Nat.le_trans (sweep_le _ now) (by rw [List.length_take]; omega)
theorem sweep_ok {l : List Ban} {P : Ban → Prop} (h : ∀ x ∈ l, P x) (now : Int) : ∀ x ∈ sweepL l now, P x := fun x hx => h x (List.mem_filter.1 hx).1
theorem until_snoc (l : List Ban) (a : Adr) (now : Int) (k : Nat) (h : k < l.length) : untilS (l.take (k + 1)) a now = longest a now (untilS (l.take k) a now) l[k] := by
  unfold untilS
  rw [List.take_succ_eq_append_getElem h, List.foldl_append]; rfl
theorem ix_le (l : List Ban) (n : Net) : ix l n ≤ l.length := List.findIdx_le_length
theorem ix_at {l : List Ban} {n : Net} {k : Nat} (hk : k < l.length) (h : ∀ i (h : i < l.length), i < k → sameN l[i].n n = false) (hs : sameN l[k].n n = true) : ix l n = k := by
  unfold ix
  exact (List.findIdx_eq hk).2 ⟨hs, fun j hj => by simpa using h j (by omega) hj⟩
theorem ix_none {l : List Ban} {n : Net} (h : ∀ i (h : i < l.length), sameN l[i].n n = false) : ix l n = l.length := by
  unfold ix
  rw [List.findIdx_eq_length]
  intro x hx
  obtain ⟨i, hi, rfl⟩ := List.getElem_of_mem hx
  simpa using h i hi
theorem ix_same {l : List Ban} {n : Net} (h : ix l n < l.length) : l[ix l n].n = n := by
  have := List.findIdx_getElem (p := fun b : Ban => sameN b.n n) (w := h)
  exact (sameN_iff _ _).1 this
theorem ix_before {l : List Ban} {n : Net} {i : Nat} (h : i < l.length) (hi : i < ix l n) : sameN l[i].n n = false := by
  have := List.not_of_lt_findIdx (p := fun b : Ban => sameN b.n n) (xs := l) hi
  simpa using this
theorem ix_no {l : List Ban} {n : Net} (h : ¬ ix l n < l.length) : ∀ i (h : i < l.length), sameN l[i].n n = false := fun i hi => by
  have := ix_le l n
  exact ix_before hi (by omega)
theorem spot_le (l : List Ban) (n : Net) : spot l n ≤ l.length := List.findIdx_le_length
theorem spot_at {l : List Ban} {n : Net} {k : Nat} (hk : k ≤ l.length) (h : ∀ i (h : i < l.length), i < k → cmpN l[i].n n ≤ 0) (hs : ∀ h : k < l.length, 0 < cmpN l[k].n n) : spot l n = k := by
  unfold spot
  rcases Nat.lt_or_ge k l.length with hlt | hge
  · exact (List.findIdx_eq hlt).2 ⟨by simpa using hs hlt, fun j hj => by simpa using h j (by omega) hj⟩
  · obtain rfl : k = l.length := by omega
    rw [List.findIdx_eq_length]
    intro x hx
    obtain ⟨i, hi, rfl⟩ := List.getElem_of_mem hx
    simpa using h i hi hi
theorem spot_below {l : List Ban} {n : Net} {i : Nat} (h : i < l.length) (hi : i < spot l n) : cmpN l[i].n n ≤ 0 := by
  have := List.not_of_lt_findIdx (p := fun b : Ban => decide (0 < cmpN b.n n)) (xs := l) hi
  simpa using this
theorem spot_above {l : List Ban} {n : Net} (h : spot l n < l.length) : 0 < cmpN l[spot l n].n n := by
  have e : decide (0 < cmpN l[spot l n].n n) = true := List.findIdx_getElem (p := fun b : Ban => decide (0 < cmpN b.n n)) (w := h)
  exact of_decide_eq_true e
theorem put_len (l : List Ban) (b : Ban) : (putB l b).length = l.length + 1 := by
  have := spot_le l b.n
  unfold putB; simp; omega
theorem addL_wrong {l : List Ban} {b : Ban} {most : Int} (h : rightB b = false) : addL l b most = ([], 1) := by unfold addL; rw [h]; rfl
theorem addL_join {l : List Ban} {b : Ban} {most : Int} (h : rightB b = true) (hi : ix l b.n < l.length) : addL l b most = (l.set (ix l b.n) (joinB l[ix l b.n] b), 0) := by unfold addL; rw [if_pos h, dif_pos hi]
theorem addL_full {l : List Ban} {b : Ban} {most : Int} (h : rightB b = true) (hi : ¬ ix l b.n < l.length) (hm : most ≤ (l.length : Int)) : addL l b most = ([], 5) := by unfold addL; rw [if_pos h, dif_neg hi, if_pos hm]
theorem addL_put {l : List Ban} {b : Ban} {most : Int} (h : rightB b = true) (hi : ¬ ix l b.n < l.length) (hm : ¬ most ≤ (l.length : Int)) : addL l b most = (putB l b, 0) := by unfold addL; rw [if_pos h, dif_neg hi, if_neg hm]
theorem addL_len (l : List Ban) (b : Ban) (most : Int) : (addL l b most).1.length ≤ l.length + 1 := by
  unfold addL
  split
  · split
    · simp
    · split
      · simp
      · simp [put_len]
  · simp
theorem set_ok {l : List Ban} {P : Ban → Prop} (h : ∀ x ∈ l, P x) (i : Nat) {b : Ban} (hb : P b) : ∀ x ∈ l.set i b, P x := fun x hx => by
  rcases List.mem_or_eq_of_mem_set hx with hx | rfl
  · exact h x hx
  · exact hb
theorem put_ok {l : List Ban} {P : Ban → Prop} (h : ∀ x ∈ l, P x) {b : Ban} (hb : P b) : ∀ x ∈ putB l b, P x := fun x hx => by
  unfold putB at hx
  rcases List.mem_append.1 hx with hx | hx
  · exact h x (List.mem_of_mem_take hx)
  · rcases List.mem_cons.1 hx with rfl | hx
    · exact hb
    · exact h x (List.mem_of_mem_drop hx)
theorem addL_ok {l : List Ban} {b : Ban} {most : Int} (h : ∀ x ∈ l, x.ok) (hb : b.ok) : ∀ x ∈ (addL l b most).1, x.ok := by
  unfold addL
  split
  · split
    · rename_i hi
      exact set_ok h _ (joinB_ok (h _ (List.getElem_mem hi)) hb)
    · split
      · simp
      · exact put_ok h hb
  · simp
theorem dropL_ok {l : List Ban} {n : Net} {P : Ban → Prop} (h : ∀ x ∈ l, P x) : ∀ x ∈ (dropL l n).1, P x := by
  unfold dropL
  split
  · intro x hx
    rcases List.mem_append.1 hx with hx | hx
    · exact h x (List.mem_of_mem_take hx)
    · exact h x (List.mem_of_mem_drop hx)
  · simp
theorem dropL_len (l : List Ban) (n : Net) : (dropL l n).1.length ≤ l.length := by
  unfold dropL
  split
  · simp; omega
  · simp
/-! The longest ban. -/
theorem longest_true {a : Adr} {now : Int} {s : Int × Bool} {b : Ban} (h : s.2 = true → now < s.1) : (longest a now s b).2 = true → now < (longest a now s b).1 := by
  unfold longest
  split
  · rename_i hc
    intro _
    simp only [Bool.and_eq_true] at hc
    have := hc.1
    unfold hitsB livesB at this
    simp only [Bool.and_eq_true, decide_eq_true_eq] at this
    exact this.1
  · exact h
theorem fold_inv (a : Adr) (now : Int) : ∀ (l : List Ban) (s : Int × Bool), (s.2 = true → now < s.1) → (s.2 = false → s.1 = 0) → ((l.foldl (longest a now) s).2 = true → now < (l.foldl (longest a now) s).1) ∧ ((l.foldl (longest a now) s).2 = false → (l.foldl (longest a now) s).1 = 0)
  | [], s, h1, h2 => ⟨h1, h2⟩
  | b :: l, s, h1, h2 => by
    rw [List.foldl_cons]
    refine fold_inv a now l _ (longest_true h1) ?_
    unfold longest
    split
    · intro h; cases h
    · exact h2
theorem until_zero (l : List Ban) (a : Adr) (now : Int) : untilL l a now = 0 ∨ now < untilL l a now := by
  obtain ⟨h1, h2⟩ := fold_inv a now l (0, false) (by simp) (by simp)
  unfold untilL untilS
  cases h : (l.foldl (longest a now) (0, false)).2
  · exact .inl (h2 h)
  · exact .inr (h1 h)
/-- What was swept held of nobody. -/
theorem until_sweep (l : List Ban) (a : Adr) (now : Int) : untilL (sweepL l now) a now = untilL l a now := by
  have h : ∀ (l : List Ban) (s : Int × Bool), (sweepL l now).foldl (longest a now) s = l.foldl (longest a now) s := by
    intro l
    induction l with
    | nil => intro s; rfl
    | cons b l ih =>
      intro s
      unfold sweepL at ih ⊢
      rw [List.foldl_cons]
      by_cases hb : now < b.t
      · rw [List.filter_cons_of_pos (by simpa using hb), List.foldl_cons]; exact ih _
      · rw [List.filter_cons_of_neg (by simpa using hb)]
        rw [show longest a now s b = s from by unfold longest hitsB livesB; simp [hb]]
        exact ih s
  unfold untilL untilS
  rw [h]
/-! Which lists may be. -/
theorem sorted_at {l : List Ban} : Sorted l ↔ ∀ k i (hk : k < l.length) (hi : i < l.length), k < i → cmpN l[k].n l[i].n < 0 := List.pairwise_iff_getElem
open Classical in
theorem right_iff (l : List Ban) : rightL l = true ↔ Right l := by unfold rightL; exact decide_eq_true_iff
open Classical in
theorem right_not {l : List Ban} (h : ¬ Right l) : rightL l = false := by unfold rightL; exact decide_eq_false h
/-- Each ban follows the one ahead of it. -/
def Steps (l : List Ban) : Prop := ∀ i (h : i < l.length), 0 < i → 0 < cmpN l[i].n (l[i - 1]'(by omega)).n
theorem sorted_steps {l : List Ban} (h : Steps l) : Sorted l := by
  rw [sorted_at]
  intro k i hk hi hki
  induction i with
  | zero => omega
  | succ i ih =>
    have h1 := h (i + 1) hi (by omega)
    simp only [Nat.add_sub_cancel] at h1
    rw [cmpN_flip] at h1
    have h2 : cmpN l[i].n l[i + 1].n < 0 := by omega
    rcases Nat.lt_or_ge k i with hlt | hge
    · exact cmpN_less (ih (by omega) hlt) h2
    · obtain rfl : k = i := by omega
      exact h2
theorem steps_sorted {l : List Ban} (h : Sorted l) : Steps l := fun i hi h0 => by
  have := sorted_at.1 h (i - 1) i (by omega) hi (by omega)
  rw [cmpN_flip]; omega
theorem right_set {l : List Ban} (h : Right l) {i : Nat} (hi : i < l.length) {b : Ban} (hb : rightB b = true) (hn : b.n = l[i].n) : Right (l.set i b) := by
  refine ⟨set_ok h.1 i hb, ?_⟩
  have h2 := sorted_at.1 h.2
  rw [sorted_at]
  intro k j hk hj hkj
  rw [List.length_set] at hk hj
  rw [List.getElem_set, List.getElem_set]
  have := h2 k j hk hj hkj
  split <;> split
  · omega
  · rename_i e _; subst e; rw [hn]; exact this
  · rename_i _ e; subst e; rw [hn]; exact this
  · exact this
theorem joinB_is {a b : Ban} (h : a.n = b.n) : (joinB a b).n = a.n ∧ (joinB a b).t = max a.t b.t := by
  rw [joinB_max, if_pos ((sameN_iff _ _).2 h)]; exact ⟨rfl, rfl⟩
theorem join_right {a b : Ban} (ha : rightB a = true) (hb : rightB b = true) (h : a.n = b.n) : rightB (joinB a b) = true := by
  obtain ⟨e1, e2⟩ := joinB_is h
  obtain ⟨h1, h2, h3⟩ := (rightB_iff _).1 ha
  obtain ⟨_, h5, h6⟩ := (rightB_iff _).1 hb
  exact (rightB_iff _).2 ⟨by rw [e1]; exact h1, by rw [e2]; omega, by rw [e2]; omega⟩
theorem right_put {l : List Ban} (h : Right l) {b : Ban} (hb : rightB b = true) (hi : ¬ ix l b.n < l.length) : Right (putB l b) := by
  refine ⟨put_ok h.1 hb, ?_⟩
  have hne : ∀ i (h : i < l.length), cmpN l[i].n b.n ≠ 0 := fun i hlt e => by
    have := ix_no hi i hlt
    rw [(cmpN_zero _ _).1 e, (sameN_iff _ _).2 rfl] at this; cases this
  have hs := h.2
  unfold Sorted at hs ⊢
  unfold putB
  rw [List.pairwise_append, List.pairwise_cons]
  have hle := spot_le l b.n
  have hbig : ∀ y ∈ l.drop (spot l b.n), cmpN b.n y.n < 0 := by
    intro y hy
    obtain ⟨j, hj, rfl⟩ := List.getElem_of_mem hy
    rw [List.length_drop] at hj
    rw [List.getElem_drop]
    have h0 : spot l b.n < l.length := by omega
    have h1 := spot_above h0
    rw [cmpN_flip] at h1
    rcases Nat.eq_zero_or_pos j with rfl | hp
    · simp only [Nat.add_zero]; omega
    · exact cmpN_less (b := l[spot l b.n].n) (by omega) (sorted_at.1 h.2 (spot l b.n) (spot l b.n + j) h0 (by omega) (by omega))
  have hsmall : ∀ x ∈ l.take (spot l b.n), cmpN x.n b.n < 0 := by
    intro x hx
    obtain ⟨j, hj, rfl⟩ := List.getElem_of_mem hx
    rw [List.length_take] at hj
    rw [List.getElem_take]
    have h1 := spot_below (l := l) (n := b.n) (i := j) (by omega) (by omega)
    have h2 := hne j (by omega)
    omega
  refine ⟨List.Pairwise.sublist (List.take_sublist _ _) hs, ⟨hbig, List.Pairwise.sublist (List.drop_sublist _ _) hs⟩, fun x hx y hy => ?_⟩
  rcases List.mem_cons.1 hy with rfl | hy
  · exact hsmall x hx
  · exact cmpN_less (hsmall x hx) (hbig y hy)
theorem right_add {l : List Ban} (h : Right l) (b : Ban) (most : Int) (hc : (addL l b most).2 = 0) : Right (addL l b most).1 := by
  by_cases hb : rightB b = true
  · by_cases hi : ix l b.n < l.length
    · rw [addL_join hb hi]
      have hs := ix_same hi
      have hm : rightB l[ix l b.n] = true := h.1 _ (List.getElem_mem hi)
      exact right_set h hi (join_right hm hb hs) (joinB_is hs).1
    · by_cases hm : most ≤ (l.length : Int)
      · rw [addL_full hb hi hm] at hc; cases hc
      · rw [addL_put hb hi hm]; exact right_put h hb hi
  · rw [addL_wrong (by simpa using hb)] at hc; cases hc
theorem right_sub {l m : List Ban} (h : Right l) (hs : List.Sublist m l) : Right m := ⟨fun x hx => h.1 x (hs.subset hx), List.Pairwise.sublist hs h.2⟩
theorem right_drop {l : List Ban} (h : Right l) (n : Net) : Right (dropL l n).1 := by
  unfold dropL
  split
  · refine right_sub h ?_
    rw [← List.eraseIdx_eq_take_drop_succ]
    exact List.eraseIdx_sublist _ _
  · exact ⟨by simp, List.Pairwise.nil⟩
theorem right_sweep {l : List Ban} (h : Right l) (now : Int) : Right (sweepL l now) := right_sub h List.filter_sublist
theorem right_nil : Right [] := ⟨by simp, List.Pairwise.nil⟩
theorem add_most {l : List Ban} {b : Ban} {most : Int} (h : (l.length : Int) ≤ max most 0) (hc : (addL l b most).2 = 0) : ((addL l b most).1.length : Int) ≤ max most 0 := by
  by_cases hb : rightB b = true
  · by_cases hi : ix l b.n < l.length
    · rw [addL_join hb hi, List.length_set]; exact h
    · by_cases hm : most ≤ (l.length : Int)
      · rw [addL_full hb hi hm] at hc; cases hc
      · rw [addL_put hb hi hm, put_len]; omega
  · rw [addL_wrong (by simpa using hb)] at hc; cases hc
theorem drop_count {l : List Ban} {n : Net} (hc : (dropL l n).2 = 0) : ((dropL l n).1.length : Int) = (l.length : Int) - 1 := by
  unfold dropL at *
  split at hc
  · rename_i h
    rw [if_pos h]; simp; omega
  · cases hc
/-! The longest ban is no shorter than any that holds. -/
theorem fold_ge (a : Adr) (now : Int) : ∀ (l : List Ban) (s : Int × Bool), (s.2 = true → s.1 ≤ (l.foldl (longest a now) s).1 ∧ (l.foldl (longest a now) s).2 = true) ∧ ∀ b ∈ l, hitsB b a now = true → b.t ≤ (l.foldl (longest a now) s).1
  | [], s => ⟨fun h => ⟨Int.le_refl _, h⟩, by simp⟩
  | c :: l, s => by
    rw [List.foldl_cons]
    obtain ⟨h1, h2⟩ := fold_ge a now l (longest a now s c)
    have hs : s.2 = true → s.1 ≤ (longest a now s c).1 ∧ (longest a now s c).2 = true := fun h => by
      unfold longest
      split
      · rename_i hc
        simp only [h, Bool.and_eq_true, Bool.not_true, Bool.false_or, decide_eq_true_eq] at hc
        exact ⟨by simp only; omega, rfl⟩
      · exact ⟨Int.le_refl _, h⟩
    have hc : hitsB c a now = true → c.t ≤ (longest a now s c).1 ∧ (longest a now s c).2 = true := fun h => by
      unfold longest
      rw [h]
      cases h2 : s.2
      · simp
      · by_cases h3 : s.1 < c.t
        · simp [h3]
        · simp [h3, h2]; omega
    refine ⟨fun h => ?_, fun b hb hh => ?_⟩
    · obtain ⟨a1, a2⟩ := hs h
      obtain ⟨b1, b2⟩ := h1 a2
      exact ⟨by omega, b2⟩
    · rcases List.mem_cons.1 hb with rfl | hb
      · obtain ⟨a1, a2⟩ := hc hh
        obtain ⟨b1, _⟩ := h1 a2
        omega
      · exact h2 b hb hh
theorem until_ge {l : List Ban} {b : Ban} {a : Adr} {now : Int} (h : b ∈ l) (hh : hitsB b a now = true) : b.t ≤ untilL l a now := (fold_ge a now l (0, false)).2 b h hh
/-- What was added holds of its subnet's first address. -/
theorem has_first {n : Net} (h : rightN n = true) : hasN n n.a = true := h
theorem add_holds {l : List Ban} {b : Ban} {most : Int} (hc : (addL l b most).2 = 0) : b.t ≤ untilL (addL l b most).1 b.n.a (b.t - 1) := by
  by_cases hb : rightB b = true
  · have hh : hasN b.n b.n.a = true := has_first ((rightB_iff b).1 hb).1
    by_cases hi : ix l b.n < l.length
    · rw [addL_join hb hi]
      obtain ⟨e1, e2⟩ := joinB_is (ix_same hi)
      refine Int.le_trans ?_ (until_ge (List.mem_set hi _) ?_)
      · rw [e2]; omega
      · unfold hitsB livesB
        rw [e1, e2, ix_same hi, hh]; simp; omega
    · by_cases hm : most ≤ (l.length : Int)
      · rw [addL_full hb hi hm] at hc; cases hc
      · rw [addL_put hb hi hm]
        refine until_ge (b := b) ?_ ?_
        · unfold putB; simp
        · unfold hitsB livesB; rw [hh]; simp; omega
  · rw [addL_wrong (by simpa using hb)] at hc; cases hc
/-- Until as the program reckons it: how long one is banned so far, from the tick on. -/
def ends (a : Adr) (e : Int) (b : Ban) : Int := if hitsB b a e then b.t else e
def endsL (l : List Ban) (a : Adr) (now : Int) : Int := l.foldl (ends a) now
theorem ends_snoc (l : List Ban) (a : Adr) (now : Int) (k : Nat) (h : k < l.length) : endsL (l.take (k + 1)) a now = ends a (endsL (l.take k) a now) l[k] := by
  unfold endsL
  rw [List.take_succ_eq_append_getElem h, List.foldl_append]; rfl
theorem ends_fold (a : Adr) (now : Int) : ∀ (l : List Ban) (s : Int × Bool) (e : Int), (s.2 = true → e = s.1 ∧ now < s.1) → (s.2 = false → e = now) →
    ((l.foldl (longest a now) s).2 = true → l.foldl (ends a) e = (l.foldl (longest a now) s).1 ∧ now < (l.foldl (longest a now) s).1) ∧ ((l.foldl (longest a now) s).2 = false → l.foldl (ends a) e = now)
  | [], s, e, h1, h2 => ⟨h1, h2⟩
  | b :: l, s, e, h1, h2 => by
    rw [List.foldl_cons, List.foldl_cons]
    refine ends_fold a now l _ _ ?_ ?_
    all_goals
      unfold longest ends
      cases hs : s.2
      · rw [h2 hs]
        cases hh : hitsB b a now
        · simp [hs]
        · have : now < b.t := by unfold hitsB livesB at hh; simp at hh; exact hh.1
          simp [this]
      · obtain ⟨rfl, hlt⟩ := h1 hs
        have hq : hitsB b a s.1 = (hitsB b a now && decide (s.1 < b.t)) := by
          unfold hitsB livesB
          by_cases h5 : s.1 < b.t
          · have h6 : now < b.t := by omega
            simp [h5, h6]
          · simp [h5]
        rw [hq]
        by_cases h5 : s.1 < b.t
        · cases hh : hitsB b a now <;> simp [h5, hs, hlt] <;> try omega
        · cases hh : hitsB b a now <;> simp [h5, hs, hlt]
theorem ends_until (l : List Ban) (a : Adr) (now : Int) : untilL l a now = if endsL l a now = now then 0 else endsL l a now := by
  obtain ⟨h1, h2⟩ := ends_fold a now l (0, false) now (by simp) (by simp)
  obtain ⟨_, h4⟩ := fold_inv a now l (0, false) (by simp) (by simp)
  unfold untilL untilS endsL
  cases h : (l.foldl (longest a now) (0, false)).2
  · rw [if_pos (h2 h), h4 h]
  · obtain ⟨h5, h6⟩ := h1 h
    rw [if_neg (by rw [h5]; omega), h5]
end Go.Proofs.Ytgnjbbohphoojaa.Ba
/- Lists of bans in memory: their cells; a list of the call's own; append. -/
namespace Go.Proofs.Ytgnjbbohphoojaa.Ba
set_option maxRecDepth 100000
open Go.ChangeShapes Go.WideShapes Go.ChangeAt Go.RowKit
open Dec Words V4 V6 Ad Ci
set_option linter.unusedVariables false
theorem bans_at {w : World} {b o : Nat} {l : List Ban} (h : ∀ i (h : i < l.length) j u, (encB l[i])[j]? = some u → w.cell? ⟨b, o + i * 5 + j, none⟩ = some u) {k : Nat} (hk : k < l.length) :
    w.cell? ⟨b, o + k * 5, none⟩ = some (.bool l[k].n.a.v6) ∧ w.cell? ⟨b, o + k * 5 + 1, none⟩ = some (.int .u64 l[k].n.a.hi) ∧ w.cell? ⟨b, o + k * 5 + 2, none⟩ = some (.int .u64 l[k].n.a.lo) ∧ w.cell? ⟨b, o + k * 5 + 3, none⟩ = some (.int .i64 l[k].n.n) ∧ w.cell? ⟨b, o + k * 5 + 4, none⟩ = some (.int .i64 l[k].t) :=
  ⟨h k hk 0 _ rfl, h k hk 1 _ rfl, h k hk 2 _ rfl, h k hk 3 _ rfl, h k hk 4 _ rfl⟩
abbrev OwnB (B : Nat) (w : World) (v : Value) (l : List Ban) : Prop := w.ownsRow B 45 5 v l.length (flat encB l)
theorem ownB_empty (W : World) (b : Nat) (hb : b = W.heap.size) : OwnB b (W.alloc (.cells #[] 45)) (.slice (some ⟨b, 0, none⟩) 0 0) [] := by
  subst hb
  exact World.ownsRow_made W #[] 0 (Nat.le_refl _) (by simp [maxLen]) rfl
theorem ownB_drew {B : Nat} {W : World} {v : Value} {l : List Ban} (h : OwnB B W v l) (n : Nat) : OwnB B (W.drewN n) v l := h.kept (row := none) ⟨rfl, rfl, rfl, Nat.le_refl _, fun _ _ _ => rfl⟩ (by cases v.ownBlock <;> simp)
theorem ownB_recs {B : Nat} {W : World} {v : Value} {l : List Ban} (h : OwnB B W v l) : Bans W v l := (recs_own encB_len (by decide) h).1
/-- Bans put behind bans. -/
theorem append_bans {B : Nat} {W : World} {v x : Value} {xs ys : List Ban} (hown : OwnB B W v xs) (hy : Bans W x ys) (hlen : xs.length + ys.length ≤ 1000000) (hB : B ≤ W.heap.size) :
    ∃ v' w', (Builtin.append_ #[24, 24] 24 #[v, x]).run Try.prog W = .ok v' w' ∧ OwnB B w' v' (xs ++ ys) ∧ Below B W w' :=
  append_recs (P := Try.prog) (z := .agg #[.bool false, .int .u64 0, .int .u64 0, .int .i64 0, .int .i64 0]) (bytes := 40) Try.underlying24 (by kernel_rfl) rfl (by decide) encB_len encB_one hown hy (by omega) (by omega) hB
theorem append_one {B : Nat} {W : World} {v : Value} {xs : List Ban} (hown : OwnB B W v xs) (y : Ban) (hlen : xs.length ≤ 900000) (hB : B ≤ W.heap.size) :
    ∃ v' w', (Builtin.append_ #[24, 24] 24 #[v, .slice (some ⟨W.heap.size, 0, none⟩) 1 1]).run Try.prog (W.alloc (.cells #[.bool y.n.a.v6, .int .u64 y.n.a.hi, .int .u64 y.n.a.lo, .int .i64 y.n.n, .int .i64 y.t] 45)) = .ok v' w' ∧ OwnB B w' v' (xs ++ [y]) ∧ Below B W w' := by
  obtain ⟨v', w', h1, h2, h3⟩ := append_bans (B := B) (hown.alloc (.cells #[.bool y.n.a.v6, .int .u64 y.n.a.hi, .int .u64 y.n.a.lo, .int .i64 y.n.n, .int .i64 y.t] 45)) (Recs.lit encB_len W [y] #[.bool y.n.a.v6, .int .u64 y.n.a.hi, .int .u64 y.n.a.lo, .int .i64 y.n.n, .int .i64 y.t] 45 (by rw [flat_one]; rfl)) (by simp; omega) (Nat.le_trans hB (by simp))
  exact ⟨v', w', h1, h2, ((Below.refl B W).alloc hB _).trans h3⟩
end Go.Proofs.Ytgnjbbohphoojaa.Ba
/- Contracts of package bans, first part: copies, closures, where a subnet stands. -/
namespace Go.Proofs.Ytgnjbbohphoojaa.Ba
set_option maxRecDepth 100000
open Go.ChangeShapes Go.WideShapes Go.ChangeAt Go.RowKit
open Dec Words V4 V6 Ad Ci
set_option linter.unusedVariables false
section
variable {P : Program}
/-- A make whose run is known, for the walk. -/
theorem wpList_make_run {w : World} {ops : Array Oper} {rest : List Oper} {o : Oper} {a : Act} {Q : Exit → Act → World → Prop} (hgd : o.guard = none) (l c : Operand) (t : TypeId)
    (ho : o.op = Op.makeSlice t l c) (vl vc v : Value) (w' : World) (hl : a.eval l = vl) (hc : a.eval c = vc) (hr : (Instr.makeSlice t vl vc).run P w = .ok v w') (h : wpList P ops Q rest (a.put o.dst v) w') : wpList P ops Q (o :: rest) a w := by
  refine wpList_plain hgd fun K hK => ?_
  unfold Oper.wp
  simp [execOp, ho, hl, hc, hr, Result.andThen]
  exact hK _ _ h
end
theorem made_bans (n : Nat) : (madeCells (Value.cells (.agg #[.bool false, .int .u64 0, .int .u64 0, .int .i64 0, .int .i64 0])) (n * 5)).toList = flat encB (List.replicate n zeroB) := by
  have h5 : (Value.cells (.agg #[.bool false, .int .u64 0, .int .u64 0, .int .i64 0, .int .i64 0])).size = 5 := rfl
  apply List.ext_getElem?
  intro i
  by_cases hi : i < n * 5
  · have e : i = i / 5 * 5 + i % 5 := by omega
    have hq : i / 5 < (List.replicate n zeroB).length := by simp; omega
    have hr : i % 5 < 5 := Nat.mod_lt _ (by decide)
    conv => rhs; rw [e, flat_at encB_len _ _ _ hq hr]
    rw [List.getElem_replicate, Array.getElem?_toList]
    have hj : (madeCells (Value.cells (.agg #[.bool false, .int .u64 0, .int .u64 0, .int .i64 0, .int .i64 0])) (n * 5))[i]? = some ((Value.cells (.agg #[.bool false, .int .u64 0, .int .u64 0, .int .i64 0, .int .i64 0]))[i % 5]!) := by
      simp only [madeCells, h5, Array.getElem?_map]
      rw [Array.getElem?_eq_getElem (by simpa using hi)]
      simp
    rw [hj]
    generalize i % 5 = r at hr
    match r, hr with
    | 0, _ => rfl
    | 1, _ => rfl
    | 2, _ => rfl
    | 3, _ => rfl
    | 4, _ => rfl
  · rw [List.getElem?_eq_none (by simp [size_madeCells]; omega), List.getElem?_eq_none (by rw [flat_len encB_len]; simp; omega)]
theorem splice_front (D : List Ban) (l : List Ban) : splice (List.replicate (l.length + 1) zeroB) 0 l = l ++ [zeroB] := by
  unfold splice
  rw [List.take_zero, List.nil_append, List.drop_replicate, show l.length + 1 - (0 + l.length) = 1 by omega]; rfl
/-- What a function value tells of a ban, wherever all that lay below B is as it was. -/
def Tells (g : Nat) (lb : Array Value) (p : Ban → Bool) (B : Nat) (w : World) : Prop :=
  ∀ (W : World) (x : Ban), x.ok → Below B w W → B ≤ W.heap.size → Calls Try.prog g (#[.agg #[.bool x.n.a.v6, .int .u64 x.n.a.hi, .int .u64 x.n.a.lo, .int .i64 x.n.n, .int .i64 x.t]] ++ lb) W fun e w' => e = .returned (.bool (p x)) ∧ Below W.heap.size W w'
theorem Tells.on {g : Nat} {lb : Array Value} {p : Ban → Bool} {B : Nat} {w w' : World} (h : Tells g lb p B w) (k : Below B w w') : Tells g lb p B w' := fun W x hx hb hB => h W x hx (k.trans hb) hB
def posI (p : Ban → Bool) (l : List Ban) : Int := if l.findIdx p < l.length then (l.findIdx p : Int) else -1
theorem posI_hit {p : Ban → Bool} {l : List Ban} {k : Nat} (hk : k < l.length) (h : ∀ i (h : i < l.length), i < k → p l[i] = false) (hp : p l[k] = true) : posI p l = (k : Int) ∧ l.findIdx p = k := by
  have e : l.findIdx p = k := (List.findIdx_eq hk).2 ⟨hp, fun j hj => by simpa using h j (by omega) hj⟩
  exact ⟨by unfold posI; rw [e, if_pos hk], e⟩
theorem posI_miss {p : Ban → Bool} {l : List Ban} (h : ∀ i (h : i < l.length), p l[i] = false) : posI p l = -1 := by
  have e : l.findIdx p = l.length := by
    rw [List.findIdx_eq_length]
    intro x hx
    obtain ⟨i, hi, rfl⟩ := List.getElem_of_mem hx
    simpa using h i hi
  unfold posI; rw [e, if_neg (by omega)]
theorem ixI_pos (l : List Ban) (n : Net) : ixI l n = posI (fun b => sameN b.n n) l := rfl
abbrev SBN (x : Ban) (n : Net) (w : World) (w' : World) : Prop := w'.cell? ⟨w.heap.size, 0, none⟩ = some (.bool x.n.a.v6) ∧ w'.cell? ⟨w.heap.size, 1, none⟩ = some (.int .u64 x.n.a.hi) ∧ w'.cell? ⟨w.heap.size, 2, none⟩ = some (.int .u64 x.n.a.lo) ∧ w'.cell? ⟨w.heap.size, 3, none⟩ = some (.int .i64 x.n.n) ∧ w'.cell? ⟨w.heap.size, 4, none⟩ = some (.int .i64 x.t) ∧ w'.cell? ⟨w.heap.size + 1, 0, none⟩ = some (.bool n.a.v6) ∧ w'.cell? ⟨w.heap.size + 1, 1, none⟩ = some (.int .u64 n.a.hi) ∧ w'.cell? ⟨w.heap.size + 1, 2, none⟩ = some (.int .u64 n.a.lo) ∧ w'.cell? ⟨w.heap.size + 1, 3, none⟩ = some (.int .i64 n.n) ∧ Stays ((w.alloc (.cells #[.bool x.n.a.v6, .int .u64 x.n.a.hi, .int .u64 x.n.a.lo, .int .i64 x.n.n, .int .i64 x.t] 45)).alloc (.cells #[.bool n.a.v6, .int .u64 n.a.hi, .int .u64 n.a.lo, .int .i64 n.n] 43)) w'
theorem SBN.of {x : Ban} {n : Net} {w w' : World} (h : Stays ((w.alloc (.cells #[.bool x.n.a.v6, .int .u64 x.n.a.hi, .int .u64 x.n.a.lo, .int .i64 x.n.n, .int .i64 x.t] 45)).alloc (.cells #[.bool n.a.v6, .int .u64 n.a.hi, .int .u64 n.a.lo, .int .i64 n.n] 43)) w') : SBN x n w w' := by
  have s0 : Stays (w.alloc (.cells #[.bool x.n.a.v6, .int .u64 x.n.a.hi, .int .u64 x.n.a.lo, .int .i64 x.n.n, .int .i64 x.t] 45)) ((w.alloc (.cells #[.bool x.n.a.v6, .int .u64 x.n.a.hi, .int .u64 x.n.a.lo, .int .i64 x.n.n, .int .i64 x.t] 45)).alloc (.cells #[.bool n.a.v6, .int .u64 n.a.hi, .int .u64 n.a.lo, .int .i64 n.n] 43)) := ((Below.refl _ _).alloc (by first | (simp; done) | (simp; omega)) _)
  have n0_0 : (w.alloc (.cells #[.bool x.n.a.v6, .int .u64 x.n.a.hi, .int .u64 x.n.a.lo, .int .i64 x.n.n, .int .i64 x.t] 45)).cell? ⟨w.heap.size, 0, none⟩ = some (.bool x.n.a.v6) := by
    have k := cell_at (w) #[.bool x.n.a.v6, .int .u64 x.n.a.hi, .int .u64 x.n.a.lo, .int .i64 x.n.n, .int .i64 x.t] 45 0 _ rfl
    exact k
  have n0_1 : (w.alloc (.cells #[.bool x.n.a.v6, .int .u64 x.n.a.hi, .int .u64 x.n.a.lo, .int .i64 x.n.n, .int .i64 x.t] 45)).cell? ⟨w.heap.size, 1, none⟩ = some (.int .u64 x.n.a.hi) := by
    have k := cell_at (w) #[.bool x.n.a.v6, .int .u64 x.n.a.hi, .int .u64 x.n.a.lo, .int .i64 x.n.n, .int .i64 x.t] 45 1 _ rfl
    exact k
  have n0_2 : (w.alloc (.cells #[.bool x.n.a.v6, .int .u64 x.n.a.hi, .int .u64 x.n.a.lo, .int .i64 x.n.n, .int .i64 x.t] 45)).cell? ⟨w.heap.size, 2, none⟩ = some (.int .u64 x.n.a.lo) := by
    have k := cell_at (w) #[.bool x.n.a.v6, .int .u64 x.n.a.hi, .int .u64 x.n.a.lo, .int .i64 x.n.n, .int .i64 x.t] 45 2 _ rfl
    exact k
  have n0_3 : (w.alloc (.cells #[.bool x.n.a.v6, .int .u64 x.n.a.hi, .int .u64 x.n.a.lo, .int .i64 x.n.n, .int .i64 x.t] 45)).cell? ⟨w.heap.size, 3, none⟩ = some (.int .i64 x.n.n) := by
    have k := cell_at (w) #[.bool x.n.a.v6, .int .u64 x.n.a.hi, .int .u64 x.n.a.lo, .int .i64 x.n.n, .int .i64 x.t] 45 3 _ rfl
    exact k
  have n0_4 : (w.alloc (.cells #[.bool x.n.a.v6, .int .u64 x.n.a.hi, .int .u64 x.n.a.lo, .int .i64 x.n.n, .int .i64 x.t] 45)).cell? ⟨w.heap.size, 4, none⟩ = some (.int .i64 x.t) := by
    have k := cell_at (w) #[.bool x.n.a.v6, .int .u64 x.n.a.hi, .int .u64 x.n.a.lo, .int .i64 x.n.n, .int .i64 x.t] 45 4 _ rfl
    exact k
  have n1_0 : ((w.alloc (.cells #[.bool x.n.a.v6, .int .u64 x.n.a.hi, .int .u64 x.n.a.lo, .int .i64 x.n.n, .int .i64 x.t] 45)).alloc (.cells #[.bool n.a.v6, .int .u64 n.a.hi, .int .u64 n.a.lo, .int .i64 n.n] 43)).cell? ⟨w.heap.size + 1, 0, none⟩ = some (.bool n.a.v6) := by
    have k := cell_at (w.alloc (.cells #[.bool x.n.a.v6, .int .u64 x.n.a.hi, .int .u64 x.n.a.lo, .int .i64 x.n.n, .int .i64 x.t] 45)) #[.bool n.a.v6, .int .u64 n.a.hi, .int .u64 n.a.lo, .int .i64 n.n] 43 0 _ rfl
    rwa [show (w.alloc (.cells #[.bool x.n.a.v6, .int .u64 x.n.a.hi, .int .u64 x.n.a.lo, .int .i64 x.n.n, .int .i64 x.t] 45)).heap.size = w.heap.size + 1 by simp] at k
  have n1_1 : ((w.alloc (.cells #[.bool x.n.a.v6, .int .u64 x.n.a.hi, .int .u64 x.n.a.lo, .int .i64 x.n.n, .int .i64 x.t] 45)).alloc (.cells #[.bool n.a.v6, .int .u64 n.a.hi, .int .u64 n.a.lo, .int .i64 n.n] 43)).cell? ⟨w.heap.size + 1, 1, none⟩ = some (.int .u64 n.a.hi) := by
    have k := cell_at (w.alloc (.cells #[.bool x.n.a.v6, .int .u64 x.n.a.hi, .int .u64 x.n.a.lo, .int .i64 x.n.n, .int .i64 x.t] 45)) #[.bool n.a.v6, .int .u64 n.a.hi, .int .u64 n.a.lo, .int .i64 n.n] 43 1 _ rfl
    rwa [show (w.alloc (.cells #[.bool x.n.a.v6, .int .u64 x.n.a.hi, .int .u64 x.n.a.lo, .int .i64 x.n.n, .int .i64 x.t] 45)).heap.size = w.heap.size + 1 by simp] at k
  have n1_2 : ((w.alloc (.cells #[.bool x.n.a.v6, .int .u64 x.n.a.hi, .int .u64 x.n.a.lo, .int .i64 x.n.n, .int .i64 x.t] 45)).alloc (.cells #[.bool n.a.v6, .int .u64 n.a.hi, .int .u64 n.a.lo, .int .i64 n.n] 43)).cell? ⟨w.heap.size + 1, 2, none⟩ = some (.int .u64 n.a.lo) := by
    have k := cell_at (w.alloc (.cells #[.bool x.n.a.v6, .int .u64 x.n.a.hi, .int .u64 x.n.a.lo, .int .i64 x.n.n, .int .i64 x.t] 45)) #[.bool n.a.v6, .int .u64 n.a.hi, .int .u64 n.a.lo, .int .i64 n.n] 43 2 _ rfl
    rwa [show (w.alloc (.cells #[.bool x.n.a.v6, .int .u64 x.n.a.hi, .int .u64 x.n.a.lo, .int .i64 x.n.n, .int .i64 x.t] 45)).heap.size = w.heap.size + 1 by simp] at k
  have n1_3 : ((w.alloc (.cells #[.bool x.n.a.v6, .int .u64 x.n.a.hi, .int .u64 x.n.a.lo, .int .i64 x.n.n, .int .i64 x.t] 45)).alloc (.cells #[.bool n.a.v6, .int .u64 n.a.hi, .int .u64 n.a.lo, .int .i64 n.n] 43)).cell? ⟨w.heap.size + 1, 3, none⟩ = some (.int .i64 n.n) := by
    have k := cell_at (w.alloc (.cells #[.bool x.n.a.v6, .int .u64 x.n.a.hi, .int .u64 x.n.a.lo, .int .i64 x.n.n, .int .i64 x.t] 45)) #[.bool n.a.v6, .int .u64 n.a.hi, .int .u64 n.a.lo, .int .i64 n.n] 43 3 _ rfl
    rwa [show (w.alloc (.cells #[.bool x.n.a.v6, .int .u64 x.n.a.hi, .int .u64 x.n.a.lo, .int .i64 x.n.n, .int .i64 x.t] 45)).heap.size = w.heap.size + 1 by simp] at k
  exact ⟨Ci.cells_left h (Ci.cells_left s0 n0_0), Ci.cells_left h (Ci.cells_left s0 n0_1), Ci.cells_left h (Ci.cells_left s0 n0_2), Ci.cells_left h (Ci.cells_left s0 n0_3), Ci.cells_left h (Ci.cells_left s0 n0_4), Ci.cells_left h n1_0, Ci.cells_left h n1_1, Ci.cells_left h n1_2, Ci.cells_left h n1_3, h⟩
theorem SBN.on {x : Ban} {n : Net} {w w1 w2 : World} (h : SBN x n w w1) (k : Below w1.heap.size w1 w2) : SBN x n w w2 := SBN.of (low_trans h.2.2.2.2.2.2.2.2.2 k)
theorem SBN.low {x : Ban} {n : Net} {w w1 : World} (h : SBN x n w w1) : Below w.heap.size w w1 := (((Below.refl _ _).alloc (by first | (simp; done) | (simp; omega)) _).alloc (by first | (simp; done) | (simp; omega)) _).trans (h.2.2.2.2.2.2.2.2.2.mono (by simp; omega))
end Go.Proofs.Ytgnjbbohphoojaa.Ba
/- Contracts of package bans, second part: slices.Delete, Insert, DeleteFunc at bans, in a block of the call's own. -/
namespace Go.Proofs.Ytgnjbbohphoojaa.Ba
set_option maxRecDepth 100000
open Go.ChangeShapes Go.WideShapes Go.ChangeAt Go.RowKit
open Dec Words V4 V6 Ad Ci
set_option linter.unusedVariables false
theorem info_ban : (Try.prog.info? 45).map (fun i => (i.zero, i.size, i.bytes)) = some (some (.agg #[.bool false, .int .u64 0, .int .u64 0, .int .i64 0, .int .i64 0]), 5, 40) := by kernel_rfl
theorem zero_ban (w : World) : (zeroValue 45).run Try.prog w = .ok (.agg #[.bool false, .int .u64 0, .int .u64 0, .int .i64 0, .int .i64 0]) w := Try.zeroValue45 w
theorem clear_bans (w : World) (g o n c : Nat) (hn : 0 < n) (cur : List Value) (hg : Blk w g 45 cur) (hfit : o + n * 5 ≤ cur.length) :
    ∃ (w' : World) (zs : List Value), (∀ ty, (Builtin.clear_ #[24] ty #[.slice (some ⟨g, o, none⟩) n c]).run Try.prog w = .ok (.tuple #[]) w') ∧ zs.length = n * 5 ∧ Blk w' g 45 (splice cur o zs) ∧ Bt g w w' := by
  obtain ⟨w', zs, h1, h2⟩ := run_clear_blk (P := Try.prog) w 24 45 0 45 _ 5 Try.underlying24 zero_ban rfl (by decide) (by decide) g o n c hn cur hg hfit
  exact ⟨w', zs, fun ty => h1, h2⟩
theorem ins_mid (l : List Ban) (k : Nat) (hk : k ≤ l.length) (b : Ban) : splice (splice (l ++ [zeroB]) (k + 1) (l.drop k)) k [b] = l.take k ++ b :: l.drop k := by
  have e1 : splice (l ++ [zeroB]) (k + 1) (l.drop k) = (l ++ [zeroB]).take (k + 1) ++ l.drop k := by
    unfold splice
    rw [show (l ++ [zeroB]).drop (k + 1 + (l.drop k).length) = [] from List.drop_of_length_le (by simp; omega), List.append_nil]
  rw [e1]
  unfold splice
  rw [List.take_append_of_le_length (by simp; omega), List.take_take, Nat.min_eq_left (by omega), List.take_append_of_le_length hk]
  rw [show k + [b].length = ((l ++ [zeroB]).take (k + 1)).length + 0 by simp; omega, List.drop_append]; simp
theorem ins_end (l : List Ban) (b : Ban) : splice (l ++ [zeroB]) l.length [b] = l.take l.length ++ b :: l.drop l.length := by
  unfold splice
  simp
theorem flat_set5 (x : Ban) : ∀ (D : List Ban) (i : Nat), i < D.length → (((((flat encB D).set (i * 5) (.bool x.n.a.v6)).set (i * 5 + 1) (.int .u64 x.n.a.hi)).set (i * 5 + 2) (.int .u64 x.n.a.lo)).set (i * 5 + 3) (.int .i64 x.n.n)).set (i * 5 + 4) (.int .i64 x.t) = flat encB (D.set i x)
  | [], i, h => by simp at h
  | d :: D, 0, _ => rfl
  | d :: D, i + 1, h => by
    have e : ∀ (d : Ban) (D : List Ban), flat encB (d :: D) = encB d ++ flat encB D := fun d D => by unfold flat; rw [List.flatMap_cons]
    have s : ∀ (R : List Value) (t : Nat) (v : Value), (encB d ++ R).set (5 + t) v = encB d ++ R.set t v := fun R t v => by
      rw [List.set_append_right _ _ (by rw [encB_len]; omega), encB_len, Nat.add_sub_cancel_left]
    have ih := flat_set5 x D i (by simpa using h)
    rw [List.set_cons_succ, e, e, ← ih, show (i + 1) * 5 = 5 + i * 5 by omega]
    simp only [Nat.add_assoc, s]
theorem Tells.mono {g : Nat} {lb : Array Value} {p : Ban → Bool} {B C : Nat} {w : World} (h : Tells g lb p B w) (k : B ≤ C) : Tells g lb p C w := fun W x hx hb hB => h W x hx (hb.mono k) (Nat.le_trans k hB)
/-- What stands in a row that is swept as it goes: what was kept so far, and ahead what was there. -/
structure Kept (q : Ban → Bool) (l D : List Ban) (i j : Nat) : Prop where
  len : D.length = l.length
  lt : i < j
  le : j ≤ l.length
  head : D.take i = (l.take j).filter q
  tail : D.drop j = l.drop j
theorem Kept.at {q : Ban → Bool} {l D : List Ban} {i j : Nat} (h : Kept q l D i j) (hj : j < l.length) : D[j]'(by rw [h.len]; exact hj) = l[j] := by
  have e := h.tail
  have h1 : (D.drop j)[0]? = (l.drop j)[0]? := by rw [e]
  rw [List.getElem?_drop, List.getElem?_drop, Nat.add_zero, List.getElem?_eq_getElem (by rw [h.len]; exact hj), List.getElem?_eq_getElem hj] at h1
  exact Option.some.inj h1
theorem Kept.skip {q : Ban → Bool} {l D : List Ban} {i j : Nat} (h : Kept q l D i j) (hj : j < l.length) (hq : q l[j] = false) : Kept q l D i (j + 1) :=
  ⟨h.len, by have := h.lt; omega, hj, by rw [h.head, List.take_succ_eq_append_getElem hj, List.filter_append]; simp [hq], by rw [← List.drop_drop, h.tail, List.drop_drop]⟩
theorem Kept.keep {q : Ban → Bool} {l D : List Ban} {i j : Nat} (h : Kept q l D i j) (hj : j < l.length) (hq : q l[j] = true) : Kept q l (D.set i l[j]) (i + 1) (j + 1) := by
  have h1 := h.lt
  have h2 := h.len
  refine ⟨by rw [List.length_set]; exact h2, by omega, hj, ?_, ?_⟩
  · rw [List.take_succ_eq_append_getElem (by rw [List.length_set]; omega), List.getElem_set_self, List.take_set_of_le (Nat.le_refl _), h.head, List.take_succ_eq_append_getElem hj, List.filter_append]
    simp [hq]
  · rw [List.drop_set_of_lt (by omega), ← List.drop_drop, h.tail, List.drop_drop]
theorem Kept.start {q : Ban → Bool} {l : List Ban} {k : Nat} (hk : k < l.length) (h : ∀ i (h : i < l.length), i < k → q l[i] = true) (hq : q l[k] = false) : Kept q l l k (k + 1) := by
  refine ⟨rfl, by omega, hk, ?_, rfl⟩
  rw [List.take_succ_eq_append_getElem hk, List.filter_append, List.filter_eq_self.2 ?_]
  · simp [hq]
  · intro x hx
    obtain ⟨j, hj, rfl⟩ := List.getElem_of_mem hx
    rw [List.length_take] at hj
    rw [List.getElem_take]
    exact h j (by omega) (by omega)
theorem Kept.done {q : Ban → Bool} {l D : List Ban} {i : Nat} (h : Kept q l D i l.length) : D.take i = l.filter q ∧ i = (l.filter q).length := by
  have e := h.head
  rw [List.take_of_length_le (Nat.le_refl _)] at e
  refine ⟨e, ?_⟩
  rw [← e, List.length_take, h.len]
  have := h.lt; omega
theorem _root_.Go.Proofs.Ytgnjbbohphoojaa.Blk.put5 {w : World} {g i : Nat} {t : TypeId} {D : List Ban} (h : Blk w g t (flat encB D)) (hi : i < D.length) (x : Ban) : Blk (((((w.setCell ⟨g, i * 5, none⟩ (.bool x.n.a.v6)).setCell ⟨g, i * 5 + 1, none⟩ (.int .u64 x.n.a.hi)).setCell ⟨g, i * 5 + 2, none⟩ (.int .u64 x.n.a.lo)).setCell ⟨g, i * 5 + 3, none⟩ (.int .i64 x.n.n)).setCell ⟨g, i * 5 + 4, none⟩ (.int .i64 x.t)) g t (flat encB (D.set i x)) := by
  rw [← flat_set5 x D i hi]
  exact ((((h.set _ _).set _ _).set _ _).set _ _).set _ _
theorem _root_.Go.Proofs.Ytgnjbbohphoojaa.Bt.put5 {w0 w : World} {g : Nat} (h : Bt g w0 w) (i : Nat) (x : Ban) : Bt g w0 (((((w.setCell ⟨g, i * 5, none⟩ (.bool x.n.a.v6)).setCell ⟨g, i * 5 + 1, none⟩ (.int .u64 x.n.a.hi)).setCell ⟨g, i * 5 + 2, none⟩ (.int .u64 x.n.a.lo)).setCell ⟨g, i * 5 + 3, none⟩ (.int .i64 x.n.n)).setCell ⟨g, i * 5 + 4, none⟩ (.int .i64 x.t)) :=
  ((((h.trans (Bt.setCell _ _ _ _)).trans (Bt.setCell _ _ _ _)).trans (Bt.setCell _ _ _ _)).trans (Bt.setCell _ _ _ _)).trans (Bt.setCell _ _ _ _)
end Go.Proofs.Ytgnjbbohphoojaa.Ba
/- Contracts of package bans, third part: Until, Sweep, Drop, Add, Right. -/
namespace Go.Proofs.Ytgnjbbohphoojaa.Ba
set_option maxRecDepth 100000
open Go.ChangeShapes Go.WideShapes Go.ChangeAt Go.RowKit
open Dec Words V4 V6 Ad Ci
set_option linter.unusedVariables false
set_option maxHeartbeats 8000000 in
theorem until_any (v : Value) (l : List Ban) (a : Adr) (now : Int) (w : World) (h : Bans w v l) (hl : l.length ≤ 900000) (hok : ∀ x ∈ l, x.ok) (ha : a.ok) :
    Calls Try.prog 29 #[v, .agg #[.bool a.v6, .int .u64 a.hi, .int .u64 a.lo], .int .i64 now] w fun e w' => e = .returned (.int .i64 (untilL l a now)) ∧ Below w.heap.size w w' := by
  obtain ⟨A, c, rfl, hc, _, hcell⟩ := h
  have HC := Lib.hid hcell
  clear hcell
  go_enter Try.func29, Try.ntmps29
  go_wp2_with fail
  go_loopw [7, 9, 13] (fun se _ i wr => ∃ (k : Nat) (e : Int), k ≤ l.length ∧ i = .int .i64 k ∧ se = .int .i64 e ∧ Hid (endsL (l.take k) a now = e) ∧ Stays (w.alloc (.cells #[.bool a.v6, .int .u64 a.hi, .int .u64 a.lo] 31)) wr) (fun _ _ i _ => l.length - (intOf i).toNat)
  case atStart => exact ⟨0, now, Nat.zero_le _, rfl, rfl, Lib.hid rfl, Below.refl _ _⟩
  case round =>
    obtain ⟨k, en, hk, rfl, rfl, HU, hs⟩ := hrel
    have hlow : Below w.heap.size w wr := ((Below.refl _ _).alloc (Nat.le_refl _) _).trans (hs.mono (by simp))
    by_cases hlt : k < l.length
    · obtain ⟨b, o, rfl, hb, hcc⟩ := HC.out (by omega)
      obtain ⟨c0, c1, c2, c3, c4⟩ := bans_at (fun i h j u hu => (hlow.cell (p := ⟨b, o + i * 5 + j, none⟩) hb).trans (hcc i h j u hu)) hlt
      have hxo : (l[k]).ok := hok (l[k]) (List.getElem_mem hlt)
      have HS := Lib.hid (ends_snoc l a now k hlt)
      clear hcc
      generalize l[k] = x at c0 c1 c2 c3 c4 hxo HS
      have d0 := cells_left hs (cell_at _ _ _ 0 _ rfl)
      have d1 := cells_left hs (cell_at _ _ _ 1 _ rfl)
      have d2 := cells_left hs (cell_at _ _ _ 2 _ rfl)
      have s1 : Stays wr (wr.alloc (.cells #[.bool x.n.a.v6, .int .u64 x.n.a.hi, .int .u64 x.n.a.lo, .int .i64 x.n.n, .int .i64 x.t] 45)) := (Below.refl _ _).alloc (Nat.le_refl _) _
      have e0 := cells_left s1 d0
      have e1 := cells_left s1 d1
      have e2 := cells_left s1 d2
      have KC := Lib.hid (hitsB_any x a en (wr.alloc (.cells #[.bool x.n.a.v6, .int .u64 x.n.a.hi, .int .u64 x.n.a.lo, .int .i64 x.n.n, .int .i64 x.t] 45)) hxo ha)
      clear s1 d0 d1 d2
      have HB := Lib.hid hs
      clear hxo
      cases hh : hitsB x a en
      · have E : Hid (endsL (l.take (k + 1)) a now = en) := Lib.hid (by rw [HS.out, HU.out]; unfold ends; rw [hh]; rfl)
        rw [hh] at KC
        clear hh HS
        go_wp2_with fail
        refine KC.out.mono ?_
        rintro e w9 ⟨rfl, hb9⟩
        have HL : Hid (Stays (w.alloc (.cells #[.bool a.v6, .int .u64 a.hi, .int .u64 a.lo] 31)) w9) := Lib.hid (low_trans HB.out (low_trans ((Below.refl _ _).alloc (Nat.le_refl _) _) hb9))
        clear hb9
        go_wp2_with fail
        go_roundw
        case rel => exact ⟨k + 1, _, by omega, by go_num, rfl, E, HL.out⟩
        case measure => simp [intOf]; omega
      · have E : Hid (endsL (l.take (k + 1)) a now = x.t) := Lib.hid (by rw [HS.out, HU.out]; unfold ends; rw [hh]; rfl)
        rw [hh] at KC
        clear hh HS
        go_wp2_with fail
        refine KC.out.mono ?_
        rintro e w9 ⟨rfl, hb9⟩
        have k4 : w9.cell? ⟨wr.heap.size, 4, none⟩ = some (.int .i64 x.t) := cells_left hb9 (cell_at _ _ _ 4 _ rfl)
        have HL : Hid (Stays (w.alloc (.cells #[.bool a.v6, .int .u64 a.hi, .int .u64 a.lo] 31)) w9) := Lib.hid (low_trans HB.out (low_trans ((Below.refl _ _).alloc (Nat.le_refl _) _) hb9))
        clear hb9
        go_wp2_with fail
        go_roundw
        case rel => exact ⟨k + 1, _, by omega, by go_num, rfl, E, HL.out⟩
        case measure => simp [intOf]; omega
    · have E : Hid (untilL l a now = if en = now then 0 else en) := Lib.hid (by
        have := HU.out
        rw [List.take_of_length_le (by omega)] at this
        rw [ends_until, this])
      have HB := Lib.hid hlow
      by_cases hn : en = now
      · have E2 : Hid (untilL l a now = 0) := Lib.hid (by rw [E.out, if_pos hn])
        go_wp2
        go_ret
        exact ⟨ret_i E2.out.symm, HB.out⟩
      · have E2 : Hid (untilL l a now = en) := Lib.hid (by rw [E.out, if_neg hn])
        go_wp2
        go_ret
        exact ⟨ret_i E2.out.symm, HB.out⟩
theorem sweep_filter (l : List Ban) (now : Int) : (l.filter fun x => !(!decide (now < x.t))) = sweepL l now := by
  unfold sweepL; simp
abbrev SAdd (b : Ban) (w w2 : World) (w' : World) : Prop := w'.cell? ⟨w.heap.size, 0, none⟩ = some (.bool b.n.a.v6) ∧ w'.cell? ⟨w.heap.size, 1, none⟩ = some (.int .u64 b.n.a.hi) ∧ w'.cell? ⟨w.heap.size, 2, none⟩ = some (.int .u64 b.n.a.lo) ∧ w'.cell? ⟨w.heap.size, 3, none⟩ = some (.int .i64 b.n.n) ∧ w'.cell? ⟨w.heap.size, 4, none⟩ = some (.int .i64 b.t) ∧ Stays (w2) w'
theorem takes_set (l : List Ban) (i : Nat) (x : Ban) : ((l ++ [zeroB]).set i x).take l.length = l.set i x := by
  rw [List.take_set, List.take_left]
/-- What is known of the front of a list that may be so far. -/
def Far (l : List Ban) (k : Nat) : Prop := ∀ i (h : i < l.length), i < k → rightB l[i] = true ∧ (0 < i → 0 < cmpN l[i].n (l[i - 1]'(by omega)).n)
theorem far_all {l : List Ban} (h : Far l l.length) : rightL l = true := by
  rw [right_iff]
  refine ⟨fun x hx => ?_, sorted_steps fun i hi h0 => (h i hi hi).2 h0⟩
  obtain ⟨i, hi, rfl⟩ := List.getElem_of_mem hx
  exact (h i hi hi).1
theorem far_snoc {l : List Ban} {k : Nat} (h : Far l k) (hk : k < l.length) (hr : rightB l[k] = true) (hs : 0 < k → 0 < cmpN l[k].n (l[k - 1]'(by omega)).n) : Far l (k + 1) := fun i hi hik => by
  rcases Nat.lt_succ_iff_lt_or_eq.1 hik with h2 | rfl
  · exact h i hi h2
  · exact ⟨hr, hs⟩
theorem far_wrong {l : List Ban} {k : Nat} (hk : k < l.length) (hr : rightB l[k] = false) : rightL l = false := right_not fun h => by
  have := h.1 _ (List.getElem_mem hk)
  rw [hr] at this; cases this
theorem far_back {l : List Ban} {m : Nat} (hk : m + 1 < l.length) (hs : ¬ 0 < cmpN l[m + 1].n l[m].n) : rightL l = false := right_not fun h => hs (steps_sorted h.2 (m + 1) hk (by omega))
end Go.Proofs.Ytgnjbbohphoojaa.Ba
