/- Plain words on texts that are cut at a byte, and parts that are put together: no program. -/
import Derived.Lib.Split
import Derived.Lib.SplitLaws
import Derived.Lib.Join
namespace Go.Proofs.YtokbifndhkijiaaDoor.Words
/-- The parts between the bytes c. -/
def cut (c : UInt8) : List UInt8 → List (List UInt8)
  | [] => [[]]
  | b :: l => if b = c then [] :: cut c l else match cut c l with
    | [] => [[b]]
    | x :: r => (b :: x) :: r
/-- The parts with c between each two. -/
def glue (c : UInt8) : List (List UInt8) → List UInt8
  | [] => []
  | x :: r => match r with
    | [] => x
    | y :: t => x ++ c :: glue c (y :: t)
theorem cut_ne (c : UInt8) (l : List UInt8) : cut c l ≠ [] := by
  cases l with
  | nil => simp [cut]
  | cons b l =>
    unfold cut
    split
    · simp
    · split <;> simp
theorem cut_hit (c : UInt8) (l : List UInt8) : cut c (c :: l) = [] :: cut c l := by rw [cut, if_pos rfl]
theorem cut_off {c b : UInt8} (h : b ≠ c) (l : List UInt8) : ∃ x r, cut c l = x :: r ∧ cut c (b :: l) = (b :: x) :: r := by
  cases e : cut c l with
  | nil => exact absurd e (cut_ne c l)
  | cons x r => exact ⟨x, r, rfl, by rw [cut, if_neg h, e]⟩
theorem cut_none {c : UInt8} : ∀ {l : List UInt8}, c ∉ l → cut c l = [l]
  | [], _ => rfl
  | b :: l, h => by
    have h1 : b ≠ c := fun e => h (by simp [e])
    have h2 := cut_none (l := l) (fun e => h (List.mem_cons_of_mem _ e))
    rw [cut, if_neg h1, h2]
theorem cut_mid {c : UInt8} {a : List UInt8} (h : c ∉ a) (r : List UInt8) : cut c (a ++ c :: r) = a :: cut c r := by
  induction a with
  | nil => exact cut_hit c r
  | cons b a ih =>
    have h1 : b ≠ c := fun e => h (by simp [e])
    have h2 := ih (fun e => h (List.mem_cons_of_mem _ e))
    rw [List.cons_append, cut, if_neg h1, h2]
theorem cut_len (c : UInt8) : ∀ l : List UInt8, (cut c l).length = l.count c + 1
  | [] => rfl
  | b :: l => by
    by_cases h : b = c
    · subst h; rw [cut_hit, List.length_cons, cut_len b l, List.count_cons_self]
    · obtain ⟨x, r, e1, e2⟩ := cut_off h l
      have := cut_len c l
      rw [e1] at this
      rw [e2, List.count_cons_of_ne (by simpa using h), ← this]; rfl
theorem cut_one {c : UInt8} {l : List UInt8} : (cut c l).length = 1 ↔ c ∉ l := by
  rw [cut_len, ← List.count_eq_zero (a := c)]; omega
theorem cut_parts (c : UInt8) : ∀ l : List UInt8, ∀ x ∈ cut c l, c ∉ x
  | [], x, h => by simp [cut] at h; subst h; simp
  | b :: l, x, h => by
    by_cases e : b = c
    · subst e; rw [cut_hit] at h
      rcases List.mem_cons.1 h with h | h
      · subst h; simp
      · exact cut_parts b l x h
    · obtain ⟨y, r, e1, e2⟩ := cut_off e l
      have ih := cut_parts c l
      rw [e1] at ih
      rw [e2] at h
      rcases List.mem_cons.1 h with h | h
      · subst h
        have := ih y (by simp)
        simp [this, Ne.symm e]
      · exact ih x (List.mem_cons_of_mem _ h)
theorem glue_cons (c : UInt8) (x : List UInt8) {r : List (List UInt8)} (h : r ≠ []) : glue c (x :: r) = x ++ c :: glue c r := by
  cases r with
  | nil => exact absurd rfl h
  | cons y t => rfl
theorem glue_cut (c : UInt8) : ∀ l : List UInt8, glue c (cut c l) = l
  | [] => rfl
  | b :: l => by
    by_cases e : b = c
    · subst e; rw [cut_hit, glue_cons _ _ (cut_ne b l), glue_cut b l]; rfl
    · obtain ⟨x, r, e1, e2⟩ := cut_off e l
      have ih := glue_cut c l
      rw [e1] at ih
      rw [e2]
      cases r with
      | nil => simp [glue] at ih ⊢; exact ih
      | cons y t => rw [glue_cons _ _ (by simp)] at ih ⊢; rw [List.cons_append, ih]
theorem cut_glue {c : UInt8} : ∀ {ls : List (List UInt8)}, ls ≠ [] → (∀ x ∈ ls, c ∉ x) → cut c (glue c ls) = ls
  | [], h, _ => absurd rfl h
  | x :: r, _, ha => by
    cases r with
    | nil => exact cut_none (ha x (by simp))
    | cons y t =>
      rw [glue_cons _ _ (by simp), cut_mid (ha x (by simp)), cut_glue (by simp) (fun z hz => ha z (List.mem_cons_of_mem _ hz))]
theorem glue_snoc (c : UInt8) (x : List UInt8) : ∀ {ls : List (List UInt8)}, ls ≠ [] → glue c (ls ++ [x]) = glue c ls ++ c :: x
  | [], h => absurd rfl h
  | y :: r, _ => by
    cases r with
    | nil => rfl
    | cons z t =>
      have h1 : glue c (y :: (z :: t)) = y ++ c :: glue c (z :: t) := glue_cons c y (by simp)
      have h2 : glue c (y :: (z :: t ++ [x])) = y ++ c :: glue c (z :: t ++ [x]) := glue_cons c y (by simp)
      rw [List.cons_append, h2, glue_snoc c x (ls := z :: t) (by simp), h1]; simp
theorem glue_append (c : UInt8) : ∀ {xs ys : List (List UInt8)}, xs ≠ [] → ys ≠ [] → glue c (xs ++ ys) = glue c xs ++ c :: glue c ys
  | [], _, h, _ => absurd rfl h
  | x :: r, ys, _, h2 => by
    cases r with
    | nil => rw [List.cons_append, List.nil_append, glue_cons _ _ h2]; rfl
    | cons y t =>
      have h1 : glue c (x :: (y :: t ++ ys)) = x ++ c :: glue c (y :: t ++ ys) := glue_cons c x (by simp)
      have h3 : glue c (x :: (y :: t)) = x ++ c :: glue c (y :: t) := glue_cons c x (by simp)
      rw [List.cons_append, h1, glue_append c (xs := y :: t) (by simp) h2, h3]; simp
theorem glue_take_le (c : UInt8) (ls : List (List UInt8)) (k : Nat) : (glue c (ls.take k)).length ≤ (glue c ls).length := by
  by_cases h1 : ls.take k = []
  · rw [h1]; simp [glue]
  · by_cases h2 : ls.drop k = []
    · rw [List.take_of_length_le (by have := congrArg List.length h2; simp at this; omega)]; exact Nat.le_refl _
    · conv => rhs; rw [← List.take_append_drop k ls, glue_append c h1 h2]
      simp
theorem glue_at_le (c : UInt8) (ls : List (List UInt8)) (k : Nat) (h : k < ls.length) : (glue c (ls.take (k + 1))).length = (glue c (ls.take k)).length + (if k = 0 then 0 else 1) + ls[k].length := by
  rw [List.take_succ_eq_append_getElem h]
  by_cases h0 : k = 0
  · subst h0; simp [glue]
  · rw [glue_snoc c _ (by intro e; rw [List.take_eq_nil_iff] at e; rcases e with e | e; exact h0 e; subst e; simp at h), if_neg h0]
    simp; omega
theorem glue_lib (c : UInt8) (ls : List (List UInt8)) : Lib.join ls [c] = glue c ls := by
  unfold Lib.join
  induction ls with
  | nil => rfl
  | cons x r ih =>
    cases r with
    | nil => simp [glue]
    | cons y t => rw [glue_cons _ _ (by simp), ← ih]; simp [List.intercalate_cons_cons]
theorem glue_len (c : UInt8) : ∀ ls : List (List UInt8), (glue c ls).length ≤ (ls.map List.length).sum + ls.length
  | [] => by simp [glue]
  | x :: r => by
    cases r with
    | nil => simp [glue]
    | cons y t =>
      have := glue_len c (y :: t)
      rw [glue_cons _ _ (by simp)]
      simp only [List.length_append, List.length_cons, List.map_cons, List.sum_cons] at this ⊢
      omega
theorem sum_le {b : Nat} : ∀ {ls : List (List UInt8)}, (∀ x ∈ ls, x.length ≤ b) → (ls.map List.length).sum ≤ ls.length * b
  | [], _ => by simp
  | x :: r, h => by
    have h1 := h x (by simp)
    have h2 := sum_le (ls := r) (fun y hy => h y (List.mem_cons_of_mem _ hy))
    simp only [List.map_cons, List.sum_cons, List.length_cons, Nat.succ_mul]
    omega
theorem glue_bound {c : UInt8} {ls : List (List UInt8)} {b : Nat} (h : ∀ x ∈ ls, x.length ≤ b) : (glue c ls).length ≤ ls.length * (b + 1) := by
  have h1 := glue_len c ls
  have h2 := sum_le h
  rw [Nat.mul_add]; omega
/-- Where the first c stands: the library's word, and its two sides. -/
theorem index_none {c : UInt8} : ∀ {l : List UInt8}, c ∉ l → Lib.index l [c] = -1
  | [], _ => by simp [Lib.index]
  | b :: l, h => by
    have h1 : ¬ c = b := fun e => h (by simp [e])
    have h2 := index_none (l := l) (fun e => h (List.mem_cons_of_mem _ e))
    have hp : ([c] : List UInt8).isPrefixOf (b :: l) = false := by simp [List.isPrefixOf, h1]
    rw [Lib.index, hp, h2]; simp
theorem index_mid {c : UInt8} {a : List UInt8} (h : c ∉ a) (r : List UInt8) : Lib.index (a ++ c :: r) [c] = a.length := by
  induction a with
  | nil => rw [List.nil_append, Lib.index]; simp [List.isPrefixOf]
  | cons b a ih =>
    have h1 : ¬ c = b := fun e => h (by simp [e])
    have h2 := ih (fun e => h (List.mem_cons_of_mem _ e))
    have hp : ([c] : List UInt8).isPrefixOf (b :: (a ++ c :: r)) = false := by simp [List.isPrefixOf, h1]
    rw [List.cons_append, Lib.index, hp, h2]
    have : ¬ ((a.length : Int) = -1) := by omega
    simp [this]
theorem split_first {c : UInt8} : ∀ {l : List UInt8}, c ∈ l → ∃ a r, l = a ++ c :: r ∧ c ∉ a
  | [], h => by simp at h
  | b :: l, h => by
    by_cases e : b = c
    · exact ⟨[], l, by simp [e], by simp⟩
    · obtain ⟨a, r, h1, h2⟩ := split_first (l := l) (by
        rcases List.mem_cons.1 h with h | h
        · exact absurd h.symm e
        · exact h)
      exact ⟨b :: a, r, by simp [h1], by simp [h2, Ne.symm e]⟩
theorem splitK_cut (c : UInt8) : ∀ (k : Nat) (l : List UInt8), l.count c ≤ k → Lib.splitK [c] 0 k l = cut c l
  | 0, l, h => by
    have : c ∉ l := by rw [← List.count_eq_zero (a := c)]; omega
    rw [cut_none this]; rfl
  | k + 1, l, h => by
    by_cases hm : c ∈ l
    · obtain ⟨a, r, rfl, ha⟩ := split_first hm
      have hi := index_mid ha r
      have hk : r.count c ≤ k := by simp at h; omega
      rw [cut_mid ha, Lib.splitK, hi, if_neg (by simp)]
      have e := splitK_cut c k r hk
      simp [e]
    · rw [cut_none hm, Lib.splitK, index_none hm]; rfl
theorem splitB_cut (c : UInt8) (s : ByteArray) : (Lib.splitB ⟨#[c]⟩ 0 (Lib.countB s ⟨#[c]⟩) s).map (·.data.toList) = cut c s.data.toList := by
  rw [Lib.splitB_data]
  refine splitK_cut c _ _ ?_
  show _ ≤ Lib.count s.data.toList [c]
  rw [Lib.count_one]; exact Nat.le_refl _
/-! The document's valid texts. -/
def longB (l : List UInt8) : Bool := decide (65536 < l.length) || decide (4096 < l.count 10)
def lineC (c : UInt8) : Bool := c == 10 || (decide (32 ≤ c.toNat) && decide (c.toNat ≤ 126))
def formB (l : List UInt8) : Bool := l.all lineC && (l.isEmpty || l.getLast? == some 10)
def lineE (l : List UInt8) : Int := if longB l then 4 else if formB l then 0 else 2
def lineL (l : List UInt8) : List (List UInt8) := if lineE l = 0 then (cut 10 l).dropLast else []
theorem lineE_long {l : List UInt8} (h : longB l = true) : lineE l = 4 := by unfold lineE; rw [if_pos h]
theorem lineE_form {l : List UInt8} (h : longB l = false) (h2 : formB l = false) : lineE l = 2 := by unfold lineE; rw [h, h2]; rfl
theorem lineE_ok {l : List UInt8} (h : longB l = false) (h2 : formB l = true) : lineE l = 0 := by unfold lineE; rw [h, h2]; rfl
theorem lineL_no {l : List UInt8} (h : lineE l ≠ 0) : lineL l = [] := by unfold lineL; rw [if_neg h]
theorem lineL_ok {l : List UInt8} (h : lineE l = 0) : lineL l = (cut 10 l).dropLast := by unfold lineL; rw [if_pos h]
theorem lineE_ok_iff {l : List UInt8} : lineE l = 0 ↔ longB l = false ∧ formB l = true := by
  unfold lineE
  cases longB l <;> cases formB l <;> simp
/-- Lines, each followed by a line feed. -/
def ends (ls : List (List UInt8)) : List UInt8 := ls.flatMap (· ++ [10])
theorem ends_snoc (ls : List (List UInt8)) (x : List UInt8) : ends (ls ++ [x]) = ends ls ++ (x ++ [10]) := by simp [ends]
theorem cut_last {c : UInt8} : ∀ {l : List UInt8}, l.getLast? = some c → ∃ xs, cut c l = xs ++ [[]]
  | [], h => by simp at h
  | [b], h => by
    obtain rfl : b = c := by simpa using h
    exact ⟨[[]], by rw [cut_hit]; rfl⟩
  | b :: d :: l, h => by
    obtain ⟨xs, hx⟩ := cut_last (l := d :: l) (by simpa using h)
    by_cases e : b = c
    · subst e; exact ⟨[] :: xs, by rw [cut_hit, hx]; rfl⟩
    · obtain ⟨x, r, e1, e2⟩ := cut_off e (d :: l)
      rw [e2]
      rw [hx] at e1
      cases xs with
      | nil =>
        simp at e1
        obtain ⟨rfl, rfl⟩ := e1
        have hn := cut_len c (d :: l)
        rw [hx] at hn
        have : c ∉ d :: l := by rw [← List.count_eq_zero (a := c)]; simp at hn ⊢; omega
        exact absurd (List.mem_of_getLast? (by simpa using h)) this
      | cons y t =>
        simp at e1
        obtain ⟨rfl, rfl⟩ := e1
        exact ⟨(b :: y) :: t, rfl⟩
theorem glue_end (c : UInt8) : ∀ xs : List (List UInt8), xs ≠ [] → glue c (xs ++ [[]]) = xs.flatMap (· ++ [c])
  | [], h => absurd rfl h
  | x :: r, _ => by
    cases r with
    | nil => simp [glue]
    | cons y t => rw [List.cons_append, glue_cons _ _ (by simp), glue_end c (y :: t) (by simp)]; simp
theorem ends_lines {l : List UInt8} (h : formB l = true) : ends (cut 10 l).dropLast = l := by
  unfold formB at h
  rw [Bool.and_eq_true, Bool.or_eq_true] at h
  rcases h.2 with h2 | h2
  · have : l = [] := by simpa using h2
    subst this; rfl
  · obtain ⟨xs, hx⟩ := cut_last (c := 10) (l := l) (by simpa using h2)
    have hg := glue_cut 10 l
    rw [hx] at hg ⊢
    rw [List.dropLast_concat]
    by_cases hn : xs = []
    · subst hn
      have hl := cut_len 10 l
      rw [hx] at hl
      have : (10 : UInt8) ∉ l := by rw [← List.count_eq_zero (a := (10 : UInt8))]; simp at hl; omega
      exact absurd (List.mem_of_getLast? (by simpa using h2)) this
    · rw [← hg, glue_end 10 xs hn]; rfl
theorem lineC_iff (c : UInt8) : lineC c = true ↔ c.toNat = 10 ∨ (32 ≤ c.toNat ∧ c.toNat ≤ 126) := by
  unfold lineC
  rw [Bool.or_eq_true, beq_iff_eq, Bool.and_eq_true, decide_eq_true_iff, decide_eq_true_iff, ← UInt8.toNat_inj]
  rfl
theorem lineC_no {c : UInt8} (h : ¬ (c.toNat = 10 ∨ (32 ≤ c.toNat ∧ c.toNat ≤ 126))) : lineC c = false := by
  rw [← Bool.not_eq_true, lineC_iff]; exact h
theorem formB_bad {l : List UInt8} {c : UInt8} (h : c ∈ l) (hc : lineC c = false) : formB l = false := by
  have : l.all lineC = false := by rw [List.all_eq_false]; exact ⟨c, h, by simp [hc]⟩
  unfold formB; rw [this]; rfl
theorem formB_nil : formB [] = true := rfl
theorem formB_yes {l : List UInt8} (ha : ∀ c ∈ l, lineC c = true) (h : l.getLast? = some 10) : formB l = true := by
  have : l.all lineC = true := List.all_eq_true.2 ha
  unfold formB; rw [this, h]; simp
theorem formB_end {l : List UInt8} (hn : l ≠ []) (h : l.getLast? ≠ some 10) : formB l = false := by
  have h1 : l.isEmpty = false := by simpa using hn
  have h2 : (l.getLast? == some 10) = false := by simpa using h
  unfold formB; rw [h1, h2]; simp
theorem longB_no {l : List UInt8} (h : longB l = false) : l.length ≤ 65536 ∧ l.count 10 ≤ 4096 := by
  unfold longB at h
  simp at h
  exact h
theorem longB_size {l : List UInt8} (h : 65536 < l.length) : longB l = true := by unfold longB; simp [h]
theorem longB_count {l : List UInt8} (h : 4096 < l.count 10) : longB l = true := by unfold longB; simp [h]
theorem longB_not {l : List UInt8} (h : ¬ 65536 < l.length) (h2 : ¬ 4096 < l.count 10) : longB l = false := by unfold longB; simp [h, h2]
def wrongB (l : List UInt8) : Bool := !l.all lineC
theorem wrongB_bad {l : List UInt8} {c : UInt8} (hc : lineC c = false) : wrongB (l ++ [c]) = true := by simp [wrongB, hc]
theorem wrongB_ok {l : List UInt8} {c : UInt8} (hc : lineC c = true) : wrongB (l ++ [c]) = wrongB l := by simp [wrongB, hc]
theorem formB_wrong {l : List UInt8} (h : wrongB l = true) : formB l = false := by
  unfold wrongB at h
  have : l.all lineC = false := by simpa using h
  unfold formB; rw [this]; rfl
theorem all_of_wrongB {l : List UInt8} (h : wrongB l = false) : ∀ c ∈ l, lineC c = true := by
  unfold wrongB at h
  have : l.all lineC = true := by simpa using h
  exact fun c hc => List.all_eq_true.1 this c hc
theorem cut_snoc_hit (c : UInt8) : ∀ l : List UInt8, cut c (l ++ [c]) = cut c l ++ [[]]
  | [] => cut_hit c []
  | b :: l => by
    by_cases e : b = c
    · subst e; rw [List.cons_append, cut_hit, cut_hit, cut_snoc_hit b l]; rfl
    · obtain ⟨x, r, e1, e2⟩ := cut_off e l
      obtain ⟨y, t, e3, e4⟩ := cut_off e (l ++ [c])
      rw [cut_snoc_hit c l, e1] at e3
      simp at e3
      obtain ⟨rfl, rfl⟩ := e3
      rw [List.cons_append, e4, e2]; rfl
theorem cut_snoc_off {c b : UInt8} (hb : b ≠ c) : ∀ {l : List UInt8} {xs : List (List UInt8)} {x : List UInt8}, cut c l = xs ++ [x] → cut c (l ++ [b]) = xs ++ [x ++ [b]]
  | [], xs, x, h => by
    cases xs with
    | nil => simp [cut] at h; subst h; exact cut_none (by simp [Ne.symm hb])
    | cons y t => simp [cut] at h
  | d :: l, xs, x, h => by
    by_cases e : d = c
    · subst e
      rw [cut_hit] at h
      rw [List.cons_append, cut_hit]
      cases xs with
      | nil => simp at h; exact absurd h.2 (cut_ne _ _)
      | cons y t =>
        simp at h
        obtain ⟨rfl, h⟩ := h
        rw [cut_snoc_off hb h]; rfl
    · obtain ⟨z, r, e1, e2⟩ := cut_off e l
      obtain ⟨z2, r2, e3, e4⟩ := cut_off e (l ++ [b])
      rw [e2] at h
      rw [List.cons_append, e4]
      cases xs with
      | nil =>
        simp at h
        obtain ⟨rfl, rfl⟩ := h
        rw [cut_snoc_off hb (xs := []) (by rw [e1]; rfl)] at e3
        simp at e3
        obtain ⟨rfl, rfl⟩ := e3
        simp
      | cons y t =>
        simp at h
        obtain ⟨rfl, rfl⟩ := h
        rw [cut_snoc_off hb (xs := z :: t) (x := x) (by rw [e1]; rfl)] at e3
        simp at e3
        obtain ⟨rfl, rfl⟩ := e3
        simp
theorem cut_part_le (c : UInt8) : ∀ l : List UInt8, ∀ x ∈ cut c l, x.length ≤ l.length
  | [], x, h => by simp [cut] at h; subst h; simp
  | b :: l, x, h => by
    by_cases e : b = c
    · subst e; rw [cut_hit] at h
      rcases List.mem_cons.1 h with h | h
      · subst h; simp
      · exact Nat.le_trans (cut_part_le b l x h) (by simp)
    · obtain ⟨y, r, e1, e2⟩ := cut_off e l
      have ih := cut_part_le c l
      rw [e1] at ih
      rw [e2] at h
      rcases List.mem_cons.1 h with h | h
      · subst h; have := ih y (by simp); simp; omega
      · exact Nat.le_trans (ih x (List.mem_cons_of_mem _ h)) (by simp)
end Go.Proofs.YtokbifndhkijiaaDoor.Words
