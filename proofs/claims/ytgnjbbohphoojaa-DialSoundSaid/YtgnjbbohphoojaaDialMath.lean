/- Plain mathematics of dialling. Imports nothing of the dump. -/
import Derived.Test.YtgnjbbohphoojaaHeapAll
import Derived.Test.YtgnjbbohphoojaaSpreadKit
import Derived.Test.YtgnjbbohphoojaaBansAll
namespace Go.Proofs.Ytgnjbbohphoojaa.Di
open Dec Words V4 V6 Ad Ci En Gr Et Bo Sp Hp
set_option linter.unusedVariables false
/-- Valid and due. -/
def rdY (y : Ey) (t : Int) : Bool := rightY y && dueY y t
/-- Has a peer the end? -/
def hereP (l : List Pe.Pr) (e : Endp) : Bool := l.any fun p => sameE p.e e
/-- May an end be dialled, by all others? -/
def opR (b : List Ey) (l : List Pe.Pr) (s : List Ba.Ban) (e : Endp) (t : Int) : Bool := (Ba.untilL s e.a t == 0) && (!hereP l e && freeR l b e.a)
def mayR (b : List Ey) (l : List Pe.Pr) (s : List Ba.Ban) (y : Ey) (t : Int) : Bool := rdY y t && opR b l s y.e t
def itY (y : Ey) : It := ⟨y.nx, y.e⟩
/-- Those that are due, as items. -/
def dueI (b : List Ey) (t : Int) : List It := (b.filter fun y => rdY y t).map itY
def pickR (b : List Ey) (l : List Pe.Pr) (s : List Ba.Ban) (t : Int) : Option It := (sortX (dueI b t)).find? fun x => opR b l s x.e t
theorem due_len (b : List Ey) (t : Int) : (dueI b t).length ≤ b.length := by unfold dueI; rw [List.length_map]; exact List.length_filter_le _ _
theorem due_mem {b : List Ey} {t : Int} {x : It} : x ∈ dueI b t ↔ ∃ y ∈ b, rdY y t = true ∧ itY y = x := by
  unfold dueI
  rw [List.mem_map]
  constructor
  · rintro ⟨y, hy, rfl⟩
    obtain ⟨h1, h2⟩ := List.mem_filter.1 hy
    exact ⟨y, h1, h2, rfl⟩
  · rintro ⟨y, h1, h2, rfl⟩
    exact ⟨y, List.mem_filter.2 ⟨h1, h2⟩, rfl⟩
theorem itY_ok {y : Ey} (h : y.ok) : (itY y).ok := ⟨h.hnx, h.he⟩
theorem due_ok {b : List Ey} {t : Int} (h : ∀ y ∈ b, y.ok) : ∀ x ∈ dueI b t, x.ok := fun x hx => by
  obtain ⟨y, h1, _, rfl⟩ := due_mem.1 hx
  exact itY_ok (h y h1)
theorem due_snoc {b : List Ey} {t : Int} {k : Nat} (h : k < b.length) : dueI (b.take (k + 1)) t = if rdY b[k] t = true then dueI (b.take k) t ++ [itY b[k]] else dueI (b.take k) t := by
  unfold dueI
  rw [List.take_succ_eq_append_getElem h, List.filter_append, List.map_append]
  by_cases h2 : rdY b[k] t = true
  · rw [if_pos h2]; simp [h2]
  · rw [if_neg h2]; simp [h2]
theorem sorted_mem {b : List Ey} {t : Int} {x : It} : x ∈ sortX (dueI b t) ↔ x ∈ dueI b t := (sortX_perm _).mem_iff
theorem sorted_ok {b : List Ey} {t : Int} (h : ∀ y ∈ b, y.ok) : ∀ x ∈ sortX (dueI b t), x.ok := fun x hx => due_ok h x (sorted_mem.1 hx)
theorem sorted_len (b : List Ey) (t : Int) : (sortX (dueI b t)).length ≤ b.length := by rw [(sortX_perm _).length_eq]; exact due_len b t
theorem key_le {x y : It} (h : ltH y x = false) : x.k ≤ y.k := by
  have h := (le_iff x y).1 h
  unfold cmpH at h
  by_cases h0 : cmpI x.k y.k = 0
  · exact Int.le_of_eq ((cmpI_zero _ _).1 h0)
  · rw [if_neg h0] at h; exact (cmpI_le _ _).1 h
section
variable {b : List Ey} {l : List Pe.Pr} {s : List Ba.Ban} {t : Int} {x : It}
theorem pick_open (h : pickR b l s t = some x) : opR b l s x.e t = true := by
  unfold pickR at h
  have k := List.find?_some h
  exact k
theorem pick_of (h : pickR b l s t = some x) : ∃ y ∈ b, rdY y t = true ∧ itY y = x := by
  unfold pickR at h
  have h1 : x ∈ sortX (dueI b t) := List.mem_of_find?_eq_some h
  have h2 : x ∈ dueI b t := (sortX_perm _).mem_iff.1 h1
  exact due_mem.1 h2
theorem pick_least (h : pickR b l s t = some x) {y : Ey} (hy : y ∈ b) (hm : mayR b l s y t = true) : x.k ≤ y.nx := by
  unfold mayR at hm
  rw [Bool.and_eq_true] at hm
  have hin : itY y ∈ sortX (dueI b t) := sorted_mem.2 (due_mem.2 ⟨y, hy, hm.1, rfl⟩)
  have hs := sortX_srt (dueI b t)
  obtain ⟨_, u, z, e, hn⟩ := List.find?_eq_some_iff_append.1 h
  rw [e] at hin hs
  rcases List.mem_append.1 hin with h1 | h1
  · have := hn _ h1
    rw [show opR b l s (itY y).e t = true from hm.2] at this
    cases this
  · rcases List.mem_cons.1 h1 with h2 | h2
    · rw [← h2]; exact Int.le_refl _
    · unfold Srt at hs
      rw [List.pairwise_append] at hs
      exact key_le ((List.pairwise_cons.1 hs.2.1).1 _ h2)
theorem pick_none (h : pickR b l s t = none) {y : Ey} (hy : y ∈ b) : mayR b l s y t = false := by
  rw [← Bool.not_eq_true]
  intro hm
  unfold mayR at hm
  rw [Bool.and_eq_true] at hm
  have := List.find?_eq_none.1 h (itY y) (sorted_mem.2 (due_mem.2 ⟨y, hy, hm.1, rfl⟩))
  exact this hm.2
theorem pick_may (h : pickR b l s t = some x) : ∃ y ∈ b, mayR b l s y t = true ∧ y.e = x.e := by
  obtain ⟨y, h1, h2, h3⟩ := pick_of h
  refine ⟨y, h1, ?_, by rw [← h3]; rfl⟩
  unfold mayR
  rw [h2, show opR b l s y.e t = true from by have := pick_open h; rw [← h3] at this; exact this]
  rfl
theorem pick_some (b : List Ey) (l : List Pe.Pr) (s : List Ba.Ban) (t : Int) : (b.any fun y => mayR b l s y t) = (pickR b l s t).isSome := by
  cases h : pickR b l s t with
  | none => rw [List.any_eq_false.2 fun y hy => by rw [pick_none h hy]; simp]; rfl
  | some x =>
    obtain ⟨y, h1, h2, _⟩ := pick_may h
    rw [List.any_eq_true.2 ⟨y, h1, h2⟩]; rfl
/-! What holds of an end that may be dialled. -/
theorem open_until {e : Endp} (h : opR b l s e t = true) {x : Ba.Ban} (hx : x ∈ s) (h0 : 0 < x.t) : Ba.hitsB x e.a t = false := by
  unfold opR at h
  rw [Bool.and_eq_true] at h
  have h1 : Ba.untilL s e.a t = 0 := by simpa using h.1
  rw [← Bool.not_eq_true]
  intro hh
  have := Ba.until_ge hx hh
  omega
theorem open_here {e : Endp} (h : opR b l s e t = true) {p : Pe.Pr} (hp : p ∈ l) : sameE p.e e = false := by
  unfold opR at h
  rw [Bool.and_eq_true, Bool.and_eq_true] at h
  have h1 : hereP l e = false := by simpa using h.2.1
  unfold hereP at h1
  rw [← Bool.not_eq_true]
  exact List.any_eq_false.1 h1 p hp
theorem open_free {e : Endp} (h : opR b l s e t = true) : freeR l b e.a = true := by
  unfold opR at h
  rw [Bool.and_eq_true, Bool.and_eq_true] at h
  exact h.2.2
theorem free_right {a : Adr} (h : freeR l b a = true) : rightA a = true := by unfold freeR at h; rw [Bool.and_eq_true] at h; exact h.1
theorem free_all {a : Adr} (h : freeR l b a = true) {g : Net} (hg : g ∈ takL l b) : sameN g (groupN a) = false := by
  unfold freeR at h
  rw [Bool.and_eq_true, List.all_eq_true] at h
  have := h.2 g hg
  simpa using this
theorem open_fly {e : Endp} (h : opR b l s e t = true) {y : Ey} (hy : y ∈ b) (hs : y.st = 2) : sameG y.e.a e.a = false := by
  have hf := open_free h
  have hr := free_right hf
  have hg := free_all hf (g := groupN y.e.a) (by
    unfold takL flyL
    exact List.mem_append.2 (Or.inr (List.mem_map.2 ⟨y, List.mem_filter.2 ⟨hy, by rw [hs]; rfl⟩, rfl⟩)))
  rw [group_same hr]
  exact hg
theorem open_out {e : Endp} (h : opR b l s e t = true) {p : Pe.Pr} (hp : p ∈ l) (hi : p.i = false) : sameG p.e.a e.a = false := by
  have hf := open_free h
  have hr := free_right hf
  have hg := free_all hf (g := groupN p.e.a) (by
    unfold takL outL
    exact List.mem_append.2 (Or.inl (List.mem_map.2 ⟨p, List.mem_filter.2 ⟨hp, by rw [hi]; rfl⟩, rfl⟩)))
  rw [group_same hr]
  exact hg
end
/-! What the statement gathers of the book. -/
/-- The entries of an end that are due. -/
def ownY (b : List Ey) (e : Endp) (t : Int) : List Ey := b.filter fun y => sameE y.e e && rdY y t
theorem own_snoc {b : List Ey} {e : Endp} {t : Int} {k : Nat} (h : k < b.length) : ownY (b.take (k + 1)) e t = if (sameE b[k].e e && rdY b[k] t) = true then ownY (b.take k) e t ++ [b[k]] else ownY (b.take k) e t := by
  unfold ownY
  rw [List.take_succ_eq_append_getElem h, List.filter_append]
  by_cases h2 : (sameE b[k].e e && rdY b[k] t) = true
  · rw [if_pos h2, show List.filter (fun y => sameE y.e e && rdY y t) [b[k]] = [b[k]] from by simp only [List.filter, h2]]
  · rw [if_neg h2, show List.filter (fun y => sameE y.e e && rdY y t) [b[k]] = [] from by simp only [List.filter, Bool.not_eq_true _ ▸ h2], List.append_nil]
end Go.Proofs.Ytgnjbbohphoojaa.Di
