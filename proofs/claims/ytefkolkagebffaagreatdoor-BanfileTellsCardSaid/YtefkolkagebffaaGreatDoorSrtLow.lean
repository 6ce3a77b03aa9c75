/- Package sort's pdqsort, at a list in memory of which only this is known: what 'less' tells of two places, and that 'swap' changes two places; 'less' may make memory. What the plain functions of the sort do at each step of the library's loops. Of no program. -/
import Derived.Test.YtefkolkagebffaaGreatDoorBlk
import Derived.Sort.AssemblyPlain
import Derived.Test.YtefkolkagebffaaGreatDoorLibB
import Derived.Laws.Bits64
import Derived.Laws.Bits64b
namespace Go.Proofs.YtefkolkagebffaaGreatDoor.Srt
set_option maxRecDepth 100000
open Go.ChangeShapes Go.WideShapes Go.ChangeAt Go.RowKit
set_option linter.unusedVariables false
section
variable {α : Type} [Inhabited α] {lt : α → α → Bool}
theorem ins_more {a j : Nat} {d : Array α} (h : a < j) (hl : lt d[j]! d[j - 1]! = true) : Sort.insInner lt a j d = Sort.insInner lt a (j - 1) (Sort.swp d j (j - 1)) := by
  cases j with
  | zero => omega
  | succ k =>
    rw [Nat.add_sub_cancel] at hl
    rw [Sort.insInner, if_pos (by simp [h, hl]), Nat.add_sub_cancel]
theorem ins_done {a j : Nat} {d : Array α} (h : ¬ a < j ∨ lt d[j]! d[j - 1]! = false) : Sort.insInner lt a j d = d := by
  cases j with
  | zero => rw [Sort.insInner]
  | succ k =>
    rw [Nat.add_sub_cancel] at h
    rw [Sort.insInner, if_neg]
    rcases h with h | h
    · simp; omega
    · simp [h]
theorem insO_more {a b i : Nat} {d : Array α} (h : i < b) : Sort.insOuter lt a b i d = Sort.insOuter lt a b (i + 1) (Sort.insInner lt a i d) := by rw [Sort.insOuter, if_pos h]
theorem insO_done {a b i : Nat} {d : Array α} (h : ¬ i < b) : Sort.insOuter lt a b i d = d := by rw [Sort.insOuter, if_neg h]
/-! siftDown: a node without children; its greater child; a node that is no less than that child. -/
theorem sift_none {hi first root : Nat} {d : Array α} (h : hi ≤ 2 * root + 1) : Sort.siftDown lt hi first root d = d := by rw [Sort.siftDown, dif_pos h]
theorem sift_stop {hi first root c : Nat} {d : Array α} (h : ¬ hi ≤ 2 * root + 1) (hc : c = if (2 * root + 2 < hi ∧ lt d[first + (2 * root + 1)]! d[first + (2 * root + 1) + 1]! = true) then 2 * root + 2 else 2 * root + 1)
    (hn : lt d[first + root]! d[first + c]! = false) : Sort.siftDown lt hi first root d = d := by
  rw [Sort.siftDown, dif_neg h]
  by_cases hr : 2 * root + 2 < hi ∧ lt d[first + (2 * root + 1)]! d[first + (2 * root + 1) + 1]! = true
  · rw [if_pos hr] at hc
    subst hc
    rw [if_pos (by simp [hr.1, hr.2]), if_pos (by simp [hn])]
  · rw [if_neg hr] at hc
    subst hc
    rw [if_neg (by simpa using hr), if_pos (by simp [hn])]
theorem sift_more {hi first root c : Nat} {d : Array α} (h : ¬ hi ≤ 2 * root + 1) (hc : c = if (2 * root + 2 < hi ∧ lt d[first + (2 * root + 1)]! d[first + (2 * root + 1) + 1]! = true) then 2 * root + 2 else 2 * root + 1)
    (hn : lt d[first + root]! d[first + c]! = true) : Sort.siftDown lt hi first root d = Sort.siftDown lt hi first c (Sort.swp d (first + root) (first + c)) := by
  rw [Sort.siftDown, dif_neg h]
  by_cases hr : 2 * root + 2 < hi ∧ lt d[first + (2 * root + 1)]! d[first + (2 * root + 1) + 1]! = true
  · rw [if_pos hr] at hc
    subst hc
    rw [if_pos (by simp [hr.1, hr.2]), if_neg (by simp [hn]), dif_pos hr.1]
  · rw [if_neg hr] at hc
    subst hc
    rw [if_neg (by simpa using hr), if_neg (by simp [hn])]
/-! The scans. -/
theorem up_more {p : α → Bool} {d : Array α} {i j : Nat} (h : i ≤ j) (hp : p d[i]! = true) : Sort.scanUp p d j i = Sort.scanUp p d j (i + 1) := by rw [Sort.scanUp, if_pos (by simp [h, hp])]
theorem up_done {p : α → Bool} {d : Array α} {i j : Nat} (h : ¬ i ≤ j ∨ p d[i]! = false) : Sort.scanUp p d j i = i := by
  rw [Sort.scanUp, if_neg]
  rcases h with h | h
  · simp [h]
  · simp [h]
theorem down_more {p : α → Bool} {d : Array α} {i j : Nat} (h : i ≤ j) (h0 : 0 < j) (hp : p d[j]! = true) : Sort.scanDown p d i j = Sort.scanDown p d i (j - 1) := by
  cases j with
  | zero => omega
  | succ k => rw [Sort.scanDown, if_pos (by simp [h, hp]), Nat.add_sub_cancel]
theorem down_done {p : α → Bool} {d : Array α} {i j : Nat} (h : ¬ i ≤ j ∨ p d[j]! = false) : Sort.scanDown p d i j = j := by
  cases j with
  | zero => rfl
  | succ k =>
    rw [Sort.scanDown, if_neg]
    rcases h with h | h
    · simp [h]
    · simp [h]
/-- Two scans by tests that exclude each other don't end at one place. -/
theorem scans_apart {p q : α → Bool} (hpq : ∀ x, q x = !p x) {d : Array α} {i j i2 j2 : Nat} (h0 : 0 < i) (h1 : i2 = Sort.scanUp p d j i) (h2 : j2 = Sort.scanDown q d i2 j) (h : i2 ≤ j2) : i2 < j2 := by
  subst h1
  have u := Sort.scanUp_spec p d j _ i rfl
  have v := Sort.scanDown_spec q d (Sort.scanUp p d j i) j
  rw [← h2] at v
  rcases Nat.lt_or_ge (Sort.scanUp p d j i) j2 with hl | hg
  · exact hl
  · have e : j2 = Sort.scanUp p d j i := Nat.le_antisymm hg h
    have f1 := u.2.2.2 (by omega)
    have f2 := v.2.2.2 h (by omega)
    rw [e, hpq, f1] at f2
    simp at f2
theorem part_end {a i j i2 j2 : Nat} {d : Array α} (h1 : i2 = Sort.scanUp (fun x => lt x d[a]!) d j i) (h2 : j2 = Sort.scanDown (fun x => !lt x d[a]!) d i2 j) (h : ¬ i2 ≤ j2) : Sort.partLoop lt a i j d = (j2, d) := by
  subst h1 h2
  rw [Sort.partLoop_eq, if_pos (by omega)]
theorem part_next {a i j i2 j2 : Nat} {d : Array α} (h1 : i2 = Sort.scanUp (fun x => lt x d[a]!) d j i) (h2 : j2 = Sort.scanDown (fun x => !lt x d[a]!) d i2 j) (h : i2 ≤ j2) : Sort.partLoop lt a i j d = Sort.partLoop lt a (i2 + 1) (j2 - 1) (Sort.swp d i2 j2) := by
  subst h1 h2
  rw [Sort.partLoop_eq, if_neg (by omega)]
theorem part_first_end {a b pivot i2 j2 : Nat} {d d1 : Array α} (hd : d1 = Sort.swp d a pivot) (h1 : i2 = Sort.scanUp (fun x => lt x d1[a]!) d1 (b - 1) (a + 1)) (h2 : j2 = Sort.scanDown (fun x => !lt x d1[a]!) d1 i2 (b - 1)) (h : ¬ i2 ≤ j2) :
    Sort.partition lt d a b pivot = (j2, true, Sort.swp d1 j2 a) := by
  subst hd h1 h2
  unfold Sort.partition
  simp only []
  rw [if_pos (by omega)]
theorem part_first_next {a b pivot i2 j2 : Nat} {d d1 : Array α} (hd : d1 = Sort.swp d a pivot) (h1 : i2 = Sort.scanUp (fun x => lt x d1[a]!) d1 (b - 1) (a + 1)) (h2 : j2 = Sort.scanDown (fun x => !lt x d1[a]!) d1 i2 (b - 1)) (h : i2 ≤ j2) :
    Sort.partition lt d a b pivot = ((Sort.partLoop lt a (i2 + 1) (j2 - 1) (Sort.swp d1 i2 j2)).1, false, Sort.swp (Sort.partLoop lt a (i2 + 1) (j2 - 1) (Sort.swp d1 i2 j2)).2 (Sort.partLoop lt a (i2 + 1) (j2 - 1) (Sort.swp d1 i2 j2)).1 a) := by
  subst hd h1 h2
  unfold Sort.partition
  simp only []
  rw [if_neg (by omega)]
theorem eq_end {a i j i2 j2 : Nat} {d : Array α} (h1 : i2 = Sort.scanUp (fun x => !lt d[a]! x) d j i) (h2 : j2 = Sort.scanDown (fun x => lt d[a]! x) d i2 j) (h : ¬ i2 ≤ j2) : Sort.partEqLoop lt a i j d = (i2, d) := by
  subst h1 h2
  rw [Sort.partEqLoop_eq, if_pos (by omega)]
theorem eq_next {a i j i2 j2 : Nat} {d : Array α} (h1 : i2 = Sort.scanUp (fun x => !lt d[a]! x) d j i) (h2 : j2 = Sort.scanDown (fun x => lt d[a]! x) d i2 j) (h : i2 ≤ j2) : Sort.partEqLoop lt a i j d = Sort.partEqLoop lt a (i2 + 1) (j2 - 1) (Sort.swp d i2 j2) := by
  subst h1 h2
  rw [Sort.partEqLoop_eq, if_neg (by omega)]
/-! partialInsertionSort. -/
theorem sorted_more {d : Array α} {b i : Nat} (h : i < b) (hl : lt d[i]! d[i - 1]! = false) : Sort.scanSorted lt d b i = Sort.scanSorted lt d b (i + 1) := by rw [Sort.scanSorted, if_pos (by simp [h, hl])]
theorem sorted_done {d : Array α} {b i : Nat} (h : ¬ i < b ∨ lt d[i]! d[i - 1]! = true) : Sort.scanSorted lt d b i = i := by
  rw [Sort.scanSorted, if_neg]
  rcases h with h | h
  · simp [h]
  · simp [h]
theorem shiftD_more {j : Nat} {d : Array α} (h : 0 < j) (hl : lt d[j]! d[j - 1]! = true) : Sort.shiftDown lt j d = Sort.shiftDown lt (j - 1) (Sort.swp d j (j - 1)) := by
  cases j with
  | zero => omega
  | succ k =>
    rw [Nat.add_sub_cancel] at hl
    rw [Sort.shiftDown, if_neg (by simp [hl]), Nat.add_sub_cancel]
theorem shiftD_done {j : Nat} {d : Array α} (h : j = 0 ∨ lt d[j]! d[j - 1]! = false) : Sort.shiftDown lt j d = d := by
  cases j with
  | zero => rw [Sort.shiftDown]
  | succ k =>
    rw [Nat.add_sub_cancel] at h
    rcases h with h | h
    · omega
    · rw [Sort.shiftDown, if_pos (by simp [h])]
theorem shiftU_more {b j : Nat} {d : Array α} (h : j < b) (hl : lt d[j]! d[j - 1]! = true) : Sort.shiftUp lt b j d = Sort.shiftUp lt b (j + 1) (Sort.swp d j (j - 1)) := by
  rw [Sort.shiftUp, if_pos h, if_neg (by simp [hl])]
theorem shiftU_done {b j : Nat} {d : Array α} (h : ¬ j < b ∨ lt d[j]! d[j - 1]! = false) : Sort.shiftUp lt b j d = d := by
  rw [Sort.shiftUp]
  by_cases hj : j < b
  · rw [if_pos hj, if_pos]
    rcases h with h | h
    · omega
    · simp [h]
  · rw [if_neg hj]
theorem partial_done {a b s i i2 : Nat} {d : Array α} (h : i2 = Sort.scanSorted lt d b i) (hb : i2 = b) : Sort.partialIns lt a b (s + 1) i d = (d, true) := by
  subst h
  rw [Sort.partialIns]
  simp only []
  rw [if_pos hb]
theorem partial_short {a b s i i2 : Nat} {d : Array α} (h : i2 = Sort.scanSorted lt d b i) (hb : ¬ i2 = b) (hs : b - a < 50) : Sort.partialIns lt a b (s + 1) i d = (d, false) := by
  subst h
  rw [Sort.partialIns]
  simp only []
  rw [if_neg hb, if_pos hs]
theorem partial_next {a b s i i2 : Nat} {d d2 d3 : Array α} (h : i2 = Sort.scanSorted lt d b i) (hb : ¬ i2 = b) (hs : ¬ b - a < 50)
    (h2 : d2 = if i2 - a ≥ 2 then Sort.shiftDown lt (i2 - 1) (Sort.swp d i2 (i2 - 1)) else Sort.swp d i2 (i2 - 1)) (h3 : d3 = if b - i2 ≥ 2 then Sort.shiftUp lt b (i2 + 1) d2 else d2) :
    Sort.partialIns lt a b (s + 1) i d = Sort.partialIns lt a b s i2 d3 := by
  subst h h2 h3
  rw [Sort.partialIns]
  simp only []
  rw [if_neg hb, if_neg hs]
end
section
variable {α : Type} [Inhabited α]
/-- What is known of the list that is sorted: places that hold 'less' and 'swap', a predicate A that says what the list holds. -/
structure Srt (P : Program) (lf sf : Nat) (lb sb : Array Value) (g b0 n : Nat) (lt : α → α → Bool) (A : Array α → World → Prop) : Prop where
  enter : ∀ args w, (callFunc lf args).run P w = .ok (.enter lf args) w
  gb : g < b0
  small : n ≤ 1000000
  low : ∀ {d : Array α} {W : World}, A d W → b0 ≤ W.heap.size ∧ d.size = n
  keep : ∀ {d : Array α} {W W' : World}, A d W → Below b0 W W' → A d W'
  less : ∀ {d : Array α} {W : World} {i j : Nat}, A d W → i < n → j < n → Calls P lf (#[.int .i64 i, .int .i64 j] ++ lb) W fun e w' => e = .returned (.bool (lt d[i]! d[j]!)) ∧ Below W.heap.size W w'
  swap : ∀ {d : Array α} {W : World} {i j : Nat}, A d W → i < n → j < n → ∃ W1, (callFunc sf (#[.int .i64 i, .int .i64 j] ++ sb)).run P W = .ok (.value (.tuple #[])) W1 ∧ A (Sort.swp d i j) W1 ∧ Bt g W W1
/-- How it stands inside a call that keeps 'less' and 'swap' in a block B of its own. -/
structure St (P : Program) (lf sf : Nat) (lb sb : Array Value) (g b0 n : Nat) (lt : α → α → Bool) (A : Array α → World → Prop) (W0 : World) (B : Nat) (T : TypeId) (d : Array α) (W : World) : Prop where
  srt : Srt P lf sf lb sb g b0 n lt A
  a : A d W
  bB : b0 ≤ B
  box : Blk W B T [.func (.func lf) #[] lb, .func (.func sf) #[] sb]
  bt : Bt g W0 W
variable {P : Program} {lf sf : Nat} {lb sb : Array Value} {g b0 n : Nat} {lt : α → α → Bool} {A : Array α → World → Prop} {W0 W W' : World} {B : Nat} {T : TypeId} {d d' : Array α}
theorem Srt.start (S : Srt P lf sf lb sb g b0 n lt A) (h : A d W) : St P lf sf lb sb g b0 n lt A W W.heap.size T d (W.alloc (.cells #[.func (.func lf) #[] lb, .func (.func sf) #[] sb] T)) :=
  ⟨S, S.keep h ((Below.refl _ _).alloc (S.low h).1 _), (S.low h).1, Blk.new _ _ _, (Bt.refl _ _).alloc _⟩
theorem St.c0 (h : St P lf sf lb sb g b0 n lt A W0 B T d W) : W.cell? ⟨B, 0, none⟩ = some (.func (.func lf) #[] lb) := h.box.cell rfl
theorem St.c1 (h : St P lf sf lb sb g b0 n lt A W0 B T d W) : W.cell? ⟨B, 1, none⟩ = some (.func (.func sf) #[] sb) := h.box.cell rfl
theorem St.size (h : St P lf sf lb sb g b0 n lt A W0 B T d W) : d.size = n := (h.srt.low h.a).2
theorem St.step (h : St P lf sf lb sb g b0 n lt A W0 B T d W) (ha : A d' W') (hb : Bt g W W') : St P lf sf lb sb g b0 n lt A W0 B T d' W' :=
  ⟨h.srt, ha, h.bB, h.box.but hb (by have := h.srt.gb; have := h.bB; omega), h.bt.trans hb⟩
theorem St.on (h : St P lf sf lb sb g b0 n lt A W0 B T d W) (hb : Below W.heap.size W W') : St P lf sf lb sb g b0 n lt A W0 B T d W' :=
  h.step (h.srt.keep h.a (hb.mono (h.srt.low h.a).1)) (Bt.of hb)
theorem St.other (h : St P lf sf lb sb g b0 n lt A W0 B T d W) {s : Nat} (hb : Bt s W W') (hs : b0 ≤ s) (hB : s ≠ B) (hl : W0.heap.size ≤ s) : St P lf sf lb sb g b0 n lt A W0 B T d W' :=
  ⟨h.srt, h.srt.keep h.a (hb.low hs (h.srt.low h.a).1), h.bB, h.box.but hb (Ne.symm hB), ⟨hb.os.trans h.bt.os, hb.tape.trans h.bt.tape, hb.output.trans h.bt.output, Nat.le_trans h.bt.size hb.size, fun k hk hkl => (hb.block k (by omega) (Nat.lt_of_lt_of_le hkl h.bt.size)).trans (h.bt.block k hk hkl)⟩⟩
theorem St.less (h : St P lf sf lb sb g b0 n lt A W0 B T d W) {i j : Nat} (hi : i < n) (hj : j < n) : Calls P lf (#[.int .i64 i, .int .i64 j] ++ lb) W fun e w' => e = .returned (.bool (lt d[i]! d[j]!)) ∧ St P lf sf lb sb g b0 n lt A W0 B T d w' ∧ Below W.heap.size W w' :=
  (h.srt.less h.a hi hj).mono fun _ _ x => ⟨x.1, h.on x.2, x.2⟩
theorem St.swap (h : St P lf sf lb sb g b0 n lt A W0 B T d W) {i j : Nat} (hi : i < n) (hj : j < n) : ∃ W1, (callFunc sf (#[.int .i64 i, .int .i64 j] ++ sb)).run P W = .ok (.value (.tuple #[])) W1 ∧ St P lf sf lb sb g b0 n lt A W0 B T (Sort.swp d i j) W1 ∧ Bt g W W1 := by
  obtain ⟨W1, h1, h2, h3⟩ := h.srt.swap h.a hi hj
  exact ⟨W1, h1, h.step h2 h3, h3⟩
end
end Go.Proofs.YtefkolkagebffaaGreatDoor.Srt
/- Package sort's insertionSort_func, at a list of which 'less' and 'swap' are known. -/
namespace Go.Proofs.YtefkolkagebffaaGreatDoor.Srt
set_option maxRecDepth 100000
open Go.ChangeShapes Go.WideShapes Go.ChangeAt Go.RowKit
set_option linter.unusedVariables false
section
variable {α : Type} [Inhabited α] {lf sf : Nat} {lb sb : Array Value} {g b0 n : Nat} {lt : α → α → Bool} {A : Array α → World → Prop}
set_option maxHeartbeats 4000000 in
theorem insertion_any (S : Srt Tryz.prog lf sf lb sb g b0 n lt A) {d : Array α} {w : World} {a b : Nat} (h : A d w) (hab : a ≤ b) (hb : b ≤ n) :
    Calls Tryz.prog 104 #[.agg #[.func (.func lf) #[] lb, .func (.func sf) #[] sb], .int .i64 a, .int .i64 b] w fun e w' => e = .returned (.tuple #[]) ∧ A (Sort.insertionSort lt d a b) w' ∧ Bt g w w' := by
  have S0 := Lib.hid (S.start (T := 103) h)
  have hn := S.small
  have eg := S.enter
  obtain ⟨R, hR⟩ : ∃ R, R = Sort.insertionSort lt d a b := ⟨_, rfl⟩
  rw [← hR]
  have HR := Lib.hid hR
  clear S h hR
  go_enter Tryz.func104, Tryz.ntmps104
  go_wp2_with fail
  go_loopw [6] (fun vi wr => ∃ (i : Nat) (dk : Array α), vi = .int .i64 i ∧ a < i ∧ i ≤ b + 1 ∧ Hid (St Tryz.prog lf sf lb sb g b0 n lt A w w.heap.size 103 dk wr) ∧ Hid (Sort.insOuter lt a b i dk = R)) (fun vi _ => b + 1 - (intOf vi).toNat)
  case atStart => exact ⟨a + 1, d, by go_num, by omega, by omega, S0, Lib.hid HR.out.symm⟩
  case round =>
    obtain ⟨i, dk, rfl, hai, hib, HS, HO⟩ := hrel
    clear S0 HR
    by_cases hlt : i < b
    · have hkl : (i : Int) < (b : Int) := by omega
      have HO2 : Hid (Sort.insOuter lt a b (i + 1) (Sort.insInner lt a i dk) = R) := Lib.hid (by rw [← HO.out]; exact (insO_more hlt).symm)
      clear HO
      go_wp2_with fail
      go_loopw [7] (fun vj wr => ∃ (j : Nat) (dj : Array α), vj = .int .i64 j ∧ a ≤ j ∧ j ≤ i ∧ Hid (St Tryz.prog lf sf lb sb g b0 n lt A w w.heap.size 103 dj wr) ∧ Hid (Sort.insInner lt a j dj = Sort.insInner lt a i dk)) (fun vj _ => (intOf vj).toNat)
      case atStart => exact ⟨i, dk, rfl, by omega, Nat.le_refl _, HS, Lib.hid rfl⟩
      case round =>
        clear HS
        obtain ⟨j, dj, rfl, haj, hji, HS, HI⟩ := hrel
        have c0 := HS.out.c0
        by_cases hja : a < j
        · have hjz : (a : Int) < (j : Int) := by omega
          have hl := HS.out.less (i := j) (j := j - 1) (by omega) (by omega)
          rw [show ((j - 1 : Nat) : Int) = (j : Int) - 1 by omega] at hl
          cases hlv : lt dj[j]! dj[j - 1]! with
          | true =>
            have HI2 : Hid (Sort.insInner lt a (j - 1) (Sort.swp dj j (j - 1)) = Sort.insInner lt a i dk) := Lib.hid (by rw [← HI.out]; exact (ins_more hja hlv).symm)
            rw [hlv] at hl
            have KL := Lib.hid hl
            clear hl HI hlv
            go_wp2_with fail
            refine KL.out.mono ?_
            rintro e w1 ⟨rfl, hS1, hb1⟩
            have d1 := hS1.c1
            obtain ⟨W1, hs, hS2, hbt⟩ := hS1.swap (i := j) (j := j - 1) (by omega) (by omega)
            rw [show ((j - 1 : Nat) : Int) = (j : Int) - 1 by omega] at hs
            have HS2 := Lib.hid hS2
            clear hS1 hS2 hbt KL c0 hb1
            go_wp2_with fail
            go_roundw
            case rel => exact ⟨j - 1, Sort.swp dj j (j - 1), by go_num, by omega, by omega, HS2, HI2⟩
            case measure => simp [intOf]; omega
          | false =>
            have HO3 : Hid (Sort.insOuter lt a b (i + 1) dj = R) := Lib.hid (by rw [← HO2.out, ← HI.out, ins_done (Or.inr hlv)])
            rw [hlv] at hl
            have KL := Lib.hid hl
            clear hl HI hlv
            go_wp2_with fail
            refine KL.out.mono ?_
            rintro e w1 ⟨rfl, hS1, hb1⟩
            have HS2 := Lib.hid hS1
            clear hS1 KL c0 hb1
            go_wp2_with fail
            go_roundw
            case rel => exact ⟨i + 1, dj, by go_num, by omega, by omega, HS2, HO3⟩
            case measure => simp [intOf]; omega
        · have hjz : ¬ (a : Int) < (j : Int) := by omega
          have HO3 : Hid (Sort.insOuter lt a b (i + 1) dj = R) := Lib.hid (by rw [← HO2.out, ← HI.out, ins_done (Or.inl hja)])
          go_wp2_with fail
          go_roundw
          case rel => exact ⟨i + 1, dj, by go_num, by omega, by omega, HS, HO3⟩
          case measure => simp [intOf]; omega
    · have hkl : ¬ (i : Int) < (b : Int) := by omega
      have E : Hid (dk = R) := Lib.hid (by rw [← HO.out]; exact (insO_done hlt).symm)
      go_wp2_with fail
      go_end0
      exact ⟨rfl, E.out ▸ HS.out.a, HS.out.bt⟩
end
end Go.Proofs.YtefkolkagebffaaGreatDoor.Srt
/- Package sort's reverseRange_func, order2_func, median_func, medianAdjacent_func, choosePivot_func, at a list of which 'less' and 'swap' are known. -/
namespace Go.Proofs.YtefkolkagebffaaGreatDoor.Srt
set_option maxRecDepth 100000
open Go.ChangeShapes Go.WideShapes Go.ChangeAt Go.RowKit
set_option linter.unusedVariables false
section
variable {α : Type} [Inhabited α] {lf sf : Nat} {lb sb : Array Value} {g b0 n : Nat} {lt : α → α → Bool} {A : Array α → World → Prop}
set_option maxHeartbeats 4000000 in
theorem reverse_any (S : Srt Tryz.prog lf sf lb sb g b0 n lt A) {d : Array α} {w : World} {a b : Nat} (h : A d w) (hab : a ≤ b) (hb : b ≤ n) :
    Calls Tryz.prog 108 #[.agg #[.func (.func lf) #[] lb, .func (.func sf) #[] sb], .int .i64 a, .int .i64 b] w fun e w' => e = .returned (.tuple #[]) ∧ ∃ d', A d' w' ∧ Bt g w w' ∧ Sort.PermIn a b d d' := by
  have S0 := Lib.hid (S.start (T := 103) h)
  have hn := S.small
  have hd := (S.low h).2
  clear S h
  go_enter Tryz.func108, Tryz.ntmps108
  go_wp2_with fail
  go_loopw [6, 7] (fun vi vj wr => ∃ (i : Nat) (j : Int) (dk : Array α), vi = .int .i64 i ∧ vj = .int .i64 j ∧ a ≤ i ∧ i ≤ b ∧ j + 1 ≤ (b : Int) ∧ -1 ≤ j ∧ Hid (St Tryz.prog lf sf lb sb g b0 n lt A w w.heap.size 103 dk wr) ∧ Hid (Sort.PermIn a b d dk)) (fun vi _ _ => b - (intOf vi).toNat)
  case atStart => exact ⟨a, (b : Int) - 1, d, rfl, by go_num, Nat.le_refl _, hab, by omega, by omega, S0, Lib.hid (Sort.permIn_refl _ _ _)⟩
  case round =>
    obtain ⟨i, j, dk, rfl, rfl, hai, hib, hjb, hj0, HS, HP⟩ := hrel
    clear S0
    by_cases hlt : (i : Int) < j
    · obtain ⟨q, rfl⟩ : ∃ q : Nat, j = (q : Int) := ⟨j.toNat, by omega⟩
      have d1 := HS.out.c1
      obtain ⟨W1, hs, hS2, hbt⟩ := HS.out.swap (i := i) (j := q) (by omega) (by omega)
      have hsz := HS.out.size
      have HP2 : Hid (Sort.PermIn a b d (Sort.swp dk i q)) := Lib.hid (Sort.permIn_trans _ _ _ a b HP.out (Sort.swp_permIn dk a b i q hai (by omega) (by omega) (by omega) (by omega)))
      have HS2 := Lib.hid hS2
      clear hS2 hbt HS HP hsz
      go_wp2_with fail
      go_roundw
      case rel => exact ⟨i + 1, (q : Int) - 1, Sort.swp dk i q, by go_num, by go_num, by omega, by omega, by omega, by omega, HS2, HP2⟩
      case measure => simp [intOf]; omega
    · go_wp2_with fail
      go_end0
      exact ⟨rfl, dk, HS.out.a, HS.out.bt, HP.out⟩
set_option maxHeartbeats 4000000 in
theorem order2_any (S : Srt Tryz.prog lf sf lb sb g b0 n lt A) {d : Array α} {w : World} {a b s k : Nat} {Ti : TypeId} (h : A d w) (ha : a < n) (hb : b < n) (hs : b0 ≤ s) (hk : k ≤ 1000) (hc : Blk w s Ti [.int .i64 k]) :
    Calls Tryz.prog 152 #[.agg #[.func (.func lf) #[] lb, .func (.func sf) #[] sb], .int .i64 a, .int .i64 b, .pointer (some ⟨s, 0, none⟩)] w fun e w' =>
      ∃ x y q : Nat, e = .returned (.tuple #[.int .i64 x, .int .i64 y]) ∧ ((x = a ∧ y = b) ∨ (x = b ∧ y = a)) ∧ q ≤ k + 1 ∧ Blk w' s Ti [.int .i64 q] ∧ Bt s w w' := by
  have S0 := S.start (T := 103) h
  have c0 := S0.c0
  have hl := S0.less (i := b) (j := a) hb ha
  have hc1 := Lib.hid (hc.alloc (.cells #[.func (.func lf) #[] lb, .func (.func sf) #[] sb] 103))
  have HW := Lib.hid ((Below.refl w.heap.size w).alloc (Nat.le_refl _) (.cells #[.func (.func lf) #[] lb, .func (.func sf) #[] sb] 103))
  have eg := S.enter
  cases hlv : lt d[b]! d[a]! with
  | true =>
    rw [hlv] at hl
    have KL := Lib.hid hl
    clear hl S0 S h hc hlv
    go_enter Tryz.func152, Tryz.ntmps152
    go_wp2_with fail
    refine KL.out.mono ?_
    rintro e w1 ⟨rfl, -, hb1⟩
    have hc2 := hc1.out.on hb1
    have e0 : w1.cell? ⟨s, 0, none⟩ = some (.int .i64 k) := hc2.cell rfl
    have e1 := hc2.free 0
    have HC := Lib.hid (hc2.set 0 (.int .i64 ((k + 1 : Nat) : Int)))
    have HB := Lib.hid ((Bt.of (g := s) (low_trans HW.out hb1)).trans (Bt.setCell w1 s 0 (.int .i64 ((k + 1 : Nat) : Int))))
    have ek : ((k + 1 : Nat) : Int) = (k : Int) + 1 := by omega
    rw [ek] at HC HB
    clear hc2 hb1 KL c0 hc1 HW
    go_wp2_with fail
    go_ret2
    exact ⟨b, a, k + 1, rfl, Or.inr ⟨rfl, rfl⟩, Nat.le_refl _, by rw [ek]; exact HC.out, HB.out⟩
  | false =>
    rw [hlv] at hl
    have KL := Lib.hid hl
    clear hl S0 S h hc hlv
    go_enter Tryz.func152, Tryz.ntmps152
    go_wp2_with fail
    refine KL.out.mono ?_
    rintro e w1 ⟨rfl, -, hb1⟩
    have HC := Lib.hid (hc1.out.on hb1)
    have HB := Lib.hid (Bt.of (g := s) (low_trans HW.out hb1))
    clear hb1 KL c0 hc1 HW
    go_wp2_with fail
    go_ret2
    exact ⟨a, b, k, rfl, Or.inl ⟨rfl, rfl⟩, by omega, HC.out, HB.out⟩
/-- What stays behind a callee that changed one counter alone. -/
theorem kept2 {w W W' : World} {B s : Nat} {T : TypeId} {vs : List Value} (hb : Blk W B T vs) (hA : Bt s w W) (hbt : Bt s W W') (hB : B ≠ s) : Blk W' B T vs ∧ Bt s w W' := ⟨hb.but hbt hB, hA.trans hbt⟩
set_option maxHeartbeats 4000000 in
theorem median_any (S : Srt Tryz.prog lf sf lb sb g b0 n lt A) {d : Array α} {w : World} {a b c s k : Nat} {Ti : TypeId} (h : A d w) (ha : a < n) (hb : b < n) (hcn : c < n) (hs : b0 ≤ s) (hk : k ≤ 900) (hc : Blk w s Ti [.int .i64 k]) :
    Calls Tryz.prog 135 #[.agg #[.func (.func lf) #[] lb, .func (.func sf) #[] sb], .int .i64 a, .int .i64 b, .int .i64 c, .pointer (some ⟨s, 0, none⟩)] w fun e w' =>
      ∃ x q : Nat, e = .returned (.int .i64 x) ∧ (x = a ∨ x = b ∨ x = c) ∧ q ≤ k + 3 ∧ Blk w' s Ti [.int .i64 q] ∧ Bt s w w' := by
  have hne : w.heap.size ≠ s := by have := hc.lt; omega
  have hbx : Blk (w.alloc (.cells #[.func (.func lf) #[] lb, .func (.func sf) #[] sb] 103)) w.heap.size 103 [.func (.func lf) #[] lb, .func (.func sf) #[] sb] := Blk.new _ _ _
  have c0 := hbx.cell (j := 0) rfl
  have c1 := hbx.cell (j := 1) rfl
  have HX := Lib.hid hbx
  have HB := Lib.hid (Bt.of (g := s) ((Below.refl w.heap.size w).alloc (Nat.le_refl _) (.cells #[.func (.func lf) #[] lb, .func (.func sf) #[] sb] 103)))
  have HA := Lib.hid (fun (W : World) (hb : Bt s w W) => S.keep h (hb.low hs (S.low h).1))
  have K1 := Lib.hid (order2_any S (HA.out _ HB.out) (a := a) (b := b) (k := k) (Ti := Ti) ha hb hs (by omega) (hc.alloc _))
  have KN := Lib.hid (fun (W : World) (a b k : Nat) (hA : A d W) (ha : a < n) (hb : b < n) (hk : k ≤ 1000) (hc : Blk W s Ti [.int .i64 k]) => order2_any S hA (a := a) (b := b) (k := k) (Ti := Ti) ha hb hs hk hc)
  clear S h hc hbx
  go_enter Tryz.func135, Tryz.ntmps135
  go_wp2_with fail
  refine K1.out.mono ?_
  rintro e w1 ⟨a1, b1, k1, rfl, h1, hk1, hc1, hbt1⟩
  obtain ⟨hx1, hB1⟩ := kept2 HX.out HB.out hbt1 hne
  have K2 := Lib.hid (KN.out w1 b1 c k1 (HA.out _ hB1) (by omega) hcn (by omega) hc1)
  have HX1 := Lib.hid hx1
  have HB1 := Lib.hid hB1
  have d0 := hx1.cell (j := 0) rfl
  have d1 := hx1.cell (j := 1) rfl
  clear hx1 hB1 hbt1 hc1 K1 HX HB c0 c1
  go_wp2_with fail
  refine K2.out.mono ?_
  rintro e w2 ⟨b2, c2, k2, rfl, h2, hk2, hc2, hbt2⟩
  obtain ⟨hx2, hB2⟩ := kept2 HX1.out HB1.out hbt2 hne
  have K3 := Lib.hid (KN.out w2 a1 b2 k2 (HA.out _ hB2) (by omega) (by omega) (by omega) hc2)
  have HB2 := Lib.hid hB2
  have f0 := hx2.cell (j := 0) rfl
  have f1 := hx2.cell (j := 1) rfl
  clear hx2 hB2 hbt2 hc2 K2 HX1 HB1 d0 d1 KN
  go_wp2_with fail
  refine K3.out.mono ?_
  rintro e w3 ⟨a3, b3, k3, rfl, h3, hk3, hc3, hbt3⟩
  have HB3 := Lib.hid (HB2.out.trans hbt3)
  have HC3 := Lib.hid hc3
  clear hbt3 hc3 K3 HB2 f0 f1
  go_wp2_with fail
  go_ret
  exact ⟨b3, k3, rfl, by omega, by omega, HC3.out, HB3.out⟩
set_option maxHeartbeats 4000000 in
theorem adjacent_any (S : Srt Tryz.prog lf sf lb sb g b0 n lt A) {d : Array α} {w : World} {a s k : Nat} {Ti : TypeId} (h : A d w) (ha : 1 ≤ a) (hb : a + 1 < n) (hs : b0 ≤ s) (hk : k ≤ 900) (hc : Blk w s Ti [.int .i64 k]) :
    Calls Tryz.prog 134 #[.agg #[.func (.func lf) #[] lb, .func (.func sf) #[] sb], .int .i64 a, .pointer (some ⟨s, 0, none⟩)] w fun e w' =>
      ∃ x q : Nat, e = .returned (.int .i64 x) ∧ (x + 1 = a ∨ x = a ∨ x = a + 1) ∧ q ≤ k + 3 ∧ Blk w' s Ti [.int .i64 q] ∧ Bt s w w' := by
  have hbx : Blk (w.alloc (.cells #[.func (.func lf) #[] lb, .func (.func sf) #[] sb] 103)) w.heap.size 103 [.func (.func lf) #[] lb, .func (.func sf) #[] sb] := Blk.new _ _ _
  have c0 := hbx.cell (j := 0) rfl
  have c1 := hbx.cell (j := 1) rfl
  have HB := Lib.hid (Bt.of (g := s) ((Below.refl w.heap.size w).alloc (Nat.le_refl _) (.cells #[.func (.func lf) #[] lb, .func (.func sf) #[] sb] 103)))
  have hn := S.small
  have K1 := median_any S (S.keep h (HB.out.low hs (S.low h).1)) (a := a - 1) (b := a) (c := a + 1) (k := k) (Ti := Ti) (by omega) (by omega) hb hs hk (hc.alloc _)
  rw [show ((a - 1 : Nat) : Int) = (a : Int) - 1 by omega, show ((a + 1 : Nat) : Int) = (a : Int) + 1 by omega] at K1
  have K2 := Lib.hid K1
  clear S h hc hbx K1
  go_enter Tryz.func134, Tryz.ntmps134
  go_wp2_with fail
  refine K2.out.mono ?_
  rintro e w1 ⟨x, q, rfl, h1, hk1, hc1, hbt1⟩
  have HB1 := Lib.hid (HB.out.trans hbt1)
  have HC1 := Lib.hid hc1
  clear hbt1 hc1 K2 HB c0 c1
  go_wp2_with fail
  go_ret
  exact ⟨x, q, rfl, by omega, hk1, HC1.out, HB1.out⟩
set_option maxHeartbeats 8000000 in
theorem choose_any (S : Srt Tryz.prog lf sf lb sb g b0 n lt A) {d : Array α} {w : World} {a b : Nat} (h : A d w) (hab : a < b) (hb : b ≤ n) :
    Calls Tryz.prog 107 #[.agg #[.func (.func lf) #[] lb, .func (.func sf) #[] sb], .int .i64 a, .int .i64 b] w fun e w' =>
      ∃ (p : Nat) (o : Int), e = .returned (.tuple #[.int .i64 p, .int .i64 o]) ∧ (a ≤ p ∧ p < b) ∧ (o = 0 ∨ o = 1 ∨ o = 2) ∧ Below w.heap.size w w' := by
  have hn := S.small
  have hlow := (S.low h).1
  obtain ⟨l, hl⟩ : ∃ l : Nat, l = b - a := ⟨_, rfl⟩
  obtain ⟨r, hr⟩ : ∃ r : Nat, r = l / 4 := ⟨_, rfl⟩
  have e1 : (b : Int) - (a : Int) = (l : Int) := by omega
  have e2 : ((l : Int)).tdiv 4 = (r : Int) := by rw [Int.tdiv_eq_ediv_of_nonneg (by omega)]; omega
  have e2' : (l : Int) / 4 = (r : Int) := by omega
  have e3 : (r : Int) * 1 = (r : Int) := by omega
  have hsB : (w.heap.size + 1) ≠ w.heap.size := by omega
  have hbx : Blk ((w.alloc (.cells #[.func (.func lf) #[] lb, .func (.func sf) #[] sb] 103)).alloc (.cells #[.int .i64 0] 3)) w.heap.size 103 [.func (.func lf) #[] lb, .func (.func sf) #[] sb] := (Blk.new w #[.func (.func lf) #[] lb, .func (.func sf) #[] sb] 103).alloc _
  have hcx : Blk ((w.alloc (.cells #[.func (.func lf) #[] lb, .func (.func sf) #[] sb] 103)).alloc (.cells #[.int .i64 0] 3)) (w.heap.size + 1) 3 [.int .i64 ((0 : Nat) : Int)] := by
    have := Blk.new (w.alloc (.cells #[.func (.func lf) #[] lb, .func (.func sf) #[] sb] 103)) #[.int .i64 0] 3
    simpa using this
  have c0 := hbx.cell (j := 0) rfl
  have c1 := hbx.cell (j := 1) rfl
  have s0 := hcx.cell (j := 0) rfl
  rw [show ((0 : Nat) : Int) = 0 from rfl] at s0
  have LW := Lib.hid ((((Below.refl w.heap.size w).alloc (Nat.le_refl _) (.cells #[.func (.func lf) #[] lb, .func (.func sf) #[] sb] 103))).alloc (by simp) (.cells #[.int .i64 0] 3))
  have HX := Lib.hid hbx
  have HCX := Lib.hid hcx
  have HB := Lib.hid (Bt.refl (w.heap.size + 1) ((w.alloc (.cells #[.func (.func lf) #[] lb, .func (.func sf) #[] sb] 103)).alloc (.cells #[.int .i64 0] 3)))
  have HA := Lib.hid (fun (W : World) (hb : Bt (w.heap.size + 1) ((w.alloc (.cells #[.func (.func lf) #[] lb, .func (.func sf) #[] sb] 103)).alloc (.cells #[.int .i64 0] 3)) W) => S.keep h ((LW.out.mono hlow).trans (hb.low (B := b0) (by omega) (by simp; omega))))
  have HL := Lib.hid (fun (W : World) (hb : Bt (w.heap.size + 1) ((w.alloc (.cells #[.func (.func lf) #[] lb, .func (.func sf) #[] sb] 103)).alloc (.cells #[.int .i64 0] 3)) W) => LW.out.trans (hb.low (B := w.heap.size) (by omega) (by simp; omega)))
  have KA := Lib.hid (fun (W : World) (x k : Nat) (hA : A d W) (h1 : 1 ≤ x) (h2 : x + 1 < n) (hk : k ≤ 900) (hc : Blk W (w.heap.size + 1) 3 [.int .i64 k]) => adjacent_any S hA h1 h2 (s := w.heap.size + 1) (by omega) hk hc)
  have KM := Lib.hid (fun (W : World) (x y z k : Nat) (hA : A d W) (h1 : x < n) (h2 : y < n) (h3 : z < n) (hk : k ≤ 900) (hc : Blk W (w.heap.size + 1) 3 [.int .i64 k]) => median_any S hA h1 h2 h3 (s := w.heap.size + 1) (by omega) hk hc)
  have HQ : Hid (l = b - a ∧ r = l / 4) := Lib.hid ⟨hl, hr⟩
  clear S h hbx hcx LW hl hr hlow hsB
  by_cases h8 : 8 ≤ l
  · have h8z : (8 : Int) ≤ (l : Int) := by omega
    by_cases h50 : 50 ≤ l
    · have h50z : (50 : Int) ≤ (l : Int) := by omega
      have K1 := KA.out _ (a + r) 0 (HA.out _ HB.out) (by have hq := HQ.out; omega) (by have hq := HQ.out; omega) (by have hq := HQ.out; omega) HCX.out
      rw [show ((a + r : Nat) : Int) = (a : Int) + (r : Int) by omega] at K1
      have H1 := Lib.hid K1
      clear K1 HCX
      go_enter Tryz.func107, Tryz.ntmps107
      go_wp2_with fail
      refine H1.out.mono ?_
      rintro e w1 ⟨x1, k1, rfl, h1', hk1', hc1, hbt1⟩
      have F1 : Hid ((a ≤ x1 ∧ x1 < b) ∧ k1 ≤ 3) := Lib.hid (by have hq := HQ.out; omega)
      clear h1' hk1'
      obtain ⟨hx1, hB1⟩ := kept2 HX.out HB.out hbt1 (by have hq := HQ.out; omega)
      have K2 := KA.out w1 (a + r * 2) k1 (HA.out _ hB1) (by have hq := HQ.out; omega) (by have hq := HQ.out; omega) (by have hq := F1.out; omega) hc1
      rw [show ((a + r * 2 : Nat) : Int) = (a : Int) + (r : Int) * 2 by omega] at K2
      have H2 := Lib.hid K2
      have HX1 := Lib.hid hx1
      have HB1 := Lib.hid hB1
      have d0 := hx1.cell (j := 0) rfl
      have d1 := hx1.cell (j := 1) rfl
      clear hx1 hB1 hbt1 hc1 H1 K2 HX HB c0 c1 s0
      go_wp2_with fail
      refine H2.out.mono ?_
      rintro e w2 ⟨x2, k2, rfl, h2', hk2', hc2, hbt2⟩
      have F2 : Hid ((a ≤ x2 ∧ x2 < b) ∧ k2 ≤ 6) := Lib.hid (by have hq := HQ.out; have q1 := F1.out; omega)
      clear h2' hk2'
      obtain ⟨hx2, hB2⟩ := kept2 HX1.out HB1.out hbt2 (by have hq := HQ.out; omega)
      have K3 := KA.out w2 (a + r * 3) k2 (HA.out _ hB2) (by have hq := HQ.out; omega) (by have hq := HQ.out; omega) (by have hq := F2.out; omega) hc2
      rw [show ((a + r * 3 : Nat) : Int) = (a : Int) + (r : Int) * 3 by omega] at K3
      have H3 := Lib.hid K3
      have HX2 := Lib.hid hx2
      have HB2 := Lib.hid hB2
      have f0 := hx2.cell (j := 0) rfl
      have f1 := hx2.cell (j := 1) rfl
      clear hx2 hB2 hbt2 hc2 H2 K3 HX1 HB1 d0 d1
      go_wp2_with fail
      refine H3.out.mono ?_
      rintro e w3 ⟨x3, k3, rfl, h3', hk3', hc3, hbt3⟩
      have F3 : Hid ((a ≤ x3 ∧ x3 < b) ∧ k3 ≤ 9) := Lib.hid (by have hq := HQ.out; have q1 := F1.out; have q2 := F2.out; omega)
      clear h3' hk3'
      obtain ⟨hx3, hB3⟩ := kept2 HX2.out HB2.out hbt3 (by have hq := HQ.out; omega)
      have H4 := Lib.hid (KM.out w3 x1 x2 x3 k3 (HA.out _ hB3) (by have hq := F1.out; omega) (by have hq := F2.out; omega) (by have hq := F3.out; omega) (by have hq := F3.out; omega) hc3)
      have HB3 := Lib.hid hB3
      have g0 := hx3.cell (j := 0) rfl
      have g1 := hx3.cell (j := 1) rfl
      clear hx3 hB3 hbt3 hc3 H3 HX2 HB2 f0 f1
      go_wp2_with fail
      refine H4.out.mono ?_
      rintro e w4 ⟨p, k4, rfl, h4', hk4', hc4, hbt4⟩
      have F4 : Hid ((a ≤ p ∧ p < b) ∧ k4 ≤ 20) := Lib.hid (by have hq := HQ.out; have q1 := F1.out; have q2 := F2.out; have q3 := F3.out; omega)
      clear h4' hk4'
      have HL4 := Lib.hid (HL.out _ (HB3.out.trans hbt4))
      have s4 := hc4.cell (j := 0) rfl
      clear hbt4 hc4 H4 HB3 g0 g1
      by_cases z0 : k4 = 0
      · subst z0
        go_wp2_with fail
        go_ret2
        exact ⟨p, 1, rfl, F4.out.1, Or.inr (Or.inl rfl), HL4.out⟩
      · have z1 : ¬ ((k4 : Int) = 0) := by omega
        by_cases z2 : k4 = 12
        · subst z2
          go_wp2_with fail
          go_ret2
          exact ⟨p, 2, rfl, F4.out.1, Or.inr (Or.inr rfl), HL4.out⟩
        · have z3 : ¬ ((k4 : Int) = 12) := by omega
          go_wp2_with fail
          go_ret2
          exact ⟨p, 0, rfl, F4.out.1, Or.inl rfl, HL4.out⟩
    · have h50z : ¬ ((50 : Int) ≤ (l : Int)) := by omega
      have K1 := KM.out _ (a + r) (a + r * 2) (a + r * 3) 0 (HA.out _ HB.out) (by have hq := HQ.out; omega) (by have hq := HQ.out; omega) (by have hq := HQ.out; omega) (by have hq := HQ.out; omega) HCX.out
      rw [show ((a + r : Nat) : Int) = (a : Int) + (r : Int) by have hq := HQ.out; omega, show ((a + r * 2 : Nat) : Int) = (a : Int) + (r : Int) * 2 by have hq := HQ.out; omega, show ((a + r * 3 : Nat) : Int) = (a : Int) + (r : Int) * 3 by omega] at K1
      have H1 := Lib.hid K1
      clear K1 HCX
      go_enter Tryz.func107, Tryz.ntmps107
      go_wp2_with fail
      refine H1.out.mono ?_
      rintro e w4 ⟨p, k4, rfl, h4', hk4', hc4, hbt4⟩
      have F4 : Hid ((a ≤ p ∧ p < b) ∧ k4 ≤ 20) := Lib.hid (by have hq := HQ.out; omega)
      clear h4' hk4'
      have HL4 := Lib.hid (HL.out _ (HB.out.trans hbt4))
      have s4 := hc4.cell (j := 0) rfl
      clear hbt4 hc4 H1 HB c0 c1 s0
      by_cases z0 : k4 = 0
      · subst z0
        go_wp2_with fail
        go_ret2
        exact ⟨p, 1, rfl, F4.out.1, Or.inr (Or.inl rfl), HL4.out⟩
      · have z1 : ¬ ((k4 : Int) = 0) := by omega
        by_cases z2 : k4 = 12
        · subst z2
          go_wp2_with fail
          go_ret2
          exact ⟨p, 2, rfl, F4.out.1, Or.inr (Or.inr rfl), HL4.out⟩
        · have z3 : ¬ ((k4 : Int) = 12) := by omega
          go_wp2_with fail
          go_ret2
          exact ⟨p, 0, rfl, F4.out.1, Or.inl rfl, HL4.out⟩
  · have h8z : ¬ ((8 : Int) ≤ (l : Int)) := by omega
    have HL4 := Lib.hid (HL.out _ HB.out)
    have ep : ((a + r * 2 : Nat) : Int) = (a : Int) + (r : Int) * 2 := by omega
    clear HL HB HX HCX HA KA KM
    go_enter Tryz.func107, Tryz.ntmps107
    go_wp2_with fail
    go_ret2
    exact ⟨a + r * 2, 1, by rw [ep]; rfl, (by have hq := HQ.out; omega), Or.inr (Or.inl rfl), HL4.out⟩
end
end Go.Proofs.YtefkolkagebffaaGreatDoor.Srt
/- (*xorshift).Next, nextPowerOfTwo, breakPatterns_func of package sort, at a list of which 'less' and 'swap' are known. -/
namespace Go.Proofs.YtefkolkagebffaaGreatDoor.Srt
set_option maxRecDepth 100000
open Go.ChangeShapes Go.WideShapes Go.ChangeAt Go.RowKit
set_option linter.unusedVariables false
theorem bitLen_two : ∀ (x : Nat), 0 < x → x < 2 ^ 64 → 2 ^ Lib.bitLen x ≤ 2 * x := by
  intro x
  induction x using Nat.strongRecOn with
  | ind x ih =>
    intro h0 h
    rw [Lib.bitLen_half x (by omega) h]
    by_cases h1 : x / 2 = 0
    · rw [h1, show Lib.bitLen 0 = 0 from rfl]; omega
    · have := ih (x / 2) (by omega) (by omega) (by omega)
      rw [Nat.pow_add]; omega
set_option maxHeartbeats 2000000 in
theorem power_any (L : Nat) (w : World) (h0 : 0 < L) (hL : L ≤ 4611686018427387904) : Calls Tryz.prog 132 #[.int .i64 L] w fun e w' => ∃ M : Nat, e = .returned (.int .u64 M) ∧ 1 ≤ M ∧ M ≤ 2 * L ∧ w' = w := by
  have K := Tryz.bits_Len (L : Int) w (by omega) (by omega)
  rw [Int.toNat_natCast] at K
  have hk := bitLen_two L h0 (by omega)
  have hk2 := Lib.bitLen_le L 63 (by omega) (by omega)
  generalize Lib.bitLen L = k at *
  have hp : (1 : Nat) ≤ 2 ^ k := Nat.one_le_two_pow
  have e1 : IntKind.u64.wrap (L : Int) = (L : Int) := by simp [IntKind.wrap, IntKind.bits, IntKind.signed]; omega
  have e2 : IntKind.u64.wrap (k : Int) = (k : Int) := by simp [IntKind.wrap, IntKind.bits, IntKind.signed]; omega
  have hq : 2 ^ k < 18446744073709551616 := by omega
  obtain ⟨M, hM⟩ : ∃ M : Nat, M = 2 ^ k := ⟨_, rfl⟩
  rw [← hM] at hk hp hq
  have e3 : IntKind.u64.wrap (2 ^ k) = (M : Int) := by
    rw [show ((2 : Int) ^ k) = ((2 ^ k : Nat) : Int) by simp, ← hM]
    simp [IntKind.wrap, IntKind.bits, IntKind.signed]; omega
  have KL := Lib.hid K
  clear K hM
  go_enter Tryz.func132, Tryz.ntmps132
  go_wp2_with fail
  refine KL.out.mono ?_
  rintro e w1 ⟨rfl, rfl⟩
  go_wp2_with fail
  go_ret
  exact ⟨M, rfl, hp, hk, rfl⟩
set_option maxHeartbeats 4000000 in
theorem next_any (r s : Nat) (T : TypeId) (w : World) (hr : r < 18446744073709551616) (hc : Blk w s T [.int .u64 r]) : Calls Tryz.prog 133 #[.pointer (some ⟨s, 0, none⟩)] w fun e w' => ∃ q : Nat, e = .returned (.int .u64 q) ∧ q < 18446744073709551616 ∧ Blk w' s T [.int .u64 q] ∧ Bt s w w' := by
  obtain ⟨p, hp, e1⟩ : ∃ p : Nat, p < 18446744073709551616 ∧ bits .xor .u64 (r : Int) (IntKind.u64.wrap ((r : Int) * 8192)) = (p : Int) :=
    ⟨r ^^^ (r * 8192 % 18446744073709551616), Nat.xor_lt_two_pow (n := 64) (by omega) (by omega), by rw [IntKind.wrap_u64, show ((r : Int) * 8192 % 18446744073709551616) = ((r * 8192 % 18446744073709551616 : Nat) : Int) by omega, bits_xor_u64_nat _ _ hr (by omega)]⟩
  obtain ⟨q, hq, e2⟩ : ∃ q : Nat, q < 18446744073709551616 ∧ bits .xor .u64 (p : Int) ((p : Int) / 128) = (q : Int) :=
    ⟨p ^^^ (p / 128), Nat.xor_lt_two_pow (n := 64) (by omega) (by omega), by rw [show ((p : Int) / 128) = ((p / 128 : Nat) : Int) by omega, bits_xor_u64_nat _ _ hp (by omega)]⟩
  obtain ⟨z, hz, e3⟩ : ∃ z : Nat, z < 18446744073709551616 ∧ bits .xor .u64 (q : Int) (IntKind.u64.wrap ((q : Int) * 131072)) = (z : Int) :=
    ⟨q ^^^ (q * 131072 % 18446744073709551616), Nat.xor_lt_two_pow (n := 64) (by omega) (by omega), by rw [IntKind.wrap_u64, show ((q : Int) * 131072 % 18446744073709551616) = ((q * 131072 % 18446744073709551616 : Nat) : Int) by omega, bits_xor_u64_nat _ _ hq (by omega)]⟩
  have hcell := hc.cell (j := 0) rfl
  have hfree := hc.free 0
  have f1 := fun a => (hc.set 0 a).cell (j := 0) rfl
  have f2 := fun a b => ((hc.set 0 a).set 0 b).cell (j := 0) rfl
  have f3 := fun a b c => (((hc.set 0 a).set 0 b).set 0 c).cell (j := 0) rfl
  have HC := Lib.hid hc
  clear hc
  go_enter Tryz.func133, Tryz.ntmps133
  go_wp2_with fail
  go_region
  all_goals go_wp2_with fail
  all_goals go_region
  all_goals go_wp2_with fail
  all_goals go_region
  all_goals go_wp2_with fail
  go_ret
  exact ⟨z, rfl, hz, (((HC.out.set 0 (.int .u64 p)).set 0 (.int .u64 q)).set 0 (.int .u64 z)).drew.drew.drew, ((Bt.setCell w s 0 (.int .u64 p)).trans ((Bt.setCell _ s 0 (.int .u64 q)).trans (Bt.setCell _ s 0 (.int .u64 z)))).drewN 3⟩
section
variable {α : Type} [Inhabited α] {lf sf : Nat} {lb sb : Array Value} {g b0 n : Nat} {lt : α → α → Bool} {A : Array α → World → Prop}
set_option maxHeartbeats 8000000 in
theorem break_any (S : Srt Tryz.prog lf sf lb sb g b0 n lt A) {d : Array α} {w : World} {a b : Nat} (h : A d w) (hab : a ≤ b) (hb : b ≤ n) :
    Calls Tryz.prog 106 #[.agg #[.func (.func lf) #[] lb, .func (.func sf) #[] sb], .int .i64 a, .int .i64 b] w fun e w' => e = .returned (.tuple #[]) ∧ ∃ d', A d' w' ∧ Bt g w w' ∧ Sort.PermIn a b d d' := by
  have hn := S.small
  obtain ⟨L, hL⟩ : ∃ L : Nat, L = b - a := ⟨_, rfl⟩
  obtain ⟨r, hr⟩ : ∃ r : Nat, r = L / 4 := ⟨_, rfl⟩
  have e1 : (b : Int) - (a : Int) = (L : Int) := by omega
  have S0 := S.start (T := 103) h
  have HQ : Hid (L = b - a ∧ r = L / 4 ∧ d.size = n) := Lib.hid ⟨hL, hr, (S.low h).2⟩
  have hB0 := (S.low h).1
  have gb := S.gb
  by_cases h8 : 8 ≤ L
  · have h8z : (8 : Int) ≤ (L : Int) := by omega
    have e2 : (L : Int) / 4 = (r : Int) := by omega
    have e2' : ((L : Int)).tdiv 4 = (r : Int) := by rw [Int.tdiv_eq_ediv_of_nonneg (by omega)]; omega
    have e3 : IntKind.u64.wrap (L : Int) = (L : Int) := by simp [IntKind.wrap, IntKind.bits, IntKind.signed]; omega
    have K1 := Lib.hid (fun W => power_any L W (by omega) (by omega))
    have HB0 : Hid (b0 ≤ w.heap.size ∧ g < b0) := Lib.hid ⟨hB0, gb⟩
    have HS0 := Lib.hid (S0.on ((Below.refl (w.alloc (.cells #[.func (.func lf) #[] lb, .func (.func sf) #[] sb] 103)).heap.size _).alloc (Nat.le_refl _) (.cells #[.int .u64 L] 154)))
    have HC0 : Hid (Blk ((w.alloc (.cells #[.func (.func lf) #[] lb, .func (.func sf) #[] sb] 103)).alloc (.cells #[.int .u64 L] 154)) (w.heap.size + 1) 154 [.int .u64 L]) := Lib.hid (by have := Blk.new (w.alloc (.cells #[.func (.func lf) #[] lb, .func (.func sf) #[] sb] 103)) #[.int .u64 L] 154; simpa using this)
    clear S h S0 hL hr hB0 gb
    go_enter Tryz.func106, Tryz.ntmps106
    go_wp2_with fail
    refine (K1.out _).mono ?_
    rintro e w1 ⟨M, rfl, hM1, hM2, rfl⟩
    have em : IntKind.u64.wrap ((M : Int) - 1) = (M : Int) - 1 := by simp [IntKind.wrap, IntKind.bits, IntKind.signed]; omega
    clear K1
    go_wp2_with fail
    go_loopw [9, 10] (fun vi _ wr => ∃ (t q : Nat) (dk : Array α), vi = .int .i64 ((a : Int) + (r : Int) * 2 - 1 + (t : Int)) ∧ t ≤ 3 ∧ Hid (q < 18446744073709551616) ∧ Hid (St Tryz.prog lf sf lb sb g b0 n lt A w w.heap.size 103 dk wr) ∧ Hid (Blk wr (w.heap.size + 1) 154 [.int .u64 q]) ∧ Hid (Sort.PermIn a b d dk)) (fun vi _ _ => ((a : Int) + (r : Int) * 2 + 3 - intOf vi).toNat)
    case atStart => exact ⟨0, L, d, by go_num, by omega, Lib.hid (by omega), HS0, HC0, Lib.hid (Sort.permIn_refl _ _ _)⟩
    case round =>
      obtain ⟨t, q, dk, rfl, ht, hq, HS, HC, HP⟩ := hrel
      clear HS0 HC0
      by_cases ht3 : t < 3
      · have htz : (t : Int) ≤ 2 := by omega
        have hle : (a : Int) + (r : Int) * 2 - 1 + (t : Int) ≤ (a : Int) + (r : Int) * 2 + 1 := by omega
        have KN := Lib.hid (next_any q (w.heap.size + 1) 154 wr hq.out HC.out)
        clear hq HC
        go_wp2_with fail
        refine KN.out.mono ?_
        rintro e w2 ⟨q2, rfl, hq2, hc2, hbt2⟩
        obtain ⟨o, ho, eo⟩ : ∃ o : Nat, o ≤ M - 1 ∧ bits .and .u64 (q2 : Int) ((M : Int) - 1) = (o : Int) := ⟨q2 &&& (M - 1), Nat.and_le_right, by
          rw [show ((M : Int) - 1) = ((M - 1 : Nat) : Int) by omega, bits_and_u64_nat _ _ hq2 (by omega)]⟩
        have hS2 := HS.out.other hbt2 (by have := HB0.out; omega) (by omega) (by omega)
        have d1 := hS2.c1
        have hoz : (o : Int) ≤ 9223372036854775807 := by have := HQ.out; omega
        by_cases hLO : L ≤ o
        · have hLOz : (L : Int) ≤ (o : Int) := by omega
          have hsum : (a : Int) + ((o : Int) - (L : Int)) ≤ 4611686018427387904 := by have := HQ.out; omega
          obtain ⟨W1, hs, hS3, hbt3⟩ := hS2.swap (i := a + r * 2 - 1 + t) (j := a + (o - L)) (by have := HQ.out; omega) (by have := HQ.out; omega)
          rw [show ((a + r * 2 - 1 + t : Nat) : Int) = (a : Int) + (r : Int) * 2 - 1 + (t : Int) by have := HQ.out; omega, show ((a + (o - L) : Nat) : Int) = (a : Int) + ((o : Int) - (L : Int)) by omega] at hs
          have HP2 : Hid (Sort.PermIn a b d (Sort.swp dk (a + r * 2 - 1 + t) (a + (o - L)))) := Lib.hid (Sort.permIn_trans _ _ _ a b HP.out (Sort.swp_permIn dk a b _ _ (by have := HQ.out; omega) (by have := HQ.out; omega) (by omega) (by have := HQ.out; omega) (by have := HS.out.size; omega)))
          have HS3 := Lib.hid hS3
          have HC3 := Lib.hid (hc2.but hbt3 (by have := HB0.out; omega))
          have hq3 := Lib.hid hq2
          clear hS3 hS2 hbt2 hbt3 hc2 KN HS HP ho hq2
          go_wp2_with fail
          go_roundw
          case rel => exact ⟨t + 1, q2, _, by go_num, by omega, hq3, HS3, HC3, HP2⟩
          case measure => simp [intOf]; omega
        · have hLOz : ¬ (L : Int) ≤ (o : Int) := by omega
          have hsum : (a : Int) + (o : Int) ≤ 4611686018427387904 := by have := HQ.out; omega
          obtain ⟨W1, hs, hS3, hbt3⟩ := hS2.swap (i := a + r * 2 - 1 + t) (j := a + o) (by have := HQ.out; omega) (by have := HQ.out; omega)
          rw [show ((a + r * 2 - 1 + t : Nat) : Int) = (a : Int) + (r : Int) * 2 - 1 + (t : Int) by have := HQ.out; omega, show ((a + o : Nat) : Int) = (a : Int) + (o : Int) by omega] at hs
          have HP2 : Hid (Sort.PermIn a b d (Sort.swp dk (a + r * 2 - 1 + t) (a + o))) := Lib.hid (Sort.permIn_trans _ _ _ a b HP.out (Sort.swp_permIn dk a b _ _ (by have := HQ.out; omega) (by have := HQ.out; omega) (by omega) (by have := HQ.out; omega) (by have := HS.out.size; omega)))
          have HS3 := Lib.hid hS3
          have HC3 := Lib.hid (hc2.but hbt3 (by have := HB0.out; omega))
          have hq3 := Lib.hid hq2
          clear hS3 hS2 hbt2 hbt3 hc2 KN HS HP ho hq2
          go_wp2_with fail
          go_roundw
          case rel => exact ⟨t + 1, q2, _, by go_num, by omega, hq3, HS3, HC3, HP2⟩
          case measure => simp [intOf]; omega
      · have hle : ¬ ((a : Int) + (r : Int) * 2 - 1 + (t : Int) ≤ (a : Int) + (r : Int) * 2 + 1) := by omega
        go_wp2_with fail
        go_end0
        exact ⟨rfl, dk, HS.out.a, HS.out.bt, HP.out⟩
  · have h8z : ¬ (8 : Int) ≤ (L : Int) := by omega
    have HS0 := Lib.hid S0
    clear S h S0 hL hr hB0 gb
    go_enter Tryz.func106, Tryz.ntmps106
    go_wp2_with fail
    go_end0
    exact ⟨rfl, d, HS0.out.a, HS0.out.bt, Sort.permIn_refl _ _ _⟩
end
end Go.Proofs.YtefkolkagebffaaGreatDoor.Srt
