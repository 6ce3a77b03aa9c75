/- Plain mathematics of lists of bans as texts: their lines, what is read of them, in whatever order they stand. Imports nothing of the dump. -/
import Derived.Test.YtefkolkagebffaaGreatDoorBansMath
import Derived.Test.YtefkolkagebffaaGreatDoorRef13All
import Derived.Test.YtefkolkagebffaaGreatDoorRef12Read
import Derived.Test.YtefkolkagebffaaGreatDoorRef03
import Derived.Test.YtefkolkagebffaaGreatDoorBansAll
import Derived.Test.YtefkolkagebffaaGreatDoorCidrDoor
import Derived.Test.YtefkolkagebffaaGreatDoorDoor
namespace Go.Proofs.YtefkolkagebffaaGreatDoor.Ba
open Dec Words V4 V6 Ad Ci
set_option linter.unusedVariables false
section
variable {c : UInt8}
theorem text_noc (h16 : 16 ≤ dv c) (n : Nat) : c ∉ text (n : Int) := fun h => by have := text_digit h; omega
theorem text4_noc (h16 : 16 ≤ dv c) (h46 : c ≠ 46) (n : Nat) : c ∉ text4 n := by
  have h0 := text_noc h16 (n / 16777216 % 256)
  have h1 := text_noc h16 (n / 65536 % 256)
  have h2 := text_noc h16 (n / 256 % 256)
  have h3 := text_noc h16 (n % 256)
  unfold text4 parts4
  generalize text ((n / 16777216 % 256 : Nat) : Int) = a at *
  generalize text ((n / 65536 % 256 : Nat) : Int) = b at *
  generalize text ((n / 256 % 256 : Nat) : Int) = d at *
  generalize text ((n % 256 : Nat) : Int) = e at *
  simp [glue, h0, h1, h2, h3, h46]
theorem ok4_noc (h16 : 16 ≤ dv c) (h46 : c ≠ 46) {l : List UInt8} (h : ok4 l = true) : c ∉ l := by rw [← text4_num4 h]; exact text4_noc h16 h46 _
theorem hexB_noc (h16 : 16 ≤ dv c) {l : List UInt8} (h : hexB l = true) : c ∉ l := fun hm => by
  rw [hexB_bad hm h16] at h; cases h
theorem part_memc (h58 : c ≠ 58) {l : List UInt8} (h : c ∈ l) : ∃ x ∈ parts l, c ∈ x := by
  unfold parts
  rw [if_neg (by rintro rfl; cases h)]
  exact cut_mem h58 h
theorem allHex_noc (h16 : 16 ≤ dv c) (h46 : c ≠ 46) (h58 : c ≠ 58) {l : List UInt8} (h : allHex (spell (parts l)) = true) : c ∉ l := fun hm => by
  obtain ⟨x, hx, h32⟩ := part_memc h58 hm
  rcases spell_mem _ x hx with hs | h4
  · unfold allHex at h
    exact hexB_noc h16 (List.all_eq_true.1 h x hs) h32
  · exact ok4_noc h16 h46 h4 h32
theorem allHex_noc' (h16 : 16 ≤ dv c) (h58 : c ≠ 58) {l : List UInt8} (h : allHex (parts l) = true) : c ∉ l := fun hm => by
  obtain ⟨x, hx, h32⟩ := part_memc h58 hm
  unfold allHex at h
  exact hexB_noc h16 (List.all_eq_true.1 h x hx) h32
theorem ok6_noc (h16 : 16 ≤ dv c) (h46 : c ≠ 46) (h58 : c ≠ 58) {l : List UInt8} (h : ok6 l = true) : c ∉ l := by
  unfold ok6 groups at h
  split at h
  · split at h
    · rename_i h2
      exact allHex_noc h16 h46 h58 h2.1
    · cases h
  · rename_i b a hg
    split at h
    · rename_i h2
      rw [(gap_some.1 hg).1]
      have h3 := allHex_noc' h16 h58 h2.1
      have h4 := allHex_noc h16 h46 h58 h2.2.1
      simp [h3, h4, h58]
    · cases h
theorem textA_noc (h16 : 16 ≤ dv c) (h46 : c ≠ 46) (h58 : c ≠ 58) {a : Adr} (ha : a.ok) (h : rightA a = true) : c ∉ textA a := by
  have h := (backA ha h).1
  unfold okA at h
  rcases Bool.or_eq_true _ _ ▸ h with h | h
  · exact ok4_noc h16 h46 h
  · exact ok6_noc h16 h46 h58 h
theorem textN_noc (h16 : 16 ≤ dv c) (h46 : c ≠ 46) (h47 : c ≠ 47) (h58 : c ≠ 58) {n : Net} (hn : n.ok) (h : rightN n = true) : c ∉ textN n := by
  obtain ⟨h1, h2⟩ := (rightN_iff n).1 h
  obtain ⟨h3, h4, h5⟩ := (makeB_iff _ _).1 h1
  unfold textN
  rw [if_pos h]
  obtain ⟨k, hk⟩ : ∃ k : Nat, n.n = (k : Int) := ⟨n.n.toNat, by omega⟩
  rw [hk]
  have ha := textA_noc h16 h46 h58 hn.1 h3
  have hb := text_noc h16 k
  simp [ha, hb, h47]
theorem textB_noc (h16 : 16 ≤ dv c) (h32 : c ≠ 32) (h46 : c ≠ 46) (h47 : c ≠ 47) (h58 : c ≠ 58) (hw : c ∉ word) {b : Ban} (hb : b.ok) (h : rightB b = true) : c ∉ textB b := by
  obtain ⟨h1, h2, h3⟩ := (rightB_iff b).1 h
  obtain ⟨k, hk⟩ : ∃ k : Nat, b.t = (k : Int) := ⟨b.t.toNat, by omega⟩
  rw [textB_yes h, hk]
  have ha := textN_noc h16 h46 h47 h58 hb.1 h1
  have ht := text_noc h16 k
  simp [ha, ht, hw, h32]
end
theorem bad_dv {c : UInt8} (h : lineC c = false) : 16 ≤ dv c := by
  unfold lineC at h
  simp only [Bool.or_eq_false_iff, Bool.and_eq_false_iff, decide_eq_false_iff_not] at h
  unfold dv
  obtain ⟨_, h⟩ := h
  rw [if_neg (by omega), if_neg (by omega), if_neg (by omega)]
  exact Nat.le_refl _
theorem textB_line {b : Ban} (hb : b.ok) (h : rightB b = true) : ∀ c ∈ textB b, lineC c = true := fun c hc => by
  cases e : lineC c
  · refine absurd hc (textB_noc (bad_dv e) ?_ ?_ ?_ ?_ ?_ hb h)
    · rintro rfl; exact absurd e (by decide)
    · rintro rfl; exact absurd e (by decide)
    · rintro rfl; exact absurd e (by decide)
    · rintro rfl; exact absurd e (by decide)
    · intro hw
      have : ∀ c ∈ word, lineC c = true := by decide
      rw [this c hw] at e; cases e
  · rfl
theorem textB_no10 {b : Ban} (hb : b.ok) (h : rightB b = true) : (10 : UInt8) ∉ textB b := textB_noc (by decide) (by decide) (by decide) (by decide) (by decide) (by decide) hb h
/-! Lines, each followed by a line feed. -/
theorem ends_cons (x : List UInt8) (ls : List (List UInt8)) : Words.ends (x :: ls) = x ++ 10 :: Words.ends ls := by unfold Words.ends; simp
theorem cut_ends : ∀ {ls : List (List UInt8)}, (∀ x ∈ ls, (10 : UInt8) ∉ x) → cut 10 (Words.ends ls) = ls ++ [[]]
  | [], _ => rfl
  | x :: ls, h => by
    rw [ends_cons, cut_mid (h x (by simp)), cut_ends fun y hy => h y (by simp [hy])]; rfl
theorem count_ends : ∀ {ls : List (List UInt8)}, (∀ x ∈ ls, (10 : UInt8) ∉ x) → (Words.ends ls).count 10 = ls.length
  | [], _ => rfl
  | x :: ls, h => by
    rw [ends_cons, List.count_append, List.count_cons_self, count_ends fun y hy => h y (by simp [hy]), List.count_eq_zero.2 (h x (by simp)), List.length_cons]; omega
theorem form_ends : ∀ {ls : List (List UInt8)}, (∀ x ∈ ls, ∀ c ∈ x, lineC c = true) → (Words.ends ls).all lineC = true
  | [], _ => rfl
  | x :: ls, h => by
    rw [ends_cons, List.all_append, List.all_cons, form_ends fun y hy => h y (by simp [hy]), List.all_eq_true.2 (h x (by simp))]; rfl
theorem last_ends : ∀ (ls : List (List UInt8)), (Words.ends ls).isEmpty = true ∨ (Words.ends ls).getLast? = some 10
  | [] => .inl rfl
  | x :: ls => .inr (by
    rw [ends_cons]
    rcases last_ends ls with h | h
    · rw [List.isEmpty_iff.1 h]; simp
    · have hne : Words.ends ls ≠ [] := fun e => by rw [e] at h; cases h
      rw [List.getLast?_append, show (10 :: Words.ends ls).getLast? = some 10 from by rw [List.getLast?_cons, h]; rfl]; rfl)
theorem len_ends : ∀ {ls : List (List UInt8)} {m : Nat}, (∀ x ∈ ls, x.length ≤ m) → (Words.ends ls).length ≤ ls.length * (m + 1)
  | [], m, _ => by simp [Words.ends]
  | x :: ls, m, h => by
    have h1 := len_ends (ls := ls) (m := m) fun y hy => h y (by simp [hy])
    have h2 := h x (by simp)
    rw [ends_cons, List.length_append, List.length_cons, List.length_cons, Nat.succ_mul]; omega
/-- A text of good lines, not too long, is read as its lines. -/
theorem lines_ends {ls : List (List UInt8)} (h1 : ∀ x ∈ ls, ∀ c ∈ x, lineC c = true) (h2 : ∀ x ∈ ls, (10 : UInt8) ∉ x) (h3 : ∀ x ∈ ls, x.length ≤ 92) (h4 : ls.length ≤ 600) : lineE (Words.ends ls) = 0 ∧ lineL (Words.ends ls) = ls := by
  have hl := len_ends h3
  have e : lineE (Words.ends ls) = 0 := by
    rw [lineE_ok_iff]
    refine ⟨?_, ?_⟩
    · unfold longB
      rw [count_ends h2]
      simp; omega
    · unfold formB
      rw [form_ends h1]
      rcases last_ends ls with h | h
      · rw [h]; rfl
      · rw [h]; simp
  refine ⟨e, ?_⟩
  rw [lineL_ok e, cut_ends h2, List.dropLast_concat]
/-! A list's text, and what is read. -/
def fileText (l : List Ban) : List UInt8 := Words.ends ((l.filter rightB).map textB)
theorem fileText_nil : fileText [] = [] := rfl
theorem fileText_append (l m : List Ban) : fileText (l ++ m) = fileText l ++ fileText m := by unfold fileText Words.ends; rw [List.filter_append, List.map_append, List.flatMap_append]
theorem fileText_one (b : Ban) : fileText [b] = if rightB b then textB b ++ [10] else [] := by
  unfold fileText
  cases h : rightB b <;> simp [h, Words.ends]
theorem fileText_snoc (l : List Ban) (k : Nat) (h : k < l.length) : fileText (l.take (k + 1)) = fileText (l.take k) ++ (if rightB l[k] then textB l[k] ++ [10] else []) := by
  rw [List.take_succ_eq_append_getElem h, fileText_append, fileText_one]
theorem fileText_len {l : List Ban} (h : ∀ x ∈ l, x.ok) : (fileText l).length ≤ l.length * 93 := by
  unfold fileText
  have h1 := len_ends (ls := (l.filter rightB).map textB) (m := 92) fun x hx => by
    obtain ⟨b, hb, rfl⟩ := List.mem_map.1 hx
    exact textB_len (h b (List.mem_filter.1 hb).1)
  rw [List.length_map] at h1
  have h2 := List.length_filter_le rightB l
  exact Nat.le_trans h1 (Nat.mul_le_mul_right _ h2)
/-- What is read of lines, behind the first i: the bans, the place and the code. -/
def readF (most : Int) : List (List UInt8) → Nat → List Ban → List Ban × Int × Int
  | [], i, L => (L, 0, 0)
  | x :: xs, i, L =>
    if okB x then
      if ix L (parseB x).n < L.length then ([], i + 1, 7)
      else if most ≤ (i : Int) then ([], i + 1, 5)
      else readF most xs (i + 1) (putB L (parseB x))
    else ([], i + 1, 2)
def fileP (s : List UInt8) (most : Int) : List Ban × Int × Int := if lineE s = 0 then readF most (lineL s) 0 [] else ([], 0, lineE s)
theorem right_lines {l : List Ban} (hr : ∀ x ∈ l, rightB x = true) (hok : ∀ x ∈ l, x.ok) (hl : l.length ≤ 600) : lineE (fileText l) = 0 ∧ lineL (fileText l) = l.map textB := by
  have e : l.filter rightB = l := List.filter_eq_self.2 hr
  unfold fileText
  rw [e]
  refine lines_ends ?_ ?_ ?_ (by rw [List.length_map]; exact hl)
  all_goals
    intro x hx
    obtain ⟨b, hb, rfl⟩ := List.mem_map.1 hx
  · exact textB_line (hok b hb) (hr b hb)
  · exact textB_no10 (hok b hb) (hr b hb)
  · exact textB_len (hok b hb)
theorem readF_ban {most : Int} {b : Ban} (hb : b.ok) (hr : rightB b = true) (xs : List (List UInt8)) (i : Nat) (L : List Ban) (hn : ¬ ix L b.n < L.length) (hm : (i : Int) < most) : readF most (textB b :: xs) i L = readF most xs (i + 1) (putB L b) := by
  obtain ⟨h1, h2⟩ := backB hb hr
  rw [readF, if_pos h1, h2, if_neg hn, if_neg (by omega)]
theorem readF_full {most : Int} {b : Ban} (hb : b.ok) (hr : rightB b = true) (xs : List (List UInt8)) (i : Nat) (L : List Ban) (hn : ¬ ix L b.n < L.length) (hm : most ≤ (i : Int)) : readF most (textB b :: xs) i L = ([], (i : Int) + 1, 5) := by
  obtain ⟨h1, h2⟩ := backB hb hr
  rw [readF, if_pos h1, h2, if_neg hn, if_pos hm]
theorem ix_new {L : List Ban} {n : Net} (h : ∀ x ∈ L, x.n ≠ n) : ¬ ix L n < L.length := fun hi => h _ (List.getElem_mem hi) (ix_same hi)
/-- A ban behind all others is put last; one ahead of all, first. -/
theorem put_last {L : List Ban} {b : Ban} (h : ∀ x ∈ L, cmpN x.n b.n < 0) : putB L b = L ++ [b] := by
  have e : spot L b.n = L.length := spot_at (Nat.le_refl _) (fun i hi _ => by have := h _ (List.getElem_mem hi); omega) (fun h => absurd h (Nat.lt_irrefl _))
  unfold putB; rw [e, List.take_of_length_le (Nat.le_refl _), List.drop_of_length_le (Nat.le_refl _)]
theorem put_first {L : List Ban} {b : Ban} (h : ∀ x ∈ L, 0 < cmpN x.n b.n) : putB L b = b :: L := by
  have e : spot L b.n = 0 := spot_at (Nat.zero_le _) (fun i hi h0 => absurd h0 (Nat.not_lt_zero _)) (fun h0 => h _ (List.getElem_mem h0))
  unfold putB; rw [e]; rfl
theorem read_on (most : Int) : ∀ (rest pre : List Ban), Right (pre ++ rest) → (∀ x ∈ pre ++ rest, x.ok) → readF most (rest.map textB) pre.length pre = if ((pre ++ rest).length : Int) ≤ max most pre.length then (pre ++ rest, 0, 0) else ([], max most pre.length + 1, 5)
  | [], pre, _, _ => by rw [List.append_nil, if_pos (by omega)]; rfl
  | b :: rest, pre, hR, hok => by
    have hb : b.ok := hok b (by simp)
    have hr : rightB b = true := hR.1 b (by simp)
    have hs := hR.2
    unfold Sorted at hs
    rw [List.pairwise_append] at hs
    have hlt : ∀ x ∈ pre, cmpN x.n b.n < 0 := fun x hx => hs.2.2 x hx b (by simp)
    have hn : ¬ ix pre b.n < pre.length := ix_new fun x hx e => by
      have := hlt x hx
      rw [e, (cmpN_zero _ _).2 rfl] at this; omega
    rw [List.map_cons]
    by_cases hm : most ≤ (pre.length : Int)
    · rw [readF_full hb hr _ _ _ hn hm, if_neg (by simp; omega), Int.max_eq_right hm]
    · have ih := read_on most rest (pre ++ [b]) (by simpa using hR) (by simpa using hok)
      rw [readF_ban hb hr _ _ _ hn (by omega), put_last hlt]
      rw [List.length_append, List.length_singleton] at ih
      rw [ih]
      have e : pre ++ [b] ++ rest = pre ++ b :: rest := by simp
      rw [e, show max most ((pre.length + 1 : Nat) : Int) = max most (pre.length : Int) by omega]
/-- A right list is read of its text; with more bans than may be, it is told where it is full. -/
theorem file_back {l : List Ban} (hR : Right l) (hok : ∀ x ∈ l, x.ok) (hl : l.length ≤ 600) (most : Int) : fileP (fileText l) most = if (l.length : Int) ≤ max most 0 then (l, 0, 0) else ([], max most 0 + 1, 5) := by
  obtain ⟨h1, h2⟩ := right_lines hR.1 hok hl
  unfold fileP
  rw [if_pos h1, h2]
  exact read_on most l [] hR hok
theorem read_back (most : Int) : ∀ (pre rest : List Ban), Right (pre ++ rest) → (∀ x ∈ pre ++ rest, x.ok) → ((pre ++ rest).length : Int) ≤ max most rest.length → readF most (pre.reverse.map textB) rest.length rest = (pre ++ rest, 0, 0) := by
  refine snocRec (fun rest _ _ _ => rfl) fun pre b ih rest hR hok hm => ?_
  have hb : b.ok := hok b (by simp)
  have hr : rightB b = true := hR.1 b (by simp)
  have hs := hR.2
  unfold Sorted at hs
  rw [List.append_assoc, List.pairwise_append, List.singleton_append, List.pairwise_cons] at hs
  have hlt : ∀ x ∈ rest, 0 < cmpN x.n b.n := fun x hx => by
    have := hs.2.1.1 x hx
    rw [cmpN_flip]; omega
  have hn : ¬ ix rest b.n < rest.length := ix_new fun x hx e => by
    have := hlt x hx
    rw [e, (cmpN_zero _ _).2 rfl] at this; omega
  have e : pre ++ [b] ++ rest = pre ++ b :: rest := by simp
  rw [e] at hR hok hm ⊢
  rw [List.reverse_append, List.reverse_singleton, List.singleton_append, List.map_cons, readF_ban hb hr _ _ _ hn (by simp at hm; omega), put_first hlt]
  exact ih (b :: rest) hR hok (by simp at hm ⊢; omega)
/-- The other way round it is read as it is. -/
theorem file_turned {l : List Ban} (hR : Right l) (hok : ∀ x ∈ l, x.ok) (hl : l.length ≤ 600) {most : Int} (hm : (l.length : Int) ≤ max most 0) : fileP (fileText l.reverse) most = (l, 0, 0) := by
  obtain ⟨h1, h2⟩ := right_lines (l := l.reverse) (fun x hx => hR.1 x (List.mem_reverse.1 hx)) (fun x hx => hok x (List.mem_reverse.1 hx)) (by simpa using hl)
  unfold fileP
  rw [if_pos h1, h2]
  have := read_back most l [] (by simpa using hR) (by simpa using hok) (by simpa using hm)
  simpa using this
/-- What is read, ban by ban: kept rising and right. -/
theorem readF_right (most : Int) : ∀ (xs : List (List UInt8)) (i : Nat) (L : List Ban), Right L → Right (readF most xs i L).1
  | [], i, L, h => h
  | x :: xs, i, L, h => by
    unfold readF
    split
    · rename_i ho
      split
      · exact right_nil
      · rename_i hi
        split
        · exact right_nil
        · exact readF_right most xs _ _ (right_put h (okB_is ho).1 hi)
    · exact right_nil
end Go.Proofs.YtefkolkagebffaaGreatDoor.Ba
/- Contracts of the document's answers for layer 14 (lists of bans as texts). -/
namespace Go.Proofs.YtefkolkagebffaaGreatDoor.Ba
set_option maxRecDepth 100000
open Go.ChangeShapes Go.WideShapes Go.ChangeAt Go.RowKit
open Dec Words V4 V6 Ad Ci
set_option linter.unusedVariables false
theorem txts_at {w : World} {v : Value} {ls : List (List UInt8)} {b o : Nat} {n c : Nat} (h : Txts w (.slice (some ⟨b, o, none⟩) n c) ls) {k : Nat} (hk : k < ls.length) : w.cell? ⟨b, o + k, none⟩ = some (.string ⟨ls[k].toArray⟩) := by
  obtain ⟨A, c', e, _, h3⟩ := h
  obtain ⟨b', o', e2, _, hc⟩ := h3 (by omega)
  subst e2
  obtain ⟨⟨rfl, rfl⟩, _⟩ : (b = b' ∧ o = o') ∧ _ := by simpa using e
  exact hc k hk
set_option maxHeartbeats 8000000 in
theorem rtextF_any (v : Value) (l : List Ban) (w : World) (h : Bans w v l) (hl : l.length ≤ 100000) (hok : ∀ x ∈ l, x.ok) :
    Calls Tryz.prog 9 #[v] w fun e w' => e = .returned (.string ⟨(fileText l).toArray⟩) ∧ Below w.heap.size w w' := by
  obtain ⟨A, c, rfl, hc, -, hcell⟩ := h
  have HC := Lib.hid hcell
  have HK := Lib.hid hok
  clear hcell
  go_enter Tryz.func9, Tryz.ntmps9
  go_wp2_with fail
  go_loopw [3, 4] (fun ss si wr => ∃ (k : Nat) (S : List UInt8), k ≤ l.length ∧ si = .int .i64 k ∧ ss = .string ⟨S.toArray⟩ ∧ Hid (fileText (l.take k) = S) ∧ Below w.heap.size w wr) (fun _ si _ => l.length - (intOf si).toNat)
  case atStart => exact ⟨0, [], Nat.zero_le _, rfl, rfl, Lib.hid rfl, Below.refl _ _⟩
  case round =>
    obtain ⟨k, S, hk, rfl, rfl, HS, hlow⟩ := hrel
    have HB := Lib.hid hlow
    by_cases hlt : k < l.length
    · obtain ⟨b, o, rfl, hb, hcc⟩ := HC.out (by omega)
      obtain ⟨c0, c1, c2, c3, c4⟩ := bans_at (fun i h j u hu => (hlow.cell (p := ⟨b, o + i * 5 + j, none⟩) hb).trans (hcc i h j u hu)) hlt
      have hxo := HK.out _ (List.getElem_mem hlt)
      have HN := Lib.hid (fileText_snoc l k hlt)
      have hkl : (k : Int) < (l.length : Int) := by omega
      have hSl : S.length ≤ 9300000 := by
        have h1 := fileText_len (l := l.take k) (fun x hx => hok x (List.mem_of_mem_take hx))
        rw [HS.out, List.length_take] at h1
        omega
      clear hcc hlow
      generalize l[k] = x at *
      have KR := Lib.hid (rrightB_any x wr hxo)
      cases hr : rightB x
      · have HS2 : Hid (fileText (l.take (k + 1)) = S) := Lib.hid (by rw [HN.out, HS.out, hr]; simp)
        rw [hr] at KR
        clear hr HN HS
        go_wp2_with fail
        refine KR.out.mono ?_
        rintro e w1 ⟨rfl, hb1⟩
        have HB1 := Lib.hid (low_trans HB.out hb1)
        clear hb1 c0 c1 c2 c3 c4 KR
        go_wp2_with fail
        go_roundw
        case rel => exact ⟨k + 1, S, by omega, by go_num, rfl, HS2, HB1.out⟩
        case measure => simp [intOf]; omega
      · have HS2 : Hid (fileText (l.take (k + 1)) = S ++ (textB x ++ [10])) := Lib.hid (by rw [HN.out, HS.out, hr]; simp)
        have KT := Lib.hid (fun W => rtextB_any x W hxo)
        have htl := textB_len hxo
        rw [hr] at KR
        clear hr HN HS
        generalize textB x = T at *
        have g1 := fun W => En.add_is (a := S) (b := T) (c := S ++ T) rfl (by simp; omega) W
        have g2 := fun W => En.add_is (a := S ++ T) (b := [10]) (c := S ++ (T ++ [10])) (by simp) (by simp; omega) W
        go_wp2_with fail
        refine KR.out.mono ?_
        rintro e w1 ⟨rfl, hb1⟩
        have d0 := cells_left hb1 c0
        have d1 := cells_left hb1 c1
        have d2 := cells_left hb1 c2
        have d3 := cells_left hb1 c3
        have d4 := cells_left hb1 c4
        have hb1' := low_trans HB.out hb1
        clear hb1 c0 c1 c2 c3 c4 KR
        go_wp2_with fail
        refine (KT.out _).mono ?_
        rintro e w2 ⟨rfl, hb2⟩
        have HB2 := Lib.hid (low_trans hb1' hb2)
        clear hb2 hb1' d0 d1 d2 d3 d4 KT
        go_wp2_with fail
        go_roundw
        case rel => exact ⟨k + 1, S ++ (T ++ [10]), by omega, by go_num, rfl, HS2, HB2.out⟩
        case measure => simp [intOf]; omega
    · have E : Hid (S = fileText l) := Lib.hid (by rw [← HS.out, List.take_of_length_le (by omega)])
      have hkl : ¬ (k : Int) < (l.length : Int) := by omega
      go_wp2_with fail
      go_ret
      exact ⟨ret_s E.out, HB.out⟩
theorem readF_no {most : Int} {x : List UInt8} {xs : List (List UInt8)} {i : Nat} {L : List Ban} (h : okB x = false) : readF most (x :: xs) i L = ([], (i : Int) + 1, 2) := by rw [readF, h]; rfl
theorem readF_twice {most : Int} {x : List UInt8} {xs : List (List UInt8)} {i : Nat} {L : List Ban} (h : okB x = true) (hi : ix L (parseB x).n < L.length) : readF most (x :: xs) i L = ([], (i : Int) + 1, 7) := by rw [readF, if_pos h, if_pos hi]
theorem readF_many {most : Int} {x : List UInt8} {xs : List (List UInt8)} {i : Nat} {L : List Ban} (h : okB x = true) (hi : ¬ ix L (parseB x).n < L.length) (hm : most ≤ (i : Int)) : readF most (x :: xs) i L = ([], (i : Int) + 1, 5) := by rw [readF, if_pos h, if_neg hi, if_pos hm]
theorem readF_next {most : Int} {x : List UInt8} {xs : List (List UInt8)} {i : Nat} {L : List Ban} (h : okB x = true) (hi : ¬ ix L (parseB x).n < L.length) (hm : ¬ most ≤ (i : Int)) : readF most (x :: xs) i L = readF most xs (i + 1) (putB L (parseB x)) := by rw [readF, if_pos h, if_neg hi, if_neg hm]
theorem lineL_len (s : List UInt8) : (lineL s).length ≤ 4096 := by
  by_cases h : lineE s = 0
  · obtain ⟨h1, _⟩ := lineE_ok_iff.1 h
    rw [lineL_ok h, List.length_dropLast]
    unfold longB at h1
    simp at h1
    have := cut_len 10 s
    omega
  · rw [lineL_no h]; simp
theorem cut_short {c : UInt8} : ∀ {l : List UInt8}, ∀ x ∈ cut c l, x.length ≤ l.length
  | [], x, h => by rw [show cut c [] = [[]] from rfl] at h; simp at h; simp [h]
  | b :: l, x, h => by
    by_cases e : b = c
    · subst e
      rw [cut_hit] at h
      rcases List.mem_cons.1 h with rfl | h
      · simp
      · have := cut_short x h; simp; omega
    · obtain ⟨y, r, e1, e2⟩ := cut_off e l
      rw [e2] at h
      rcases List.mem_cons.1 h with rfl | h
      · have := cut_short y (by rw [e1]; simp)
        simp; omega
      · have := cut_short x (by rw [e1]; simp [h])
        simp; omega
theorem readF_len (most : Int) : ∀ (xs : List (List UInt8)) (i : Nat) (L : List Ban), (readF most xs i L).1.length ≤ xs.length + L.length
  | [], i, L => by simp [readF]
  | x :: xs, i, L => by
    rw [readF]
    split
    · split
      · simp
      · split
        · simp
        · have := readF_len most xs (i + 1) (putB L (parseB x))
          rw [put_len] at this
          rw [List.length_cons]; omega
    · simp
theorem fileP_len (s : List UInt8) (most : Int) : (fileP s most).1.length ≤ 4096 := by
  unfold fileP
  split
  · have := readF_len most (lineL s) 0 []
    have h2 := lineL_len s
    simp at this; omega
  · simp
theorem lineL_short {s x : List UInt8} (h : x ∈ lineL s) : x.length ≤ 65536 := by
  by_cases h0 : lineE s = 0
  · obtain ⟨h1, _⟩ := lineE_ok_iff.1 h0
    rw [lineL_ok h0] at h
    unfold longB at h1
    simp at h1
    have := cut_short x ((List.dropLast_sublist _).subset h)
    omega
  · rw [lineL_no h0] at h; cases h
set_option maxHeartbeats 8000000 in
theorem rparseF_any (s : List UInt8) (most : Int) (w : World) (hs : s.length ≤ 9223372036854775807) :
    Calls Tryz.prog 7 #[.string ⟨s.toArray⟩, .int .i64 most] w fun e w' => ∃ u, e = .returned (.tuple #[u, .int .i64 (fileP s most).2.1, .int .i64 (fileP s most).2.2]) ∧ Bans w' u (fileP s most).1 ∧ Below w.heap.size w w' := by
  have KL := Lib.hid (rlines_any ⟨s.toArray⟩ w (by rw [← len_size, str_back]; exact hs))
  rw [str_back] at KL
  by_cases h0 : lineE s = 0
  · have E0 : Hid (fileP s most = readF most (lineL s) 0 []) := Lib.hid (by unfold fileP; rw [if_pos h0])
    have hn := lineL_len s
    have HX := Lib.hid (fun x h => lineL_short (s := s) (x := x) h)
    go_enter Tryz.func7, Tryz.ntmps7
    go_wp2_with fail
    refine KL.out.mono ?_
    rintro e w1 ⟨v, rfl, ht, hb1⟩
    rw [h0]
    generalize lineL s = ls at *
    obtain ⟨A, c, rfl, hc, hcell⟩ := id ht
    have HC := Lib.hid hcell
    have HB1 := Lib.hid hb1
    have hsz := hb1.size
    clear hcell ht hb1 KL h0
    go_wp2_with fail
    go_loopw [9, 10, 11, 12] (fun sl si _ _ wr => ∃ (k : Nat) (L : List Ban) (B : Option Addr) (c2 : Nat), k ≤ ls.length ∧ si = .int .i64 k ∧ sl = .slice B L.length c2 ∧ Hid (Bans wr (.slice B L.length c2) L) ∧ (∀ x ∈ L, x.ok) ∧ Hid (L.length = k) ∧ Hid (readF most ls 0 [] = readF most (ls.drop k) k L) ∧ Below w1.heap.size w1 wr) (fun _ si _ _ _ => ls.length - (intOf si).toNat)
    case atStart => exact ⟨0, [], some ⟨w1.heap.size, 0, none⟩, 0, Nat.zero_le _, rfl, rfl, Lib.hid (ownB_recs (own_lit w1 (Nat.le_refl _))), by simp, Lib.hid rfl, Lib.hid rfl, (Below.refl _ _).alloc (Nat.le_refl _) _⟩
    case round =>
      obtain ⟨k, L, B, c2, hk, rfl, rfl, HB, hO, HLk, HF, hlow⟩ := hrel
      have HQ := Lib.hid hlow
      have HW : Hid (Below w.heap.size w wr) := Lib.hid (low_trans HB1.out hlow)
      by_cases hlt : k < ls.length
      · obtain ⟨b, o, rfl, hb, hcc⟩ := HC.out (by omega)
        have c0 : wr.cell? ⟨b, o + k, none⟩ = some (.string ⟨ls[k].toArray⟩) := (hlow.cell (p := ⟨b, o + k, none⟩) hb).trans (hcc k hlt)
        have hxl := HX.out _ (List.getElem_mem hlt)
        have HD : Hid (ls.drop k = ls[k] :: ls.drop (k + 1)) := Lib.hid (List.drop_eq_getElem_cons hlt)
        rw [HD.out] at HF
        have hkl : (k : Int) < (ls.length : Int) := by omega
        have hLl : L.length ≤ 4096 := by rw [HLk.out]; omega
        generalize ls[k] = x at *
        have KP := Lib.hid (rparseB_any x wr (by omega))
        have hxo := parseB_ok x
        clear hcc hlow HD HX
        cases ho : okB x
        · have E : Hid (fileP s most = ([], (k : Int) + 1, 2)) := Lib.hid (by rw [E0.out, HF.out, readF_no ho])
          unfold ParseBan at KP
          rw [ho] at KP
          clear ho HF E0
          generalize parseB x = y at *
          go_wp2_with fail
          refine KP.out.mono ?_
          rintro e w2 ⟨rfl, hb2⟩
          have HL := Lib.hid (low_trans (low_trans HW.out hb2) ((Below.refl _ _).alloc (Nat.le_refl _) (.cells #[.bool y.n.a.v6, .int .u64 y.n.a.hi, .int .u64 y.n.a.lo, .int .i64 y.n.n, .int .i64 y.t] 40)))
          clear hb2 c0 KP
          go_wp2_with fail
          exact bodyPost_ret (v := .tuple #[.slice none 0 0, .int .i64 ((k : Int) + 1), .int .i64 2]) (by simp [results, Tryz.results7, go_sem]) rfl ⟨_, by rw [E.out], by rw [E.out]; exact Recs.nil _ _ _, HL.out⟩
        · have KP2 := KP.out
          unfold ParseBan at KP2
          rw [ho] at KP2
          have HP := Lib.hid KP2
          have hrb := (okB_is ho).1
          have T1 := Lib.hid (fun h => readF_twice (most := most) (xs := ls.drop (k + 1)) (i := k) (L := L) ho h)
          have T2 := Lib.hid (fun h => readF_many (most := most) (xs := ls.drop (k + 1)) (i := k) (L := L) ho h)
          have T3 := Lib.hid (fun h => readF_next (most := most) (xs := ls.drop (k + 1)) (i := k) (L := L) ho h)
          clear KP KP2 ho
          generalize parseB x = y at *
          go_wp2_with fail
          refine HP.out.mono ?_
          rintro e w2 ⟨rfl, hb2⟩
          have hlow2 := low_trans HW.out hb2
          have LOW3 : Below w2.heap.size w2 (w2.alloc (.cells #[.bool y.n.a.v6, .int .u64 y.n.a.hi, .int .u64 y.n.a.lo, .int .i64 y.n.n, .int .i64 y.t] 40)) := (Below.refl _ _).alloc (Nat.le_refl _) _
          have HB2 := Lib.hid (HB.out.below (low_trans hb2 LOW3))
          have hlow3 := Lib.hid (low_trans hlow2 LOW3)
          have HQ2 := Lib.hid (low_trans (low_trans HQ.out hb2) LOW3)
          have KI := Lib.hid (rindex_any (.slice B L.length c2) L y.n (w2.alloc (.cells #[.bool y.n.a.v6, .int .u64 y.n.a.hi, .int .u64 y.n.a.lo, .int .i64 y.n.n, .int .i64 y.t] 40)) HB2.out (by omega))
          have n0 : (w2.alloc (.cells #[.bool y.n.a.v6, .int .u64 y.n.a.hi, .int .u64 y.n.a.lo, .int .i64 y.n.n, .int .i64 y.t] 40)).cell? ⟨w2.heap.size, 0, none⟩ = some (.bool y.n.a.v6) := cell_at _ _ _ 0 _ rfl
          have n1 : (w2.alloc (.cells #[.bool y.n.a.v6, .int .u64 y.n.a.hi, .int .u64 y.n.a.lo, .int .i64 y.n.n, .int .i64 y.t] 40)).cell? ⟨w2.heap.size, 1, none⟩ = some (.int .u64 y.n.a.hi) := cell_at _ _ _ 1 _ rfl
          have n2 : (w2.alloc (.cells #[.bool y.n.a.v6, .int .u64 y.n.a.hi, .int .u64 y.n.a.lo, .int .i64 y.n.n, .int .i64 y.t] 40)).cell? ⟨w2.heap.size, 2, none⟩ = some (.int .u64 y.n.a.lo) := cell_at _ _ _ 2 _ rfl
          have n3 : (w2.alloc (.cells #[.bool y.n.a.v6, .int .u64 y.n.a.hi, .int .u64 y.n.a.lo, .int .i64 y.n.n, .int .i64 y.t] 40)).cell? ⟨w2.heap.size, 3, none⟩ = some (.int .i64 y.n.n) := cell_at _ _ _ 3 _ rfl
          have n4 : (w2.alloc (.cells #[.bool y.n.a.v6, .int .u64 y.n.a.hi, .int .u64 y.n.a.lo, .int .i64 y.n.n, .int .i64 y.t] 40)).cell? ⟨w2.heap.size, 4, none⟩ = some (.int .i64 y.t) := cell_at _ _ _ 4 _ rfl
          clear hb2 hlow2 LOW3 c0 HP
          by_cases hi : ix L y.n < L.length
          · have E : Hid (fileP s most = ([], (k : Int) + 1, 7)) := Lib.hid (by rw [E0.out, HF.out, T1.out hi])
            have e2 : ixI L y.n = (ix L y.n : Int) := by unfold ixI; rw [if_pos hi]
            rw [e2] at KI
            have hge : (0 : Int) ≤ (ix L y.n : Int) := by omega
            clear e2 hi T1 T2 T3 HF E0
            generalize ix L y.n = q at *
            go_wp2_with fail
            refine KI.out.mono ?_
            rintro e w3 ⟨rfl, hb3⟩
            have HL := Lib.hid (low_trans hlow3.out hb3)
            clear hb3 KI
            go_wp2_with fail
            exact bodyPost_ret (v := .tuple #[.slice none 0 0, .int .i64 ((k : Int) + 1), .int .i64 7]) (by simp [results, Tryz.results7, go_sem]) rfl ⟨_, by rw [E.out], by rw [E.out]; exact Recs.nil _ _ _, HL.out⟩
          · have e2 : ixI L y.n = -1 := by unfold ixI; rw [if_neg hi]
            rw [e2] at KI
            by_cases hm : most ≤ (k : Int)
            · have E : Hid (fileP s most = ([], (k : Int) + 1, 5)) := Lib.hid (by rw [E0.out, HF.out, T2.out hi hm])
              clear e2 hi T1 T2 T3 HF E0
              go_wp2_with fail
              refine KI.out.mono ?_
              rintro e w3 ⟨rfl, hb3⟩
              have HL := Lib.hid (low_trans hlow3.out hb3)
              clear hb3 KI
              go_wp2_with fail
              exact bodyPost_ret (v := .tuple #[.slice none 0 0, .int .i64 ((k : Int) + 1), .int .i64 5]) (by simp [results, Tryz.results7, go_sem]) rfl ⟨_, by rw [E.out], by rw [E.out]; exact Recs.nil _ _ _, HL.out⟩
            · have HF2 : Hid (readF most ls 0 [] = readF most (ls.drop (k + 1)) (k + 1) (putB L y)) := Lib.hid (by rw [HF.out, T3.out hi (by omega)])
              have KA := Lib.hid (fun W h => radd_any (.slice B L.length c2) L y ((k : Int) + 1) W h (by omega) hO hxo)
              have hput : addL L y ((k : Int) + 1) = (putB L y, 0) := addL_put hrb hi (by rw [HLk.out]; omega)
              have hO2 : ∀ x ∈ putB L y, x.ok := put_ok hO hxo
              have hpl : Hid ((putB L y).length = k + 1) := Lib.hid (by rw [put_len, HLk.out])
              rw [hput] at KA
              clear e2 hi T1 T2 T3 HF hput hrb
              generalize putB L y = L2 at *
              have hm2 : ¬ most ≤ (k : Int) := hm
              go_wp2_with fail
              refine KI.out.mono ?_
              rintro e w3 ⟨rfl, hb3⟩
              have m0 := cells_left hb3 n0
              have m1 := cells_left hb3 n1
              have m2 := cells_left hb3 n2
              have m3 := cells_left hb3 n3
              have m4 := cells_left hb3 n4
              have HB3 := Lib.hid (HB2.out.below hb3)
              have HL3 := Lib.hid (low_trans hlow3.out hb3)
              have HQ3 := Lib.hid (low_trans HQ2.out hb3)
              clear hb3 KI n0 n1 n2 n3 n4
              go_wp2_with fail
              refine (KA.out _ HB3.out).mono ?_
              rintro e w4 ⟨u, rfl, hR4, hb4⟩
              have HR4 := Lib.hid hR4
              obtain ⟨B4, c4, rfl, -, -, -⟩ := hR4
              have HL4 := Lib.hid (low_trans HL3.out hb4)
              have HQ4 := Lib.hid (low_trans HQ3.out hb4)
              clear hb4 KA m0 m1 m2 m3 m4
              go_wp2_with fail
              go_roundw
              case rel => exact ⟨k + 1, L2, B4, c4, by omega, by go_num, rfl, HR4, hO2, hpl, HF2, HQ4.out⟩
              case measure => simp [intOf]; omega
      · have E : Hid (fileP s most = (L, 0, 0)) := Lib.hid (by rw [E0.out, HF.out, List.drop_of_length_le (by omega)]; rfl)
        have hkl : ¬ (k : Int) < (ls.length : Int) := by omega
        go_wp2_with fail
        exact bodyPost_ret (v := .tuple #[.slice B L.length c2, .int .i64 0, .int .i64 0]) (by simp [results, Tryz.results7, go_sem]) rfl ⟨_, by rw [E.out], by rw [E.out]; exact HB.out, HW.out⟩
  · have E : Hid (fileP s most = ([], 0, lineE s)) := Lib.hid (by unfold fileP; rw [if_neg h0])
    have hne : (lineE s != 0) = true := by simp [h0]
    go_enter Tryz.func7, Tryz.ntmps7
    go_wp2_with fail
    refine KL.out.mono ?_
    rintro e w1 ⟨v, rfl, ht, hb1⟩
    obtain ⟨A, c, rfl, -, -⟩ := ht
    have HL := Lib.hid hb1
    clear hb1 KL h0
    generalize lineE s = q at *
    go_wp2_with fail
    exact bodyPost_ret (v := .tuple #[.slice none 0 0, .int .i64 (0), .int .i64 q]) (by simp [results, Tryz.results7, go_sem]) rfl ⟨_, by rw [E.out], by rw [E.out]; exact Recs.nil _ _ _, HL.out⟩
end Go.Proofs.YtefkolkagebffaaGreatDoor.Ba
/- Of the statements of layer 14: what they lean on; the example. -/
namespace Go.Proofs.YtefkolkagebffaaGreatDoor
set_option maxRecDepth 100000
open Go.ChangeShapes Go.WideShapes Go.ChangeAt Go.RowKit
open Dec Words V4 V6 Ad Ci Ba
set_option linter.unusedVariables false
/-- What the statements lean on of package banfile. -/
structure FileApi : Prop where
  text : ∀ (v : Value) (l : List Ban) (W : World), Bans W v l → l.length ≤ 60 → (∀ x ∈ l, x.ok) → Calls Tryz.prog 8 #[v] W fun e w' => e = .returned (.string ⟨(fileText l).toArray⟩) ∧ Below W.heap.size W w'
  parse : ∀ (s : List UInt8) (most : Int) (W : World), s.length ≤ 10000 → -9223372036854775808 ≤ most ∧ most ≤ 9223372036854775807 → Lens W → Calls Tryz.prog 6 #[.string ⟨s.toArray⟩, .int .i64 most] W fun e w' => ∃ u, e = .returned (.tuple #[u, .int .i64 (fileP s most).2.1, .int .i64 (fileP s most).2.2]) ∧ Bans w' u (fileP s most).1 ∧ Below W.heap.size W w'
theorem ex_one : fileP [49, 48, 46, 48, 46, 48, 46, 48, 47, 56, 32, 117, 110, 116, 105, 108, 32, 53, 10, 57, 46, 48, 46, 48, 46, 48, 47, 56, 32, 117, 110, 116, 105, 108, 32, 55, 10] 2 = ([(⟨⟨⟨false, 0, 150994944⟩, 8⟩, 7⟩ : Ban), (⟨⟨⟨false, 0, 167772160⟩, 8⟩, 5⟩ : Ban)], 0, 0) := by kernel_rfl
theorem ex_two : fileP [49, 48, 46, 48, 46, 48, 46, 48, 47, 56, 32, 117, 110, 116, 105, 108, 32, 53, 10, 120, 10] 9 = ([], 2, 2) := by kernel_rfl
theorem ex_text : fileText [(⟨⟨⟨false, 0, 150994944⟩, 8⟩, 7⟩ : Ban)] = [57, 46, 48, 46, 48, 46, 48, 47, 56, 32, 117, 110, 116, 105, 108, 32, 55, 10] := by kernel_rfl
set_option maxHeartbeats 8000000 in
theorem awake14_any (T : FileApi) (w : World) (hL : Lens w) : Calls Tryz.prog 5 #[] w fun e w' => e = .returned (.bool true) ∧ Below w.heap.size w w' := by
  have k9 : ((⟨⟨⟨false, 0, 150994944⟩, 8⟩, 7⟩ : Ban)).ok := ⟨⟨⟨by decide, by decide⟩, by decide, by decide⟩, by decide, by decide⟩
  have P1 := Lib.hid (T.parse [49, 48, 46, 48, 46, 48, 46, 48, 47, 56, 32, 117, 110, 116, 105, 108, 32, 53, 10, 57, 46, 48, 46, 48, 46, 48, 47, 56, 32, 117, 110, 116, 105, 108, 32, 55, 10] 2 w (by decide) (by decide) hL)
  have P2 := Lib.hid (fun W h => T.parse [49, 48, 46, 48, 46, 48, 46, 48, 47, 56, 32, 117, 110, 116, 105, 108, 32, 53, 10, 120, 10] 9 W (by decide) (by decide) h)
  have T1 := Lib.hid (fun v W h => T.text v [(⟨⟨⟨false, 0, 150994944⟩, 8⟩, 7⟩ : Ban)] W h (by decide) (fun x hx => by rcases List.mem_cons.1 hx with rfl | hx; exact k9; cases hx))
  rw [ex_one] at P1
  rw [ex_two] at P2
  rw [ex_text] at T1
  clear k9
  go_enter Tryz.func5, Tryz.ntmps5
  go_wp2_with fail
  refine P1.out.mono ?_
  rintro e w1 ⟨u, rfl, hR, hb1⟩
  have HR := Lib.hid hR
  obtain ⟨A, c, rfl, hc, -, hcell⟩ := hR
  obtain ⟨b, o, rfl, hb, hcc⟩ := hcell (by decide)
  have HL1 := Lib.hid (hL.below hb1)
  have g4 : w1.cell? ⟨b, o + 0 * 5 + 4, none⟩ = some (.int .i64 7) := hcc 0 (by decide) 4 _ rfl
  rw [show o + 0 * 5 + 4 = o + 4 by omega] at g4
  clear hcc hcell P1
  go_wp2_with fail
  refine (P2.out _ HL1.out).mono ?_
  rintro e w2 ⟨u2, rfl, hR2, hb2⟩
  obtain ⟨A2, c2, rfl, -, -, -⟩ := hR2
  have q4 := cells_left hb2 g4
  have HT := Lib.hid (T1.out _ w2 ((HR.out.below hb2).part (i := 1) (by decide)))
  have HB := Lib.hid (low_trans hb1 hb2)
  have hc2 : (2 : Nat) ≤ c := hc
  have hc3 : (1 : Int) ≤ (c : Int) := by omega
  clear hb1 hb2 g4 T1 P2
  go_wp2_with fail
  refine HT.out.mono ?_
  rintro e w3 ⟨rfl, hb3⟩
  go_wp2_with fail
  go_ret
  exact ⟨rfl, low_trans HB.out hb3⟩
end Go.Proofs.YtefkolkagebffaaGreatDoor
