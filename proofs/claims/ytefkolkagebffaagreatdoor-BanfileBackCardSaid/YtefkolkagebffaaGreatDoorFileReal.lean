/- Contracts of package banfile, first part: the order of bans, the test of two bans, a list put in order. -/
import Derived.Test.YtefkolkagebffaaGreatDoorSrtSort
import Derived.Test.YtefkolkagebffaaGreatDoorBansAll
import Derived.Test.YtefkolkagebffaaGreatDoorLaw14
import Derived.Test.YtefkolkagebffaaGreatDoorBan
import Derived.Test.YtefkolkagebffaaGreatDoorBansKit
import Derived.Test.YtefkolkagebffaaGreatDoorLibB
import Derived.Lib.Builder
import Derived.Lib.AppendStr
import Derived.Lib.UnsafeStr
import Derived.Laws.Externs
import Derived.Laws.AppendOwn
import Derived.Test.YtefkolkagebffaaGreatDoorBanDoor
import Derived.Test.YtefkolkagebffaaGreatDoorBlk
import Derived.Test.YtefkolkagebffaaGreatDoorBansMath
import Derived.MapKept
import Derived.ChangeMaps5
import Derived.Carry
import Derived.Test.YtefkolkagebffaaGreatDoorBanRead
import Derived.Test.YtefkolkagebffaaGreatDoorWordsLines
namespace Go.Proofs.YtefkolkagebffaaGreatDoor.Ba
set_option maxRecDepth 100000
open Go.ChangeShapes Go.WideShapes Go.ChangeAt Go.RowKit
open Dec Words V4 V6 Ad Ci
set_option linter.unusedVariables false
def ltB (x y : Ban) : Bool := decide (cmpN x.n y.n < 0)
theorem ltB_order : Sort.SWO ltB := ⟨fun x => by
    have := (cmpN_zero x.n x.n).2 rfl
    unfold ltB; simp; omega, fun x y z h1 h2 => by
    unfold ltB at *
    simp at *
    exact cmpN_less h1 h2, fun x y z h1 h2 => by
    unfold ltB at *
    simp at *
    have f1 := cmpN_flip x.n y.n
    have f2 := cmpN_flip y.n z.n
    have f3 := cmpN_flip x.n z.n
    have := cmpN_le (a := z.n) (b := y.n) (c := x.n) (by omega) (by omega)
    omega⟩
theorem right_two {x y : Ban} (hx : rightB x = true) (hy : rightB y = true) : rightL [x, y] = ltB x y := by
  unfold rightL ltB
  rw [decide_eq_decide]
  unfold Right Sorted
  simp [hx, hy]
theorem splice_lead (X T vs : List Value) (o : Nat) (h : o + vs.length ≤ X.length) : splice (X ++ T) o vs = splice X o vs ++ T := by
  unfold splice
  rw [List.take_append_of_le_length (by omega), List.drop_append_of_le_length (by omega)]
  simp
theorem splice_one (D : List Ban) (i : Nat) (x : Ban) (h : i < D.length) : splice D i [x] = D.set i x := by
  unfold splice
  rw [List.set_eq_take_append_cons_drop, if_pos h]
  simp
theorem swap_flat (d : Array Ban) (tail : List Value) {i j : Nat} (hi : i < d.size) (hj : j < d.size) :
    splice (splice (flat encB d.toList ++ tail) (i * 5) (encB d[j]!)) (j * 5) (encB d[i]!) = flat encB (Sort.swp d i j).toList ++ tail := by
  have hl : (flat encB d.toList).length = d.size * 5 := by rw [flat_len encB_len]; simp
  have e1 : splice (flat encB d.toList ++ tail) (i * 5) (encB d[j]!) = flat encB (d.toList.set i d[j]!) ++ tail := by
    rw [splice_lead _ _ _ _ (by rw [hl, encB_len]; omega), ← flat_one encB d[j]!, flat_splice encB_len, splice_one _ _ _ (by simpa using hi)]
  rw [e1, splice_lead _ _ _ _ (by rw [flat_len encB_len, encB_len]; simp; omega), ← flat_one encB d[i]!, flat_splice encB_len, splice_one _ _ _ (by simpa using hj)]
  congr 2
  unfold Sort.swp
  simp [Array.setIfInBounds, hi, hj]
/-- A list of right bans in a block g, its slice in a box B. -/
structure Ar (g B n c : Nat) (tail : List Value) (d : Array Ban) (W : World) : Prop where
  dat : Blk W g 40 (flat encB d.toList ++ tail)
  box : Blk W B 22 [.slice (some ⟨g, 0, none⟩) n c]
  size : d.size = n
  good : ∀ x ∈ d.toList, x.ok ∧ rightB x = true
section
variable {g B n c : Nat} {tail : List Value} {d : Array Ban} {W : World}
theorem Ar.at (h : Ar g B n c tail d W) {i : Nat} (hi : i < n) {j : Nat} {u : Value} (hu : (encB d[i]!)[j]? = some u) : W.cell? ⟨g, i * 5 + j, none⟩ = some u := by
  have hs := h.size
  have hj : j < 5 := by have := (List.getElem?_eq_some_iff.1 hu).1; rwa [encB_len] at this
  have hil : i < d.toList.length := by simp; omega
  refine h.dat.cell ?_
  rw [List.getElem?_append_left (by rw [flat_len encB_len]; simp; omega), flat_at encB_len _ i j hil hj, ← hu]
  congr 2
  rw [getElem!_pos d i (by omega)]
  simp
theorem Ar.mem (h : Ar g B n c tail d W) {i : Nat} (hi : i < n) : d[i]!.ok ∧ rightB d[i]! = true := by
  have hs := h.size
  refine h.good _ ?_
  rw [getElem!_pos d i (by omega)]
  simp
theorem Ar.keep {W' : World} (h : Ar g B n c tail d W) {b0 : Nat} (hb : Below b0 W W') (hg : g < b0) (hB : B < b0) : Ar g B n c tail d W' :=
  ⟨(hb.block g hg).trans h.dat, (hb.block B hB).trans h.box, h.size, h.good⟩
theorem swp_good (h : ∀ x ∈ d.toList, x.ok ∧ rightB x = true) {i j : Nat} (hi : i < d.size) (hj : j < d.size) : ∀ x ∈ (Sort.swp d i j).toList, x.ok ∧ rightB x = true := by
  have hp := Sort.swp_permIn d 0 d.size i j (Nat.zero_le _) hi (Nat.zero_le _) hj (Nat.le_refl _)
  intro x hx
  have hp2 := hp.2.2
  have hs := hp.1
  have e1 : (Sort.swp d i j).extract 0 d.size = Sort.swp d i j := by rw [← hs]; simp
  have e2 : d.extract 0 d.size = d := by simp
  rw [e1, e2] at hp2
  exact h x (hp2.mem_iff.1 hx)
abbrev LS (g o1 o2 B n c : Nat) (x y : Ban) (W w' : World) : Prop := w'.cell? ⟨B, 0, none⟩ = some (.slice (some ⟨g, 0, none⟩) n c) ∧
  w'.cell? ⟨g, o1, none⟩ = some (.bool x.n.a.v6) ∧ w'.cell? ⟨g, o1 + 1, none⟩ = some (.int .u64 x.n.a.hi) ∧ w'.cell? ⟨g, o1 + 2, none⟩ = some (.int .u64 x.n.a.lo) ∧ w'.cell? ⟨g, o1 + 3, none⟩ = some (.int .i64 x.n.n) ∧ w'.cell? ⟨g, o1 + 4, none⟩ = some (.int .i64 x.t) ∧
  w'.cell? ⟨g, o2, none⟩ = some (.bool y.n.a.v6) ∧ w'.cell? ⟨g, o2 + 1, none⟩ = some (.int .u64 y.n.a.hi) ∧ w'.cell? ⟨g, o2 + 2, none⟩ = some (.int .u64 y.n.a.lo) ∧ w'.cell? ⟨g, o2 + 3, none⟩ = some (.int .i64 y.n.n) ∧ w'.cell? ⟨g, o2 + 4, none⟩ = some (.int .i64 y.t) ∧ Stays W w'
set_option maxHeartbeats 8000000 in
theorem less_any (h : Ar g B n c tail d W) (hn : n ≤ 1000000) {i j : Nat} (hi : i < n) (hj : j < n) :
    Calls Tryz.prog 33 #[.int .i64 i, .int .i64 j, .pointer (some ⟨B, 0, none⟩)] W fun e w' => e = .returned (.bool (ltB d[i]! d[j]!)) ∧ Below W.heap.size W w' := by
  have cb : W.cell? ⟨B, 0, none⟩ = some (.slice (some ⟨g, 0, none⟩) n c) := h.box.cell rfl
  have hx := h.mem hi
  have hy := h.mem hj
  have x0 := h.at hi (j := 0) rfl
  have x1 := h.at hi (j := 1) rfl
  have x2 := h.at hi (j := 2) rfl
  have x3 := h.at hi (j := 3) rfl
  have x4 := h.at hi (j := 4) rfl
  have y0 := h.at hj (j := 0) rfl
  have y1 := h.at hj (j := 1) rfl
  have y2 := h.at hj (j := 2) rfl
  have y3 := h.at hj (j := 3) rfl
  have y4 := h.at hj (j := 4) rfl
  rw [Nat.add_zero] at x0 y0
  clear h
  generalize d[i]! = x at *
  generalize d[j]! = y at *
  have hiz : (i : Int) < (n : Int) := by omega
  have hjz : (j : Int) < (n : Int) := by omega
  obtain ⟨R, hR⟩ : ∃ R, R = ltB x y := ⟨_, rfl⟩
  have hk0 : LS g (i * 5) (j * 5) B n c x y W W := ⟨cb, x0, x1, x2, x3, x4, y0, y1, y2, y3, y4, Below.refl _ _⟩
  have IN : ∀ W', Stays W W' → LS g (i * 5) (j * 5) B n c x y W W' := fun W' hs => ⟨cells_left hs cb, cells_left hs x0, cells_left hs x1, cells_left hs x2, cells_left hs x3, cells_left hs x4, cells_left hs y0, cells_left hs y1, cells_left hs y2, cells_left hs y3, cells_left hs y4, hs⟩
  have KR : Hid (∀ W1 : World, LS g (i * 5) (j * 5) B n c x y W W1 → Calls Tryz.prog 34 #[.slice (some ⟨W1.heap.size, 0, none⟩) 2 2] (W1.alloc (.cells #[.bool x.n.a.v6, .int .u64 x.n.a.hi, .int .u64 x.n.a.lo, .int .i64 x.n.n, .int .i64 x.t, .bool y.n.a.v6, .int .u64 y.n.a.hi, .int .u64 y.n.a.lo, .int .i64 y.n.n, .int .i64 y.t] 40)).drew fun e w' => e = .returned (.bool R) ∧ LS g (i * 5) (j * 5) B n c x y W w') := Lib.hid fun W1 h1 => by
    have hs := h1.2.2.2.2.2.2.2.2.2.2.2
    have hc := right_any _ [x, y] (W1.alloc (.cells #[.bool x.n.a.v6, .int .u64 x.n.a.hi, .int .u64 x.n.a.lo, .int .i64 x.n.n, .int .i64 x.t, .bool y.n.a.v6, .int .u64 y.n.a.hi, .int .u64 y.n.a.lo, .int .i64 y.n.n, .int .i64 y.t] 40)).drew ((Recs.lit encB_len W1 [x, y] #[.bool x.n.a.v6, .int .u64 x.n.a.hi, .int .u64 x.n.a.lo, .int .i64 x.n.n, .int .i64 x.t, .bool y.n.a.v6, .int .u64 y.n.a.hi, .int .u64 y.n.a.lo, .int .i64 y.n.n, .int .i64 y.t] 40 rfl).below (low_drewN (Below.refl _ _) 1)) (by simp) (fun z hz => by simp at hz; rcases hz with rfl | rfl; exact hx.1; exact hy.1)
    rw [right_two hx.2 hy.2, ← hR] at hc
    exact hc.mono fun e w' ⟨he, hb⟩ => ⟨he, IN _ (low_trans (low_drewN (Below.alloc hs hs.size _) 1) hb)⟩
  have JD : Hid (∀ W1, LS g (i * 5) (j * 5) B n c x y W W1 → LS g (i * 5) (j * 5) B n c x y W W1.drew) := Lib.hid fun W1 h1 => IN _ (low_drewN h1.2.2.2.2.2.2.2.2.2.2.2 1)
  have JA : Hid (∀ W1 o, LS g (i * 5) (j * 5) B n c x y W W1 → LS g (i * 5) (j * 5) B n c x y W (W1.alloc o)) := Lib.hid fun W1 o h1 => IN _ (Below.alloc h1.2.2.2.2.2.2.2.2.2.2.2 h1.2.2.2.2.2.2.2.2.2.2.2.size o)
  have HR := Lib.hid hR
  rw [← hR]
  clear IN hR hx hy x0 x1 x2 x3 x4 y0 y1 y2 y3 y4 cb
  obtain ⟨cb, x0, x1, x2, x3, x4, y0, y1, y2, y3, y4, hs⟩ := id hk0
  go_enter Tryz.func33, Tryz.ntmps33
  go_wp2_with fail
  go_region_held3 (fun w' => w'.cell? ⟨B, 0, none⟩ = some (.slice (some ⟨g, 0, none⟩) n c) ∧ w'.cell? ⟨g, i * 5, none⟩ = some (.bool x.n.a.v6) ∧ w'.cell? ⟨g, i * 5 + 1, none⟩ = some (.int .u64 x.n.a.hi) ∧ w'.cell? ⟨g, i * 5 + 2, none⟩ = some (.int .u64 x.n.a.lo) ∧ w'.cell? ⟨g, i * 5 + 3, none⟩ = some (.int .i64 x.n.n) ∧ w'.cell? ⟨g, i * 5 + 4, none⟩ = some (.int .i64 x.t) ∧ w'.cell? ⟨g, j * 5, none⟩ = some (.bool y.n.a.v6) ∧ w'.cell? ⟨g, j * 5 + 1, none⟩ = some (.int .u64 y.n.a.hi) ∧ w'.cell? ⟨g, j * 5 + 2, none⟩ = some (.int .u64 y.n.a.lo) ∧ w'.cell? ⟨g, j * 5 + 3, none⟩ = some (.int .i64 y.n.n) ∧ w'.cell? ⟨g, j * 5 + 4, none⟩ = some (.int .i64 y.t) ∧ Stays W w')
    (repeat (first | (with_reducible assumption) | (with_reducible refine JD.out _ ?_) | (with_reducible refine JA.out _ _ ?_)))
    (first | (go_at_call 34; (with_reducible refine (KR.out _ (by (repeat (first | (with_reducible assumption) | refine JD.out _ ?_)))).mono ?_); rintro e w9 ⟨rfl, hkw⟩; obtain ⟨cb, x0, x1, x2, x3, x4, y0, y1, y2, y3, y4, hs⟩ := id hkw))
  all_goals
    clear KR JD JA
    go_wp2_with fail
    go_ret
    exact ⟨rfl, hs⟩
theorem swap_run (h : Ar g B n c tail d W) {i j : Nat} (hi : i < n) (hj : j < n) :
    ∃ W1, (callFunc 101 (#[.int .i64 i, .int .i64 j] ++ #[.slice (some ⟨g, 0, none⟩) n c, Srt.hand 40])).run Tryz.prog W = .ok (.value (.tuple #[])) W1 ∧
      Blk W1 g 40 (flat encB (Sort.swp d i j).toList ++ tail) ∧ Bt g W W1 := by
  obtain ⟨ie, hie, h5, _, _⟩ := Srt.info_ban
  have hs := h.size
  have hl : (flat encB d.toList).length = n * 5 := by rw [flat_len encB_len]; simp [hs]
  have o1 : ∀ x : Ban, ∀ v ∈ encB x, v.oneCell' = true := encB_one
  have hr := Lib.run_swap_cells (P := Tryz.prog) false 40 ie hie (fun _ => by kernel_rfl) g 0 n c i j hi hj (encB d[i]!) (encB d[j]!) (by rw [encB_len, h5]) (by rw [encB_len, h5]) (o1 _) (o1 _) W
    (fun k v hv => by rw [h5, Nat.zero_add]; exact h.at hi hv) (fun k v hv => by rw [h5, Nat.zero_add]; exact h.at hj hv) (fun k _ => h.dat.free _) (fun k _ => h.dat.free _)
  rw [h5, Nat.zero_add, Nat.zero_add] at hr
  have s1 := setCells_blk g 40 (encB d[j]!) (i * 5) W _ h.dat (by rw [encB_len, List.length_append, hl]; omega)
  have s2 := setCells_blk g 40 (encB d[i]!) (j * 5) _ _ s1.1 (by rw [encB_len, length_splice _ _ _ (by rw [encB_len, List.length_append, hl]; omega), List.length_append, hl]; omega)
  refine ⟨_, ?_, ?_, s1.2.trans s2.2⟩
  · rw [run_callFunc_extern Tryz.func101 (by kernel_rfl) (by kernel_rfl) (by kernel_rfl) (e := Extern.ReflectliteSwapper.swap false) (by kernel_rfl),
      show Sem.run Tryz.prog (Extern.ReflectliteSwapper.swap false (#[.int .i64 i, .int .i64 j] ++ #[.slice (some ⟨g, 0, none⟩) n c, Srt.hand 40])) W = _ from hr]
    rfl
  · have := s2.1
    rwa [swap_flat d tail (by omega) (by omega)] at this
theorem ar_srt (hn : n ≤ 1000000) (hgB : g < B) : Srt.Srt Tryz.prog 33 101 #[.pointer (some ⟨B, 0, none⟩)] #[.slice (some ⟨g, 0, none⟩) n c, Srt.hand 40] g (B + 1) n ltB (Ar g B n c tail) where
  enter := enters_of Tryz.func33 (by kernel_rfl) rfl
  gb := by omega
  small := hn
  low := fun h => ⟨h.box.lt, h.size⟩
  keep := fun h hb => h.keep hb (by omega) (by omega)
  less := fun h hi hj => less_any h hn hi hj
  swap := fun h hi hj => by
    obtain ⟨W1, h1, h2, h3⟩ := swap_run h hi hj
    have hs := h.size
    exact ⟨W1, h1, ⟨h2, h.box.but h3 (by omega), by rw [Sort.size_swp]; exact hs, swp_good h.good (by omega) (by omega)⟩, h3⟩
theorem perm_list {n : Nat} {d d' : Array Ban} (hs : d.size = n) (h : Sort.PermIn 0 n d d') : d'.toList.Perm d.toList := by
  have hp := h.2.2
  have e1 : d'.extract 0 n = d' := by rw [← hs, ← h.1]; simp
  have e2 : d.extract 0 n = d := by rw [← hs]; simp
  rwa [e1, e2] at hp
theorem sorted_list {n : Nat} {d : Array Ban} (hs : d.size = n) (h : Sort.SortedIn ltB 0 n d) : d.toList.Pairwise fun x y => ltB y x = false := by
  rw [List.pairwise_iff_getElem]
  intro i j hi hj hij
  have hj2 : j < d.size := by simpa using hj
  have hi2 : i < d.size := by simpa using hi
  have := h i j (Nat.zero_le _) hij (by omega)
  rw [getElem!_pos d i hi2, getElem!_pos d j hj2] at this
  simpa using this
theorem ownB_on {b : Nat} {w w' : World} {v : Value} {l : List Ban} (h : OwnB b w v l) (hb : Below w.heap.size w w') : OwnB b w' v l := by
  obtain ⟨hlen, ⟨e, h0⟩ | ⟨g, cap, cur, e, hbg, hgw, hcap, hmax, hsz, htk⟩⟩ := h
  · exact ⟨hlen, Or.inl ⟨e, h0⟩⟩
  · exact ⟨hlen, Or.inr ⟨g, cap, cur, e, hbg, (hb.block g (lt_of_block hgw)).trans hgw, hcap, hmax, hsz, htk⟩⟩
/-- What becomes of a list that is put in order. -/
def Put (b : Nat) (v : Value) (l : List Ban) (w w' : World) : Prop := ∃ l' : List Ban, l'.Perm l ∧ l'.Pairwise (fun x y => ltB y x = false) ∧ OwnB b w' v l' ∧ Below b w w'
set_option maxHeartbeats 4000000 in
theorem arrange_any (b : Nat) (v : Value) (l : List Ban) (w : World) (hown : OwnB b w v l) (hb : b ≤ w.heap.size) (hg : ∀ x ∈ l, x.ok ∧ rightB x = true) (hl : l.length ≤ 1000000) :
    Calls Tryz.prog 14 #[v] w fun e w' => e = .returned (.tuple #[]) ∧ Put b v l w w' := by
  by_cases h2 : 2 ≤ l.length
  · obtain ⟨hlen, ⟨rfl, h0⟩ | ⟨g, cap, cur, rfl, hbg, hgw, hcap, hmax, hsz, htk⟩⟩ := id hown
    · omega
    · obtain ⟨n, hn⟩ : ∃ n, n = l.length := ⟨_, rfl⟩
      obtain ⟨tail, ht⟩ : ∃ tail, tail = cur.toList.drop (l.length * 5) := ⟨_, rfl⟩
      have hcur : cur.toList = flat encB l ++ tail := by rw [ht, ← htk, List.take_append_drop]
      have hblk : Blk w g 40 (flat encB l ++ tail) := by unfold Blk; rw [hgw, ← hcur]
      have hgl := hblk.lt
      have hA : Ar g w.heap.size n cap tail l.toArray (w.alloc (.cells #[.slice (some ⟨g, 0, none⟩) n cap] 22)) := ⟨by simpa using hblk.alloc _, Blk.new _ _ _, by simp [hn], by simpa using hg⟩
      have K := Lib.hid (Srt.slice_any (ar_srt (c := cap) (tail := tail) (by omega : n ≤ 1000000) (by omega : g < w.heap.size)) ltB_order (by omega) hA)
      have cb : (w.alloc (.cells #[.slice (some ⟨g, 0, none⟩) n cap] 22)).cell? ⟨w.heap.size, 0, none⟩ = some (.slice (some ⟨g, 0, none⟩) n cap) := hA.box.cell rfl
      have FIN : Hid (∀ w1 d', Ar g w.heap.size n cap tail d' w1 → Bt g (w.alloc (.cells #[.slice (some ⟨g, 0, none⟩) n cap] 22)) w1 → Sort.PermIn 0 n l.toArray d' → Sort.SortedIn ltB 0 n d' → Put b (.slice (some ⟨g, 0, none⟩) n cap) l w w1) := Lib.hid fun w1 d' h1 h2 h3 h4 => by
        have hp := perm_list (by simp [hn]) h3
        have hln : d'.toList.length = n := by rw [hp.length_eq, hn]
        refine ⟨d'.toList, by simpa using hp, sorted_list h1.size h4, ⟨by rw [flat_len encB_len], Or.inr ⟨g, cap, (flat encB d'.toList ++ tail).toArray, by rw [hln], hbg, h1.dat, by rw [hln]; omega, hmax, ?_, ?_⟩⟩, ((Below.refl _ _).alloc hb _).trans (h2.low hbg (by simp; omega))⟩
        · have e : (flat encB d'.toList ++ tail).length = cur.toList.length := by rw [hcur, List.length_append, List.length_append, flat_len encB_len, flat_len encB_len, hln, hn]
          simpa using e.trans (by simpa using hsz)
        · have e : d'.toList.length * 5 = (flat encB d'.toList).length := by rw [flat_len encB_len]
          rw [e]
          simp
      rw [← hn]
      clear hown hcur hblk ht htk hgw hsz hlen hA hg hn hcap hmax
      go_enter Tryz.func14, Tryz.ntmps14
      go_wp2_with fail
      refine K.out.mono ?_
      rintro e w1 ⟨rfl, d', h1, h3, h4, h5⟩
      have E := Lib.hid (FIN.out w1 d' h1 h3 h4 h5)
      clear h1 h3 h4 h5 K FIN cb
      go_wp2_with fail
      go_end0
      exact ⟨rfl, E.out⟩
  · obtain ⟨A, n, c, rfl, hn⟩ : ∃ A n c, v = .slice A n c ∧ n = l.length := by
      obtain ⟨hlen, ⟨rfl, h0⟩ | ⟨g, cap, cur, rfl, hbg, hgw, hcap, hmax, hsz, htk⟩⟩ := hown
      · exact ⟨none, 0, 0, rfl, h0.symm⟩
      · exact ⟨_, _, _, rfl, rfl⟩
    have hn1 : n ≤ 1 := by omega
    have K := Lib.hid (fun W => Srt.slice_tiny (lf := .func 33) (la := #[]) (lb := #[.pointer (some ⟨w.heap.size, 0, none⟩)]) A n c hn1 W)
    have cb : (w.alloc (.cells #[.slice A n c] 22)).cell? ⟨w.heap.size, 0, none⟩ = some (.slice A n c) := cell_at _ _ _ 0 _ rfl
    have FIN : Hid (∀ w1, Below (w.alloc (.cells #[.slice A n c] 22)).heap.size (w.alloc (.cells #[.slice A n c] 22)) w1 → Put b (.slice A n c) l w w1) := Lib.hid fun w1 h1 => by
      have hlow : Below w.heap.size w w1 := ((Below.refl _ _).alloc (Nat.le_refl _) _).trans (h1.mono (by simp))
      refine ⟨l, List.Perm.refl _, ?_, ?_, hlow.mono hb⟩
      · match l, hn, hn1 with
        | [], _, _ => exact List.Pairwise.nil
        | [x], _, _ => simp
        | x :: y :: r, h, h' => simp at h; omega
      · exact ownB_on hown hlow
    clear hown hn hg
    go_enter Tryz.func14, Tryz.ntmps14
    go_wp2_with fail
    refine (K.out _).mono ?_
    rintro e w1 ⟨rfl, h1⟩
    have E := Lib.hid (FIN.out w1 h1)
    clear h1 K FIN cb
    go_wp2_with fail
    go_end0
    exact ⟨rfl, E.out⟩
end
end Go.Proofs.YtefkolkagebffaaGreatDoor.Ba
/- Contracts of package banfile, second part: a text that is built by a strings.Builder; Text. -/
namespace Go.Proofs.YtefkolkagebffaaGreatDoor.Ba
set_option maxRecDepth 100000
open Go.ChangeShapes Go.WideShapes Go.ChangeAt Go.RowKit
open Dec Words V4 V6 Ad Ci
set_option linter.unusedVariables false
/-- A builder in block b that holds these bytes; everything that it holds was made since b. -/
abbrev Bld (b : Nat) (w : World) (S : List UInt8) : Prop := Lib.IsBuilder 56 5 b b (Lib.byteCells S) w
abbrev Used (b : Nat) (w : World) (S : List UInt8) : Prop := Lib.BuilderAt 56 5 b b (.pointer (some ⟨b, 0, none⟩)) (Lib.byteCells S) w
theorem info_builder : ∃ j, Tryz.prog.info? 56 = some j ∧ j.size = 2 := by
  have h : (Tryz.prog.info? 56).map (·.size) = some 2 := by kernel_rfl
  cases hq : Tryz.prog.info? 56 with
  | none => rw [hq] at h; cases h
  | some i => exact ⟨i, rfl, by rw [hq] at h; simpa using h⟩
set_option maxHeartbeats 1000000 in
theorem check_any {b : Nat} {w : World} {S : List UInt8} (h : Bld b w S) :
    Calls Tryz.prog 39 #[.pointer (some ⟨b, 0, none⟩)] w fun e w' => e = .returned (.tuple #[]) ∧ Used b w' S ∧ Below b w w' := by
  obtain ⟨j, hj, hjs⟩ := info_builder
  rcases h with h | h
  · have c0 := h.cell0
    have f0 := h.frozen0
    have g1 : (convert 53 91 (.pointer (some ⟨b, 0, none⟩))).run Tryz.prog w = .ok (.pointer (some ⟨b, 0, none⟩)) w :=
      Lib.run_to_unsafe (P := Tryz.prog) w ⟨b, 0, none⟩ Tryz.underlying53 Tryz.underlying91 hj (by rw [hjs]; decide) h.shape (Nat.zero_lt_succ 1)
    have g2 : (callFunc 69 #[.pointer (some ⟨b, 0, none⟩)]).run Tryz.prog w = .ok (.value (.pointer (some ⟨b, 0, none⟩))) w := by
      rw [run_callFunc_extern Tryz.func69 (by kernel_rfl) (by kernel_rfl) (by kernel_rfl) (e := Extern.AbiNoEscape.same) (by kernel_rfl), Lib.run_noEscape]
      rfl
    have g3 : (convert 91 53 (.pointer (some ⟨b, 0, none⟩))).run Tryz.prog w = .ok (.pointer (some ⟨b, 0, none⟩)) w :=
      Lib.run_from_unsafe (P := Tryz.prog) w ⟨b, 0, none⟩ Tryz.underlying91 Tryz.underlying53 hj h.shape (by kernel_rfl)
    have FIN := Lib.hid (h.used (.pointer (some ⟨b, 0, none⟩)))
    have HB := Lib.hid ((Below.refl b w).setCell (p := ⟨b, 0, none⟩) (Nat.le_refl _) (.pointer (some ⟨b, 0, none⟩)))
    clear h hj hjs
    go_enter Tryz.func39, Tryz.ntmps39
    go_wp2_with fail
    go_end0
    exact ⟨rfl, FIN.out, HB.out⟩
  · have c0 := h.cell0
    have g1 := Lib.run_neq_ptr_same (P := Tryz.prog) w ⟨b, 0, none⟩ Tryz.underlying53 hj
    have FIN := Lib.hid h
    clear h hj hjs
    go_enter Tryz.func39, Tryz.ntmps39
    go_wp2_with fail
    go_end0
    exact ⟨rfl, FIN.out, Below.refl _ _⟩
theorem info_byte : ∃ i, Tryz.prog.info? 5 = some i ∧ i.zero = some (.int .u8 0) ∧ i.size = 1 ∧ i.bytes = 1 := by
  have h : (Tryz.prog.info? 5).map (fun i => (i.zero, i.size, i.bytes)) = some (some (.int .u8 0), 1, 1) := by kernel_rfl
  obtain ⟨i, h1, h2, h3, h4⟩ := info_parts h
  exact ⟨i, h1, h2, h3, h4⟩
theorem slice_of {B b : Nat} {e : TypeId} {w : World} {v : Value} {n : Nat} {xs : List Value} (h : w.ownsRow B e 1 v n xs) : ∃ A m c, v = .slice A m c := by
  rcases h.2 with ⟨hv, _⟩ | ⟨g, cap, cur, hv, _⟩
  · exact ⟨_, _, _, hv⟩
  · exact ⟨_, _, _, hv⟩
set_option maxHeartbeats 4000000 in
theorem writeS_any {b : Nat} {w : World} {S X : List UInt8} (h : Bld b w S) (hl : S.length + X.length ≤ 100000000) (hb : b ≤ w.heap.size) :
    Calls Tryz.prog 20 #[.pointer (some ⟨b, 0, none⟩), .string ⟨X.toArray⟩] w fun e w' => ∃ v, e = .returned v ∧ Bld b w' (S ++ X) ∧ Below b w w' := by
  obtain ⟨i, hi, hz0, hz1, hz2⟩ := info_byte
  have K := Lib.hid (check_any h)
  have hXs : (⟨X.toArray⟩ : ByteArray).size = X.length := by show X.toArray.size = _; simp
  have hSl : (Lib.byteCells S).length = S.length := Lib.byteCells_length S
  have HX := Lib.hid hXs
  have HSl := Lib.hid hSl
  clear hXs hSl h
  go_enter Tryz.func20, Tryz.ntmps20
  go_wp2_with fail
  refine K.out.mono ?_
  rintro e w1 ⟨rfl, h1, hb1⟩
  obtain ⟨hB, v, hbk, hown, hne⟩ := h1
  have c0 : w1.cell? ⟨b, 0, none⟩ = some (.pointer (some ⟨b, 0, none⟩)) := by rw [Lib.cell_of_heap hbk]; rfl
  have c1 : w1.cell? ⟨b, 1, none⟩ = some v := by rw [Lib.cell_of_heap hbk]; rfl
  have hbl : b < w1.heap.size := lt_of_block hbk
  clear K
  go_wp2_with (at_builtin; refine Lib.wpList_append_own_string _ rfl _ _ 54 9 rfl b 5 i Tryz.underlying54 Tryz.underlying9 hi hz0 hz1 hz2 _ _ _ rfl hown ⟨X.toArray⟩ rfl ?c3 ?c4 ?c5 ?_)
  case c3 => unfold maxLen; rw [HX.out, HSl.out]; omega
  case c4 => rw [HX.out, HSl.out]; omega
  case c5 => omega
  intro v2 w2 hown2 hgrow _
  have hb2 : w2.heap[b]? = some (.cells #[.pointer (some ⟨b, 0, none⟩), v] 56 (0, 0)) := by rw [hgrow.block b hbl (fun e => hne e.symm)]; exact hbk
  have d0 : w2.cell? ⟨b, 0, none⟩ = some (.pointer (some ⟨b, 0, none⟩)) := by rw [Lib.cell_of_heap hb2]; rfl
  have d1 : w2.cell? ⟨b, 1, none⟩ = some v := by rw [Lib.cell_of_heap hb2]; rfl
  have f1 : w2.frozen? ⟨b, 1, none⟩ = false := Lib.frozen_of_heap hb2 1
  have FIN : Hid (Bld b (w2.setCell ⟨b, 1, none⟩ v2) (S ++ X)) := Lib.hid (Or.inr (Lib.BuilderAt.put (T := 56) (e := 5) hB hb2 (by rw [Lib.byteCells_append, List.length_append, Lib.byteCells_length X, ← HX.out]; exact hown2) (by decide)))
  have HL := Lib.hid ((hb1.grown hgrow (Nat.le_of_lt hbl) (fun k hk => (hown.lt k hk).1)).setCell (p := ⟨b, 1, none⟩) hB v2)
  obtain ⟨A2, m2, q2, rfl⟩ := slice_of (B := b) (b := b) hown2
  clear hown2 hgrow hbk hb2 hown hne hb1 c0 c1
  go_wp2_with fail
  go_ret2
  exact ⟨_, rfl, FIN.out, HL.out⟩
set_option maxHeartbeats 4000000 in
theorem writeB_any {b : Nat} {w : World} {S : List UInt8} {x : Nat} (h : Bld b w S) (hl : S.length + 1 ≤ 100000000) (hb : b ≤ w.heap.size) (hx : x < 256) :
    Calls Tryz.prog 22 #[.pointer (some ⟨b, 0, none⟩), .int .u8 x] w fun e w' => ∃ v, e = .returned v ∧ Bld b w' (S ++ [UInt8.ofNat x]) ∧ Below b w w' := by
  obtain ⟨i, hi, hz0, hz1, hz2⟩ := info_byte
  have K := Lib.hid (check_any h)
  have hSl : (Lib.byteCells S).length = S.length := Lib.byteCells_length S
  have HSl := Lib.hid hSl
  have HX : Hid (Lib.byteCells [UInt8.ofNat x] = [.int .u8 x]) := Lib.hid (by unfold Lib.byteCells; simp; omega)
  clear hSl h hx
  go_enter Tryz.func22, Tryz.ntmps22
  go_wp2_with fail
  refine K.out.mono ?_
  rintro e w1 ⟨rfl, h1, hb1⟩
  obtain ⟨hB, v, hbk, hown, hne⟩ := h1
  have c0 : w1.cell? ⟨b, 0, none⟩ = some (.pointer (some ⟨b, 0, none⟩)) := by rw [Lib.cell_of_heap hbk]; rfl
  have c1 : w1.cell? ⟨b, 1, none⟩ = some v := by rw [Lib.cell_of_heap hbk]; rfl
  have hbl : b < w1.heap.size := lt_of_block hbk
  clear K
  go_wp2_with (at_builtin; refine wpList_append_own _ rfl _ _ 54 rfl b 5 i (.int .u8 0) 1 1 Tryz.underlying54 hi hz0 hz1 hz2 rfl (by decide) _ _ _ rfl (hown.alloc _) ⟨w1.heap.size, 0, none⟩ 1 1 [.int .u8 x] rfl rfl ?c1 ?c2 ?c3 ?c4 ?c5 ?_)
  case c1 =>
    intro j u hj
    match j, hj with
    | 0, hj => simp at hj; subst hj; simp [Addr.add]
  case c2 => intro u hu; simp at hu; subst hu; rfl
  case c3 => unfold maxLen; rw [HSl.out]; omega
  case c4 => rw [HSl.out]; omega
  case c5 => simp; omega
  intro v2 w2 hown2 hgrow _
  have hb2 : w2.heap[b]? = some (.cells #[.pointer (some ⟨b, 0, none⟩), v] 56 (0, 0)) := by
    rw [hgrow.block b (by simp; omega) (fun e => hne e.symm), Below.heap_alloc _ _ _ hbl]
    exact hbk
  have d0 : w2.cell? ⟨b, 0, none⟩ = some (.pointer (some ⟨b, 0, none⟩)) := by rw [Lib.cell_of_heap hb2]; rfl
  have d1 : w2.cell? ⟨b, 1, none⟩ = some v := by rw [Lib.cell_of_heap hb2]; rfl
  have f1 : w2.frozen? ⟨b, 1, none⟩ = false := Lib.frozen_of_heap hb2 1
  have FIN : Hid (Bld b (w2.setCell ⟨b, 1, none⟩ v2) (S ++ [UInt8.ofNat x])) := Lib.hid (Or.inr (Lib.BuilderAt.put (T := 56) (e := 5) hB hb2 (by rw [Lib.byteCells_append, HX.out, List.length_append]; exact hown2) (by decide)))
  have HL := Lib.hid (((hb1.alloc (Nat.le_of_lt hbl) _).grown hgrow (by simp; omega) (fun k hk => (hown.lt k hk).1)).setCell (p := ⟨b, 1, none⟩) hB v2)
  obtain ⟨A2, m2, q2, rfl⟩ := slice_of (B := b) (b := b) hown2
  clear hown2 hgrow hbk hb2 hown hne hb1 c0 c1
  go_wp2_with fail
  go_ret
  exact ⟨_, rfl, FIN.out, HL.out⟩
theorem owns_on {B : Nat} {e : TypeId} {k : Nat} {w w' : World} {v : Value} {n : Nat} {xs : List Value} (h : w.ownsRow B e k v n xs) (hb : Below w.heap.size w w') : w'.ownsRow B e k v n xs := by
  obtain ⟨hlen, h0 | ⟨g, cap, cur, e1, hbg, hgw, hr⟩⟩ := h
  · exact ⟨hlen, Or.inl h0⟩
  · exact ⟨hlen, Or.inr ⟨g, cap, cur, e1, hbg, (hb.block g (lt_of_block hgw)).trans hgw, hr⟩⟩
theorem Bld.on {b : Nat} {w w' : World} {S : List UInt8} (h : Bld b w S) (hb : Below w.heap.size w w') : Bld b w' S := by
  rcases h with ⟨h1, v, h2, h3, h4⟩ | ⟨h1, v, h2, h3, h4⟩
  · exact Or.inl ⟨h1, v, (hb.block b (lt_of_block h2)).trans h2, owns_on h3 hb, h4⟩
  · exact Or.inr ⟨h1, v, (hb.block b (lt_of_block h2)).trans h2, owns_on h3 hb, h4⟩
set_option maxHeartbeats 8000000 in
theorem text_any (v : Value) (l : List Ban) (w : World) (h : Bans w v l) (hl : l.length ≤ 100000) (hok : ∀ x ∈ l, x.ok) :
    Calls Tryz.prog 8 #[v] w fun e w' => e = .returned (.string ⟨(fileText l).toArray⟩) ∧ Below w.heap.size w w' := by
  obtain ⟨A, c, rfl, hc, -, hcell⟩ := h
  have HC := Lib.hid hcell
  have HK := Lib.hid hok
  have HB0 : Hid (Bld w.heap.size (w.alloc (.cells #[.pointer none, .slice none 0 0] 56)) []) := Lib.hid (Lib.fresh_isBuilder 56 5 w)
  have HL0 := Lib.hid ((Below.refl w.heap.size w).alloc (Nat.le_refl _) (.cells #[.pointer none, .slice none 0 0] 56))
  clear hcell
  go_enter Tryz.func8, Tryz.ntmps8
  go_wp2_with fail
  go_loopw [8] (fun si wr => ∃ (k : Nat) (S : List UInt8), k ≤ l.length ∧ si = .int .i64 k ∧ Hid (fileText (l.take k) = S) ∧ Hid (Bld w.heap.size wr S) ∧ Hid (Below w.heap.size w wr)) (fun si _ => l.length - (intOf si).toNat)
  case atStart => exact ⟨0, [], Nat.zero_le _, rfl, Lib.hid rfl, HB0, HL0⟩
  case round =>
    clear HB0 HL0
    obtain ⟨k, S, hk, rfl, HS, HBD, HB⟩ := hrel
    by_cases hlt : k < l.length
    · obtain ⟨b, o, rfl, hb, hcc⟩ := HC.out (by omega)
      obtain ⟨c0, c1, c2, c3, c4⟩ := bans_at (fun i h j u hu => (HB.out.cell (p := ⟨b, o + i * 5 + j, none⟩) hb).trans (hcc i h j u hu)) hlt
      have hxo := HK.out _ (List.getElem_mem hlt)
      have HN := Lib.hid (fileText_snoc l k hlt)
      have hkl : (k : Int) < (l.length : Int) := by omega
      have hSl : S.length ≤ 9300000 := by
        have h1 := fileText_len (l := l.take k) (fun x hx => hok x (List.mem_of_mem_take hx))
        rw [HS.out, List.length_take] at h1
        omega
      clear hcc
      generalize l[k] = x at *
      have LOW : Below wr.heap.size wr (wr.alloc (.cells #[.bool x.n.a.v6, .int .u64 x.n.a.hi, .int .u64 x.n.a.lo, .int .i64 x.n.n, .int .i64 x.t] 40)) := (Below.refl _ _).alloc (Nat.le_refl _) _
      have HBD1 := Lib.hid (HBD.out.on LOW)
      have HB1 := Lib.hid (HB.out.trans (LOW.mono HB.out.size))
      obtain ⟨m0, m1, m2, m3, m4⟩ := cell_new5 wr (.bool x.n.a.v6) (.int .u64 x.n.a.hi) (.int .u64 x.n.a.lo) (.int .i64 x.n.n) (.int .i64 x.t) 40
      have KR := Lib.hid (rightB_any x (wr.alloc (.cells #[.bool x.n.a.v6, .int .u64 x.n.a.hi, .int .u64 x.n.a.lo, .int .i64 x.n.n, .int .i64 x.t] 40)) hxo)
      clear LOW HBD HB
      cases hr : rightB x
      · have HS2 : Hid (fileText (l.take (k + 1)) = S) := Lib.hid (by rw [HN.out, HS.out, hr]; simp)
        rw [hr] at KR
        clear hr HN HS
        go_wp2_with fail
        refine KR.out.mono ?_
        rintro e w1 ⟨rfl, hb1⟩
        have HBD2 := Lib.hid (HBD1.out.on hb1)
        have HB2 := Lib.hid (HB1.out.trans (hb1.mono HB1.out.size))
        clear hb1 c0 c1 c2 c3 c4 m0 m1 m2 m3 m4 KR HBD1 HB1
        go_wp2_with fail
        go_roundw
        case rel => exact ⟨k + 1, S, by omega, by go_num, HS2, HBD2, HB2⟩
        case measure => simp [intOf]; omega
      · have HS2 : Hid (fileText (l.take (k + 1)) = S ++ textB x ++ [10]) := Lib.hid (by rw [HN.out, HS.out, hr]; simp)
        have KT := Lib.hid (fun W => textB_any x W hxo)
        have htl := textB_len hxo
        rw [hr] at KR
        clear hr HN HS
        generalize textB x = T at *
        go_wp2_with fail
        refine KR.out.mono ?_
        rintro e w1 ⟨rfl, hb1⟩
        have HBD2 := Lib.hid (HBD1.out.on hb1)
        have HB2 := Lib.hid (HB1.out.trans (hb1.mono HB1.out.size))
        have d0 := cells_left hb1 m0
        have d1 := cells_left hb1 m1
        have d2 := cells_left hb1 m2
        have d3 := cells_left hb1 m3
        have d4 := cells_left hb1 m4
        clear hb1 c0 c1 c2 c3 c4 m0 m1 m2 m3 m4 KR HBD1 HB1
        go_wp2_with fail
        refine (KT.out _).mono ?_
        rintro e w2 ⟨rfl, hb2⟩
        have HB3 := Lib.hid (HB2.out.trans (hb2.mono HB2.out.size))
        have K3 := Lib.hid (writeS_any (X := T) (HBD2.out.on hb2) (by omega) HB3.out.size)
        clear hb2 d0 d1 d2 d3 d4 KT HBD2 HB2
        go_wp2_with fail
        refine K3.out.mono ?_
        rintro e w3 ⟨v3, rfl, hbd3, hb3⟩
        have HB4 := Lib.hid (HB3.out.trans hb3)
        have K4 := Lib.hid (writeB_any (x := 10) hbd3 (by rw [List.length_append]; omega) HB4.out.size (by omega))
        clear hbd3 hb3 K3 HB3
        go_wp2_with fail
        refine K4.out.mono ?_
        rintro e w4 ⟨v4, rfl, hbd4, hb4⟩
        have HB5 := Lib.hid (HB4.out.trans hb4)
        have HBD5 := Lib.hid hbd4
        clear hbd4 hb4 K4 HB4
        go_wp2_with fail
        go_roundw
        case rel => exact ⟨k + 1, _, by omega, by go_num, HS2, HBD5, HB5⟩
        case measure => simp [intOf]; omega
    · have E : Hid (S = fileText l) := Lib.hid (by rw [← HS.out, List.take_of_length_le (by omega)])
      have hkl : ¬ (k : Int) < (l.length : Int) := by omega
      have K := Lib.hid (Tryz.Builder_String_any w.heap.size w.heap.size S wr HBD.out HB.out.size)
      go_wp2_with fail
      refine K.out.mono ?_
      rintro e w1 ⟨rfl, hb1⟩
      have HB1 := Lib.hid (HB.out.trans hb1)
      clear hb1 K
      go_wp2_with fail
      go_ret
      exact ⟨ret_s E.out, HB1.out⟩
end Go.Proofs.YtefkolkagebffaaGreatDoor.Ba
/- A map of subnets that a call made, each told once: looked up, written. -/
namespace Go.Proofs.YtefkolkagebffaaGreatDoor.Ba
set_option maxRecDepth 100000
open Go.ChangeShapes Go.WideShapes Go.ChangeAt Go.RowKit
open Dec Words V4 V6 Ad Ci
open Go.ChangeMaps
set_option linter.unusedVariables false
abbrev netV (n : Net) : Value := .agg #[.bool n.a.v6, .int .u64 n.a.hi, .int .u64 n.a.lo, .int .i64 n.n]
/-- Block b is a map that says 'true' of these bans' subnets. -/
def MapN (b : Nat) (w : World) (L : List Ban) : Prop := ∃ es clock, w.heap[b]? = some (.map es clock) ∧ es.toList.map (fun e => (e.key, e.val)) = L.map (fun x => (netV x.n, Value.bool true))
theorem MapN.on {b : Nat} {w w' : World} {L : List Ban} (h : MapN b w L) (hb : Below w.heap.size w w') : MapN b w' L := by
  obtain ⟨es, c, h1, h2⟩ := h
  exact ⟨es, c, (hb.block b (lt_of_block h1)).trans h1, h2⟩
theorem MapN.but {b g : Nat} {w w' : World} {L : List Ban} (h : MapN b w L) (hb : Bt g w w') (hg : b ≠ g) : MapN b w' L := by
  obtain ⟨es, c, h1, h2⟩ := h
  exact ⟨es, c, (hb.block b hg (lt_of_block h1)).trans h1, h2⟩
theorem MapN.lt {b : Nat} {w : World} {L : List Ban} (h : MapN b w L) : b < w.heap.size := by
  obtain ⟨es, c, h1, h2⟩ := h
  exact lt_of_block h1
theorem MapN.new (w : World) : MapN w.heap.size (w.alloc (.map #[] 0)) [] := ⟨#[], 0, by show (w.heap.push _)[w.heap.size]? = _; exact Array.getElem?_push_size, rfl⟩
theorem check_run (em : Bool) (n : Net) (w : World) : (Instr.checkKey em 10000 38 (netV n)).run Tryz.prog w = .ok () w := by
  cases em <;> kernel_rfl
theorem sameN_turn (m n : Net) : sameN m n = sameN n m := by rw [Bool.eq_iff_iff, sameN_iff, sameN_iff]; exact eq_comm
theorem asking_run (n : Net) (w : World) : ∀ (es : List MapEntry) (L : List Ban) (i : Nat), es.map (fun e => (e.key, e.val)) = L.map (fun x => (netV x.n, Value.bool true)) →
    (Instr.findAsking 38 (netV n) es i).run Tryz.prog w = .ok (if ix L n < L.length then some (i + ix L n, .bool true) else none) w
  | [], [], i, _ => by rw [if_neg (show ¬ ix [] n < ([] : List Ban).length from Nat.not_lt_zero _)]; rfl
  | [], _ :: _, _, h => by simp at h
  | _ :: _, [], _, h => by simp at h
  | e :: es, x :: L, i, h => by
    simp only [List.map_cons, List.cons.injEq, Prod.mk.injEq] at h
    obtain ⟨⟨h1, h2⟩, h3⟩ := h
    have he : (Op.equal 38 (netV n) e.key).run Tryz.prog w = .ok (sameN n x.n) w := by
      rw [h1]; exact eqInNet 9997 n x.n w
    have ih := asking_run n w es L (i + 1) h3
    unfold Instr.findAsking
    simp only [Sem.run_bind, he, Result.andThen_ok]
    cases hs : sameN n x.n
    · have hs2 : sameN x.n n = false := by rw [← hs]; exact sameN_turn _ _
      rw [if_neg (by simp)]
      rw [ih]
      unfold ix
      rw [List.findIdx_cons, hs2]
      simp only [cond_false, List.length_cons]
      by_cases hl : L.findIdx (fun b => sameN b.n n) < L.length
      · rw [if_pos hl, if_pos (by omega)]
        congr 3; omega
      · rw [if_neg hl, if_neg (by omega)]
    · have hs2 : sameN x.n n = true := by rw [← hs]; exact sameN_turn _ _
      rw [if_pos rfl]
      unfold ix
      rw [List.findIdx_cons, hs2]
      simp [h2]
theorem findKey_run (n : Net) (w : World) (es : List MapEntry) (L : List Ban) (h : es.map (fun e => (e.key, e.val)) = L.map (fun x => (netV x.n, Value.bool true))) :
    (Instr.findKey 38 (netV n) es).run Tryz.prog w = .ok (if ix L n < L.length then some (ix L n, .bool true) else none) w := by
  have ha := asking_run n w es L 0 h
  rw [Nat.zero_add] at ha
  unfold Instr.findKey
  simp only [Sem.run_bind, run_underlying Tryz.underlying38, Result.andThen_ok]
  match es, L, h with
  | [], [], _ => rw [if_neg (show ¬ ix [] n < ([] : List Ban).length from Nat.not_lt_zero _)]; rfl
  | [], _ :: _, h => simp at h
  | _ :: _, [], h => simp at h
  | e :: es, x :: L, h => exact ha
theorem lookup_run {b : Nat} {w : World} {L : List Ban} (h : MapN b w L) (n : Net) :
    (Instr.lookup 44 (.map (some b)) (netV n) false).run Tryz.prog w = .ok (.bool (decide (ix L n < L.length))) w := by
  obtain ⟨es, c, h1, h2⟩ := h
  have hf := findKey_run n w es.toList L h2
  have hc := check_run es.isEmpty n w
  have hz : (zeroValue 4).run Tryz.prog w = .ok (.bool false) w := by kernel_rfl
  unfold Instr.lookup
  simp only [Sem.run_bind, run_underlying Tryz.underlying44, Result.andThen_ok, MapKept.run_getObj_map h1, Sem.run_pure, hc, hf]
  by_cases hi : ix L n < L.length
  · rw [if_pos hi, decide_eq_true hi]; rfl
  · rw [if_neg hi, decide_eq_false hi]
    simp [hz]
theorem update_run {b : Nat} {w : World} {L : List Ban} (h : MapN b w L) (x : Ban) (hi : ¬ ix L x.n < L.length) :
    ∃ w', (Instr.mapUpdate 44 (.map (some b)) (netV x.n) (.bool true)).run Tryz.prog w = .ok () w' ∧ MapN b w' (L ++ [x]) ∧ Bt b w w' := by
  obtain ⟨es, c, h1, h2⟩ := h
  have hf := findKey_run x.n w es.toList L h2
  have hc := check_run false x.n w
  rw [if_neg hi] at hf
  refine ⟨setBlock w b (.map (es.push ⟨netV x.n, .bool true, c⟩) (c + 1)), ?_, ⟨_, _, heap_setBlock_same h1 _, ?_⟩, ⟨rfl, rfl, rfl, by simp [setBlock], fun k hk _ => heap_setBlock_other h1 _ hk⟩⟩
  · unfold Instr.mapUpdate
    simp only [Sem.run_bind, run_underlying Tryz.underlying44, Result.andThen_ok, MapKept.run_getObj_map h1, hc, hf]
    exact MapKept.run_setObj_map _ h1
  · simp [h2]
end Go.Proofs.YtefkolkagebffaaGreatDoor.Ba
/- Contracts of package banfile, third part: Parse; what the statements lean on. -/
namespace Go.Proofs.YtefkolkagebffaaGreatDoor.Ba
set_option maxRecDepth 100000
open Go.ChangeShapes Go.WideShapes Go.ChangeAt Go.RowKit
open Dec Words V4 V6 Ad Ci
set_option linter.unusedVariables false
theorem ix_mem (L : List Ban) (n : Net) : ix L n < L.length ↔ ∃ x ∈ L, x.n = n := by
  unfold ix
  rw [List.findIdx_lt_length]
  constructor
  · rintro ⟨x, hx, h⟩
    exact ⟨x, hx, (sameN_iff _ _).1 h⟩
  · rintro ⟨x, hx, h⟩
    exact ⟨x, hx, (sameN_iff _ _).2 h⟩
theorem ix_perm {L M : List Ban} (h : L.Perm M) (n : Net) : ix L n < L.length ↔ ix M n < M.length := by
  rw [ix_mem, ix_mem]
  constructor
  · rintro ⟨x, hx, e⟩
    exact ⟨x, h.mem_iff.1 hx, e⟩
  · rintro ⟨x, hx, e⟩
    exact ⟨x, h.mem_iff.2 hx, e⟩
theorem put_perm {L M : List Ban} (h : L.Perm M) (y : Ban) : (putB L y).Perm (M ++ [y]) := by
  unfold putB
  have e : (L.take (spot L y.n) ++ y :: L.drop (spot L y.n)).Perm (y :: L) := by
    have := List.perm_middle (a := y) (l₁ := L.take (spot L y.n)) (l₂ := L.drop (spot L y.n))
    rwa [List.take_append_drop] at this
  exact e.trans ((List.Perm.cons y h).trans (List.perm_append_comm (l₁ := [y]) (l₂ := M)))
/-- A list put in order is the right list of the same bans. -/
theorem ordered_is {l M L : List Ban} (h1 : l.Perm M) (h2 : L.Perm M) (hR : Right L) (hs : l.Pairwise fun x y => ltB y x = false) : l = L := by
  have hp : l.Perm L := h1.trans h2.symm
  refine List.Perm.eq_of_pairwise (le := fun x y => ltB y x = false) ?_ hs ?_ hp
  · intro a b ha hb hab hba
    have ha2 := hp.mem_iff.1 ha
    have e : a.n = b.n := by
      unfold ltB at hab hba
      simp at hab hba
      have := cmpN_flip a.n b.n
      exact (cmpN_zero _ _).1 (by omega)
    obtain ⟨i, hi, rfl⟩ := List.getElem_of_mem ha2
    obtain ⟨j, hj, rfl⟩ := List.getElem_of_mem hb
    rcases Nat.lt_trichotomy i j with h | h | h
    · have := sorted_at.1 hR.2 i j hi hj h
      rw [e, (cmpN_zero _ _).2 rfl] at this; omega
    · subst h; rfl
    · have := sorted_at.1 hR.2 j i hj hi h
      rw [e, (cmpN_zero _ _).2 rfl] at this; omega
  · refine List.Pairwise.imp ?_ hR.2
    intro a b hab
    have := cmpN_flip a.n b.n
    unfold ltB
    simp
    omega
theorem own_slice {b : Nat} {w : World} {v : Value} {l : List Ban} (h : OwnB b w v l) : ∃ A c, v = .slice A l.length c := by
  obtain ⟨hlen, ⟨e, h0⟩ | ⟨g, cap, cur, e, _⟩⟩ := h
  · exact ⟨none, 0, by rw [e, h0]⟩
  · exact ⟨_, _, e⟩
theorem own_none (b : Nat) (w : World) : OwnB b w (.slice none 0 0) [] := ⟨rfl, Or.inl ⟨rfl, rfl⟩⟩
theorem ownB_but {b s : Nat} {w w' : World} {v : Value} {l : List Ban} (h : OwnB b w v l) (hb : Bt s w w') (hs : s < b) : OwnB b w' v l := by
  obtain ⟨hlen, ⟨e, h0⟩ | ⟨g, cap, cur, e, hbg, hgw, hr⟩⟩ := h
  · exact ⟨hlen, Or.inl ⟨e, h0⟩⟩
  · exact ⟨hlen, Or.inr ⟨g, cap, cur, e, hbg, (hb.block g (by omega) (lt_of_block hgw)).trans hgw, hr⟩⟩
theorem MapN.low {b B : Nat} {w w' : World} {L : List Ban} (h : MapN b w L) (hb : Below B w w') (hB : b < B) : MapN b w' L := by
  obtain ⟨es, c, h1, h2⟩ := h
  exact ⟨es, c, (hb.block b hB).trans h1, h2⟩
set_option maxHeartbeats 16000000 in
theorem parseF_any (s : List UInt8) (most : Int) (w : World) (hs : s.length ≤ 10000) (hL : Lens w) :
    Calls Tryz.prog 6 #[.string ⟨s.toArray⟩, .int .i64 most] w fun e w' => ∃ u, e = .returned (.tuple #[u, .int .i64 (fileP s most).2.1, .int .i64 (fileP s most).2.2]) ∧ Bans w' u (fileP s most).1 ∧ Below w.heap.size w w' := by
  have KL := Lib.hid (lines_any ⟨s.toArray⟩ w (by rw [← len_size, str_back]; omega))
  rw [str_back] at KL
  have hmm := @run_makeMap Tryz.prog
  by_cases h0 : lineE s = 0
  · have E0 : Hid (fileP s most = readF most (lineL s) 0 []) := Lib.hid (by unfold fileP; rw [if_pos h0])
    have hn := lineL_len s
    have HX := Lib.hid (fun x h => lineL_short (s := s) (x := x) h)
    have hne : (lineE s != 0) = false := by simp [h0]
    go_enter Tryz.func6, Tryz.ntmps6
    go_wp2_with fail
    refine KL.out.mono ?_
    rintro e w1 ⟨v, rfl, ht, hb1⟩
    rw [h0]
    generalize lineL s = ls at *
    have hsz1 := hb1.size
    obtain ⟨A, c, rfl, hc, hcell⟩ := ht
    have HC := Lib.hid hcell
    have HM0 := Lib.hid (MapN.new w1)
    have HB0 : Hid (Below w.heap.size w w1) := Lib.hid hb1
    have HLN := Lib.hid (hL.below hb1)
    have HQ0 := Lib.hid ((Below.refl w1.heap.size w1).alloc (Nat.le_refl _) (.map #[] 0))
    clear hcell hb1 KL h0 hne hsz1
    go_wp2_with fail
    clear hmm
    go_loopw [9, 26] (fun sl si wr => ∃ (k : Nat) (M L : List Ban) (B : Option Addr) (c2 : Nat), k ≤ ls.length ∧ si = .int .i64 k ∧ sl = .slice B M.length c2 ∧ Hid (OwnB (w1.heap.size + 1) wr (.slice B M.length c2) M) ∧ Hid (MapN w1.heap.size wr M) ∧ Hid (L.Perm M) ∧ Hid (Right L) ∧ Hid (∀ x ∈ M, x.ok ∧ rightB x = true) ∧ Hid (M.length = k) ∧ Hid (readF most ls 0 [] = readF most (ls.drop k) k L) ∧ Hid (Below w1.heap.size w1 wr)) (fun _ si _ => ls.length - (intOf si).toNat)
    case atStart => exact ⟨0, [], [], none, 0, Nat.zero_le _, rfl, rfl, Lib.hid (own_none _ _), HM0, Lib.hid (List.Perm.refl _), Lib.hid right_nil, Lib.hid (by simp), Lib.hid rfl, Lib.hid rfl, HQ0⟩
    case round =>
      clear HM0 HQ0
      obtain ⟨k, M, L, B, c2, hk, rfl, rfl, HO, HM, HPM, HR, HG, HMk, HF, HQ⟩ := hrel
      have HW : Hid (Below w.heap.size w wr) := Lib.hid (HB0.out.trans (HQ.out.mono HB0.out.size))
      by_cases hlt : k < ls.length
      · obtain ⟨b, o, rfl, hb, hcc⟩ := HC.out (by omega)
        have c0 : wr.cell? ⟨b, o + k, none⟩ = some (.string ⟨ls[k].toArray⟩) := (HQ.out.cell (p := ⟨b, o + k, none⟩) hb).trans (hcc k hlt)
        have hxl := HX.out _ (List.getElem_mem hlt)
        have HD : Hid (ls.drop k = ls[k] :: ls.drop (k + 1)) := Lib.hid (List.drop_eq_getElem_cons hlt)
        rw [HD.out] at HF
        have hkl : (k : Int) < (ls.length : Int) := by omega
        have hLN := HLN.out.below HQ.out
        generalize ls[k] = x at *
        have KP := Lib.hid (parseB_any x wr (by omega) hLN)
        have hxo := parseB_ok x
        clear hcc HD HX hLN
        cases ho : okB x
        · have E : Hid (fileP s most = ([], (k : Int) + 1, 2)) := Lib.hid (by rw [E0.out, HF.out, readF_no ho])
          unfold ParseBan at KP
          rw [ho] at KP
          clear ho HF E0
          generalize parseB x = y at *
          go_wp2_with fail
          refine KP.out.mono ?_
          rintro e w3 ⟨rfl, hb3⟩
          have HL := Lib.hid (low_trans (low_trans HW.out hb3) ((Below.refl _ _).alloc (Nat.le_refl _) (.cells #[.bool y.n.a.v6, .int .u64 y.n.a.hi, .int .u64 y.n.a.lo, .int .i64 y.n.n, .int .i64 y.t] 40)))
          clear hb3 c0 KP
          go_wp2_with fail
          exact bodyPost_ret (v := .tuple #[.slice none 0 0, .int .i64 ((k : Int) + 1), .int .i64 2]) (by simp [results, Tryz.results6, go_sem]) rfl ⟨_, by rw [E.out], by rw [E.out]; exact Recs.nil _ _ _, HL.out⟩
        · have KP2 := KP.out
          unfold ParseBan at KP2
          rw [ho] at KP2
          have HP := Lib.hid KP2
          have hrb := (okB_is ho).1
          have T1 := Lib.hid (fun (h : ix M (parseB x).n < M.length) => readF_twice (most := most) (xs := ls.drop (k + 1)) (i := k) (L := L) ho ((ix_perm HPM.out (parseB x).n).2 h))
          have T2 := Lib.hid (fun (h : ¬ ix M (parseB x).n < M.length) => readF_many (most := most) (xs := ls.drop (k + 1)) (i := k) (L := L) ho (fun h2 => h ((ix_perm HPM.out (parseB x).n).1 h2)))
          have T3 := Lib.hid (fun (h : ¬ ix M (parseB x).n < M.length) => readF_next (most := most) (xs := ls.drop (k + 1)) (i := k) (L := L) ho (fun h2 => h ((ix_perm HPM.out (parseB x).n).1 h2)))
          have HR2 := Lib.hid (fun (h : ¬ ix M (parseB x).n < M.length) => right_put HR.out hrb (fun h2 => h ((ix_perm HPM.out (parseB x).n).1 h2)))
          have HPM2 := Lib.hid (put_perm HPM.out (parseB x))
          clear KP KP2 ho
          generalize parseB x = y at *
          go_wp2_with fail
          refine HP.out.mono ?_
          rintro e w3 ⟨rfl, hb3⟩
          have LOW3 : Below w3.heap.size w3 (w3.alloc (.cells #[.bool y.n.a.v6, .int .u64 y.n.a.hi, .int .u64 y.n.a.lo, .int .i64 y.n.n, .int .i64 y.t] 40)) := (Below.refl _ _).alloc (Nat.le_refl _) _
          have hlow3 := low_trans hb3 LOW3
          have HM3 := HM.out.on hlow3
          have HO3 := ownB_on HO.out hlow3
          have HW3 := Lib.hid (low_trans HW.out hlow3)
          have HQ3 := Lib.hid (HQ.out.trans (hlow3.mono HQ.out.size))
          have hbx : Blk (w3.alloc (.cells #[.bool y.n.a.v6, .int .u64 y.n.a.hi, .int .u64 y.n.a.lo, .int .i64 y.n.n, .int .i64 y.t] 40)) w3.heap.size 40 [.bool y.n.a.v6, .int .u64 y.n.a.hi, .int .u64 y.n.a.lo, .int .i64 y.n.n, .int .i64 y.t] := Blk.new _ _ _
          have n0 := hbx.cell (j := 0) rfl
          have n1 := hbx.cell (j := 1) rfl
          have n2 := hbx.cell (j := 2) rfl
          have n3 := hbx.cell (j := 3) rfl
          have n4 := hbx.cell (j := 4) rfl
          have hlook := lookup_run HM3 y.n
          have hmw := HM3.lt
          have hne3 : w1.heap.size ≠ w3.heap.size := by
            have h1 := HM.out.lt
            have h2 := hb3.size
            omega
          clear hb3 LOW3 hlow3 c0 HP
          by_cases hi : ix M y.n < M.length
          · have E : Hid (fileP s most = ([], (k : Int) + 1, 7)) := Lib.hid (by rw [E0.out, HF.out, T1.out hi])
            rw [decide_eq_true hi] at hlook
            clear hi T1 T2 T3 HF E0 HR2 HM3 HO3 hbx
            go_wp2_with fail
            exact bodyPost_ret (v := .tuple #[.slice none 0 0, .int .i64 ((k : Int) + 1), .int .i64 7]) (by simp [results, Tryz.results6, go_sem]) rfl ⟨_, by rw [E.out], by rw [E.out]; exact Recs.nil _ _ _, HW3.out⟩
          · rw [decide_eq_false hi] at hlook
            by_cases hm : most ≤ (k : Int)
            · have E : Hid (fileP s most = ([], (k : Int) + 1, 5)) := Lib.hid (by rw [E0.out, HF.out, T2.out hi hm])
              clear hi T1 T2 T3 HF E0 HR2 HM3 HO3 hbx
              go_wp2_with fail
              exact bodyPost_ret (v := .tuple #[.slice none 0 0, .int .i64 ((k : Int) + 1), .int .i64 5]) (by simp [results, Tryz.results6, go_sem]) rfl ⟨_, by rw [E.out], by rw [E.out]; exact Recs.nil _ _ _, HW3.out⟩
            · have HF2 : Hid (readF most ls 0 [] = readF most (ls.drop (k + 1)) (k + 1) (putB L y)) := Lib.hid (by rw [HF.out, T3.out hi (by omega)])
              obtain ⟨w4, hrun4, hM4, hbt4⟩ := update_run HM3 y hi
              have hO4 := ownB_but HO3 hbt4 (Nat.lt_succ_self _)
              have hx4 := hbx.but hbt4 (Ne.symm hne3)
              have m0 := hx4.cell (j := 0) rfl
              have m1 := hx4.cell (j := 1) rfl
              have m2 := hx4.cell (j := 2) rfl
              have m3 := hx4.cell (j := 3) rfl
              have m4 := hx4.cell (j := 4) rfl
              have hQ4 := HQ3.out.trans (hbt4.low (Nat.le_refl _) (Nat.le_of_lt hmw))
              obtain ⟨v5, w5, R, hO5, hb5⟩ := append_one hO4 y (by rw [HMk.out]; omega) (hM4.lt)
              have R1 := Lib.hid R
              have HM5 := Lib.hid (hM4.low hb5 (Nat.lt_succ_self _))
              have HQ5 := Lib.hid (hQ4.trans (hb5.mono (Nat.le_succ _)))
              have HG5 : Hid (∀ z ∈ M ++ [y], z.ok ∧ rightB z = true) := Lib.hid (fun z hz => by
                rcases List.mem_append.1 hz with h | h
                · exact HG.out z h
                · rw [List.mem_singleton.1 h]; exact ⟨hxo, hrb⟩)
              have HMk5 : Hid ((M ++ [y]).length = k + 1) := Lib.hid (by rw [List.length_append, HMk.out]; rfl)
              have HR5 := Lib.hid (HR2.out hi)
              obtain ⟨B5, c5, rfl⟩ := own_slice hO5
              have HO5 := Lib.hid hO5
              clear R hO5 hb5 hO4 hx4 hQ4 hM4 hbt4 hbx HM3 HO3 hi T1 T2 T3 HF HR2 HG HR HPM HMk HO HM HQ HQ3 HW3 HW
              go_wp2_with (first
                | (at_builtin; refine wpList_append_run rfl (.tmp 57) (.tmp 59) _ _ rfl rfl _ _ _ _ rfl rfl R1.out ?_)
                | fail)
              go_roundw
              case rel => exact ⟨k + 1, M ++ [y], putB L y, B5, c5, by omega, by go_num, by rw [List.length_append]; rfl, HO5, HM5, HPM2, HR5, HG5, HMk5, HF2, HQ5⟩
              case measure => simp [intOf]; omega
      · have E : Hid (fileP s most = (L, 0, 0)) := Lib.hid (by rw [E0.out, HF.out, List.drop_of_length_le (by omega)]; rfl)
        have hkl : ¬ (k : Int) < (ls.length : Int) := by omega
        have K := Lib.hid (arrange_any (w1.heap.size + 1) (.slice B M.length c2) M wr HO.out HM.out.lt HG.out (by rw [HMk.out]; omega))
        go_wp2_with fail
        refine K.out.mono ?_
        rintro e w3 ⟨rfl, l', h1, h2, h3, h4⟩
        have e2 := ordered_is h1 HPM.out HR.out h2
        subst e2
        have HRC := Lib.hid (ownB_recs h3)
        have HL := Lib.hid (HB0.out.trans ((HQ.out.trans (h4.mono (Nat.le_succ _))).mono HB0.out.size))
        clear h1 h2 h3 h4 K
        go_wp2_with fail
        exact bodyPost_ret (v := .tuple #[.slice B M.length c2, .int .i64 0, .int .i64 0]) (by simp [results, Tryz.results6, go_sem]) rfl ⟨_, by rw [E.out], by rw [E.out]; exact HRC.out, HL.out⟩
  · have E : Hid (fileP s most = ([], 0, lineE s)) := Lib.hid (by unfold fileP; rw [if_neg h0])
    have hne : (lineE s != 0) = true := by simp [h0]
    go_enter Tryz.func6, Tryz.ntmps6
    go_wp2_with fail
    refine KL.out.mono ?_
    rintro e w1 ⟨v, rfl, ht, hb1⟩
    obtain ⟨A, c, rfl, -, -⟩ := ht
    have HL := Lib.hid hb1
    clear hb1 KL h0
    generalize lineE s = q at *
    go_wp2_with fail
    exact bodyPost_ret (v := .tuple #[.slice none 0 0, .int .i64 (0), .int .i64 q]) (by simp [results, Tryz.results6, go_sem]) rfl ⟨_, by rw [E.out], by rw [E.out]; exact Recs.nil _ _ _, HL.out⟩
end Go.Proofs.YtefkolkagebffaaGreatDoor.Ba
namespace Go.Proofs.YtefkolkagebffaaGreatDoor
open Ba
theorem api : FileApi := ⟨fun v l W h hl hok => text_any v l W h (by omega) hok, fun s most W hs hm hL => parseF_any s most W hs hL⟩
end Go.Proofs.YtefkolkagebffaaGreatDoor
