/- Contract of the document's answers for layer 3: what is cut. -/
import Derived.Test.YtefkolkagebffaaGreatDoorWordsAll
import Derived.OwnWalk
namespace Go.Proofs.YtefkolkagebffaaGreatDoor.Words
set_option maxRecDepth 100000
open Go.ChangeShapes Go.WideShapes Go.ChangeAt Go.RowKit
set_option linter.unusedVariables false
theorem Tryz.infoStr : (Tryz.prog.info? 9).map (fun i => (i.zero, i.size, i.bytes)) = some (some (.string ByteArray.empty), 1, 16) := by kernel_rfl
def strV (l : List UInt8) : Value := .string ⟨l.toArray⟩
theorem strs_one (ls : List (List UInt8)) : ∀ u ∈ ls.map strV, u.oneCell' = true := by
  intro u hu
  obtain ⟨l, _, rfl⟩ := List.mem_map.1 hu
  rfl
/-- What a list of the call's own owns, read. -/
theorem Txts.own {w : World} {base e : Nat} {v : Value} {ls : List (List UInt8)} (h : w.ownsRow base e 1 v ls.length (ls.map strV)) : Txts w v ls := by
  rcases h.2 with ⟨rfl, h0⟩ | ⟨g, cap, cur, rfl, _, hh, hnc, _, _, hcur⟩
  · exact ⟨none, 0, by rw [h0], by omega, fun hp => absurd hp (by omega)⟩
  · refine ⟨some ⟨g, 0, none⟩, cap, rfl, hnc, fun hp => ⟨g, 0, rfl, ?_, fun j hj => ?_⟩⟩
    · rcases Nat.lt_or_ge g w.heap.size with hlt | hge
      · exact hlt
      · rw [Array.getElem?_eq_none hge] at hh; cases hh
    · have := h.cells (g := g) rfl j (strV ls[j]) (by rw [List.getElem?_map, List.getElem?_eq_getElem hj]; rfl)
      rw [show (⟨g, 0, none⟩ : Addr).add j = ⟨g, 0 + j, none⟩ from by unfold Addr.add; split <;> simp_all] at this
      exact this
/-- Where the cutting stands: done lies in the list, the last part begins at f. -/
def CI (c : UInt8) (l : List UInt8) (k f : Nat) (done : List (List UInt8)) : Prop := f ≤ k ∧ cut c (l.take k) = done ++ [(l.take k).drop f]
theorem CI.start (c : UInt8) (l : List UInt8) : CI c l 0 0 [] := ⟨Nat.le_refl _, rfl⟩
theorem CI.hit {c : UInt8} {s : ByteArray} {k f : Nat} {done : List (List UInt8)} (h : CI c s.data.toList k f done) (hk : k < s.size) (hc : s[k] = c) : CI c s.data.toList (k + 1) (k + 1) (done ++ [(s.data.toList.take k).drop f]) := by
  refine ⟨Nat.le_refl _, ?_⟩
  rw [List.drop_eq_nil_of_le (List.length_take_le _ _), take_snoc s k hk, hc, cut_snoc_hit, h.2]
theorem CI.off {c : UInt8} {s : ByteArray} {k f : Nat} {done : List (List UInt8)} (h : CI c s.data.toList k f done) (hk : k < s.size) (hc : s[k] ≠ c) : CI c s.data.toList (k + 1) f done := by
  refine ⟨by have := h.1; omega, ?_⟩
  rw [take_snoc s k hk, cut_snoc_off hc h.2, List.drop_append_of_le_length]
  rw [List.length_take, len_size]; have := h.1; omega
theorem CI.len {c : UInt8} {l : List UInt8} {k f : Nat} {done : List (List UInt8)} (h : CI c l k f done) : done.length ≤ k := by
  have h1 := cut_len c (l.take k)
  rw [h.2] at h1
  have h2 : (l.take k).count c ≤ (l.take k).length := List.count_le_length
  have h3 := List.length_take_le k l
  simp at h1
  omega
theorem piece (s : ByteArray) (f k : Nat) : Value.string (s.extract f k) = strV ((s.data.toList.take k).drop f) := by
  unfold strV
  rw [List.drop_take, ← Lib.extract_data, str_same]
theorem piece_end (s : ByteArray) (f : Nat) : Value.string (s.extract f s.size) = strV (s.data.toList.drop f) := by
  rw [piece, List.take_of_length_le (by rw [len_size]; exact Nat.le_refl _)]
theorem one_cell {w : World} {v u : Value} {e : Nat} (j : Nat) (h : [v][j]? = some u) : (w.alloc (.cells #[v] e)).cell? ((⟨w.heap.size, 0, none⟩ : Addr).add j) = some u := by
  match j, h with
  | 0, h =>
    simp at h; subst h
    rw [show (⟨w.heap.size, 0, none⟩ : Addr).add 0 = ⟨w.heap.size, 0, none⟩ from rfl, World.cell?_alloc_mark]
    rfl
  | j + 1, h => simp at h
set_option maxHeartbeats 2000000 in
theorem rsplit_any (s : ByteArray) (c : UInt8) (w : World) (hs : s.size < 4294967281) :
    Calls Tryz.prog 35 #[.string s, .int .u8 (c.toNat : Int)] w (RetTxts (cut c s.data.toList) w) := by
  obtain ⟨i0, hi, hz0, hz1, hz2⟩ := info_parts Tryz.infoStr
  go_enter Tryz.func35, Tryz.ntmps35
  go_wp2
  go_loopw [5, 6, 7] (fun v f i wr => ∃ (k g : Nat) (done : List (List UInt8)), k ≤ s.size ∧ g ≤ k ∧ i = .int .i64 k ∧ f = .int .i64 g ∧ CI c s.data.toList k g done ∧ wr.ownsRow w.heap.size 9 1 v done.length (done.map strV) ∧ Below w.heap.size w wr) (fun _ _ i _ => s.size - (intOf i).toNat)
  case atStart => exact ⟨0, 0, [], Nat.zero_le _, Nat.le_refl _, rfl, rfl, CI.start _ _, World.ownsRow_lit w #[] 0 (Nat.le_refl _) (by decide) rfl, (Below.refl _ _).alloc (Nat.le_refl _) _⟩
  case round =>
    obtain ⟨k, g, done, hk, hg, rfl, rfl, HC, hown, hbel⟩ := hrel
    have hdl := HC.len
    have hsz := hbel.size
    by_cases hlt : k < s.size
    · by_cases hc : s[k] = c
      · have hb : ((s[k].toNat : Int) == (c.toNat : Int)) = true := by rw [hc]; simp
        have HC2 := HC.hit hlt hc
        clear hc
        go_wp2_with (at_builtin; refine wpList_append_own _ rfl _ _ 41 rfl w.heap.size 9 i0 (.string ByteArray.empty) 1 16 Tryz.underlying41 hi hz0 hz1 hz2 rfl (by decide) _ _ _ rfl (hown.alloc _) ⟨wr.heap.size, 0, none⟩ 1 1 [.string (s.extract g k)] rfl rfl ?c1 ?c2 ?c3 ?c4 ?c5 ?_)
        case c1 => exact fun j u h => one_cell j h
        case c2 => intro u hu; simp at hu; subst hu; rfl
        case c3 => unfold maxLen; omega
        case c4 => omega
        case c5 => simp; omega
        · intro v' w1 hown' hgrow _
          have hb1 := (hbel.alloc hsz (.cells #[.string (s.extract g k)] 9)).grown hgrow (by simp; omega) (fun q hq => (hown.lt q hq).1)
          rw [piece] at hown'
          clear hgrow hown hbel
          go_wp2
          go_roundw
          case rel => exact ⟨k + 1, k + 1, _, by omega, Nat.le_refl _, by go_num, by go_num, HC2, by rw [List.length_append, List.map_append]; exact hown', hb1⟩
          case measure => simp [intOf]; omega
      · have hb : ((s[k].toNat : Int) == (c.toNat : Int)) = false := by
          rw [beq_eq_false_iff_ne]; intro e
          exact hc (UInt8.toNat_inj.1 (by omega))
        have HC2 := HC.off hlt hc
        clear hc
        go_wp2
        go_roundw
        case rel => exact ⟨k + 1, g, done, by omega, by omega, by go_num, rfl, HC2, hown, hbel⟩
        case measure => simp [intOf]; omega
    · have hf : Hid (cut c s.data.toList = done ++ [s.data.toList.drop g]) := by
        have := HC.2
        rwa [List.take_of_length_le (by rw [len_size]; omega)] at this
      have hgs : g ≤ s.size := by omega
      go_wp2_with (at_builtin; refine wpList_append_own _ rfl _ _ 41 rfl w.heap.size 9 i0 (.string ByteArray.empty) 1 16 Tryz.underlying41 hi hz0 hz1 hz2 rfl (by decide) _ _ _ rfl (hown.alloc _) ⟨wr.heap.size, 0, none⟩ 1 1 [.string (s.extract g s.size)] rfl rfl ?d1 ?d2 ?d3 ?d4 ?d5 ?_)
      case d1 => exact fun j u h => one_cell j h
      case d2 => intro u hu; simp at hu; subst hu; rfl
      case d3 => unfold maxLen; omega
      case d4 => omega
      case d5 => simp; omega
      · intro v' w1 hown' hgrow _
        have hb1 := (hbel.alloc hsz (.cells #[.string (s.extract g s.size)] 9)).grown hgrow (by simp; omega) (fun q hq => (hown.lt q hq).1)
        rw [piece_end] at hown'
        clear hgrow hown hbel
        go_wp2
        go_ret
        exact ⟨v', rfl, Txts.own (base := w.heap.size) (e := 9) (by rw [hf.out, List.length_append, List.map_append]; exact hown'), hb1⟩
end Go.Proofs.YtefkolkagebffaaGreatDoor.Words
