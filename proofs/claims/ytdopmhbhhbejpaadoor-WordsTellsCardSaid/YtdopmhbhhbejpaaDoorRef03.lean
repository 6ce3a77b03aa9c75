/- Contracts of the document's answers for layer 3. -/
import Derived.Test.YtdopmhbhhbejpaaDoorWordsLines
import Derived.OwnWalk
namespace Go.Proofs.YtdopmhbhhbejpaaDoor.Words
open Go.ChangeShapes Go.WideShapes Go.ChangeAt Go.RowKit
set_option linter.unusedVariables false
theorem Tryd.infoStr : (Tryd.prog.info? 9).map (fun i => (i.zero, i.size, i.bytes)) = some (some (.string ByteArray.empty), 1, 16) := by kernel_rfl
def strV (l : List UInt8) : Value := .string ⟨l.toArray⟩
theorem strs_one (ls : List (List UInt8)) : ∀ u ∈ ls.map strV, u.oneCell' = true := by
  intro u hu
  obtain ⟨l, _, rfl⟩ := List.mem_map.1 hu
  rfl
/-- What a list of the call's own owns, read. -/
theorem Txts.own {w : World} {base e : Nat} {v : Value} {ls : List (List UInt8)} (h : w.ownsRow base e 1 v ls.length (ls.map strV)) : Txts w v ls := by
  rcases h.2 with ⟨rfl, h0⟩ | ⟨g, cap, cur, rfl, _, hh, hnc, _, _, hcur⟩
  · exact ⟨none, 0, by rw [h0], by omega, fun hp => absurd hp (by omega)⟩
  · refine ⟨some ⟨g, 0, none⟩, cap, rfl, hnc, fun hp => ⟨g, 0, rfl, ?_, fun j hj => ?_⟩⟩
    · rcases Nat.lt_or_ge g w.heap.size with hlt | hge
      · exact hlt
      · rw [Array.getElem?_eq_none hge] at hh; cases hh
    · have := h.cells (g := g) rfl j (strV ls[j]) (by rw [List.getElem?_map, List.getElem?_eq_getElem hj]; rfl)
      rw [show (⟨g, 0, none⟩ : Addr).add j = ⟨g, 0 + j, none⟩ from by unfold Addr.add; split <;> simp_all] at this
      exact this
/-- Where the cutting stands: done lies in the list, the last part begins at f. -/
def CI (c : UInt8) (l : List UInt8) (k f : Nat) (done : List (List UInt8)) : Prop := f ≤ k ∧ cut c (l.take k) = done ++ [(l.take k).drop f]
theorem CI.start (c : UInt8) (l : List UInt8) : CI c l 0 0 [] := ⟨Nat.le_refl _, rfl⟩
theorem CI.hit {c : UInt8} {s : ByteArray} {k f : Nat} {done : List (List UInt8)} (h : CI c s.data.toList k f done) (hk : k < s.size) (hc : s[k] = c) : CI c s.data.toList (k + 1) (k + 1) (done ++ [(s.data.toList.take k).drop f]) := by
  refine ⟨Nat.le_refl _, ?_⟩
  rw [List.drop_eq_nil_of_le (List.length_take_le _ _), take_snoc s k hk, hc, cut_snoc_hit, h.2]
theorem CI.off {c : UInt8} {s : ByteArray} {k f : Nat} {done : List (List UInt8)} (h : CI c s.data.toList k f done) (hk : k < s.size) (hc : s[k] ≠ c) : CI c s.data.toList (k + 1) f done := by
  refine ⟨by have := h.1; omega, ?_⟩
  rw [take_snoc s k hk, cut_snoc_off hc h.2, List.drop_append_of_le_length]
  rw [List.length_take, len_size]; have := h.1; omega
theorem CI.len {c : UInt8} {l : List UInt8} {k f : Nat} {done : List (List UInt8)} (h : CI c l k f done) : done.length ≤ k := by
  have h1 := cut_len c (l.take k)
  rw [h.2] at h1
  have h2 : (l.take k).count c ≤ (l.take k).length := List.count_le_length
  have h3 := List.length_take_le k l
  simp at h1
  omega
theorem piece (s : ByteArray) (f k : Nat) : Value.string (s.extract f k) = strV ((s.data.toList.take k).drop f) := by
  unfold strV
  rw [List.drop_take, ← Lib.extract_data, str_same]
theorem piece_end (s : ByteArray) (f : Nat) : Value.string (s.extract f s.size) = strV (s.data.toList.drop f) := by
  rw [piece, List.take_of_length_le (by rw [len_size]; exact Nat.le_refl _)]
theorem one_cell {w : World} {v u : Value} {e : Nat} (j : Nat) (h : [v][j]? = some u) : (w.alloc (.cells #[v] e)).cell? ((⟨w.heap.size, 0, none⟩ : Addr).add j) = some u := by
  match j, h with
  | 0, h =>
    simp at h; subst h
    rw [show (⟨w.heap.size, 0, none⟩ : Addr).add 0 = ⟨w.heap.size, 0, none⟩ from rfl, World.cell?_alloc_mark]
    rfl
  | j + 1, h => simp at h
set_option maxHeartbeats 2000000 in
theorem rsplit_any (s : ByteArray) (c : UInt8) (w : World) (hs : s.size < 4294967281) :
    Calls Tryd.prog 10 #[.string s, .int .u8 (c.toNat : Int)] w (RetTxts (cut c s.data.toList) w) := by
  obtain ⟨i0, hi, hz0, hz1, hz2⟩ := info_parts Tryd.infoStr
  go_enter Tryd.func10, Tryd.ntmps10
  go_wp2
  go_loopw [5, 6, 7] (fun v f i wr => ∃ (k g : Nat) (done : List (List UInt8)), k ≤ s.size ∧ g ≤ k ∧ i = .int .i64 k ∧ f = .int .i64 g ∧ CI c s.data.toList k g done ∧ wr.ownsRow w.heap.size 9 1 v done.length (done.map strV) ∧ Below w.heap.size w wr) (fun _ _ i _ => s.size - (intOf i).toNat)
  case atStart => exact ⟨0, 0, [], Nat.zero_le _, Nat.le_refl _, rfl, rfl, CI.start _ _, World.ownsRow_lit w #[] 0 (Nat.le_refl _) (by decide) rfl, (Below.refl _ _).alloc (Nat.le_refl _) _⟩
  case round =>
    obtain ⟨k, g, done, hk, hg, rfl, rfl, HC, hown, hbel⟩ := hrel
    have hdl := HC.len
    have hsz := hbel.size
    by_cases hlt : k < s.size
    · by_cases hc : s[k] = c
      · have hb : ((s[k].toNat : Int) == (c.toNat : Int)) = true := by rw [hc]; simp
        have HC2 := HC.hit hlt hc
        clear hc
        go_wp2_with (at_builtin; refine wpList_append_own _ rfl _ _ 22 rfl w.heap.size 9 i0 (.string ByteArray.empty) 1 16 Tryd.underlying22 hi hz0 hz1 hz2 rfl (by decide) _ _ _ rfl (hown.alloc _) ⟨wr.heap.size, 0, none⟩ 1 1 [.string (s.extract g k)] rfl rfl ?c1 ?c2 ?c3 ?c4 ?c5 ?_)
        case c1 => exact fun j u h => one_cell j h
        case c2 => intro u hu; simp at hu; subst hu; rfl
        case c3 => unfold maxLen; omega
        case c4 => omega
        case c5 => simp; omega
        · intro v' w1 hown' hgrow _
          have hb1 := (hbel.alloc hsz (.cells #[.string (s.extract g k)] 9)).grown hgrow (by simp; omega) (fun q hq => (hown.lt q hq).1)
          rw [piece] at hown'
          clear hgrow hown hbel
          go_wp2
          go_roundw
          case rel => exact ⟨k + 1, k + 1, _, by omega, Nat.le_refl _, by go_num, by go_num, HC2, by rw [List.length_append, List.map_append]; exact hown', hb1⟩
          case measure => simp [intOf]; omega
      · have hb : ((s[k].toNat : Int) == (c.toNat : Int)) = false := by
          rw [beq_eq_false_iff_ne]; intro e
          exact hc (UInt8.toNat_inj.1 (by omega))
        have HC2 := HC.off hlt hc
        clear hc
        go_wp2
        go_roundw
        case rel => exact ⟨k + 1, g, done, by omega, by omega, by go_num, rfl, HC2, hown, hbel⟩
        case measure => simp [intOf]; omega
    · have hf : Hid (cut c s.data.toList = done ++ [s.data.toList.drop g]) := by
        have := HC.2
        rwa [List.take_of_length_le (by rw [len_size]; omega)] at this
      have hgs : g ≤ s.size := by omega
      go_wp2_with (at_builtin; refine wpList_append_own _ rfl _ _ 22 rfl w.heap.size 9 i0 (.string ByteArray.empty) 1 16 Tryd.underlying22 hi hz0 hz1 hz2 rfl (by decide) _ _ _ rfl (hown.alloc _) ⟨wr.heap.size, 0, none⟩ 1 1 [.string (s.extract g s.size)] rfl rfl ?d1 ?d2 ?d3 ?d4 ?d5 ?_)
      case d1 => exact fun j u h => one_cell j h
      case d2 => intro u hu; simp at hu; subst hu; rfl
      case d3 => unfold maxLen; omega
      case d4 => omega
      case d5 => simp; omega
      · intro v' w1 hown' hgrow _
        have hb1 := (hbel.alloc hsz (.cells #[.string (s.extract g s.size)] 9)).grown hgrow (by simp; omega) (fun q hq => (hown.lt q hq).1)
        rw [piece_end] at hown'
        clear hgrow hown hbel
        go_wp2
        go_ret
        exact ⟨v', rfl, Txts.own (base := w.heap.size) (e := 9) (by rw [hf.out, List.length_append, List.map_append]; exact hown'), hb1⟩
theorem cat2 {a b d : List UInt8} (h : a ++ b = d) : Value.string (⟨a.toArray⟩ ++ ⟨b.toArray⟩) = .string ⟨d.toArray⟩ := by rw [ByteArray.mk_append_mk, h]
theorem cat3 {a b d : List UInt8} {c : UInt8} (h : a ++ c :: b = d) : Value.string (⟨a.toArray⟩ ++ ⟨#[c]⟩ ++ ⟨b.toArray⟩) = .string ⟨d.toArray⟩ := by
  show Value.string (⟨a.toArray⟩ ++ ⟨[c].toArray⟩ ++ ⟨b.toArray⟩) = _
  rw [ByteArray.mk_append_mk, ByteArray.mk_append_mk, ← h]; simp
theorem glue_first (c : UInt8) (ls : List (List UInt8)) (h : 0 < ls.length) : glue c (ls.take 1) = ls[0] := by
  rw [List.take_succ_eq_append_getElem h]; rfl
theorem glue_next (c : UInt8) (ls : List (List UInt8)) (k : Nat) (h : k < ls.length) (h0 : k ≠ 0) : glue c (ls.take (k + 1)) = glue c (ls.take k) ++ c :: ls[k] := by
  rw [List.take_succ_eq_append_getElem h, glue_snoc c _ (by intro e; rw [List.take_eq_nil_iff] at e; rcases e with e | e; exact h0 e; subst e; simp at h)]
set_option maxHeartbeats 2000000 in
theorem rjoin_any (v : Value) (ls : List (List UInt8)) (c : UInt8) (w : World) (h : Txts w v ls) (hN : ls.length ≤ 140737488355328) (hlen : (glue c ls).length ≤ 140737488355328) :
    Calls Tryd.prog 12 #[v, .int .u8 (c.toNat : Int)] w fun e w' => e = .returned (.string ⟨(glue c ls).toArray⟩) ∧ Below w.heap.size w w' := by
  obtain ⟨A, cap, rfl, hcap, hcell⟩ := h
  have HC := Lib.hid hcell
  clear hcell
  go_enter Tryd.func12, Tryd.ntmps12
  go_wp2
  go_loopw [5, 6] (fun v i wr => ∃ k : Nat, k ≤ ls.length ∧ i = .int .i64 k ∧ v = .string ⟨(glue c (ls.take k)).toArray⟩ ∧ Below w.heap.size w wr) (fun _ i _ => ls.length - (intOf i).toNat)
  case atStart => exact ⟨0, Nat.zero_le _, rfl, rfl, Below.refl _ _⟩
  case round =>
    obtain ⟨k, hk, rfl, rfl, hbel⟩ := hrel
    by_cases hlt : k < ls.length
    · obtain ⟨b, o, rfl, hb, hc⟩ := HC.out (by omega)
      have h1 := (hbel.cell (p := ⟨b, o + k, none⟩) hb).trans (hc k hlt)
      have hb2 : b < wr.heap.size := Nat.lt_of_lt_of_le hb hbel.size
      have hl1 := glue_take_le c ls k
      have hl2 := glue_take_le c ls (k + 1)
      have hl3 := glue_at_le c ls k hlt
      have hl4 : ls[k].length ≤ 140737488355328 := by omega
      have hl5 : (glue c (ls.take k)).length + 1 + ls[k].length ≤ 281474976710660 := by omega
      clear hc hl3 hl2
      by_cases h0 : k = 0
      · have HE := Lib.hid (glue_first c ls (by omega))
        subst h0
        rw [Nat.add_zero] at h1
        have hz : (glue c []).length ≤ 0 := Nat.le_refl 0
        clear hl1 hl5
        go_wp2
        go_roundw
        case rel => exact ⟨1, by omega, rfl, cat2 HE.out.symm, hbel⟩
        case measure => simp [intOf]; omega
      · have HE := Lib.hid (glue_next c ls k hlt h0)
        have hp : 0 < k := by omega
        have ho := byte_str wr c
        clear h0
        go_wp2
        go_roundw
        case rel => exact ⟨k + 1, by omega, by go_num, cat3 HE.out.symm, hbel.alloc hbel.size _⟩
        case measure => simp [intOf]; omega
    · have HE : Hid (glue c (ls.take k) = glue c ls) := by rw [List.take_of_length_le (by omega)]; exact Lib.hid rfl
      go_wp2
      go_ret
      exact ⟨ret_s HE.out, hbel⟩
set_option maxHeartbeats 4000000 in
theorem rlines_any (s : ByteArray) (w : World) (hs : s.size ≤ 9223372036854775807) :
    Calls Tryd.prog 15 #[.string s] w (LinesEnd s.data.toList w) := by
  by_cases h1 : 65536 < s.size
  · have E := Lib.hid (lineE_long (longB_size (l := s.data.toList) (by rw [len_size]; exact h1)))
    go_enter Tryd.func15, Tryd.ntmps15
    go_wp2
    go_ret2
    exact lines_no E.out (by decide) (Below.refl _ _)
  · go_enter Tryd.func15, Tryd.ntmps15
    go_wp2
    go_loop [4, 5, 6] (fun n b i => ∃ k m : Nat, ∃ q : Bool, k ≤ s.size ∧ m ≤ k ∧ i = .int .i64 k ∧ n = .int .i64 m ∧ b = .bool q ∧ Hid (m = (s.data.toList.take k).count 10) ∧ Hid (q = wrongB (s.data.toList.take k))) (fun _ _ i => s.size - (intOf i).toNat)
    case atStart => exact ⟨0, 0, false, Nat.zero_le _, Nat.le_refl _, rfl, rfl, rfl, Lib.hid rfl, Lib.hid rfl⟩
    case round =>
      obtain ⟨k, m, q, hk, hm, rfl, rfl, rfl, HM, HQ⟩ := hrel
      by_cases hlt : k < s.size
      · have hts := take_snoc s k hlt
        by_cases c1 : s[k].toNat = 10
        · have e10 : s[k] = 10 := UInt8.toNat_inj.1 c1
          have HM2 : Hid (m + 1 = (s.data.toList.take (k + 1)).count 10) := by rw [hts, e10, List.count_append, ← HM.out]; rfl
          have HQ2 : Hid (q = wrongB (s.data.toList.take (k + 1))) := by rw [hts, wrongB_ok ((lineC_iff _).2 (Or.inl c1))]; exact HQ.out
          have hb : ((s[k].toNat : Int) == 10) = true := by rw [c1]; rfl
          clear hts c1 e10
          go_wp2
          go_round
          case rel => exact ⟨k + 1, m + 1, q, by omega, by omega, by go_num, by go_num, rfl, HM2, HQ2⟩
          case measure => simp [intOf]; omega
        · have HM2 : Hid (m = (s.data.toList.take (k + 1)).count 10) := by
            rw [hts, List.count_append, ← HM.out]
            rw [List.count_eq_zero.2 (show (10 : UInt8) ∉ [s[k]] by simp; intro e; exact c1 (by rw [← e]; rfl))]; rfl
          have hb : ((s[k].toNat : Int) == 10) = false := by rw [beq_eq_false_iff_ne]; omega
          by_cases c2 : 32 ≤ s[k].toNat ∧ s[k].toNat ≤ 126
          · have HQ2 : Hid (q = wrongB (s.data.toList.take (k + 1))) := by rw [hts, wrongB_ok ((lineC_iff _).2 (Or.inr c2))]; exact HQ.out
            obtain ⟨c2, c3⟩ := c2
            clear hts
            go_wp2
            go_round
            case rel => exact ⟨k + 1, m, q, by omega, by omega, by go_num, rfl, rfl, HM2, HQ2⟩
            case measure => simp [intOf]; omega
          · have HQ2 : Hid (true = wrongB (s.data.toList.take (k + 1))) := by rw [hts, wrongB_bad (lineC_no (by omega))]; exact Lib.hid rfl
            clear hts
            by_cases c3 : s[k].toNat < 32
            · clear c2
              go_wp2
              go_round
              case rel => exact ⟨k + 1, m, true, by omega, by omega, by go_num, rfl, rfl, HM2, HQ2⟩
              case measure => simp [intOf]; omega
            · have c4 : 126 < s[k].toNat := by omega
              clear c2
              go_wp2
              go_round
              case rel => exact ⟨k + 1, m, true, by omega, by omega, by go_num, rfl, rfl, HM2, HQ2⟩
              case measure => simp [intOf]; omega
      · have hM := HM.out
        have hQ := HQ.out
        rw [List.take_of_length_le (by rw [len_size]; omega)] at hM hQ
        by_cases c1 : 4096 < m
        · have E := Lib.hid (lineE_long (longB_count (l := s.data.toList) (by omega)))
          clear hM hQ
          go_wp2
          go_ret2
          exact lines_no E.out (by decide) (Below.refl _ _)
        · have hlb := longB_not (l := s.data.toList) (by rw [len_size]; exact h1) (by omega)
          have HM3 := Lib.hid hM
          clear hM
          cases q
          · have hA := all_of_wrongB hQ.symm
            have hn : 1 ≤ (cut 10 s.data.toList).length := by rw [cut_len]; omega
            have hn2 : (cut 10 s.data.toList).length ≤ 4097 := by rw [cut_len, ← HM3.out]; omega
            by_cases hz : s.size = 0
            · have hnl : s.data.toList = [] := List.eq_nil_of_length_eq_zero (by rw [len_size]; exact hz)
              have E := Lib.hid (lineE_ok hlb (by rw [hnl]; rfl))
              have e0 : s.toList = [] := by rw [ByteArray.toList_eq]; exact hnl
              clear hnl hA hQ hlb hz
              go_wp2_with fail
              refine (rsplit_any s 10 _ (by omega)).mono ?_
              rintro e w2 ⟨v, rfl, hv, hb2⟩
              have HV := Lib.hid hv
              obtain ⟨A, c, rfl, hcap, hcell⟩ := hv
              clear hcell
              go_wp2_with fail
              go_ret2
              exact lines_yes E.out HV.out (by omega) hb2
            · have hne : s.data.toList ≠ [] := by intro e; have := len_size s; rw [e] at this; simp at this; omega
              have e0 : (s.toList == []) = false := by rw [ByteArray.toList_eq]; simpa using hne
              have e2 : s.toList.isEmpty = false := by rw [ByteArray.toList_eq]; simpa using hne
              have hp : 0 < s.size := by omega
              have hl := last_byte s hp
              by_cases hc : s[s.size - 1]'(Nat.sub_lt hp Nat.one_pos) = 10
              · have E := Lib.hid (lineE_ok hlb (formB_yes hA (by rw [hl, hc])))
                have hb : (((s[s.size - 1]'(Nat.sub_lt hp Nat.one_pos)).toNat : Int) == 10) = true := by rw [hc]; rfl
                have hb2 : (((s[s.size - 1]'(Nat.sub_lt hp Nat.one_pos)).toNat : Int) != 10) = false := by rw [hc]; rfl
                clear hA hl hc hne hz hQ hlb
                go_wp2_with fail
                refine (rsplit_any s 10 _ (by omega)).mono ?_
                rintro e w2 ⟨v, rfl, hv, hb2⟩
                have HV := Lib.hid hv
                obtain ⟨A, c, rfl, hcap, hcell⟩ := hv
                clear hcell
                go_wp2_with fail
                go_ret2
                exact lines_yes E.out HV.out (by omega) hb2
              · have E := Lib.hid (lineE_form hlb (formB_end hne (by rw [hl]; intro e; injection e with e; exact hc e)))
                have hb : (((s[s.size - 1]'(Nat.sub_lt hp Nat.one_pos)).toNat : Int) == 10) = false := by
                  rw [beq_eq_false_iff_ne]; intro e
                  exact hc (UInt8.toNat_inj.1 (by have : (10 : UInt8).toNat = 10 := rfl; omega))
                have hb2 : (((s[s.size - 1]'(Nat.sub_lt hp Nat.one_pos)).toNat : Int) != 10) = true := by
                  rw [bne_iff_ne]; intro e
                  exact hc (UInt8.toNat_inj.1 (by have : (10 : UInt8).toNat = 10 := rfl; omega))
                clear hA hl hc hne hz hQ hlb
                go_wp2
                go_ret2
                exact lines_no E.out (by decide) (Below.refl _ _)
          · have E := Lib.hid (lineE_form hlb (formB_wrong hQ.symm))
            clear hQ hlb
            go_wp2
            go_ret2
            exact lines_no E.out (by decide) (Below.refl _ _)
end Go.Proofs.YtdopmhbhhbejpaaDoor.Words
