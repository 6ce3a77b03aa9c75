/- Contract of the document's answers for layer 5: the address that parts make. -/
import Derived.Test.YtokbifndhkijiaaDoorRef05Full
namespace Go.Proofs.YtokbifndhkijiaaDoor.V6
set_option maxRecDepth 100000
open Go.ChangeShapes Go.WideShapes Go.ChangeAt Go.RowKit
open Dec Words V4
set_option linter.unusedVariables false
def hiF (ls : List (List UInt8)) : Nat := if fullB ls then val ((nums (spell ls)).take 4) else 0
def loF (ls : List (List UInt8)) : Nat := if fullB ls then val ((nums (spell ls)).drop 4) else 0
def Full6 (ls : List (List UInt8)) (w : World) (e : Ending) (w' : World) : Prop := e = .returned (.tuple #[.int .u64 (hiF ls : Nat), .int .u64 (loF ls : Nat), .bool (fullB ls)]) ∧ Below w.heap.size w w'
theorem full6_no {ls : List (List UInt8)} {w w' : World} {e : Ending} (h : fullB ls = false) (he : e = .returned (.tuple #[.int .u64 0, .int .u64 0, .bool false])) (hb : Below w.heap.size w w') : Full6 ls w e w' :=
  ⟨by unfold hiF loF; rw [h]; exact he, hb⟩
theorem full6_yes {ls : List (List UInt8)} {w w' : World} {e : Ending} {a b : Nat} (h : fullB ls = true) (ha : a = val ((nums (spell ls)).take 4)) (hb' : b = val ((nums (spell ls)).drop 4)) (he : e = .returned (.tuple #[.int .u64 a, .int .u64 b, .bool true])) (hb : Below w.heap.size w w') : Full6 ls w e w' :=
  ⟨by unfold hiF loF; rw [h, if_pos rfl, if_pos rfl, ← ha, ← hb']; exact he, hb⟩
/-- What is gathered of the first k parts. -/
def St (ls : List (List UInt8)) (k : Nat) (G : List Int) : Prop :=
  (k < ls.length → allHex (ls.take k) = true ∧ G = nums (ls.take k)) ∧ (k = ls.length → allHex (spell ls) = true ∧ G = nums (spell ls)) ∧ G.length ≤ k + 1
theorem St.start (ls : List (List UInt8)) : St ls 0 [] := by
  refine ⟨fun _ => ⟨rfl, rfl⟩, fun h => ?_, by simp⟩
  have : ls = [] := List.eq_nil_of_length_eq_zero h.symm
  subst this; exact ⟨rfl, rfl⟩
theorem last_part {ls : List (List UInt8)} {k : Nat} (hk : k < ls.length) (h : k + 1 = ls.length) : ls = ls.take k ++ [ls[k]] := by
  conv => lhs; rw [← List.take_of_length_le (Nat.le_of_eq h.symm), List.take_succ_eq_append_getElem hk]
theorem St.hex {ls : List (List UInt8)} {k : Nat} {G : List Int} (h : St ls k G) (hk : k < ls.length) (hx : hexB ls[k] = true) : St ls (k + 1) (G ++ [hexN ls[k]]) := by
  obtain ⟨h1, h2⟩ := h.1 hk
  have e1 : allHex (ls.take (k + 1)) = true := by rw [List.take_succ_eq_append_getElem hk, allHex_append, h1]; simp [allHex, hx]
  have e2 : nums (ls.take (k + 1)) = G ++ [hexN ls[k]] := by rw [List.take_succ_eq_append_getElem hk, nums_append, ← h2]; rfl
  refine ⟨fun _ => ⟨e1, e2.symm⟩, fun e => ?_, by have := h.2.2; simp; omega⟩
  have e3 : spell ls = ls := by
    conv => lhs; rw [last_part hk e]
    rw [spell_off (hexB_not_ok4 hx), ← last_part hk e]
  rw [List.take_of_length_le (by omega)] at e1 e2
  rw [e3]; exact ⟨e1, e2.symm⟩
theorem St.four {ls : List (List UInt8)} {k : Nat} {G : List Int} (h : St ls k G) (hk : k < ls.length) (hx : ok4 ls[k] = true) (e : k + 1 = ls.length) :
    St ls (k + 1) (G ++ [((num4 ls[k] / 65536 : Nat) : Int)] ++ [((num4 ls[k] % 65536 : Nat) : Int)]) := by
  obtain ⟨h1, h2⟩ := h.1 hk
  have e3 : spell ls = ls.take k ++ [hi4 ls[k], lo4 ls[k]] := by
    conv => lhs; rw [last_part hk e]
    exact spell_on hx
  refine ⟨fun h => by omega, fun _ => ⟨?_, ?_⟩, ?_⟩
  · rw [e3, allHex_append, h1]; simp [allHex, hexB_hi4, hexB_lo4]
  · rw [e3, nums_append, ← h2]; simp [nums, hexN_hi4, hexN_lo4]
  · rw [h2]; simp [nums]; omega
theorem fullB_mem {ls : List (List UInt8)} {x : List UInt8} (h : x ∈ spell ls) (hx : hexB x = false) : fullB ls = false := by
  have : allHex (spell ls) = false := by unfold allHex; rw [List.all_eq_false]; exact ⟨x, h, by simp [hx]⟩
  unfold fullB; rw [this]; rfl
theorem spell_mem {ls : List (List UInt8)} {k : Nat} (hk : k < ls.length) (h : k + 1 ≠ ls.length ∨ ok4 ls[k] = false) : ls[k] ∈ spell ls := by
  obtain ⟨q, x, e⟩ : ∃ q x, ls = q ++ [x] := ⟨ls.dropLast, ls.getLast (by intro e; subst e; simp at hk), (List.dropLast_concat_getLast _).symm⟩
  subst e
  by_cases hq : k < q.length
  · rw [spell_snoc, List.getElem_append_left hq]
    exact List.mem_append_left _ (List.getElem_mem hq)
  · have : k = q.length := by simp at hk; omega
    subst this
    rcases h with h | h
    · simp at h
    · simp only [List.getElem_concat_length] at h ⊢
      rw [spell_off h]; simp
theorem St.done {ls : List (List UInt8)} {k : Nat} {G : List Int} (h : St ls k G) (hk : k ≤ ls.length) (h9 : k < ls.length → k = 9) : fullB ls = true ↔ G.length = 8 ∧ ls.length ≤ 8 := by
  have hs := spell_len ls
  unfold fullB
  by_cases e : k = ls.length
  · obtain ⟨h1, h2⟩ := h.2.1 e
    have : G.length = (spell ls).length := by rw [h2]; simp [nums]
    rw [h1]; simp; omega
  · have := h9 (by omega)
    constructor
    · intro h; simp at h; omega
    · intro h; omega
theorem St.eq {ls : List (List UInt8)} {k : Nat} {G : List Int} (h : St ls k G) (hk : k ≤ ls.length) (h9 : k < ls.length → k = 9) (h8 : ls.length ≤ 8) : G = nums (spell ls) := by
  have e : k = ls.length := by omega
  exact (h.2.1 e).2
theorem int_one {w : World} {v u : Value} {e : Nat} (j : Nat) (h : [v][j]? = some u) : (w.alloc (.cells #[v] e)).cell? ((⟨w.heap.size, 0, none⟩ : Addr).add j) = some u := int_cell j h
/-- The two halves so far. -/
def cellsH (G : List Int) (k : Nat) (i : Nat) : Value := if i = 0 then .int .u64 (val ((G.take 4).take k) : Nat) else .int .u64 (val ((G.drop 4).take (k - 4)) : Nat)
theorem half_step (G : List Int) (hb : ∀ g ∈ G, 0 ≤ g ∧ g ≤ 65535) (k : Nat) (hk : k ≤ 3) (hlt : k < G.length) : (val (G.take k) : Int) * 65536 + G[k] = ((val (G.take (k + 1)) : Nat) : Int) ∧ val (G.take k) < 281474976710656 := by
  have hv := val_take_lt G hb k hk
  have h3 : (65536 : Nat) ^ k ≤ 65536 ^ 3 := Nat.pow_le_pow_right (by omega) (by omega)
  have h4 : (65536 : Nat) ^ 3 = 281474976710656 := by decide
  have hp := hb G[k] (List.getElem_mem hlt)
  rw [List.take_succ_eq_append_getElem hlt, val_snoc]
  omega
theorem rparseHex_list (l : List UInt8) (w : World) (hs : l.length ≤ 9223372036854775807) :
    Calls Tryd.prog 43 #[.string ⟨l.toArray⟩] w fun e w' => e = .returned (.tuple #[.int .i64 (hexN l), .bool (hexB l)]) ∧ w = w' := by
  have := rparseHex_any ⟨l.toArray⟩ w (by rw [← len_size, str_back]; exact hs)
  rwa [str_back] at this
set_option maxHeartbeats 4000000 in
theorem rfull_any (ls : List (List UInt8)) (A : Option Addr) (c : Nat) (w : World) (h : Src w A c ls) (hn : ls.length ≤ 100000) (hl : ∀ x ∈ ls, x.length ≤ 100000) :
    Calls Tryd.prog 41 #[.slice A ls.length c] w (Full6 ls w) := by
  obtain ⟨i0, hi, hz0, hz1, hz2⟩ := info_parts Tryd.infoInt
  have HS := Lib.hid h
  have HL := Lib.hid hl
  clear h hl
  go_enter Tryd.func41, Tryd.ntmps41
  go_wp2
  go_loopw [5, 6] (fun v i wr => ∃ (k : Nat) (G : List Int), k ≤ ls.length ∧ k ≤ 9 ∧ i = .int .i64 k ∧ St ls k G ∧ wr.ownsRow w.heap.size 3 1 v G.length (G.map intV) ∧ Below w.heap.size w wr) (fun _ i _ => 9 - (intOf i).toNat)
  case atStart => exact ⟨0, [], by omega, by omega, rfl, St.start ls, ⟨by simp, .inl ⟨rfl, rfl⟩⟩, Below.refl _ _⟩
  case round =>
    obtain ⟨k, G, hk, hk9, rfl, hst, hown, hbel⟩ := hrel
    have hsz := hbel.size
    have hgl := hst.2.2
    by_cases hlt : k < ls.length
    · by_cases h9 : k < 9
      · obtain ⟨b, o, rfl, hb, hc⟩ := HS.out.at_ hlt
        have h1 := (hbel.cell (p := ⟨b, o + k, none⟩) hb).trans hc
        have hxl := HL.out _ (List.getElem_mem hlt)
        have HX := Lib.hid (rparseHex_list ls[k] wr (by omega))
        have hbd := hexN_bd ls[k]
        clear hc
        cases hpb : hexB ls[k]
        · have HV := Lib.hid (rparse4_any ls[k] wr (by omega))
          unfold Parse4 at HV
          have hn4 := num4_lt ls[k]
          rw [hpb] at HX
          cases hp4 : ok4 ls[k]
          · have E : Hid (fullB ls = false) := Lib.hid (fullB_mem (spell_mem hlt (Or.inr hp4)) hpb)
            rw [hp4] at HV
            clear hpb hp4 hst
            go_wp2_with fail
            refine HX.out.mono ?_
            rintro e w2 ⟨rfl, rfl⟩
            go_wp2_with fail
            refine HV.out.mono ?_
            rintro e w3 ⟨rfl, hb3⟩
            go_wp2
            go_ret3
            exact full6_no E.out rfl (low_trans hbel hb3)
          · rw [hp4] at HV
            by_cases hlast : k + 1 = ls.length
            · have hst2 := hst.four hlt hp4 hlast
              have q0 : ((k : Int) != (ls.length : Int) - 1) = false := by rw [← hlast]; simp
              obtain ⟨m, hm⟩ : ∃ m, m = num4 ls[k] := ⟨_, rfl⟩
              rw [← hm] at hst2 HV hn4
              have HST := Lib.hid hst2
              have hk1 : (ls.length : Int) - 1 = k := by omega
              have HLAST := Lib.hid hlast
              clear hpb hp4 hst hm hst2 hlast hk1
              go_wp2_with fail
              refine HX.out.mono ?_
              rintro e w2 ⟨rfl, rfl⟩
              go_wp2_with fail
              refine HV.out.mono ?_
              rintro e w3 ⟨rfl, hb3⟩
              have hown3 : w3.ownsRow w.heap.size 3 1 u5 G.length (G.map intV) := own_below hown hb3
              have hbel3 := low_trans hbel hb3
              have hsz3 := hbel3.size
              clear hown hbel hb3 hsz
              go_wp2_with (at_builtin; refine wpList_append_own _ rfl _ _ 54 rfl w.heap.size 3 i0 (.int .i64 0) 1 8 Tryd.underlying54 hi hz0 hz1 hz2 rfl (by decide) _ _ _ rfl (hown3.alloc _) ⟨w3.heap.size, 0, none⟩ 1 1 [.int .i64 ((m : Int) / 65536)] rfl rfl ?c1 ?c2 ?c3 ?c4 ?c5 ?_)
              case c1 => exact fun j u h => int_cell j h
              case c2 => intro u hu; simp at hu; subst hu; rfl
              case c3 => unfold maxLen; omega
              case c4 => omega
              case c5 => simp; omega
              intro v' w4 hown4 hgrow _
              have hbel4 := (hbel3.alloc hsz3 (.cells #[.int .i64 ((m : Int) / 65536)] 3)).grown hgrow (by simp; omega) (fun q hq => (hown3.lt q hq).1)
              have hsz4 := hbel4.size
              clear hgrow hown3 hbel3
              go_wp2_with (at_builtin; refine wpList_append_own _ rfl _ _ 54 rfl w.heap.size 3 i0 (.int .i64 0) 1 8 Tryd.underlying54 hi hz0 hz1 hz2 rfl (by decide) _ _ _ rfl (hown4.alloc _) ⟨w4.heap.size, 0, none⟩ 1 1 [.int .i64 ((m : Int) % 65536)] rfl rfl ?d1 ?d2 ?d3 ?d4 ?d5 ?_)
              case d1 => exact fun j u h => int_cell j h
              case d2 => intro u hu; simp at hu; subst hu; rfl
              case d3 => unfold maxLen; omega
              case d4 => omega
              case d5 => simp; omega
              intro v5 w5 hown5 hgrow _
              have hbel5 := (hbel4.alloc hsz4 (.cells #[.int .i64 ((m : Int) % 65536)] 3)).grown hgrow (by simp; omega) (fun q hq => (hown4.lt q hq).1)
              clear hgrow hown4 hbel4
              go_wp2
              go_roundw
              case rel => exact ⟨k + 1, _, by omega, by omega, by go_num, HST.out, by simpa [intV] using hown5, hbel5⟩
              case measure => simp [intOf]; omega
            · have E : Hid (fullB ls = false) := Lib.hid (fullB_mem (spell_mem hlt (Or.inl hlast)) hpb)
              have q0 : ((k : Int) != (ls.length : Int) - 1) = true := by rw [bne_iff_ne]; omega
              clear hpb hp4 hst
              go_wp2_with fail
              refine HX.out.mono ?_
              rintro e w2 ⟨rfl, rfl⟩
              go_wp2_with fail
              refine HV.out.mono ?_
              rintro e w3 ⟨rfl, hb3⟩
              go_wp2
              go_ret3
              exact full6_no E.out rfl (low_trans hbel hb3)
        · have hst2 := hst.hex hlt hpb
          have HST := Lib.hid hst2
          rw [hpb] at HX
          clear hpb hst hst2
          go_wp2_with fail
          refine HX.out.mono ?_
          rintro e w2 ⟨rfl, rfl⟩
          go_wp2_with (at_builtin; refine wpList_append_own _ rfl _ _ 54 rfl w.heap.size 3 i0 (.int .i64 0) 1 8 Tryd.underlying54 hi hz0 hz1 hz2 rfl (by decide) _ _ _ rfl (hown.alloc _) ⟨wr.heap.size, 0, none⟩ 1 1 [.int .i64 (hexN ls[k])] rfl rfl ?e1 ?e2 ?e3 ?e4 ?e5 ?_)
          case e1 => exact fun j u h => int_cell j h
          case e2 => intro u hu; simp at hu; subst hu; rfl
          case e3 => unfold maxLen; omega
          case e4 => omega
          case e5 => simp; omega
          · intro v' w3 hown' hgrow _
            have hb3 := (hbel.alloc hsz (.cells #[.int .i64 (hexN ls[k])] 3)).grown hgrow (by simp; omega) (fun q hq => (hown.lt q hq).1)
            clear hgrow hown hbel
            go_wp2
            go_roundw
            case rel => exact ⟨k + 1, _, by omega, by omega, by go_num, HST.out, by simpa [intV] using hown', hb3⟩
            case measure => simp [intOf]; omega
      · obtain ⟨A5, c5, rfl⟩ := own_form hown
        have hF := hst.done hk (fun _ => by omega)
        by_cases hfb : fullB ls = true
        · exfalso; have := (hF.1 hfb).2; omega
        · have E : Hid (fullB ls = false) := Lib.hid (by simpa using hfb)
          have hF2 : ¬ (G.length = 8 ∧ ls.length ≤ 8) := fun h => hfb (hF.2 h)
          clear hF hfb hst
          by_cases g8 : G.length = 8
          · have g80 : ((G.length : Int) != 8) = false := by rw [g8]; rfl
            have l8 : 8 < ls.length := by omega
            clear hF2
            have G8 := Lib.hid g8
            clear g8
            go_wp2
            go_ret3
            exact full6_no E.out rfl hbel
          · have g80 : ((G.length : Int) != 8) = true := by rw [bne_iff_ne]; omega
            clear hF2
            go_wp2
            go_ret3
            exact full6_no E.out rfl hbel
    · obtain ⟨A5, c5, rfl⟩ := own_form hown
      have hF := hst.done hk (fun _ => by omega)
      by_cases hfb : fullB ls = true
      · obtain ⟨g8, l8⟩ := hF.1 hfb
        have hG := hst.eq hk (fun _ => by omega) l8
        have E := Lib.hid hfb
        have HG := Lib.hid hG
        have H8 := Lib.hid g8
        have g80 : ((G.length : Int) != 8) = false := by rw [g8]; rfl
        have HB : Hid (∀ g ∈ G, 0 ≤ g ∧ g ≤ 65535) := by rw [hG]; exact nums_bd
        have hj0 : 0 < G.length := by omega
        obtain ⟨g5, hA5⟩ : ∃ g5, A5 = some ⟨g5, 0, none⟩ := by
          rcases hown.2 with ⟨h1, h2⟩ | ⟨g, cap, cur, h1, _⟩
          · omega
          · injection h1 with h1; exact ⟨g, h1⟩
        subst hA5
        have hc5 : Hid (∀ j (h : j < G.length), wr.cell? ⟨g5, j, none⟩ = some (.int .i64 G[j])) := fun j h => by
          have := hown.cells (g := g5) rfl j (intV G[j]) (by rw [List.getElem?_map, List.getElem?_eq_getElem h]; rfl)
          rw [show (⟨g5, 0, none⟩ : Addr).add j = ⟨g5, j, none⟩ from by unfold Addr.add; split <;> simp_all] at this
          exact this
        have hg5 : g5 < wr.heap.size := (hown.lt g5 rfl).2
        obtain ⟨W, hW⟩ : ∃ W, W = wr := ⟨_, rfl⟩
        subst hW
        clear hF hfb hG g8 hst hown hj0
        go_wp2
        go_loopw [12] (fun i wr2 => ∃ j : Nat, j ≤ 8 ∧ i = .int .i64 j ∧ wr2.rowIs W.heap.size 77 2 (cellsH G j) ∧ Below W.heap.size W wr2) (fun i _ => 8 - (intOf i).toNat)
        case atStart => exact ⟨0, by omega, rfl, World.rowIs_alloc _ _ _ (cellsH G 0) (fun i hi => by
          have : i = 0 ∨ i = 1 := by have : i < 2 := hi; omega
          rcases this with rfl | rfl <;> rfl), (Below.refl _ _).alloc (Nat.le_refl _) _⟩
        case round =>
          obtain ⟨j, hj, rfl, hrow, hbel2⟩ := hrel
          by_cases hlt8 : j < 8
          · have hj8 : j < G.length := by rw [H8.out]; exact hlt8
            have hgc := (hbel2.cell (p := ⟨g5, j, none⟩) hg5).trans (hc5.out j hj8)
            have hgb := HB.out G[j] (List.getElem_mem hj8)
            by_cases h4 : j < 4
            · have q1 : (j : Int) / 4 = 0 := by omega
              have q2 : IntKind.i64.wrap 0 = 0 := rfl
              have hcell := hrow.cell (i := 0) (by omega)
              have hfro := hrow.frozen 0
              unfold cellsH at hcell
              rw [if_pos rfl] at hcell
              have hst := half_step (G.take 4) (fun g hg => HB.out g (List.mem_of_mem_take hg)) j (by omega) (by rw [List.length_take, H8.out]; omega)
              rw [List.getElem_take] at hst
              have hv := hst.2
              have HST := Lib.hid hst.1
              clear hst
              obtain ⟨x, hx⟩ : ∃ x, x = val ((G.take 4).take j) := ⟨_, rfl⟩
              obtain ⟨y, hy⟩ : ∃ y, y = G[j] := ⟨_, rfl⟩
              rw [← hx] at hcell hv HST
              rw [← hy] at hgc hgb HST
              clear hx hy
              have hs := ((hrow.set 0 (.int .u64 ((x : Int) * 65536 + y))).congr (g := cellsH G (j + 1)) (fun i hi => by
                unfold cellsH
                by_cases e : i = 0
                · rw [if_pos e, if_pos e, HST.out]
                · rw [if_neg e, if_neg e, if_neg e, show j - 4 = 0 by omega, show j + 1 - 4 = 0 by omega])).drew
              have hb3 := low_drewN (hbel2.setCell (p := ⟨W.heap.size, 0, none⟩) (Nat.le_refl _) (.int .u64 ((x : Int) * 65536 + y))) 1
              go_wp2
              go_region
              clear q1 q2
              go_wp2
              go_roundw
              case rel => exact ⟨j + 1, by omega, by go_num, hs, hb3⟩
              case measure => simp [intOf]; omega
            · have q1 : (j : Int) / 4 = 1 := by omega
              have q2 : IntKind.i64.wrap 1 = 1 := rfl
              have hcell := hrow.cell (i := 1) (by omega)
              have hfro := hrow.frozen 1
              unfold cellsH at hcell
              rw [if_neg (by omega)] at hcell
              have hst := half_step (G.drop 4) (fun g hg => HB.out g (List.mem_of_mem_drop hg)) (j - 4) (by omega) (by rw [List.length_drop, H8.out]; omega)
              rw [List.getElem_drop] at hst
              have hv := hst.2
              have HST := Lib.hid hst.1
              clear hst
              obtain ⟨x, hx⟩ : ∃ x, x = val ((G.drop 4).take (j - 4)) := ⟨_, rfl⟩
              obtain ⟨y, hy⟩ : ∃ y, y = G[j] := ⟨_, rfl⟩
              have hy2 : G[4 + (j - 4)]'(by omega) = y := by rw [hy]; congr 1; omega
              rw [← hx] at hcell hv HST
              rw [hy2] at HST
              rw [← hy] at hgc hgb
              clear hx hy hy2
              have hs := ((hrow.set 1 (.int .u64 ((x : Int) * 65536 + y))).congr (g := cellsH G (j + 1)) (fun i hi => by
                unfold cellsH
                by_cases e : i = 1
                · rw [if_pos e, if_neg (by omega), HST.out, show j + 1 - 4 = j - 4 + 1 by omega]
                · have e0 : i = 0 := by have : i < 2 := hi; omega
                  rw [if_neg e, if_pos e0, if_pos e0, List.take_of_length_le (i := j) (by rw [List.length_take]; omega), List.take_of_length_le (i := j + 1) (by rw [List.length_take]; omega)])).drew
              have hb3 := low_drewN (hbel2.setCell (p := ⟨W.heap.size, 1, none⟩) (Nat.le_refl _) (.int .u64 ((x : Int) * 65536 + y))) 1
              go_wp2
              go_region
              clear q1 q2
              go_wp2
              go_roundw
              case rel => exact ⟨j + 1, by omega, by go_num, hs, hb3⟩
              case measure => simp [intOf]; omega
          · have hj8 : j = 8 := by omega
            subst hj8
            have hcell0 : wr.cell? ⟨W.heap.size, 0, none⟩ = some (.int .u64 (val (G.take 4) : Nat)) := by
              have := hrow.cell (i := 0) (by omega)
              unfold cellsH at this
              rwa [if_pos rfl, List.take_of_length_le (i := 8) (by rw [List.length_take]; omega)] at this
            have hcell1 : wr.cell? ⟨W.heap.size, 1, none⟩ = some (.int .u64 (val (G.drop 4) : Nat)) := by
              have := hrow.cell (i := 1) (by omega)
              unfold cellsH at this
              rwa [if_neg (by omega), List.take_of_length_le (by rw [List.length_drop, H8.out]; omega)] at this
            go_wp2
            go_quiet (fail)
            go_wp2
            go_ret3
            exact full6_yes E.out (by rw [HG.out]) (by rw [HG.out]) rfl (low_drewN (low_trans hbel hbel2) _)
      · have E : Hid (fullB ls = false) := Lib.hid (by simpa using hfb)
        have hF2 : ¬ (G.length = 8 ∧ ls.length ≤ 8) := fun h => hfb (hF.2 h)
        clear hF hfb hst
        by_cases g8 : G.length = 8
        · have g80 : ((G.length : Int) != 8) = false := by rw [g8]; rfl
          have l8 : 8 < ls.length := by omega
          clear hF2
          have G8 := Lib.hid g8
          clear g8
          go_wp2
          go_ret3
          exact full6_no E.out rfl hbel
        · have g80 : ((G.length : Int) != 8) = true := by rw [bne_iff_ne]; omega
          clear hF2
          go_wp2
          go_ret3
          exact full6_no E.out rfl hbel
end Go.Proofs.YtokbifndhkijiaaDoor.V6
