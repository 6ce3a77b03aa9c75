/- Contracts of package rank, second part: places in order, who stands first, ranks. -/
import Derived.Test.YthmcggbmeabpmaaPeersAll
import Derived.Test.YthmcggbmeabpmaaStbAll
import Derived.Test.YthmcggbmeabpmaaRank
import Derived.Test.YthmcggbmeabpmaaMixAll
import Derived.Lib.MinMax
import Derived.Deep.DeepCutAuto
namespace Go.Proofs.Ythmcggbmeabpmaa.Ra
set_option maxRecDepth 100000
open Go.ChangeShapes Go.WideShapes Go.ChangeAt Go.RowKit
open Dec Words V4 V6 Ad Ci En Sat Ha Pe Stb Gr Mi Go.Deep
set_option linter.unusedVariables false
abbrev OwnL (B : Nat) (w : World) (v : Value) (l : List Pl) : Prop := w.ownsRow B 98 6 v l.length (flat encL l)
theorem own_on {B k n : Nat} {e : TypeId} {w w' : World} {v : Value} {xs : List Value} (h : w.ownsRow B e k v n xs) (hb : Below w.heap.size w w') : w'.ownsRow B e k v n xs := h.kept (row := none) ⟨hb.os, hb.tape, hb.output, hb.size, fun j hj _ => hb.block j hj⟩ (by cases v.ownBlock <;> simp)
theorem append_place {B : Nat} {W : World} {v : Value} {xs : List Pl} (hown : OwnL B W v xs) (y : Pl) (hlen : xs.length ≤ 1000000) (hB : B ≤ W.heap.size) :
    ∃ v' w', (Builtin.append_ #[95, 95] 95 #[v, .slice (some ⟨W.heap.size, 0, none⟩) 1 1]).run Try.prog (W.alloc (.cells #[.int .u64 (y.k : Nat), .bool y.e.a.v6, .int .u64 y.e.a.hi, .int .u64 y.e.a.lo, .int .i64 y.e.n, .int .i64 y.i] 98)) = .ok v' w' ∧ OwnL B w' v' (xs ++ [y]) ∧ Below B W w' := by
  obtain ⟨v', w', h1, h2, h3⟩ := append_recs (P := Try.prog) (z := .agg #[.int .u64 0, .bool false, .int .u64 0, .int .u64 0, .int .i64 0, .int .i64 0]) (bytes := 48) Try.underlying95 (by kernel_rfl) rfl (by decide) encL_len encL_one (hown.alloc (.cells #[.int .u64 (y.k : Nat), .bool y.e.a.v6, .int .u64 y.e.a.hi, .int .u64 y.e.a.lo, .int .i64 y.e.n, .int .i64 y.i] 98))
    (Recs.lit encL_len W [y] #[.int .u64 (y.k : Nat), .bool y.e.a.v6, .int .u64 y.e.a.hi, .int .u64 y.e.a.lo, .int .i64 y.e.n, .int .i64 y.i] 98 (by rw [flat_one]; rfl)) (by simp; omega) (by simp; omega) (Nat.le_trans hB (by simp))
  exact ⟨v', w', h1, h2, ((Below.refl B W).alloc hB _).trans h3⟩
/-- A list of places that a call made, whole. -/
def Arr (w : World) (v : Value) (L : List Pl) : Prop := (v = .slice none 0 0 ∧ L = []) ∨ ∃ g cap tail, v = .slice (some ⟨g, 0, none⟩) L.length cap ∧ L.length ≤ cap ∧ cap ≤ maxLen ∧ Blk w g 98 (flat encL L ++ tail)
theorem Arr.of_own {B : Nat} {w : World} {v : Value} {L : List Pl} (h : OwnL B w v L) : (v = .slice none 0 0 ∧ L = []) ∨ ∃ g cap tail, v = .slice (some ⟨g, 0, none⟩) L.length cap ∧ B ≤ g ∧ L.length ≤ cap ∧ cap ≤ maxLen ∧ Blk w g 98 (flat encL L ++ tail) := by
  rcases h.2 with ⟨h1, h2⟩ | ⟨g, cap, cur, h1, h2, h3, h4, h5, h6, h7⟩
  · exact Or.inl ⟨h1, List.eq_nil_of_length_eq_zero h2⟩
  · refine Or.inr ⟨g, cap, cur.toList.drop (L.length * 6), h1, h2, h4, h5, ?_⟩
    rw [← h7, List.take_append_drop]
    unfold Blk
    simpa using h3
set_option maxHeartbeats 1000000 in
theorem insertion_nil (w : World) : Calls Try.prog 84 #[.slice none 0 0, .int .i64 0, .int .i64 0, .func (.func 70) #[] #[]] w fun e w' => e = .returned (.tuple #[]) ∧ w = w' := by
  go_enter Try.func84, Try.ntmps84
  go_wp2_with fail
  go_loopw [8] (fun vi wr => vi = .int .i64 1 ∧ wr = w) (fun _ _ => 0)
  case atStart => exact ⟨rfl, rfl⟩
  case round =>
    obtain ⟨rfl, rfl⟩ := hrel
    go_wp2_with fail
    go_end0
    exact ⟨rfl, rfl⟩
set_option maxHeartbeats 1000000 in
theorem stable_nil (w : World) : Calls Try.prog 78 #[.slice none 0 0, .int .i64 0, .func (.func 70) #[] #[]] w fun e w' => e = .returned (.tuple #[]) ∧ w = w' := by
  have KI := Lib.hid (fun W => insertion_nil W)
  go_enter Try.func78, Try.ntmps78
  go_wp2_with fail
  go_loopw [7, 8] (fun va vb wr => va = .int .i64 0 ∧ vb = .int .i64 20 ∧ wr = w) (fun _ _ _ => 0)
  case atStart => exact ⟨rfl, rfl, rfl⟩
  case round =>
    obtain ⟨rfl, rfl, rfl⟩ := hrel
    go_wp2_with fail
    refine (KI.out _).mono ?_
    rintro e9 w1 ⟨rfl, rfl⟩
    go_wp2_with fail
    go_loopw [6] (fun va w2 => va = .int .i64 20 ∧ w2 = wr) (fun _ _ => 0)
    case atStart => exact ⟨rfl, rfl⟩
    case round =>
      obtain ⟨rfl, rfl⟩ := hrel
      go_wp2_with fail
      go_end0
      exact ⟨rfl, rfl⟩
theorem sortStable_nil (w : World) : Calls Try.prog 69 #[.slice none 0 0, .func (.func 70) #[] #[]] w fun e w' => e = .returned (.tuple #[]) ∧ w = w' := by
  go_enter Try.func69, Try.ntmps69
  go_wp2_with fail
  refine (stable_nil _).mono ?_
  rintro e9 w1 ⟨rfl, rfl⟩
  go_wp2_with fail
  go_end0
  exact ⟨rfl, rfl⟩
/-- slices.SortStableFunc at a call's own places: those that count, in order. -/
theorem sort_places {B : Nat} {w : World} {v : Value} {l : List Pr} {b : Int} {s : Nat} (h : OwnL B w v (placesTo l b s l.length)) (hl : l.length ≤ 1000000) (hok : ∀ x ∈ l, x.ok) (hB : B ≤ w.heap.size) :
    Calls Try.prog 69 #[v, .func (.func 70) #[] #[]] w fun e w' => e = .returned (.tuple #[]) ∧ Arr w' v ((ordR l b s).map fun i : Nat => placeR l[i]! b s (i : Int)) ∧ Below B w w' := by
  have hlen : (placesTo l b s l.length).length ≤ l.length := by rw [placesTo_length]; exact cntTo_le l b _
  have hoL : ((ordR l b s).map fun i : Nat => placeR l[i]! b s (i : Int)).length = (placesTo l b s l.length).length := by rw [List.length_map, ordR_length, placesTo_length]
  rcases Arr.of_own h with ⟨rfl, he⟩ | ⟨g, cap, tail, rfl, hg, hc, hcm, hD⟩
  · refine (sortStable_nil w).mono ?_
    rintro e9 w1 ⟨rfl, rfl⟩
    refine ⟨rfl, Or.inl ⟨rfl, ?_⟩, Below.refl _ _⟩
    rw [he] at hoL
    exact List.eq_nil_of_length_eq_zero hoL
  · have hR : Rw g (placesTo l b s l.length).length tail (fun i => (placesTo l b s l.length)[i]!) w := by
      refine ⟨by rw [ls_of]; exact hD, fun i hi => ?_⟩
      rw [getElem!_pos _ i hi]
      exact places_ok hok (Nat.le_refl _) hl _ (List.getElem_mem _)
    refine (sortStable_any (c := cap) hR (by omega) (fun p q h1 h2 => ?_)).mono ?_
    · rw [getElem!_pos _ p (by omega), getElem!_pos _ q h2]
      exact List.pairwise_iff_getElem.1 (places_asc l b s l.length) p q (by omega) h2 h1
    · rintro e9 w1 ⟨rfl, f', hm, hs, hR', hb⟩
      refine ⟨rfl, Or.inr ⟨g, cap, tail, ?_, ?_, hcm, ?_⟩, hb.low hg hB⟩
      · rw [hoL]
      · rw [hoL]; exact hc
      · have e := places_sorted (l := l) (b := b) (s := s) (ls_sorted hs) (fun x => by rw [ls_mem hm, ls_of])
        rw [← e]; exact hR'.dat
set_option maxHeartbeats 8000000 in
theorem arranged_any (v : Value) (l : List Pr) (b : Int) (s : Nat) (w : World) (h : Peers w v l) (hok : ∀ x ∈ l, x.ok) (hl : l.length ≤ 1000000) (hs : s < 18446744073709551616) :
    Calls Try.prog 61 #[v, .int .i64 b, .int .u64 (s : Nat)] w fun e w' => ∃ u, e = .returned u ∧ Arr w' u ((ordR l b s).map fun i : Nat => placeR l[i]! b s (i : Int)) ∧ Below w.heap.size w w' := by
  obtain ⟨A, c, rfl, hc, _, hcell⟩ := h
  have HC := Lib.hid hcell
  have HOK := Lib.hid hok
  have HS := Lib.hid hs
  clear hcell hok hs
  go_enter Try.func61, Try.ntmps61
  go_wp2_with fail
  go_loopw [7, 13] (fun vr vi wr => ∃ (i : Nat), vi = .int .i64 i ∧ i ≤ l.length ∧ Hid (OwnL w.heap.size wr vr (placesTo l b s i)) ∧ Hid (Below w.heap.size w wr)) (fun _ vi _ => l.length - (intOf vi).toNat)
  case atStart => exact ⟨0, rfl, Nat.zero_le _, Lib.hid ⟨rfl, Or.inl ⟨rfl, rfl⟩⟩, Lib.hid (Below.refl _ _)⟩
  case round =>
    obtain ⟨i, rfl, hik, HO, HL⟩ := hrel
    by_cases hli : i < l.length
    · have hliz : (i : Int) < (l.length : Int) := by omega
      obtain ⟨bb, o, rfl, hb, hcc⟩ := HC.out (by omega)
      have hlow := HL.out
      obtain ⟨x, hx⟩ : ∃ x, x = l[i]! := ⟨_, rfl⟩
      have c0 := peer_at hlow hb hcc hli (j := 0) rfl
      have c1 := peer_at hlow hb hcc hli (j := 1) rfl
      have c2 := peer_at hlow hb hcc hli (j := 2) rfl
      have c3 := peer_at hlow hb hcc hli (j := 3) rfl
      have c4 := peer_at hlow hb hcc hli (j := 4) rfl
      have c5 := peer_at hlow hb hcc hli (j := 5) rfl
      have c6 := peer_at hlow hb hcc hli (j := 6) rfl
      have c7 := peer_at hlow hb hcc hli (j := 7) rfl
      have c8 := peer_at hlow hb hcc hli (j := 8) rfl
      have c9 := peer_at hlow hb hcc hli (j := 9) rfl
      rw [Nat.add_zero] at c0
      rw [← hx] at c0 c1 c2 c3 c4 c5 c6 c7 c8 c9
      have hokx : x.ok := by rw [hx, getElem!_pos l i hli]; exact HOK.out _ (List.getElem_mem _)
      have Hx := Lib.hid hx
      clear hx
      have O1 := Lib.hid (Blk.new wr #[.bool x.e.a.v6, .int .u64 x.e.a.hi, .int .u64 x.e.a.lo, .int .i64 x.e.n, .bool x.i, .int .i64 x.t, .int .i64 x.c.p, .int .i64 x.c.a, .int .i64 x.g, .int .i64 x.k] 41)
      have L1 : Hid (Lows wr (wr.alloc (.cells #[.bool x.e.a.v6, .int .u64 x.e.a.hi, .int .u64 x.e.a.lo, .int .i64 x.e.n, .bool x.i, .int .i64 x.t, .int .i64 x.c.p, .int .i64 x.c.a, .int .i64 x.g, .int .i64 x.k] 41))) := Lib.hid (Lows.alloc (Lows.self wr) _)
      have KC : Hid (∀ W, Calls Try.prog 67 #[.agg #[.bool x.e.a.v6, .int .u64 x.e.a.hi, .int .u64 x.e.a.lo, .int .i64 x.e.n, .bool x.i, .int .i64 x.t, .int .i64 x.c.p, .int .i64 x.c.a, .int .i64 x.g, .int .i64 x.k], .int .i64 b] W fun e w' => e = .returned (.bool (countsR x b)) ∧ Below W.heap.size W w') := Lib.hid fun W => counts_any x b W
      have KP : Hid (∀ W, Calls Try.prog 68 #[.agg #[.bool x.e.a.v6, .int .u64 x.e.a.hi, .int .u64 x.e.a.lo, .int .i64 x.e.n, .bool x.i, .int .i64 x.t, .int .i64 x.c.p, .int .i64 x.c.a, .int .i64 x.g, .int .i64 x.k], .int .i64 b, .int .u64 (s : Nat)] W fun e w' => e = .returned (.agg #[.int .u64 (numR x b s : Nat), .bool (endR x b).a.v6, .int .u64 (endR x b).a.hi, .int .u64 (endR x b).a.lo, .int .i64 (endR x b).n, .int .i64 0]) ∧ Below W.heap.size W w') := Lib.hid fun W => placeOf_any x b s W hokx HS.out
      have hlen : (placesTo l b s i).length ≤ 1000000 := by rw [placesTo_length]; have := cntTo_le l b i; omega
      clear hokx hcc hlow
      cases hq : countsR x b with
      | true =>
        rw [hq] at KC
        have HY : Hid (placesTo l b s (i + 1) = placesTo l b s i ++ [⟨numR x b s, endR x b, (i : Int)⟩]) := Lib.hid (by rw [Hx.out] at hq ⊢; exact placesTo_yes hq)
        clear hq
        generalize numR x b s = kx at KP HY
        generalize endR x b = ex at KP HY
        go_wp2_with fail
        refine (KC.out _).mono ?_; rintro e9 w1 ⟨rfl, hb1⟩
        have L2 := Lib.hid (low_trans L1.out hb1)
        have O2 := Lib.hid (O1.out.on hb1)
        clear hb1 O1 L1 KC c0 c1 c2 c3 c4 c5 c6 c7 c8 c9
        have d0 := O2.out.cell (j := 0) rfl
        have d1 := O2.out.cell (j := 1) rfl
        have d2 := O2.out.cell (j := 2) rfl
        have d3 := O2.out.cell (j := 3) rfl
        have d4 := O2.out.cell (j := 4) rfl
        have d5 := O2.out.cell (j := 5) rfl
        have d6 := O2.out.cell (j := 6) rfl
        have d7 := O2.out.cell (j := 7) rfl
        have d8 := O2.out.cell (j := 8) rfl
        have d9 := O2.out.cell (j := 9) rfl
        go_wp2_with fail
        refine (KP.out _).mono ?_; rintro e9 w2 ⟨rfl, hb2⟩
        have L3 := Lib.hid (low_trans L2.out hb2)
        clear hb2 O2 L2 KP d0 d1 d2 d3 d4 d5 d6 d7 d8 d9
        obtain ⟨v', w', RR, HO2, hb5⟩ := append_place (B := w.heap.size) ((own_on HO.out L3.out).alloc (.cells #[.int .u64 (kx : Nat), .bool ex.a.v6, .int .u64 ex.a.hi, .int .u64 ex.a.lo, .int .i64 ex.n, .int .i64 i] 98)) (⟨kx, ex, (i : Int)⟩ : Pl) hlen (by have h1 := HL.out.size; have h2 := L3.out.size; simp; omega)
        rw [show (w2.alloc (.cells #[.int .u64 (kx : Nat), .bool ex.a.v6, .int .u64 ex.a.hi, .int .u64 ex.a.lo, .int .i64 ex.n, .int .i64 i] 98)).heap.size = w2.heap.size + 1 from by simp] at RR
        have R1 := Lib.hid RR
        have HO3 : Hid (OwnL w.heap.size w' v' (placesTo l b s (i + 1))) := Lib.hid (by rw [HY.out]; exact HO2)
        have HL3 : Hid (Below w.heap.size w w') := Lib.hid ((HL.out.trans (L3.out.mono HL.out.size)).trans (((Below.refl _ _).alloc (by have h1 := HL.out.size; have h2 := L3.out.size; omega) _).trans hb5))
        clear RR HO2 hb5 HO HL L3
        go_wp2_with (first
          | (at_builtin; refine wpList_append_run rfl (.tmp 27) (.tmp 29) _ _ rfl rfl _ _ _ _ rfl rfl R1.out ?_)
          | fail)
        go_roundw
        case rel => exact ⟨i + 1, by go_num, by omega, HO3, HL3⟩
        case measure => simp [intOf]; omega
      | false =>
        rw [hq] at KC
        have HY : Hid (placesTo l b s (i + 1) = placesTo l b s i) := Lib.hid (by rw [Hx.out] at hq; exact placesTo_no hq)
        clear hq KP
        go_wp2_with fail
        refine (KC.out _).mono ?_; rintro e9 w1 ⟨rfl, hb1⟩
        have L2 := Lib.hid (low_trans L1.out hb1)
        clear hb1 O1 L1 KC c0 c1 c2 c3 c4 c5 c6 c7 c8 c9
        go_wp2_with fail
        go_roundw
        case rel => exact ⟨i + 1, by go_num, by omega, Lib.hid (by rw [HY.out]; exact own_on HO.out L2.out), Lib.hid (HL.out.trans (L2.out.mono HL.out.size))⟩
        case measure => simp [intOf]; omega
    · have hliz : ¬ (i : Int) < (l.length : Int) := by omega
      have hie : i = l.length := by omega
      subst hie
      have KS := Lib.hid (sort_places HO.out hl HOK.out HL.out.size)
      clear HO
      go_wp2_with fail
      refine KS.out.mono ?_
      rintro e9 w1 ⟨rfl, hA, hb1⟩
      have HA := Lib.hid hA
      have HL2 := Lib.hid (HL.out.trans hb1)
      clear hA hb1 KS HL
      go_wp2_with fail
      go_ret
      exact ⟨_, rfl, HA.out, HL2.out⟩
def encN (n : Nat) : List Value := [.int .i64 (n : Int)]
theorem encN_len (n : Nat) : (encN n).length = 1 := rfl
theorem encN_one : ∀ n, ∀ u ∈ encN n, u.oneCell' = true := fun n u hu => by
  simp only [encN, List.mem_cons, List.not_mem_nil, or_false] at hu
  subst hu; rfl
abbrev NumsI (w : World) (v : Value) (l : List Nat) : Prop := Recs 1 encN w v l
theorem made_ints (k : Nat) : (madeCells (Value.cells (.int .i64 0)) (k * 1)).toList = ls k (fun _ => .int .i64 0) := by
  refine List.ext_getElem (by simp [ls_length, size_madeCells]) fun j h1 h2 => ?_
  rw [ls_get]
  simp [madeCells, Value.cells, Nat.mod_one]
theorem wpList_make_run {P : Program} {w : World} {ops : Array Oper} {rest : List Oper} {o : Oper} {a : Act} {Q : Exit → Act → World → Prop} (hgd : o.guard = none) (l c : Operand) (t : TypeId)
    (ho : o.op = Op.makeSlice t l c) (vl vc v : Value) (w' : World) (hl : a.eval l = vl) (hc : a.eval c = vc) (hr : (Instr.makeSlice t vl vc).run P w = .ok v w') (h : wpList P ops Q rest (a.put o.dst v) w') : wpList P ops Q (o :: rest) a w := by
  refine wpList_plain hgd fun K hK => ?_
  unfold Oper.wp
  simp [execOp, ho, hl, hc, hr, Result.andThen]
  exact hK _ _ h
theorem make_ints (w : World) (k : Nat) (hk : k ≤ 1000000) : (Instr.makeSlice 66 (.int .i64 k) (.int .i64 k)).run Try.prog w = .ok (.slice (some ⟨w.heap.size, 0, none⟩) k k) (w.alloc (.cells (madeCells (Value.cells (.int .i64 0)) (k * 1)) 3)) := by
  have HI : (Try.prog.info? 3).map (fun i => (i.zero, i.size, i.bytes)) = some (some (.int .i64 0), 1, 8) := by kernel_rfl
  obtain ⟨i0, hi, hz0, hz1, hz2⟩ := info_parts HI
  have R1 := run_make (P := Try.prog) w 66 3 i0 _ Try.underlying66 hi hz0 .i64 .i64 (k : Int) (k : Int) (by omega) (by omega) (by rw [hz2]; omega) (by omega)
  rw [Int.toNat_natCast, hz1] at R1
  exact R1
def inN (O : List Nat) (i : Nat) : Nat → Value := fun j => if j < i then .int .i64 (O[j]! : Int) else .int .i64 0
theorem inN_next (O : List Nat) (k i : Nat) (h : i < k) : (ls k (inN O i)).set i (.int .i64 (O[i]! : Int)) = ls k (inN O (i + 1)) := by
  rw [ls_set _ _ h]
  congr 1
  funext p
  unfold inN
  by_cases h1 : p = i
  · subst h1; rw [if_pos rfl, if_pos (by omega)]
  · rw [if_neg h1]
    by_cases h2 : p < i
    · rw [if_pos h2, if_pos (by omega)]
    · rw [if_neg h2, if_neg (by omega)]
theorem inN_read {w : World} {g k : Nat} {t : TypeId} {O : List Nat} (h : Blk w g t (ls k (inN O k))) (hk : k ≤ O.length) : NumsI w (.slice (some ⟨g, 0, none⟩) k k) (O.take k) := by
  refine Blk.reads encN_len h ?_ (by rw [List.length_take]; omega) (Nat.le_refl _)
  rw [List.take_of_length_le (by rw [ls_length]; omega)]
  refine List.ext_getElem ?_ fun j h1 h2 => ?_
  · rw [ls_length, flat_len encN_len, List.length_take]; omega
  · rw [ls_length] at h1
    have e := flat_at encN_len (O.take k) j 0 (by rw [List.length_take]; omega) (by omega)
    rw [Nat.mul_one, Nat.add_zero, List.getElem?_eq_getElem h2, List.getElem_take] at e
    rw [ls_get, Option.some.inj (e : some _ = some _)]
    unfold inN
    rw [if_pos h1, getElem!_pos O j (by omega)]
theorem firstR_min (l : List Pr) (b n : Int) (s k : Nat) (hk : k = min n.toNat (ordR l b s).length) : (ordR l b s).take k = firstR l b n s := by
  unfold firstR
  rw [hk]
  by_cases h : n.toNat ≤ (ordR l b s).length
  · rw [Nat.min_eq_left h]
  · rw [Nat.min_eq_right (by omega), List.take_of_length_le (Nat.le_refl _), List.take_of_length_le (by omega)]
set_option maxHeartbeats 8000000 in
theorem first_any (v : Value) (l : List Pr) (b n : Int) (s : Nat) (w : World) (h : Peers w v l) (hok : ∀ x ∈ l, x.ok) (hl : l.length ≤ 1000000) (hs : s < 18446744073709551616) :
    Calls Try.prog 52 #[v, .int .i64 b, .int .i64 n, .int .u64 (s : Nat)] w fun e w' => ∃ u, e = .returned u ∧ NumsI w' u (firstR l b n s) ∧ Below w.heap.size w w' := by
  have KA := Lib.hid (arranged_any v l b s w h hok hl hs)
  have hoL := ordR_le l b s
  clear h hok hs
  by_cases hn : n < 1
  · have E : Hid (firstR l b n s = []) := Lib.hid (by unfold firstR; rw [show n.toNat = 0 by omega]; rfl)
    clear KA
    go_enter Try.func52, Try.ntmps52
    go_wp2_with fail
    go_ret
    exact ⟨_, rfl, E.out ▸ Recs.nil _ _ _, Below.refl _ _⟩
  · obtain ⟨k, hk⟩ : ∃ k, k = min n.toNat (ordR l b s).length := ⟨_, rfl⟩
    have E := Lib.hid (firstR_min l b n s k hk)
    have hkn : k ≤ (ordR l b s).length := by omega
    have hkm : k ≤ 1000000 := by omega
    generalize firstR l b n s = F at E ⊢
    obtain ⟨O, hO⟩ : ∃ O, O = ordR l b s := ⟨_, rfl⟩
    rw [← hO] at KA E hkn hk hoL
    clear hO
    have em : min n (O.length : Int) = (k : Int) := by omega
    clear hk
    go_enter Try.func52, Try.ntmps52
    go_wp2_with fail
    refine KA.out.mono ?_
    rintro e9 w1 ⟨u, rfl, hA, hb1⟩
    have L1 := Lib.hid hb1
    have hA2 := hA
    clear hb1 KA
    rcases hA2 with ⟨rfl, h0⟩ | ⟨g, cap, tail, rfl, hc, hcm, hD⟩
    · have hO0 : O = [] := by simpa using h0
      have hk0 : k = 0 := by rw [hO0] at hkn; simpa using hkn
      subst hk0
      have R1 := Lib.hid (make_ints w1 0 (by omega))
      have E2 : Hid (F = []) := Lib.hid (by rw [← E.out]; rfl)
      have L2 : Hid (Lows w (w1.alloc (.cells (madeCells (Value.cells (.int .i64 0)) (0 * 1)) 3))) := Lib.hid (Lows.alloc L1.out _)
      rw [show (O.length : Int) = 0 by rw [hO0]; rfl] at em
      clear hA h0 hO0 E hkn hkm hoL L1
      go_wp2_with (first
        | (at_make; refine wpList_make_run rfl _ _ _ rfl _ _ _ _ rfl rfl R1.out ?_)
        | fail)
      go_loopw [30] (fun vi wr => vi = .int .i64 0 ∧ Hid (Lows w wr)) (fun _ _ => 0)
      case atStart => exact ⟨rfl, L2⟩
      case round =>
        obtain ⟨rfl, HL⟩ := hrel
        go_wp2_with fail
        go_ret
        refine ⟨_, rfl, ?_, HL.out⟩
        rw [E2.out]
        exact Recs.void _ _ _ _ (fun h => by simp at h)
    · have hlm : ((O.map fun i : Nat => placeR l[i]! b s (i : Int)).length : Int) = (O.length : Int) := by rw [List.length_map]
      have HCC := Lib.hid (And.intro hc hcm)
      have HD := Lib.hid hD
      have R1 := Lib.hid (make_ints w1 k hkm)
      have hcap : (k : Int) ≤ (cap : Int) := by rw [List.length_map] at hc; omega
      have hkO : (k : Int) ≤ (O.length : Int) := by omega
      rw [List.length_map]
      generalize hm : O.length = m at *
      have HM := Lib.hid hm
      clear hA hc hcm hD hlm hm hoL
      have B0 : Hid (Blk (w1.alloc (.cells (madeCells (Value.cells (.int .i64 0)) (k * 1)) 3)) w1.heap.size 3 (ls k (inN O 0))) := Lib.hid (by
        have h := Blk.new w1 (madeCells (Value.cells (.int .i64 0)) (k * 1)) 3
        rw [made_ints] at h
        exact h)
      have L2 : Hid (Lows w1 (w1.alloc (.cells (madeCells (Value.cells (.int .i64 0)) (k * 1)) 3))) := Lib.hid (Lows.alloc (Lows.self w1) _)
      have HG : Hid (g ≠ w1.heap.size) := Lib.hid (by have := HD.out.lt; omega)
      generalize w1.alloc (.cells (madeCells (Value.cells (.int .i64 0)) (k * 1)) 3) = W4 at R1 B0 L2
      go_wp2_with (first
        | (at_make; refine wpList_make_run rfl _ _ _ rfl _ _ _ _ rfl rfl R1.out ?_)
        | fail)
      go_loopw [30] (fun vi wr => ∃ i : Nat, vi = .int .i64 i ∧ i ≤ k ∧ Hid (Blk wr w1.heap.size 3 (ls k (inN O i))) ∧ Hid (Lows w1 wr)) (fun vi _ => k - (intOf vi).toNat)
      case atStart => exact ⟨0, rfl, Nat.zero_le _, B0, L2⟩
      case round =>
        obtain ⟨i, rfl, hik, HB, HL⟩ := hrel
        clear B0 L2
        by_cases hlt : i < k
        · have hltz : (i : Int) < (k : Int) := by omega
          have him : i < (O.map fun i : Nat => placeR l[i]! b s (i : Int)).length := by rw [List.length_map, HM.out]; omega
          obtain ⟨y, hy⟩ : ∃ y, y = (O.map fun i : Nat => placeR l[i]! b s (i : Int))[i] := ⟨_, rfl⟩
          have hyi : y.i = (O[i]! : Int) := by rw [hy, List.getElem_map, getElem!_pos O i (by have := HM.out; omega)]; rfl
          have RC : ∀ j u, (encL y)[j]? = some u → wr.cell? ⟨g, i * 6 + j, none⟩ = some u := fun j u hu => by
            have hj : j < 6 := by have := (List.getElem?_eq_some_iff.1 hu).1; rwa [encL_len] at this
            refine (HD.out.on HL.out).cell ?_
            rw [List.getElem?_append_left (by rw [flat_len encL_len]; omega), flat_at encL_len _ i j him hj, ← hy, hu]
          have c0 := RC 0 _ rfl
          have c1 := RC 1 _ rfl
          have c2 := RC 2 _ rfl
          have c3 := RC 3 _ rfl
          have c4 := RC 4 _ rfl
          have c5 := RC 5 _ rfl
          rw [Nat.add_zero] at c0
          have HYI := Lib.hid hyi
          have o0 : wr.cell? ⟨w1.heap.size, i, none⟩ = some (.int .i64 0) := HB.out.cell (by rw [ls_at _ hlt]; unfold inN; rw [if_neg (Nat.lt_irrefl _)])
          have o1 := HB.out.free i
          have hsz : w1.heap.size < wr.heap.size := HB.out.lt
          have hne : ¬ wr.heap.size = w1.heap.size := by omega
          have hne2 : ¬ w1.heap.size = wr.heap.size := by omega
          have HN : ∀ ob, Hid (Blk ((wr.setCell ⟨w1.heap.size, i, none⟩ (.int .i64 y.i)).alloc ob) w1.heap.size 3 (ls k (inN O (i + 1)))) := fun ob => Lib.hid (by
            have h := HB.out.set i (.int .i64 y.i)
            rw [HYI.out, inN_next O k i hlt] at h
            rw [HYI.out]; exact h.alloc ob)
          have HL2 : ∀ ob, Hid (Lows w1 ((wr.setCell ⟨w1.heap.size, i, none⟩ (.int .i64 y.i)).alloc ob)) := fun ob => Lib.hid (Lows.alloc (Below.setCell HL.out (Nat.le_refl _) _) ob)
          clear hy hyi RC him
          go_wp2_with fail
          go_roundw
          case rel => exact ⟨i + 1, by go_num, by omega, HN _, HL2 _⟩
          case measure => simp [intOf]; omega
        · have hltz : ¬ (i : Int) < (k : Int) := by omega
          have hie : Hid (i = k) := Lib.hid (by omega)
          go_wp2_with fail
          go_ret
          obtain rfl := hie.out
          exact ⟨_, rfl, E.out ▸ inN_read HB.out (by have := HM.out; omega), low_trans L1.out HL.out⟩
end Go.Proofs.Ythmcggbmeabpmaa.Ra
