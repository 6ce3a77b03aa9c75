/- A map of ends; package book: set, Down. -/
import Derived.Test.YtnflgcpacacnlaaBookLow
namespace Go.Proofs.Ytnflgcpacacnlaa.Bo
set_option maxRecDepth 100000
open Go.ChangeShapes Go.WideShapes Go.ChangeAt Go.RowKit
open Go.ChangeMaps (setBlock shut_map_nil open_string shut_string keptBut_setBlock frozen?_setBlock heap_setBlock_same heap_setBlock_other)
open Ad Ci En Sat Bk Et Go.Deep
set_option linter.unusedVariables false
abbrev endV (e : Endp) : Value := .agg #[.bool e.a.v6, .int .u64 e.a.hi, .int .u64 e.a.lo, .int .i64 e.n]
def encD (e : Endp) : List Value := [.bool e.a.v6, .int .u64 e.a.hi, .int .u64 e.a.lo, .int .i64 e.n]
theorem encD_len (e : Endp) : (encD e).length = 4 := rfl
abbrev Ends (w : World) (v : Value) (l : List Endp) : Prop := Recs 4 encD w v l
theorem end_at {w : World} {bb o : Nat} {l : List Endp} {wr : World} (hlow : Below w.heap.size w wr) (hb : bb < w.heap.size) (hcc : ∀ i (h : i < l.length) j u, (encD l[i])[j]? = some u → w.cell? ⟨bb, o + i * 4 + j, none⟩ = some u) {i : Nat} (hi : i < l.length) {j : Nat} {u : Value} (hu : (encD l[i]!)[j]? = some u) : wr.cell? ⟨bb, o + i * 4 + j, none⟩ = some u := by
  rw [getElem!_pos l i hi] at hu
  exact (hlow.cell (p := ⟨bb, o + i * 4 + j, none⟩) hb).trans (hcc i hi j u hu)
/-- Block b is a map that says 'true' of the ends of which S is true. -/
def MapE (b : Nat) (w : World) (S : Endp → Bool) : Prop := ∃ es clock, ∃ L : List Endp, w.heap[b]? = some (.map es clock) ∧ es.toList.map (fun e => (e.key, e.val)) = L.map (fun x => (endV x, Value.bool true)) ∧ ∀ e, hasR L e = S e
theorem MapE.on {b : Nat} {w w' : World} {S : Endp → Bool} (h : MapE b w S) (hb : Below w.heap.size w w') : MapE b w' S := by
  obtain ⟨es, c, L, h1, h2⟩ := h
  exact ⟨es, c, L, (hb.block b (lt_of_block h1)).trans h1, h2⟩
theorem MapE.but {b g : Nat} {w w' : World} {S : Endp → Bool} (h : MapE b w S) (hb : Bt g w w') (hg : b ≠ g) : MapE b w' S := by
  obtain ⟨es, c, L, h1, h2⟩ := h
  exact ⟨es, c, L, (hb.block b hg (lt_of_block h1)).trans h1, h2⟩
theorem MapE.lt {b : Nat} {w : World} {S : Endp → Bool} (h : MapE b w S) : b < w.heap.size := by
  obtain ⟨es, c, L, h1, h2⟩ := h
  exact lt_of_block h1
theorem MapE.new (w : World) : MapE w.heap.size (w.alloc (.map #[] 0)) (hasR []) := ⟨#[], 0, [], by show (w.heap.push _)[w.heap.size]? = _; exact Array.getElem?_push_size, rfl, fun _ => rfl⟩
theorem checkE_run (em : Bool) (n : Endp) (w : World) : (Instr.checkKey em 10000 27 (endV n)).run Try.prog w = .ok () w := by
  cases em <;> kernel_rfl
theorem sameE_turn (m n : Endp) : sameE m n = sameE n m := by rw [Bool.eq_iff_iff, sameE_iff, sameE_iff]; exact eq_comm
def ixM (L : List Endp) (n : Endp) : Nat := L.findIdx fun x => sameE x n
theorem ixM_has (L : List Endp) (n : Endp) : hasR L n = decide (ixM L n < L.length) := by
  unfold hasR ixM
  rw [Bool.eq_iff_iff, decide_eq_true_iff, List.findIdx_lt_length, List.any_eq_true]
theorem askE_run (n : Endp) (w : World) : ∀ (es : List MapEntry) (L : List Endp) (i : Nat), es.map (fun e => (e.key, e.val)) = L.map (fun x => (endV x, Value.bool true)) →
    (Instr.findAsking 27 (endV n) es i).run Try.prog w = .ok (if ixM L n < L.length then some (i + ixM L n, .bool true) else none) w
  | [], [], i, _ => by rw [if_neg (show ¬ ixM [] n < ([] : List Endp).length from Nat.not_lt_zero _)]; rfl
  | [], _ :: _, _, h => by simp at h
  | _ :: _, [], _, h => by simp at h
  | e :: es, x :: L, i, h => by
    simp only [List.map_cons, List.cons.injEq, Prod.mk.injEq] at h
    obtain ⟨⟨h1, h2⟩, h3⟩ := h
    have he : (Op.equal 27 (endV n) e.key).run Try.prog w = .ok (sameE n x) w := by
      rw [h1]; exact eqInEnd 9997 n x w
    have ih := askE_run n w es L (i + 1) h3
    unfold Instr.findAsking
    simp only [Sem.run_bind, he, Result.andThen_ok]
    cases hs : sameE n x
    · have hs2 : sameE x n = false := by rw [← hs]; exact sameE_turn _ _
      rw [if_neg (by simp)]
      rw [ih]
      unfold ixM
      rw [List.findIdx_cons, hs2]
      simp only [cond_false, List.length_cons]
      by_cases hl : L.findIdx (fun b => sameE b n) < L.length
      · rw [if_pos hl, if_pos (by omega)]
        congr 3; omega
      · rw [if_neg hl, if_neg (by omega)]
    · have hs2 : sameE x n = true := by rw [← hs]; exact sameE_turn _ _
      rw [if_pos rfl]
      unfold ixM
      rw [List.findIdx_cons, hs2]
      simp [h2]
theorem findE_run (n : Endp) (w : World) (es : List MapEntry) (L : List Endp) (h : es.map (fun e => (e.key, e.val)) = L.map (fun x => (endV x, Value.bool true))) :
    (Instr.findKey 27 (endV n) es).run Try.prog w = .ok (if ixM L n < L.length then some (ixM L n, .bool true) else none) w := by
  have ha := askE_run n w es L 0 h
  rw [Nat.zero_add] at ha
  unfold Instr.findKey
  simp only [Sem.run_bind, run_underlying Try.underlying27, Result.andThen_ok]
  match es, L, h with
  | [], [], _ => rw [if_neg (show ¬ ixM [] n < ([] : List Endp).length from Nat.not_lt_zero _)]; rfl
  | [], _ :: _, h => simp at h
  | _ :: _, [], h => simp at h
  | e :: es, x :: L, h => exact ha
theorem lookE_run {b : Nat} {w : World} {S : Endp → Bool} (h : MapE b w S) (n : Endp) :
    (Instr.lookup 52 (.map (some b)) (endV n) false).run Try.prog w = .ok (.bool (S n)) w := by
  obtain ⟨es, c, L, h1, h2, h3⟩ := h
  have hf := findE_run n w es.toList L h2
  have hc := checkE_run es.isEmpty n w
  have hz : (zeroValue 4).run Try.prog w = .ok (.bool false) w := by kernel_rfl
  rw [← h3 n, ixM_has]
  unfold Instr.lookup
  simp only [Sem.run_bind, run_underlying Try.underlying52, Result.andThen_ok, MapKept.run_getObj_map h1, Sem.run_pure, hc, hf]
  by_cases hi : ixM L n < L.length
  · rw [if_pos hi, decide_eq_true hi]; rfl
  · rw [if_neg hi, decide_eq_false hi]
    simp [hz]
theorem same_bitsE (n : Endp) : Instr.sameBits 10000 (endV n) (endV n) = true := by simp [Instr.sameBits]
theorem staysE_run (n : Endp) (w : World) : (Instr.keyThatStays (endV n) (endV n)).run Try.prog w = .ok (endV n) w := by
  unfold Instr.keyThatStays
  rw [same_bitsE, if_pos rfl]; rfl
theorem map_modify_same {α β : Type} (f : α → α) (g : α → β) : ∀ (l : List α) (i : Nat), (∀ x, l[i]? = some x → g (f x) = g x) → (l.modify i f).map g = l.map g
  | [], i, _ => by simp
  | a :: l, 0, h => by rw [List.modify_zero_cons, List.map_cons, List.map_cons, h a rfl]
  | a :: l, i + 1, h => by rw [List.modify_succ_cons, List.map_cons, List.map_cons, map_modify_same f g l i (fun x hx => h x (by simpa using hx))]
theorem updE_run {b : Nat} {w : World} {S : Endp → Bool} (h : MapE b w S) (n : Endp) :
    ∃ w', (Instr.mapUpdate 52 (.map (some b)) (endV n) (.bool true)).run Try.prog w = .ok () w' ∧ MapE b w' (fun e => S e || sameE n e) ∧ Bt b w w' := by
  obtain ⟨es, c, L, h1, h2, h3⟩ := h
  have hf := findE_run n w es.toList L h2
  have hc := checkE_run false n w
  by_cases hi : ixM L n < L.length
  · rw [if_pos hi] at hf
    have hel : es.toList.length = L.length := by have := congrArg List.length h2; simpa using this
    obtain ⟨x, hx⟩ : ∃ x, es.toList[ixM L n]? = some x := ⟨_, List.getElem?_eq_getElem (by omega)⟩
    have hkv : (x.key, x.val) = (endV n, Value.bool true) := by
      have h4 := congrArg (fun q => q[ixM L n]?) h2
      simp only [List.getElem?_map, hx, List.getElem?_eq_getElem hi, Option.map_some, Option.some.injEq] at h4
      rw [h4]
      have h5 : sameE L[ixM L n] n = true := List.findIdx_getElem (p := fun x => sameE x n) (xs := L) (w := hi)
      rw [(sameE_iff _ _).1 h5]
    obtain ⟨hk1, hk2⟩ := Prod.mk.inj hkv
    have hxa : es[ixM L n]? = some x := by rw [← hx, Array.getElem?_toList]
    refine ⟨setBlock w b (.map (es.modify (ixM L n) fun e => { e with key := endV n, val := .bool true }) c), ?_, ⟨_, _, L, heap_setBlock_same h1 _, ?_, fun e => ?_⟩, ⟨rfl, rfl, rfl, by simp [setBlock], fun k hk _ => heap_setBlock_other h1 _ hk⟩⟩
    · unfold Instr.mapUpdate
      simp only [Sem.run_bind, run_underlying Try.underlying52, Result.andThen_ok, MapKept.run_getObj_map h1, hc, hf, hxa, Option.map_some, Option.getD_some, hk1, staysE_run]
      exact MapKept.run_setObj_map _ h1
    · rw [Array.toList_modify, map_modify_same _ _ _ _ (fun y hy => ?_)]
      · exact h2
      · rw [hx] at hy
        obtain rfl := Option.some.inj hy
        simp only [hk1, hk2]
    · show hasR L e = (S e || sameE n e)
      rw [h3 e]
      cases hs : sameE n e with
      | false => simp
      | true =>
        obtain rfl := (sameE_iff _ _).1 hs
        rw [← h3 n, ixM_has, decide_eq_true hi]
        rfl
  · rw [if_neg hi] at hf
    refine ⟨setBlock w b (.map (es.push ⟨endV n, .bool true, c⟩) (c + 1)), ?_, ⟨_, _, L ++ [n], heap_setBlock_same h1 _, ?_, fun e => ?_⟩, ⟨rfl, rfl, rfl, by simp [setBlock], fun k hk _ => heap_setBlock_other h1 _ hk⟩⟩
    · unfold Instr.mapUpdate
      simp only [Sem.run_bind, run_underlying Try.underlying52, Result.andThen_ok, MapKept.run_getObj_map h1, hc, hf]
      exact MapKept.run_setObj_map _ h1
    · simp [h2]
    · show hasR (L ++ [n]) e = (S e || sameE n e)
      rw [← h3 e]
      unfold hasR
      simp
set_option maxHeartbeats 4000000 in
theorem setM_any (v : Value) (es : List Endp) (w : World) (h : Ends w v es) (hl : es.length ≤ 1000000) :
    Calls Try.prog 29 #[v] w fun e w' => e = .returned (.map (some w.heap.size)) ∧ MapE w.heap.size w' (hasR es) ∧ Below w.heap.size w w' := by
  obtain ⟨A, c, rfl, hc, _, hcell⟩ := h
  have HC := Lib.hid hcell
  have hmm : (Instr.makeMap 52 (some (.int .i64 (es.length : Int)))).run Try.prog w = .ok (.map (some w.heap.size)) (w.alloc (.map #[] 0)) := by
    simp [Instr.makeMap, run_underlying Try.underlying52, asInt, asIntOf]
  clear hcell hc
  go_enter Try.func29, Try.ntmps29
  go_wp2_with fail
  go_loopw [11] (fun vi wr => ∃ i : Nat, vi = .int .i64 i ∧ i ≤ es.length ∧ Hid (MapE w.heap.size wr (hasR (es.take i))) ∧ Hid (Below w.heap.size w wr)) (fun vi _ => es.length - (intOf vi).toNat)
  case atStart => exact ⟨0, rfl, Nat.zero_le _, Lib.hid (MapE.new w), Lib.hid (Lows.alloc (Lows.self _) _)⟩
  case round =>
    obtain ⟨i, rfl, hi, HM, HL⟩ := hrel
    by_cases hli : i < es.length
    · have hliz : (i : Int) < (es.length : Int) := by omega
      obtain ⟨bb, o, rfl, hb, hcc⟩ := HC.out (by omega)
      obtain ⟨x, hx⟩ : ∃ x, x = es[i]! := ⟨_, rfl⟩
      have c0 : wr.cell? ⟨bb, o + i * 4, none⟩ = some (.bool x.a.v6) := end_at HL.out hb hcc hli (j := 0) (by rw [← hx]; rfl)
      have c1 : wr.cell? ⟨bb, o + i * 4 + 1, none⟩ = some (.int .u64 x.a.hi) := end_at HL.out hb hcc hli (j := 1) (by rw [← hx]; rfl)
      have c2 : wr.cell? ⟨bb, o + i * 4 + 2, none⟩ = some (.int .u64 x.a.lo) := end_at HL.out hb hcc hli (j := 2) (by rw [← hx]; rfl)
      have c3 : wr.cell? ⟨bb, o + i * 4 + 3, none⟩ = some (.int .i64 x.n) := end_at HL.out hb hcc hli (j := 3) (by rw [← hx]; rfl)
      obtain ⟨w2, hup, hM2, hT2⟩ := updE_run (HM.out.on (Lows.alloc (Lows.self wr) (.cells #[.bool x.a.v6, .int .u64 x.a.hi, .int .u64 x.a.lo, .int .i64 x.n] 27))) x
      have HM2 : Hid (MapE w.heap.size w2 (hasR (es.take (i + 1)))) := Lib.hid (by
        have e : hasR (es.take (i + 1)) = fun e => hasR (es.take i) e || sameE x e := by funext e; rw [has_next hli, hx]
        rw [e]; exact hM2)
      have HL2 : Hid (Below w.heap.size w w2) := Lib.hid ((Lows.alloc HL.out _).trans (hT2.low (Nat.le_refl _) (Nat.le_trans HL.out.size (by simp))))
      clear hcc hb hx hM2 hT2
      go_wp2_with fail
      go_roundw
      case rel => exact ⟨i + 1, by go_num, by omega, HM2, HL2⟩
      case measure => simp [intOf]; omega
    · have hliz : ¬ (i : Int) < (es.length : Int) := by omega
      have HM2 : Hid (MapE w.heap.size wr (hasR es)) := Lib.hid (by rw [← has_done (es := es) (i := i) (by omega)]; exact HM.out)
      go_wp2_with fail
      go_ret
      exact ⟨rfl, HM2.out, HL.out⟩
set_option maxHeartbeats 8000000 in
theorem downL_any (v u0 : Value) (l : List Ey) (es : List Endp) (w : World) (h : Books w v l) (he : Ends w u0 es) (hl : l.length ≤ 900000) (hel : es.length ≤ 1000000) :
    Calls Try.prog 18 #[v, u0] w fun e w' => ∃ u, e = .returned u ∧ Books w' u (downR l es) ∧ Below w.heap.size w w' := by
  have KS := Lib.hid (setM_any u0 es w he hel)
  have KC := Lib.hid (fun (W : World) (hW : Below w.heap.size w W) => cloneY_any v l W (h.below hW) hl)
  clear h he
  go_enter Try.func18, Try.ntmps18
  go_wp2_with fail
  refine KS.out.mono ?_; rintro e9 w1 ⟨rfl, hM, hb1⟩
  have KC1 := Lib.hid (KC.out w1 hb1)
  have HM := Lib.hid hM
  have L1 := Lib.hid hb1
  clear hM hb1 KS KC
  go_wp2_with fail
  refine KC1.out.mono ?_; rintro e9 w2 ⟨u, rfl, hO, hb2⟩
  have HM2 := Lib.hid (HM.out.on hb2)
  have L2 := Lib.hid (low_trans L1.out hb2)
  clear KC1
  by_cases h0 : l.length = 0
  · obtain rfl : l = [] := List.eq_nil_of_length_eq_zero h0
    have HU := Lib.hid (ownY_books hO)
    obtain ⟨A, c, rfl, _, _, _⟩ := ownY_books hO
    clear hO hb2 h0 L1 HM
    rw [show ([] : List Ey).length = 0 from rfl] at *
    go_wp2_with fail
    go_loopw [7, 15] (fun _ vi wr => vi = .int .i64 0 ∧ Hid (Lows w2 wr)) (fun _ _ _ => 0)
    case atStart => exact ⟨rfl, Lib.hid (Lows.self _)⟩
    case round =>
      obtain ⟨rfl, HL⟩ := hrel
      go_wp2_with fail
      go_ret
      exact ⟨_, rfl, HU.out.below HL.out, lowT L2.out HL.out⟩
  · obtain ⟨g, cap, Z, rfl, hg, hcap, hB⟩ := ownY_blk hO (by omega)
    have HB2 := Lib.hid hB
    have HG : Hid (w.heap.size < g) := Lib.hid (by have := HM.out.lt; omega)
    have HCAP := Lib.hid hcap
    clear hO hb2 h0 L1 HM hB hg hcap
    go_wp2_with fail
    go_loopw [7, 15] (fun _ vi wr => ∃ k : Nat, vi = .int .i64 k ∧ k ≤ l.length ∧ Hid (Blk wr g 29 (flat encY (dnR l es k) ++ Z)) ∧ Hid (MapE w.heap.size wr (hasR es)) ∧ Hid (Bt g w2 wr)) (fun _ vi _ => l.length - (intOf vi).toNat)
    case atStart => exact ⟨0, rfl, Nat.zero_le _, Lib.hid (by rw [dn_zero]; exact HB2.out), HM2, Lib.hid (Bt.refl _ _)⟩
    case round =>
      obtain ⟨k, rfl, hk, HB, HM, HT⟩ := hrel
      by_cases hkl : k < l.length
      · have hklz : (k : Int) < (l.length : Int) := by omega
        obtain ⟨x, hx⟩ : ∃ x, x = l[k]! := ⟨_, rfl⟩
        have hkd : k < (dnR l es k).length := by rw [dn_len]; exact hkl
        have hxe : (dnR l es k)[k]! = x := by rw [dn_at es hkl]; exact hx.symm
        have c0 : wr.cell? ⟨g, k * 7, none⟩ = some (.bool x.e.a.v6) := cellY HB.out hkd (j := 0) (by rw [hxe]; rfl)
        have c1 : wr.cell? ⟨g, k * 7 + 1, none⟩ = some (.int .u64 x.e.a.hi) := cellY HB.out hkd (j := 1) (by rw [hxe]; rfl)
        have c2 : wr.cell? ⟨g, k * 7 + 2, none⟩ = some (.int .u64 x.e.a.lo) := cellY HB.out hkd (j := 2) (by rw [hxe]; rfl)
        have c3 : wr.cell? ⟨g, k * 7 + 3, none⟩ = some (.int .i64 x.e.n) := cellY HB.out hkd (j := 3) (by rw [hxe]; rfl)
        have c4 : wr.cell? ⟨g, k * 7 + 4, none⟩ = some (.int .i64 x.st) := cellY HB.out hkd (j := 4) (by rw [hxe]; rfl)
        have c5 : wr.cell? ⟨g, k * 7 + 5, none⟩ = some (.int .i64 x.f) := cellY HB.out hkd (j := 5) (by rw [hxe]; rfl)
        have c6 : wr.cell? ⟨g, k * 7 + 6, none⟩ = some (.int .i64 x.nx) := cellY HB.out hkd (j := 6) (by rw [hxe]; rfl)
        have HM1 := Lib.hid (HM.out.on (Lows.alloc (Lows.self wr) (.cells #[.bool x.e.a.v6, .int .u64 x.e.a.hi, .int .u64 x.e.a.lo, .int .i64 x.e.n, .int .i64 x.st, .int .i64 x.f, .int .i64 x.nx] 29)))
        have hlk := lookE_run HM1.out x.e
        have HS := Lib.hid (fun hh => dn_skip es hkl hh)
        have HN := Lib.hid (dn_next es hkl)
        rw [← hx] at HS HN
        have HKD := Lib.hid hkd
        have HH : Hid (hitR es x = (x.st == 3 && hasR es x.e)) := Lib.hid rfl
        clear hxe hkd hx HB2 HM2
        by_cases h3 : x.st = 3
        · have hq : (x.st == 3) = true := by rw [beq_iff_eq]; exact h3
          cases hq2 : hasR es x.e with
          | false =>
            rw [hq2] at hlk
            have HSK := Lib.hid (HS.out (by rw [HH.out, hq2]; simp))
            clear h3 hq2 HS HN
            go_wp2_with fail
            go_roundw
            case rel => exact ⟨k + 1, by go_num, by omega, Lib.hid (by rw [← HSK.out]; exact HB.out.alloc _), Lib.hid (HM1.out), Lib.hid (HT.out.alloc _)⟩
            case measure => simp [intOf]; omega
          | true =>
            rw [hq2] at hlk
            obtain ⟨z, hz⟩ : ∃ z, z = stateY x 1 := ⟨_, rfl⟩
            have KD := Lib.hid (fun W => by have k := down_any x W; rwa [← hz] at k)
            have HE : Hid ((dnR l es k).set k z = dnR l es (k + 1)) := Lib.hid (by rw [← HN.out, hz]; unfold downY; rw [if_pos (by rw [HH.out, hq, hq2]; rfl)])
            clear h3 hq2 HS HN hz
            go_wp2_with fail
            refine (KD.out _).mono ?_; rintro e9 w9 ⟨rfl, hb9⟩
            have hb8 := low_trans (Lows.alloc (Lows.self wr) (.cells #[.bool x.e.a.v6, .int .u64 x.e.a.hi, .int .u64 x.e.a.lo, .int .i64 x.e.n, .int .i64 x.st, .int .i64 x.f, .int .i64 x.nx] 29)) hb9
            have HB9 := Lib.hid (HB.out.on hb8)
            have HM9 := Lib.hid (HM.out.on hb8)
            have HT9 := Lib.hid (HT.out.trans (Bt.of hb8))
            have ho : ∀ jj, jj < 7 → ∃ u, w9.cell? ⟨g, k * 7 + jj, none⟩ = some u := fun jj hjj => ⟨_, HB9.out.cell (List.getElem?_eq_getElem (by rw [List.length_append, flat_len encY_len7]; have := HKD.out; omega))⟩
            obtain ⟨u0, g0⟩ := ho 0 (by decide)
            have k0 : w9.frozen? ⟨g, k * 7, none⟩ = false := HB9.out.free _
            obtain ⟨u1, g1⟩ := ho 1 (by decide)
            have k1 : w9.frozen? ⟨g, k * 7 + 1, none⟩ = false := HB9.out.free _
            obtain ⟨u2, g2⟩ := ho 2 (by decide)
            have k2 : w9.frozen? ⟨g, k * 7 + 2, none⟩ = false := HB9.out.free _
            obtain ⟨u3, g3⟩ := ho 3 (by decide)
            have k3 : w9.frozen? ⟨g, k * 7 + 3, none⟩ = false := HB9.out.free _
            obtain ⟨u4, g4⟩ := ho 4 (by decide)
            have k4 : w9.frozen? ⟨g, k * 7 + 4, none⟩ = false := HB9.out.free _
            obtain ⟨u5, g5⟩ := ho 5 (by decide)
            have k5 : w9.frozen? ⟨g, k * 7 + 5, none⟩ = false := HB9.out.free _
            obtain ⟨u6, g6⟩ := ho 6 (by decide)
            have k6 : w9.frozen? ⟨g, k * 7 + 6, none⟩ = false := HB9.out.free _
            rw [Nat.add_zero] at g0
            have HQ := Lib.hid (put_entry HB9.out HKD.out z)
            clear ho hb9 hb8 KD HB HM HM1 HT hlk c0 c1 c2 c3 c4 c5 c6
            go_wp2_with fail
            go_roundw
            case rel => exact ⟨k + 1, by go_num, by omega, Lib.hid (by rw [← HE.out]; exact HQ.out.1), Lib.hid (HM9.out.but HQ.out.2 (Nat.ne_of_lt HG.out)), Lib.hid (HT9.out.trans HQ.out.2)⟩
            case measure => simp [intOf]; omega
        · have hq : (x.st == 3) = false := by rw [beq_eq_false_iff_ne]; exact h3
          have HSK := Lib.hid (HS.out (by rw [HH.out, hq]; rfl))
          clear h3 HS HN
          go_wp2_with fail
          go_roundw
          case rel => exact ⟨k + 1, by go_num, by omega, Lib.hid (by rw [← HSK.out]; exact HB.out.alloc _), Lib.hid (HM1.out), Lib.hid (HT.out.alloc _)⟩
          case measure => simp [intOf]; omega
      · have hklz : ¬ (k : Int) < (l.length : Int) := by omega
        have HR : Hid (Books wr (.slice (some ⟨g, 0, none⟩) l.length cap) (downR l es)) := Lib.hid (by
          have e := dn_done es (l := l) (k := k) (by omega)
          have hh := readsY HB.out (cap := cap) (by rw [dn_len]; exact HCAP.out)
          rwa [dn_len, e] at hh)
        have HLL : Hid (Below w.heap.size w wr) := Lib.hid (HT.out.below L2.out (by have := HG.out; omega) L2.out.size)
        go_wp2_with fail
        go_ret
        exact ⟨_, rfl, HR.out, HLL.out⟩
end Go.Proofs.Ytnflgcpacacnlaa.Bo
