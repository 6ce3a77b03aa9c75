/- Package dial: who is dialled next; when an entry is due. -/
import Derived.Test.YtgnjbbohphoojaaDial
import Derived.Test.YtgnjbbohphoojaaHeapSort
namespace Go.Proofs.Ytgnjbbohphoojaa.Di
set_option maxRecDepth 100000
open Go.ChangeShapes Go.WideShapes Go.ChangeAt Go.RowKit
open Dec Words V4 V6 Ad Ci En Gr Pe Et Ra Bo Sp Hp Go.Deep
set_option linter.unusedVariables false
theorem own_lowI {B : Nat} {w w1 : World} {v : Value} {l : List It} (h : OwnI B w v l) (k : Below w.heap.size w w1) : OwnI B w1 v l :=
  h.kept (row := none) ⟨k.os, k.tape, k.output, k.size, fun i hi _ => k.block i hi⟩ (by cases v.ownBlock <;> simp)
/-- Whose end it is that is picked. -/
def pickE (b : List Ey) (l : List Pr) (s : List Ba.Ban) (t : Int) : Endp := match pickR b l s t with | some x => x.e | none => zeroE
theorem pickE_some {b : List Ey} {l : List Pr} {s : List Ba.Ban} {t : Int} {x : It} (h : pickR b l s t = some x) : pickE b l s t = x.e ∧ (pickR b l s t).isSome = true := by unfold pickE; rw [h]; exact ⟨rfl, rfl⟩
theorem pickE_none {b : List Ey} {l : List Pr} {s : List Ba.Ban} {t : Int} (h : pickR b l s t = none) : pickE b l s t = zeroE ∧ (pickR b l s t).isSome = false := by unfold pickE; rw [h]; exact ⟨rfl, rfl⟩
theorem find_step {S : List It} {p : It → Bool} {i : Nat} (h : i < S.length) : (S.drop i).find? p = if p (fn S i) = true then some (fn S i) else (S.drop (i + 1)).find? p := by
  rw [List.drop_eq_getElem_cons h, List.find?_cons, show fn S i = S[i] from getElem!_pos S i h]
  cases hp : p S[i] <;> simp
/-- The least Next above a tick among the valid and idle: so far. -/
def whenF (b : List Ey) (t : Int) : Int := b.foldl (fun m y => if (rightY y && y.st == 1 && decide (t < y.nx)) = true then min m y.nx else m) 1099511627777
def whenR (b : List Ey) (t : Int) : Int := if whenF b t = 1099511627777 then 0 else whenF b t
theorem when_snoc {b : List Ey} {t : Int} {k : Nat} (h : k < b.length) : whenF (b.take (k + 1)) t = if (rightY b[k] && b[k].st == 1 && decide (t < b[k].nx)) = true then min (whenF (b.take k) t) b[k].nx else whenF (b.take k) t := by
  unfold whenF
  rw [List.take_succ_eq_append_getElem h, List.foldl_append]; rfl
set_option maxHeartbeats 16000000 in
theorem pick_any (A1 : Option Addr) (c1 : Nat) (A2 : Option Addr) (c2 : Nat) (A3 : Option Addr) (c3 : Nat) (b : List Ey) (l : List Pr) (s : List Ba.Ban) (t : Int) (w : World) (h : Seen w A1 c1 A2 c2 A3 c3 b l s) :
    Calls Try.prog 6 #[.agg #[.slice A1 b.length c1, .slice A2 l.length c2, .slice A3 s.length c3], .int .i64 t] w fun e w' => e = .returned (.tuple #[.agg #[.bool (pickE b l s t).a.v6, .int .u64 (pickE b l s t).a.hi, .int .u64 (pickE b l s t).a.lo, .int .i64 (pickE b l s t).n], .bool (pickR b l s t).isSome]) ∧ Below w.heap.size w w' := by
  have LL : Hid (Lows w ((w.alloc (.cells #[.slice A1 b.length c1, .slice A2 l.length c2, .slice A3 s.length c3] 26)).alloc (.cells #[.bool false, .int .u64 0, .int .u64 0, .int .i64 0] 33))) := Lib.hid (Lows.alloc (Lows.alloc (Lows.self w) _) _)
  have OV : Hid (Blk ((w.alloc (.cells #[.slice A1 b.length c1, .slice A2 l.length c2, .slice A3 s.length c3] 26)).alloc (.cells #[.bool false, .int .u64 0, .int .u64 0, .int .i64 0] 33)) w.heap.size 26 [.slice A1 b.length c1, .slice A2 l.length c2, .slice A3 s.length c3]) := Lib.hid ((Blk.new w #[.slice A1 b.length c1, .slice A2 l.length c2, .slice A3 s.length c3] 26).alloc (.cells #[.bool false, .int .u64 0, .int .u64 0, .int .i64 0] 33))
  have OZ : Hid (Blk ((w.alloc (.cells #[.slice A1 b.length c1, .slice A2 l.length c2, .slice A3 s.length c3] 26)).alloc (.cells #[.bool false, .int .u64 0, .int .u64 0, .int .i64 0] 33)) (w.heap.size + 1) 33 [.bool false, .int .u64 0, .int .u64 0, .int .i64 0]) := Lib.hid (Blk.two w (.cells #[.slice A1 b.length c1, .slice A2 l.length c2, .slice A3 s.length c3] 26) #[.bool false, .int .u64 0, .int .u64 0, .int .i64 0] 33)
  have HS := Lib.hid (h.below LL.out)
  clear h
  go_enter Try.func6, Try.ntmps6
  go_wp2_with fail
  obtain ⟨w2, hw2⟩ : ∃ x, x = ((w.alloc (.cells #[.slice A1 b.length c1, .slice A2 l.length c2, .slice A3 s.length c3] 26)).alloc (.cells #[.bool false, .int .u64 0, .int .u64 0, .int .i64 0] 33)) := ⟨_, rfl⟩
  rw [← hw2] at LL OV OZ HS ⊢
  clear hw2
  have HC : Hid (0 < b.length → ∃ bb o, A1 = some ⟨bb, o, none⟩ ∧ bb < w2.heap.size ∧ ∀ i (h : i < b.length) j u, (encY b[i])[j]? = some u → w2.cell? ⟨bb, o + i * 7 + j, none⟩ = some u) := Lib.hid (by
    obtain ⟨A9, c9, e9, _, _, hcell⟩ := HS.out.hb
    cases e9
    exact hcell)
  have HBN := Lib.hid HS.out.nb
  have hbn := HBN.out
  go_loopw [6, 14] (fun vu vi wr => ∃ (i : Nat) (u : Value), u = vu ∧ vi = .int .i64 i ∧ i ≤ b.length ∧ Hid (OwnI w2.heap.size wr u (dueI (b.take i) t)) ∧ Hid (Lows w2 wr)) (fun _ vi _ => b.length - (intOf vi).toNat)
  case atStart => exact ⟨0, _, rfl, rfl, Nat.zero_le _, Lib.hid (by rw [List.take_zero]; exact ownI_nil _ _), Lib.hid (Lows.self _)⟩
  case round =>
    obtain ⟨i, u, rfl, rfl, hi, HO, HL⟩ := hrel
    by_cases hli : i < b.length
    · have hliz : (i : Int) < (b.length : Int) := by omega
      obtain ⟨bb, o, rfl, hb, hcc⟩ := HC.out (by omega)
      obtain ⟨x, hx⟩ : ∃ x, x = b[i]! := ⟨_, rfl⟩
      have hx2 : b[i] = x := by rw [hx, getElem!_pos b i hli]
      have hxo : x.ok := by rw [← hx2]; exact HS.out.ob _ (List.getElem_mem _)
      have DS := Lib.hid (due_snoc (t := t) hli)
      rw [hx2] at DS
      have DL : Hid ((dueI (b.take i) t).length ≤ 900000) := Lib.hid (by have h1 := due_len (b.take i) t; have h2 := HBN.out; rw [List.length_take] at h1; omega)
      have c0 : wr.cell? ⟨bb, o + i * 7, none⟩ = some (.bool x.e.a.v6) := entry_at HL.out hb hcc hli (j := 0) (by rw [← hx]; rfl)
      have c1 : wr.cell? ⟨bb, o + i * 7 + 1, none⟩ = some (.int .u64 x.e.a.hi) := entry_at HL.out hb hcc hli (j := 1) (by rw [← hx]; rfl)
      have c2 : wr.cell? ⟨bb, o + i * 7 + 2, none⟩ = some (.int .u64 x.e.a.lo) := entry_at HL.out hb hcc hli (j := 2) (by rw [← hx]; rfl)
      have c3 : wr.cell? ⟨bb, o + i * 7 + 3, none⟩ = some (.int .i64 x.e.n) := entry_at HL.out hb hcc hli (j := 3) (by rw [← hx]; rfl)
      have c4 : wr.cell? ⟨bb, o + i * 7 + 4, none⟩ = some (.int .i64 x.st) := entry_at HL.out hb hcc hli (j := 4) (by rw [← hx]; rfl)
      have c5 : wr.cell? ⟨bb, o + i * 7 + 5, none⟩ = some (.int .i64 x.f) := entry_at HL.out hb hcc hli (j := 5) (by rw [← hx]; rfl)
      have c6 : wr.cell? ⟨bb, o + i * 7 + 6, none⟩ = some (.int .i64 x.nx) := entry_at HL.out hb hcc hli (j := 6) (by rw [← hx]; rfl)
      have KR := Lib.hid (fun W => ready_any x t W hxo)
      have OB := Lib.hid (Blk.new wr #[.bool x.e.a.v6, .int .u64 x.e.a.hi, .int .u64 x.e.a.lo, .int .i64 x.e.n, .int .i64 x.st, .int .i64 x.f, .int .i64 x.nx] 37)
      clear hx hx2 hb hcc hxo
      cases hr : rdY x t
      · rw [hr] at KR
        rw [hr, if_neg (by simp)] at DS
        clear hr
        go_wp2_with fail
        refine (KR.out _).mono ?_; rintro e9 w1 ⟨rfl, hb1⟩
        have L1 := Lib.hid (low_trans (Lows.alloc HL.out _) hb1)
        have HO1 : Hid (OwnI w2.heap.size w1 u (dueI (b.take (i + 1)) t)) := Lib.hid (by rw [DS.out]; exact own_lowI (HO.out.alloc _) hb1)
        clear hb1 KR OB HO HL c0 c1 c2 c3 c4 c5 c6
        go_wp2_with fail
        go_roundw
        case rel => exact ⟨i + 1, _, rfl, by go_num, by omega, HO1, L1⟩
        case measure => simp [intOf]; omega
      · rw [hr] at KR
        rw [hr, if_pos rfl] at DS
        clear hr
        go_wp2_with fail
        refine (KR.out _).mono ?_; rintro e9 w1 ⟨rfl, hb1⟩
        have L1 := Lib.hid (low_trans (Lows.alloc HL.out _) hb1)
        have HO1 : Hid (OwnI w2.heap.size w1 u (dueI (b.take i) t)) := Lib.hid (own_lowI (HO.out.alloc _) hb1)
        have OB1 := OB.out.on hb1
        have e0 := OB1.cell (j := 0) rfl
        have e1 := OB1.cell (j := 1) rfl
        have e2 := OB1.cell (j := 2) rfl
        have e3 := OB1.cell (j := 3) rfl
        have e4 := OB1.cell (j := 4) rfl
        have e5 := OB1.cell (j := 5) rfl
        have e6 := OB1.cell (j := 6) rfl
        obtain ⟨v3, w3, R3, O3, b3⟩ := append_I (B := w2.heap.size) HO1.out ⟨x.nx, x.e⟩ DL.out L1.out.size
        have R1 : Hid ((Builtin.append_ #[55, 55] 55 #[u, .slice (some ⟨w1.heap.size, 0, none⟩) 1 1]).run Try.prog (w1.alloc (.cells #[.int .i64 x.nx, .bool x.e.a.v6, .int .u64 x.e.a.hi, .int .u64 x.e.a.lo, .int .i64 x.e.n] 57)) = .ok v3 w3) := Lib.hid R3
        have HO3 : Hid (OwnI w2.heap.size w3 v3 (dueI (b.take (i + 1)) t)) := Lib.hid (by rw [DS.out]; exact O3)
        have L3 := Lib.hid (L1.out.trans b3)
        clear hb1 KR OB HO HL OB1 HO1 R3 O3 b3 c0 c1 c2 c3 c4 c5 c6
        go_wp2_with (first
          | (at_builtin; refine wpList_append_run rfl (.tmp 21) (.tmp 27) _ _ rfl rfl _ _ _ _ rfl rfl R1.out ?_)
          | fail)
        go_roundw
        case rel => exact ⟨i + 1, _, rfl, by go_num, by omega, HO3, L3⟩
        case measure => simp [intOf]; omega
    · have hliz : ¬ (i : Int) < (b.length : Int) := by omega
      have KS := Lib.hid (sorted_any u (dueI b t) wr (by have := ownI_items HO.out; rwa [List.take_of_length_le (by omega)] at this) (due_ok HS.out.ob) (by have := due_len b t; have := HBN.out; omega))
      obtain ⟨S, hS⟩ : ∃ S, S = sortX (dueI b t) := ⟨_, rfl⟩
      have HP : Hid (S.find? (fun x => opR b l s x.e t) = pickR b l s t) := Lib.hid (by rw [hS]; rfl)
      have HSO : Hid ((∀ x ∈ S, x.ok) ∧ S.length ≤ 400000) := Lib.hid (by rw [hS]; exact ⟨sorted_ok HS.out.ob, by have := sorted_len b t; have := HBN.out; omega⟩)
      rw [← hS] at KS
      clear hS HO HC HBN
      go_wp2_with fail
      refine KS.out.mono ?_; rintro e9 w3 ⟨u3, rfl, hI, hb3⟩
      have L3 := Lib.hid (low_trans HL.out hb3)
      obtain ⟨A4, c4, rfl, _, _, hcell4⟩ := hI
      have HC := Lib.hid hcell4
      have OV3 := Lib.hid (OV.out.on L3.out)
      have OZ3 := Lib.hid (OZ.out.on L3.out)
      have HS3 := Lib.hid (HS.out.below L3.out)
      have LL3 := Lib.hid (low_trans LL.out L3.out)
      clear hb3 KS HL hcell4 OV OZ HS LL L3 hliz hli hi hbn
      have hsn := HSO.out.2
      go_wp2_with fail
      go_loopw [33] (fun vi wr => ∃ i : Nat, vi = .int .i64 i ∧ i ≤ S.length ∧ Hid ((S.drop i).find? (fun x => opR b l s x.e t) = pickR b l s t) ∧ Hid (Lows w3 wr)) (fun vi _ => S.length - (intOf vi).toNat)
      case atStart => exact ⟨0, rfl, Nat.zero_le _, HP, Lib.hid (Lows.self _)⟩
      case round =>
        obtain ⟨i, rfl, hi, HF, HL⟩ := hrel
        by_cases hli : i < S.length
        · have hliz : (i : Int) < (S.length : Int) := by omega
          obtain ⟨bb, o, rfl, hb, hcc⟩ := HC.out (by omega)
          obtain ⟨x, hx⟩ : ∃ x, x = fn S i := ⟨_, rfl⟩
          have hxo : x.ok := by rw [hx, show fn S i = S[i] from getElem!_pos S i hli]; exact HSO.out.1 _ (List.getElem_mem _)
          have FS := Lib.hid (find_step (p := fun x => opR b l s x.e t) hli)
          rw [← hx, HF.out] at FS
          have m0 : wr.cell? ⟨bb, o + i * 5, none⟩ = some (.int .i64 x.k) := item_at HL.out hb hcc hli (j := 0) (by rw [← hx]; rfl)
          have m1 : wr.cell? ⟨bb, o + i * 5 + 1, none⟩ = some (.bool x.e.a.v6) := item_at HL.out hb hcc hli (j := 1) (by rw [← hx]; rfl)
          have m2 : wr.cell? ⟨bb, o + i * 5 + 2, none⟩ = some (.int .u64 x.e.a.hi) := item_at HL.out hb hcc hli (j := 2) (by rw [← hx]; rfl)
          have m3 : wr.cell? ⟨bb, o + i * 5 + 3, none⟩ = some (.int .u64 x.e.a.lo) := item_at HL.out hb hcc hli (j := 3) (by rw [← hx]; rfl)
          have m4 : wr.cell? ⟨bb, o + i * 5 + 4, none⟩ = some (.int .i64 x.e.n) := item_at HL.out hb hcc hli (j := 4) (by rw [← hx]; rfl)
          have KO := Lib.hid (open_any A1 c1 A2 c2 A3 c3 b l s x.e t (wr.alloc (.cells #[.int .i64 x.k, .bool x.e.a.v6, .int .u64 x.e.a.hi, .int .u64 x.e.a.lo, .int .i64 x.e.n] 57)) (HS3.out.below (Lows.alloc HL.out _)) hxo.2)
          have OB := Lib.hid (Blk.new wr #[.int .i64 x.k, .bool x.e.a.v6, .int .u64 x.e.a.hi, .int .u64 x.e.a.lo, .int .i64 x.e.n] 57)
          have OV1 := OV3.out.on (Lows.alloc HL.out (.cells #[.int .i64 x.k, .bool x.e.a.v6, .int .u64 x.e.a.hi, .int .u64 x.e.a.lo, .int .i64 x.e.n] 57))
          have d0 := OV1.cell (j := 0) rfl
          have d1 := OV1.cell (j := 1) rfl
          have d2 := OV1.cell (j := 2) rfl
          clear hx hb hcc hxo OV1
          cases hr : opR b l s x.e t
          · rw [hr] at KO
            rw [hr, if_neg (by simp)] at FS
            clear hr
            go_wp2_with fail
            refine KO.out.mono ?_; rintro e9 w4 ⟨rfl, hb4⟩
            have L4 := Lib.hid (low_trans (Lows.alloc HL.out _) hb4)
            have FS2 : Hid ((S.drop (i + 1)).find? (fun x => opR b l s x.e t) = pickR b l s t) := Lib.hid FS.out.symm
            clear hb4 KO OB HL HF FS m0 m1 m2 m3 m4 d0 d1 d2
            go_wp2_with fail
            go_roundw
            case rel => exact ⟨i + 1, by go_num, by omega, FS2, L4⟩
            case measure => simp [intOf]; omega
          · rw [hr] at KO
            rw [hr, if_pos rfl] at FS
            clear hr
            have EP := Lib.hid (pickE_some FS.out)
            go_wp2_with fail
            refine KO.out.mono ?_; rintro e9 w4 ⟨rfl, hb4⟩
            have L4 := Lib.hid (low_trans (Lows.alloc HL.out _) hb4)
            have HL9 := Lib.hid (low_trans LL3.out L4.out)
            have OB1 := OB.out.on hb4
            have OZ1 := OZ3.out.on L4.out
            have e0 := OB1.cell (j := 0) rfl
            have e1 := OB1.cell (j := 1) rfl
            have e2 := OB1.cell (j := 2) rfl
            have e3 := OB1.cell (j := 3) rfl
            have e4 := OB1.cell (j := 4) rfl
            have z0 := OZ1.cell (j := 0) rfl
            have g0 := OZ1.free 0
            have z1 := OZ1.cell (j := 1) rfl
            have g1 := OZ1.free 1
            have z2 := OZ1.cell (j := 2) rfl
            have g2 := OZ1.free 2
            have z3 := OZ1.cell (j := 3) rfl
            have g3 := OZ1.free 3
            clear hb4 KO OB HL HF FS OB1 OZ1 m0 m1 m2 m3 m4 d0 d1 d2
            go_wp2_with fail
            exact bodyPost_ret (v := .tuple #[.agg #[.bool x.e.a.v6, .int .u64 x.e.a.hi, .int .u64 x.e.a.lo, .int .i64 x.e.n], .bool true]) (by simp [results, Try.results6, go_sem, z0, z1, z2, z3]) rfl ⟨by rw [EP.out.1, EP.out.2], by repeat (first | (with_reducible exact HL9.out) | (with_reducible refine Below.setCell ?_ (by first | exact Nat.le_refl _ | exact Nat.le_succ _ | (simp; done) | (simp; omega)) _) | (refine low_drewN ?_ 1))⟩
        · have hliz : ¬ (i : Int) < (S.length : Int) := by omega
          have EP := Lib.hid (pickE_none (b := b) (l := l) (s := s) (t := t) (by rw [← HF.out, List.drop_of_length_le (by omega)]; rfl))
          have HL9 := Lib.hid (low_trans LL3.out HL.out)
          have OZ1 := OZ3.out.on HL.out
          have z0 := OZ1.cell (j := 0) rfl
          have g0 := OZ1.free 0
          have z1 := OZ1.cell (j := 1) rfl
          have g1 := OZ1.free 1
          have z2 := OZ1.cell (j := 2) rfl
          have g2 := OZ1.free 2
          have z3 := OZ1.cell (j := 3) rfl
          have g3 := OZ1.free 3
          clear HF HL OZ1
          go_wp2_with fail
          exact bodyPost_ret (v := .tuple #[.agg #[.bool false, .int .u64 0, .int .u64 0, .int .i64 0], .bool false]) (by simp [results, Try.results6, go_sem, z0, z1, z2, z3]) rfl ⟨by rw [EP.out.1, EP.out.2]; rfl, by repeat (first | (with_reducible exact HL9.out) | (with_reducible refine Below.setCell ?_ (by first | exact Nat.le_refl _ | exact Nat.le_succ _ | (simp; done) | (simp; omega)) _) | (refine low_drewN ?_ 1))⟩
set_option maxHeartbeats 8000000 in
theorem when_any (A1 : Option Addr) (c1 : Nat) (A2 : Option Addr) (c2 : Nat) (A3 : Option Addr) (c3 : Nat) (b : List Ey) (l : List Pr) (s : List Ba.Ban) (t : Int) (w : World) (h : Seen w A1 c1 A2 c2 A3 c3 b l s) :
    Calls Try.prog 14 #[.agg #[.slice A1 b.length c1, .slice A2 l.length c2, .slice A3 s.length c3], .int .i64 t] w fun e w' => e = .returned (.int .i64 (whenR b t)) ∧ Below w.heap.size w w' := by
  have LL : Hid (Lows w (w.alloc (.cells #[.slice A1 b.length c1, .slice A2 l.length c2, .slice A3 s.length c3] 26))) := Lib.hid (Lows.alloc (Lows.self w) _)
  have HS := Lib.hid (h.below LL.out)
  clear h
  go_enter Try.func14, Try.ntmps14
  go_wp2_with fail
  obtain ⟨w2, hw2⟩ : ∃ x, x = (w.alloc (.cells #[.slice A1 b.length c1, .slice A2 l.length c2, .slice A3 s.length c3] 26)) := ⟨_, rfl⟩
  rw [← hw2] at LL HS ⊢
  clear hw2
  have HC : Hid (0 < b.length → ∃ bb o, A1 = some ⟨bb, o, none⟩ ∧ bb < w2.heap.size ∧ ∀ i (h : i < b.length) j u, (encY b[i])[j]? = some u → w2.cell? ⟨bb, o + i * 7 + j, none⟩ = some u) := Lib.hid (by
    obtain ⟨A9, c9, e9, _, _, hcell⟩ := HS.out.hb
    cases e9
    exact hcell)
  have HBN := Lib.hid HS.out.nb
  have HOB := Lib.hid HS.out.ob
  have hbn := HBN.out
  clear HS
  go_loopw [5, 11] (fun vm vi wr => ∃ (i : Nat) (m : Int), vm = .int .i64 m ∧ vi = .int .i64 i ∧ i ≤ b.length ∧ Hid (whenF (b.take i) t = m) ∧ Hid (Lows w2 wr)) (fun _ vi _ => b.length - (intOf vi).toNat)
  case atStart => exact ⟨0, _, rfl, rfl, Nat.zero_le _, Lib.hid (by rw [List.take_zero]; rfl), Lib.hid (Lows.self _)⟩
  case round =>
    obtain ⟨i, m, rfl, rfl, hi, HM, HL⟩ := hrel
    by_cases hli : i < b.length
    · have hliz : (i : Int) < (b.length : Int) := by omega
      obtain ⟨bb, o, rfl, hb, hcc⟩ := HC.out (by omega)
      obtain ⟨x, hx⟩ : ∃ x, x = b[i]! := ⟨_, rfl⟩
      have hx2 : b[i] = x := by rw [hx, getElem!_pos b i hli]
      have hxo : x.ok := by rw [← hx2]; exact HOB.out _ (List.getElem_mem _)
      have WS := Lib.hid (when_snoc (t := t) hli)
      rw [hx2, HM.out] at WS
      have c0 : wr.cell? ⟨bb, o + i * 7, none⟩ = some (.bool x.e.a.v6) := entry_at HL.out hb hcc hli (j := 0) (by rw [← hx]; rfl)
      have c1 : wr.cell? ⟨bb, o + i * 7 + 1, none⟩ = some (.int .u64 x.e.a.hi) := entry_at HL.out hb hcc hli (j := 1) (by rw [← hx]; rfl)
      have c2 : wr.cell? ⟨bb, o + i * 7 + 2, none⟩ = some (.int .u64 x.e.a.lo) := entry_at HL.out hb hcc hli (j := 2) (by rw [← hx]; rfl)
      have c3 : wr.cell? ⟨bb, o + i * 7 + 3, none⟩ = some (.int .i64 x.e.n) := entry_at HL.out hb hcc hli (j := 3) (by rw [← hx]; rfl)
      have c4 : wr.cell? ⟨bb, o + i * 7 + 4, none⟩ = some (.int .i64 x.st) := entry_at HL.out hb hcc hli (j := 4) (by rw [← hx]; rfl)
      have c5 : wr.cell? ⟨bb, o + i * 7 + 5, none⟩ = some (.int .i64 x.f) := entry_at HL.out hb hcc hli (j := 5) (by rw [← hx]; rfl)
      have c6 : wr.cell? ⟨bb, o + i * 7 + 6, none⟩ = some (.int .i64 x.nx) := entry_at HL.out hb hcc hli (j := 6) (by rw [← hx]; rfl)
      have KR := Lib.hid (fun W => rightY_any x hxo W)
      have OB := Lib.hid (Blk.new wr #[.bool x.e.a.v6, .int .u64 x.e.a.hi, .int .u64 x.e.a.lo, .int .i64 x.e.n, .int .i64 x.st, .int .i64 x.f, .int .i64 x.nx] 37)
      clear hx hx2 hb hcc hxo
      have A : ∀ (hno : (rightY x && x.st == 1 && decide (t < x.nx)) = false), Hid (whenF (b.take (i + 1)) t = m) := fun hno => Lib.hid (by rw [WS.out, hno, if_neg (by simp)])
      have B : ∀ (hyes : (rightY x && x.st == 1 && decide (t < x.nx)) = true), Hid (whenF (b.take (i + 1)) t = min m x.nx) := fun hyes => Lib.hid (by rw [WS.out, hyes, if_pos rfl])
      clear WS
      cases hr : rightY x
      · have WA := A (by rw [hr]; rfl)
        rw [hr] at KR
        clear hr A B
        go_wp2_with fail
        refine (KR.out _).mono ?_; rintro e9 w1 ⟨rfl, hb1⟩
        have L1 := Lib.hid (low_trans (Lows.alloc HL.out _) hb1)
        clear hb1 KR OB HL c0 c1 c2 c3 c4 c5 c6
        go_wp2_with fail
        go_roundw
        case rel => exact ⟨i + 1, _, rfl, by go_num, by omega, WA, L1⟩
        case measure => simp [intOf]; omega
      · rw [hr] at KR
        by_cases hs : x.st = 1
        · have hsb : (x.st == 1) = true := by rw [hs]; rfl
          by_cases hn : t < x.nx
          · have WB := B (by rw [hr, hsb, decide_eq_true hn]; rfl)
            obtain ⟨m1, M1⟩ : ∃ m1 : Int, min m x.nx = m1 := ⟨_, rfl⟩
            rw [M1] at WB
            clear hr A B hs
            go_wp2_with fail
            refine (KR.out _).mono ?_; rintro e9 w1 ⟨rfl, hb1⟩
            have L1 := Lib.hid (low_trans (Lows.alloc HL.out _) hb1)
            have OB1 := OB.out.on hb1
            have e0 := OB1.cell (j := 0) rfl
            have e1 := OB1.cell (j := 1) rfl
            have e2 := OB1.cell (j := 2) rfl
            have e3 := OB1.cell (j := 3) rfl
            have e4 := OB1.cell (j := 4) rfl
            have e5 := OB1.cell (j := 5) rfl
            have e6 := OB1.cell (j := 6) rfl
            clear hb1 KR OB HL OB1 c0 c1 c2 c3 c4 c5 c6
            go_wp2_with fail
            go_roundw
            case rel => exact ⟨i + 1, _, rfl, by go_num, by omega, WB, L1⟩
            case measure => simp [intOf]; omega
          · have WA := A (by rw [hr, hsb, decide_eq_false hn]; rfl)
            clear hr A B hs
            go_wp2_with fail
            refine (KR.out _).mono ?_; rintro e9 w1 ⟨rfl, hb1⟩
            have L1 := Lib.hid (low_trans (Lows.alloc HL.out _) hb1)
            have OB1 := OB.out.on hb1
            have e0 := OB1.cell (j := 0) rfl
            have e1 := OB1.cell (j := 1) rfl
            have e2 := OB1.cell (j := 2) rfl
            have e3 := OB1.cell (j := 3) rfl
            have e4 := OB1.cell (j := 4) rfl
            have e5 := OB1.cell (j := 5) rfl
            have e6 := OB1.cell (j := 6) rfl
            clear hb1 KR OB HL OB1 c0 c1 c2 c3 c4 c5 c6
            go_wp2_with fail
            go_roundw
            case rel => exact ⟨i + 1, _, rfl, by go_num, by omega, WA, L1⟩
            case measure => simp [intOf]; omega
        · have hsb : (x.st == 1) = false := by rw [beq_eq_false_iff_ne]; exact hs
          have WA := A (by rw [hr, hsb]; rfl)
          clear hr A B hs
          go_wp2_with fail
          refine (KR.out _).mono ?_; rintro e9 w1 ⟨rfl, hb1⟩
          have L1 := Lib.hid (low_trans (Lows.alloc HL.out _) hb1)
          have OB1 := OB.out.on hb1
          have e0 := OB1.cell (j := 0) rfl
          have e1 := OB1.cell (j := 1) rfl
          have e2 := OB1.cell (j := 2) rfl
          have e3 := OB1.cell (j := 3) rfl
          have e4 := OB1.cell (j := 4) rfl
          have e5 := OB1.cell (j := 5) rfl
          have e6 := OB1.cell (j := 6) rfl
          clear hb1 KR OB HL OB1 c0 c1 c2 c3 c4 c5 c6
          go_wp2_with fail
          go_roundw
          case rel => exact ⟨i + 1, _, rfl, by go_num, by omega, WA, L1⟩
          case measure => simp [intOf]; omega
    · have hliz : ¬ (i : Int) < (b.length : Int) := by omega
      have HM2 : Hid (whenF b t = m) := Lib.hid (by have := HM.out; rwa [List.take_of_length_le (by omega)] at this)
      have HL9 := Lib.hid (low_trans LL.out HL.out)
      clear HM HL LL
      by_cases hm : m = 1099511627777
      · have E : Hid (whenR b t = 0) := Lib.hid (by unfold whenR; rw [HM2.out, if_pos hm])
        have hmb : (m == 1099511627777) = true := by rw [hm]; rfl
        clear HM2 hm
        go_wp2_with fail
        go_ret
        exact ⟨by first | (rw [E.out]; done) | (rw [E.out]; rfl), HL9.out⟩
      · have E : Hid (whenR b t = m) := Lib.hid (by unfold whenR; rw [HM2.out, if_neg hm])
        have hmb : (m == 1099511627777) = false := by rw [beq_eq_false_iff_ne]; exact hm
        clear HM2 hm
        go_wp2_with fail
        go_ret
        exact ⟨by first | (rw [E.out]; done) | (rw [E.out]; rfl), HL9.out⟩
end Go.Proofs.Ytgnjbbohphoojaa.Di
