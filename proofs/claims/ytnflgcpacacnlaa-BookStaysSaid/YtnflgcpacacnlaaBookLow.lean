/- Package book: follows, Find, place, Count, Right; slices.IndexFunc at entries. -/
import Derived.Test.YtnflgcpacacnlaaBookMem
namespace Go.Proofs.Ytnflgcpacacnlaa.Bo
set_option maxRecDepth 100000
open Go.ChangeShapes Go.WideShapes Go.ChangeAt Go.RowKit
open Ad Ci En Sat Bk Et Go.Deep
set_option linter.unusedVariables false
set_option maxHeartbeats 4000000 in
theorem follows_any (x : Ey) (E : Endp) (w : World) (hx : x.e.ok) (hE : E.ok) : Calls Try.prog 25 #[.agg #[.bool x.e.a.v6, .int .u64 x.e.a.hi, .int .u64 x.e.a.lo, .int .i64 x.e.n, .int .i64 x.st, .int .i64 x.f, .int .i64 x.nx], .agg #[.bool E.a.v6, .int .u64 E.a.hi, .int .u64 E.a.lo, .int .i64 E.n]] w fun e w' => e = .returned (.bool (isP E x)) ∧ Below w.heap.size w w' := by
  have L0 : Hid (Lows w ((w.alloc (.cells #[.bool x.e.a.v6, .int .u64 x.e.a.hi, .int .u64 x.e.a.lo, .int .i64 x.e.n, .int .i64 x.st, .int .i64 x.f, .int .i64 x.nx] 29)).alloc (.cells #[.bool E.a.v6, .int .u64 E.a.hi, .int .u64 E.a.lo, .int .i64 E.n] 27))) := Lib.hid (Lows.alloc (Lows.alloc (Lows.self w) _) _)
  have KC := Lib.hid (fun W => compareE_any x.e E W hx hE)
  have E1 : Hid (isP E x = decide (0 < cmpE x.e E)) := Lib.hid rfl
  generalize cmpE x.e E = r at *
  generalize isP E x = b at *
  clear hx hE
  go_enter Try.func25, Try.ntmps25
  go_wp2_with fail
  refine (KC.out _).mono ?_; rintro e w1 ⟨rfl, hb1⟩
  have L1 := Lib.hid (low_trans L0.out hb1)
  clear hb1 KC L0
  go_wp2_with fail
  go_ret
  exact ⟨ret_b (by rw [E1.out]), L1.out⟩
set_option maxHeartbeats 2000000 in
theorem find1_any (x : Ey) (E : Endp) (B : Nat) (w : World) (h0 : w.cell? ⟨B, 0, none⟩ = some (.bool E.a.v6)) (h1 : w.cell? ⟨B, 1, none⟩ = some (.int .u64 E.a.hi)) (h2 : w.cell? ⟨B, 2, none⟩ = some (.int .u64 E.a.lo)) (h3 : w.cell? ⟨B, 3, none⟩ = some (.int .i64 E.n)) :
    Calls Try.prog 27 #[.agg #[.bool x.e.a.v6, .int .u64 x.e.a.hi, .int .u64 x.e.a.lo, .int .i64 x.e.n, .int .i64 x.st, .int .i64 x.f, .int .i64 x.nx], .pointer (some ⟨B, 0, none⟩)] w fun e w' => e = .returned (.bool (isE E x)) ∧ Below w.heap.size w w' := by
  have LL : Below w.heap.size w (w.alloc (.cells #[.bool x.e.a.v6, .int .u64 x.e.a.hi, .int .u64 x.e.a.lo, .int .i64 x.e.n, .int .i64 x.st, .int .i64 x.f, .int .i64 x.nx] 29)) := (Below.refl _ _).alloc (Nat.le_refl _) _
  have EQ := fun W => eqEnd x.e E W
  have k0 : (w.alloc (.cells #[.bool x.e.a.v6, .int .u64 x.e.a.hi, .int .u64 x.e.a.lo, .int .i64 x.e.n, .int .i64 x.st, .int .i64 x.f, .int .i64 x.nx] 29)).cell? ⟨B, 0, none⟩ = some (.bool E.a.v6) := cells_left LL h0
  have k1 : (w.alloc (.cells #[.bool x.e.a.v6, .int .u64 x.e.a.hi, .int .u64 x.e.a.lo, .int .i64 x.e.n, .int .i64 x.st, .int .i64 x.f, .int .i64 x.nx] 29)).cell? ⟨B, 1, none⟩ = some (.int .u64 E.a.hi) := cells_left LL h1
  have k2 : (w.alloc (.cells #[.bool x.e.a.v6, .int .u64 x.e.a.hi, .int .u64 x.e.a.lo, .int .i64 x.e.n, .int .i64 x.st, .int .i64 x.f, .int .i64 x.nx] 29)).cell? ⟨B, 2, none⟩ = some (.int .u64 E.a.lo) := cells_left LL h2
  have k3 : (w.alloc (.cells #[.bool x.e.a.v6, .int .u64 x.e.a.hi, .int .u64 x.e.a.lo, .int .i64 x.e.n, .int .i64 x.st, .int .i64 x.f, .int .i64 x.nx] 29)).cell? ⟨B, 3, none⟩ = some (.int .i64 E.n) := cells_left LL h3
  clear h0 h1 h2 h3
  go_enter Try.func27, Try.ntmps27
  go_wp2_with fail
  go_ret
  exact ⟨rfl, LL⟩
set_option maxHeartbeats 2000000 in
theorem place1_any (x : Ey) (E : Endp) (B : Nat) (w : World) (hx : x.e.ok) (hE : E.ok) (h0 : w.cell? ⟨B, 0, none⟩ = some (.bool E.a.v6)) (h1 : w.cell? ⟨B, 1, none⟩ = some (.int .u64 E.a.hi)) (h2 : w.cell? ⟨B, 2, none⟩ = some (.int .u64 E.a.lo)) (h3 : w.cell? ⟨B, 3, none⟩ = some (.int .i64 E.n)) :
    Calls Try.prog 35 #[.agg #[.bool x.e.a.v6, .int .u64 x.e.a.hi, .int .u64 x.e.a.lo, .int .i64 x.e.n, .int .i64 x.st, .int .i64 x.f, .int .i64 x.nx], .pointer (some ⟨B, 0, none⟩)] w fun e w' => e = .returned (.bool (isP E x)) ∧ Below w.heap.size w w' := by
  have LL : Below w.heap.size w (w.alloc (.cells #[.bool x.e.a.v6, .int .u64 x.e.a.hi, .int .u64 x.e.a.lo, .int .i64 x.e.n, .int .i64 x.st, .int .i64 x.f, .int .i64 x.nx] 29)) := (Below.refl _ _).alloc (Nat.le_refl _) _
  have KF := Lib.hid (fun W => follows_any x E W hx hE)
  have k0 : (w.alloc (.cells #[.bool x.e.a.v6, .int .u64 x.e.a.hi, .int .u64 x.e.a.lo, .int .i64 x.e.n, .int .i64 x.st, .int .i64 x.f, .int .i64 x.nx] 29)).cell? ⟨B, 0, none⟩ = some (.bool E.a.v6) := cells_left LL h0
  have k1 : (w.alloc (.cells #[.bool x.e.a.v6, .int .u64 x.e.a.hi, .int .u64 x.e.a.lo, .int .i64 x.e.n, .int .i64 x.st, .int .i64 x.f, .int .i64 x.nx] 29)).cell? ⟨B, 1, none⟩ = some (.int .u64 E.a.hi) := cells_left LL h1
  have k2 : (w.alloc (.cells #[.bool x.e.a.v6, .int .u64 x.e.a.hi, .int .u64 x.e.a.lo, .int .i64 x.e.n, .int .i64 x.st, .int .i64 x.f, .int .i64 x.nx] 29)).cell? ⟨B, 2, none⟩ = some (.int .u64 E.a.lo) := cells_left LL h2
  have k3 : (w.alloc (.cells #[.bool x.e.a.v6, .int .u64 x.e.a.hi, .int .u64 x.e.a.lo, .int .i64 x.e.n, .int .i64 x.st, .int .i64 x.f, .int .i64 x.nx] 29)).cell? ⟨B, 3, none⟩ = some (.int .i64 E.n) := cells_left LL h3
  clear h0 h1 h2 h3 hx hE
  have L0 := Lib.hid LL
  clear LL
  generalize isP E x = b at *
  go_enter Try.func35, Try.ntmps35
  go_wp2_with fail
  refine (KF.out _).mono ?_; rintro e w1 ⟨rfl, hb1⟩
  have L1 := Lib.hid (low_trans L0.out hb1)
  clear hb1 KF L0 k0 k1 k2 k3
  go_wp2_with fail
  go_ret
  exact ⟨rfl, L1.out⟩
/-- What a function value tells of an entry, wherever all that lay below B is as it was. -/
def TellsY (g : Nat) (lb : Array Value) (p : Ey → Bool) (B : Nat) (w : World) : Prop :=
  ∀ (W : World) (x : Ey), x.ok → Below B w W → B ≤ W.heap.size → Calls Try.prog g (#[.agg #[.bool x.e.a.v6, .int .u64 x.e.a.hi, .int .u64 x.e.a.lo, .int .i64 x.e.n, .int .i64 x.st, .int .i64 x.f, .int .i64 x.nx]] ++ lb) W fun e w' => e = .returned (.bool (p x)) ∧ Below W.heap.size W w'
set_option maxHeartbeats 4000000 in
theorem indexY_any (g : Nat) (lb : Array Value) (p : Ey → Bool) (eg : ∀ args w, (callFunc g args).run Try.prog w = .ok (.enter g args) w) (v : Value) (l : List Ey) (w : World) (h : Books w v l) (hok : ∀ x ∈ l, x.ok) (hl : l.length ≤ 1000000) (hp : TellsY g lb p w.heap.size w) :
    Calls Try.prog 26 #[v, .func (.func g) #[] lb] w fun e w' => e = .returned (.int .i64 (posY p l)) ∧ Below w.heap.size w w' := by
  obtain ⟨A, c, rfl, hc, _, hcell⟩ := h
  have HC := Lib.hid hcell
  have HP := Lib.hid hp
  have HOK := Lib.hid hok
  clear hcell hp hok
  go_enter Try.func26, Try.ntmps26
  go_wp2_with fail
  go_loopw [5, 8] (fun _ i wr => ∃ k : Nat, k ≤ l.length ∧ i = .int .i64 k ∧ Hid (∀ i, i < l.length → i < k → p l[i]! = false) ∧ Hid (Below w.heap.size w wr)) (fun _ i _ => l.length - (intOf i).toNat)
  case atStart => exact ⟨0, Nat.zero_le _, rfl, Lib.hid (fun _ _ h => absurd h (Nat.not_lt_zero _)), Lib.hid (Below.refl _ _)⟩
  case round =>
    obtain ⟨k, hk, rfl, HN, HL⟩ := hrel
    by_cases hlt : k < l.length
    · have hltz : (k : Int) < (l.length : Int) := by omega
      obtain ⟨bb, o, rfl, hb, hcc⟩ := HC.out (by omega)
      obtain ⟨x, hx⟩ : ∃ x, x = l[k]! := ⟨_, rfl⟩
      have c0 : wr.cell? ⟨bb, o + k * 7, none⟩ = some (.bool x.e.a.v6) := entry_at HL.out hb hcc hlt (j := 0) (by rw [← hx]; rfl)
      have c1 : wr.cell? ⟨bb, o + k * 7 + 1, none⟩ = some (.int .u64 x.e.a.hi) := entry_at HL.out hb hcc hlt (j := 1) (by rw [← hx]; rfl)
      have c2 : wr.cell? ⟨bb, o + k * 7 + 2, none⟩ = some (.int .u64 x.e.a.lo) := entry_at HL.out hb hcc hlt (j := 2) (by rw [← hx]; rfl)
      have c3 : wr.cell? ⟨bb, o + k * 7 + 3, none⟩ = some (.int .i64 x.e.n) := entry_at HL.out hb hcc hlt (j := 3) (by rw [← hx]; rfl)
      have c4 : wr.cell? ⟨bb, o + k * 7 + 4, none⟩ = some (.int .i64 x.st) := entry_at HL.out hb hcc hlt (j := 4) (by rw [← hx]; rfl)
      have c5 : wr.cell? ⟨bb, o + k * 7 + 5, none⟩ = some (.int .i64 x.f) := entry_at HL.out hb hcc hlt (j := 5) (by rw [← hx]; rfl)
      have c6 : wr.cell? ⟨bb, o + k * 7 + 6, none⟩ = some (.int .i64 x.nx) := entry_at HL.out hb hcc hlt (j := 6) (by rw [← hx]; rfl)
      have hcall := Lib.hid (HP.out wr x (by rw [hx, getElem!_pos l k hlt]; exact HOK.out _ (List.getElem_mem _)) HL.out HL.out.size)
      have HX := Lib.hid hx
      clear hcc hb hx
      cases hq : p x
      · rw [hq] at hcall
        have HN2 : Hid (∀ i, i < l.length → i < k + 1 → p l[i]! = false) := Lib.hid fun i h hi => by
          rcases Nat.lt_succ_iff_lt_or_eq.1 hi with h2 | rfl
          · exact HN.out i h h2
          · rw [← HX.out]; exact hq
        clear hq HX
        go_wp2_with (go_at_fn g; refine hcall.out.mono ?_; rintro e w9 ⟨rfl, hb9⟩)
        go_roundw
        case rel => exact ⟨k + 1, by omega, by go_num, HN2, Lib.hid (low_trans HL.out hb9)⟩
        case measure => simp [intOf]; omega
      · rw [hq] at hcall
        have E : Hid (posY p l = k) := Lib.hid (posY_hit hlt HN.out (by rw [← HX.out]; exact hq)).1
        clear hq HX
        go_wp2_with (go_at_fn g; refine hcall.out.mono ?_; rintro e w9 ⟨rfl, hb9⟩)
        go_ret
        exact ⟨by rw [E.out]; rfl, low_trans HL.out hb9⟩
    · have hltz : ¬ (k : Int) < (l.length : Int) := by omega
      have E : Hid (posY p l = -1) := Lib.hid (posY_miss fun i h => HN.out i h (by omega)).1
      go_wp2_with fail
      go_ret
      exact ⟨by rw [E.out]; rfl, HL.out⟩
set_option maxHeartbeats 2000000 in
/-- Where an end's entry stands first; -1, if nowhere. -/
theorem find_any (v : Value) (l : List Ey) (E : Endp) (w : World) (h : Books w v l) (hok : ∀ x ∈ l, x.ok) (hl : l.length ≤ 1000000) :
    Calls Try.prog 11 #[v, .agg #[.bool E.a.v6, .int .u64 E.a.hi, .int .u64 E.a.lo, .int .i64 E.n]] w fun e w' => e = .returned (.int .i64 (findR l E)) ∧ Below w.heap.size w w' := by
  have LL : Hid (Below w.heap.size w (w.alloc (.cells #[.bool E.a.v6, .int .u64 E.a.hi, .int .u64 E.a.lo, .int .i64 E.n] 27))) := Lib.hid ((Below.refl _ _).alloc (Nat.le_refl _) _)
  have OB := Lib.hid (Blk.new w #[.bool E.a.v6, .int .u64 E.a.hi, .int .u64 E.a.lo, .int .i64 E.n] 27)
  have KI := Lib.hid (indexY_any 27 #[.pointer (some ⟨w.heap.size, 0, none⟩)] (isE E) (fun args w => by kernel_rfl) v l (w.alloc (.cells #[.bool E.a.v6, .int .u64 E.a.hi, .int .u64 E.a.lo, .int .i64 E.n] 27)) (h.below LL.out) hok hl (fun W x hx hb hB => by
    have o := OB.out.on hb
    exact find1_any x E w.heap.size W (o.cell (j := 0) rfl) (o.cell (j := 1) rfl) (o.cell (j := 2) rfl) (o.cell (j := 3) rfl)))
  clear h hok
  go_enter Try.func11, Try.ntmps11
  go_wp2_with fail
  refine KI.out.mono ?_; rintro e9 w1 ⟨rfl, hb1⟩
  have L1 := Lib.hid (low_trans LL.out hb1)
  clear hb1 KI OB LL
  go_wp2_with fail
  go_ret
  exact ⟨rfl, L1.out⟩
set_option maxHeartbeats 2000000 in
theorem placeY_any (v : Value) (l : List Ey) (E : Endp) (w : World) (h : Books w v l) (hok : ∀ x ∈ l, x.ok) (hE : E.ok) (hl : l.length ≤ 1000000) :
    Calls Try.prog 22 #[v, .agg #[.bool E.a.v6, .int .u64 E.a.hi, .int .u64 E.a.lo, .int .i64 E.n]] w fun e w' => e = .returned (.int .i64 (placeR l E)) ∧ Below w.heap.size w w' := by
  have LL : Hid (Below w.heap.size w (w.alloc (.cells #[.bool E.a.v6, .int .u64 E.a.hi, .int .u64 E.a.lo, .int .i64 E.n] 27))) := Lib.hid ((Below.refl _ _).alloc (Nat.le_refl _) _)
  have OB := Lib.hid (Blk.new w #[.bool E.a.v6, .int .u64 E.a.hi, .int .u64 E.a.lo, .int .i64 E.n] 27)
  have KI := Lib.hid (indexY_any 35 #[.pointer (some ⟨w.heap.size, 0, none⟩)] (isP E) (fun args w => by kernel_rfl) v l (w.alloc (.cells #[.bool E.a.v6, .int .u64 E.a.hi, .int .u64 E.a.lo, .int .i64 E.n] 27)) (h.below LL.out) hok hl (fun W x hx hb hB => by
    have o := OB.out.on hb
    exact place1_any x E w.heap.size W hx.he hE (o.cell (j := 0) rfl) (o.cell (j := 1) rfl) (o.cell (j := 2) rfl) (o.cell (j := 3) rfl)))
  have HS : Hid (∃ A c, v = .slice A l.length c) := Lib.hid (by obtain ⟨A, c, e, _⟩ := h; exact ⟨A, c, e⟩)
  obtain ⟨A, c, rfl⟩ := HS.out
  clear h hok hE HS
  rcases posY_is (isP E) l with ⟨hlt, e⟩ | ⟨hlt, e⟩
  · have E1 : Hid (placeR l E = l.findIdx (isP E)) := Lib.hid rfl
    rw [e] at KI
    clear e hlt
    generalize l.findIdx (isP E) = k at *
    generalize placeR l E = q at *
    have hm1 : ((k : Int) != -1) = true := by rw [bne_iff_ne]; omega
    go_enter Try.func22, Try.ntmps22
    go_wp2_with fail
    refine KI.out.mono ?_; rintro e9 w1 ⟨rfl, hb1⟩
    have L1 := Lib.hid (low_trans LL.out hb1)
    clear hb1 KI OB LL
    go_wp2_with fail
    go_ret
    exact ⟨by rw [E1.out]; rfl, L1.out⟩
  · have E1 : Hid (placeR l E = l.length) := Lib.hid hlt
    rw [e] at KI
    clear e hlt
    generalize placeR l E = q at *
    go_enter Try.func22, Try.ntmps22
    go_wp2_with fail
    refine KI.out.mono ?_; rintro e9 w1 ⟨rfl, hb1⟩
    have L1 := Lib.hid (low_trans LL.out hb1)
    clear hb1 KI OB LL
    go_wp2_with fail
    go_ret
    exact ⟨by rw [E1.out]; rfl, L1.out⟩
set_option maxHeartbeats 4000000 in
theorem count_any (v : Value) (l : List Ey) (s : Int) (w : World) (h : Books w v l) (hl : l.length ≤ 900000) :
    Calls Try.prog 16 #[v, .int .i64 s] w fun e w' => e = .returned (.int .i64 (countR l s)) ∧ Below w.heap.size w w' := by
  obtain ⟨A, c, rfl, hc, _, hcell⟩ := h
  have HC := Lib.hid hcell
  clear hcell hc
  go_enter Try.func16, Try.ntmps16
  go_wp2_with fail
  go_loopw [5, 10] (fun vr vi wr => ∃ (i m : Nat), vr = .int .i64 m ∧ vi = .int .i64 i ∧ i ≤ l.length ∧ m ≤ i ∧ Hid (m = countR (l.take i) s) ∧ Hid (Below w.heap.size w wr)) (fun _ vi _ => l.length - (intOf vi).toNat)
  case atStart => exact ⟨0, 0, rfl, rfl, Nat.zero_le _, Nat.le_refl _, Lib.hid rfl, Lib.hid (Below.refl _ _)⟩
  case round =>
    obtain ⟨i, m, rfl, rfl, hi, hmi, HM, HL⟩ := hrel
    by_cases hli : i < l.length
    · have hliz : (i : Int) < (l.length : Int) := by omega
      obtain ⟨bb, o, rfl, hb, hcc⟩ := HC.out (by omega)
      obtain ⟨x, hx⟩ : ∃ x, x = l[i]! := ⟨_, rfl⟩
      have c0 : wr.cell? ⟨bb, o + i * 7, none⟩ = some (.bool x.e.a.v6) := entry_at HL.out hb hcc hli (j := 0) (by rw [← hx]; rfl)
      have c1 : wr.cell? ⟨bb, o + i * 7 + 1, none⟩ = some (.int .u64 x.e.a.hi) := entry_at HL.out hb hcc hli (j := 1) (by rw [← hx]; rfl)
      have c2 : wr.cell? ⟨bb, o + i * 7 + 2, none⟩ = some (.int .u64 x.e.a.lo) := entry_at HL.out hb hcc hli (j := 2) (by rw [← hx]; rfl)
      have c3 : wr.cell? ⟨bb, o + i * 7 + 3, none⟩ = some (.int .i64 x.e.n) := entry_at HL.out hb hcc hli (j := 3) (by rw [← hx]; rfl)
      have c4 : wr.cell? ⟨bb, o + i * 7 + 4, none⟩ = some (.int .i64 x.st) := entry_at HL.out hb hcc hli (j := 4) (by rw [← hx]; rfl)
      have c5 : wr.cell? ⟨bb, o + i * 7 + 5, none⟩ = some (.int .i64 x.f) := entry_at HL.out hb hcc hli (j := 5) (by rw [← hx]; rfl)
      have c6 : wr.cell? ⟨bb, o + i * 7 + 6, none⟩ = some (.int .i64 x.nx) := entry_at HL.out hb hcc hli (j := 6) (by rw [← hx]; rfl)
      have HN := Lib.hid (count_next hli s)
      rw [← hx] at HN
      clear hcc hb hx
      by_cases hq : x.st = s
      · have hqb : (x.st == s) = true := by rw [beq_iff_eq]; exact hq
        have HY : Hid (m + 1 = countR (l.take (i + 1)) s) := Lib.hid (by rw [HN.out, if_pos hq, ← HM.out])
        clear hq HN HM
        go_wp2_with fail
        go_roundw
        case rel => exact ⟨i + 1, m + 1, by go_num, by go_num, by omega, by omega, HY, Lib.hid (Lows.alloc HL.out _)⟩
        case measure => simp [intOf]; omega
      · have hqb : (x.st == s) = false := by rw [beq_eq_false_iff_ne]; exact hq
        have HY : Hid (m = countR (l.take (i + 1)) s) := Lib.hid (by rw [HN.out, if_neg hq, ← HM.out]; rfl)
        clear hq HN HM
        go_wp2_with fail
        go_roundw
        case rel => exact ⟨i + 1, m, rfl, by go_num, by omega, by omega, HY, Lib.hid (Lows.alloc HL.out _)⟩
        case measure => simp [intOf]; omega
    · have hliz : ¬ (i : Int) < (l.length : Int) := by omega
      have HY : Hid (m = countR l s) := Lib.hid (by rw [HM.out, List.take_of_length_le (by omega)])
      clear HM
      go_wp2_with fail
      go_ret
      exact ⟨by rw [HY.out]; rfl, HL.out⟩
set_option maxHeartbeats 8000000 in
theorem rightL_any (v : Value) (l : List Ey) (w : World) (h : Books w v l) (hok : ∀ x ∈ l, x.ok) (hl : l.length ≤ 1000000) :
    Calls Try.prog 9 #[v] w fun e w' => e = .returned (.bool (rightB l)) ∧ Below w.heap.size w w' := by
  obtain ⟨A, c, rfl, hc, _, hcell⟩ := h
  have HC := Lib.hid hcell
  have HOK := Lib.hid hok
  clear hcell hok
  go_enter Try.func9, Try.ntmps9
  go_wp2_with fail
  go_loopw [3, 7] (fun _ vi wr => ∃ i : Nat, vi = .int .i64 i ∧ i ≤ l.length ∧ Hid (∀ j, j < i → rightY l[j]! = true ∧ (0 < j → 0 < cmpE l[j]!.e l[j - 1]!.e)) ∧ Hid (Below w.heap.size w wr)) (fun _ vi _ => l.length - (intOf vi).toNat)
  case atStart => exact ⟨0, rfl, Nat.zero_le _, Lib.hid (fun _ h => absurd h (Nat.not_lt_zero _)), Lib.hid (Below.refl _ _)⟩
  case round =>
    obtain ⟨i, rfl, hi, HN, HL⟩ := hrel
    by_cases hli : i < l.length
    · have hliz : (i : Int) < (l.length : Int) := by omega
      obtain ⟨bb, o, rfl, hb, hcc⟩ := HC.out (by omega)
      obtain ⟨x, hx⟩ : ∃ x, x = l[i]! := ⟨_, rfl⟩
      have hxo : x.ok := by rw [hx, getElem!_pos l i hli]; exact HOK.out _ (List.getElem_mem _)
      have c0 : wr.cell? ⟨bb, o + i * 7, none⟩ = some (.bool x.e.a.v6) := entry_at HL.out hb hcc hli (j := 0) (by rw [← hx]; rfl)
      have c1 : wr.cell? ⟨bb, o + i * 7 + 1, none⟩ = some (.int .u64 x.e.a.hi) := entry_at HL.out hb hcc hli (j := 1) (by rw [← hx]; rfl)
      have c2 : wr.cell? ⟨bb, o + i * 7 + 2, none⟩ = some (.int .u64 x.e.a.lo) := entry_at HL.out hb hcc hli (j := 2) (by rw [← hx]; rfl)
      have c3 : wr.cell? ⟨bb, o + i * 7 + 3, none⟩ = some (.int .i64 x.e.n) := entry_at HL.out hb hcc hli (j := 3) (by rw [← hx]; rfl)
      have c4 : wr.cell? ⟨bb, o + i * 7 + 4, none⟩ = some (.int .i64 x.st) := entry_at HL.out hb hcc hli (j := 4) (by rw [← hx]; rfl)
      have c5 : wr.cell? ⟨bb, o + i * 7 + 5, none⟩ = some (.int .i64 x.f) := entry_at HL.out hb hcc hli (j := 5) (by rw [← hx]; rfl)
      have c6 : wr.cell? ⟨bb, o + i * 7 + 6, none⟩ = some (.int .i64 x.nx) := entry_at HL.out hb hcc hli (j := 6) (by rw [← hx]; rfl)
      have KR := Lib.hid (fun W => rightY_any x hxo W)
      have OB := Lib.hid (Blk.new wr #[.bool x.e.a.v6, .int .u64 x.e.a.hi, .int .u64 x.e.a.lo, .int .i64 x.e.n, .int .i64 x.st, .int .i64 x.f, .int .i64 x.nx] 29)
      have L1 : Hid (Below w.heap.size w (wr.alloc (.cells #[.bool x.e.a.v6, .int .u64 x.e.a.hi, .int .u64 x.e.a.lo, .int .i64 x.e.n, .int .i64 x.st, .int .i64 x.f, .int .i64 x.nx] 29))) := Lib.hid (Lows.alloc HL.out _)
      obtain ⟨W1, hW1⟩ : ∃ W1, W1 = (wr.alloc (.cells #[.bool x.e.a.v6, .int .u64 x.e.a.hi, .int .u64 x.e.a.lo, .int .i64 x.e.n, .int .i64 x.st, .int .i64 x.f, .int .i64 x.nx] 29)) := ⟨_, rfl⟩
      rw [← hW1] at OB L1
      have HX := Lib.hid hx
      clear hx
      go_wp2_with fail
      rw [← hW1]
      clear hW1 c0 c1 c2 c3 c4 c5 c6
      have hne : Nonempty (Cls (Lows W1)) := ⟨⟨_, Lows.self _⟩⟩
      have f0 : ∀ nq : Cls (Lows W1), nq.w.cell? ⟨wr.heap.size, 0, none⟩ = some (.bool x.e.a.v6) := fun nq => Blk.in OB nq.h rfl
      have f1 : ∀ nq : Cls (Lows W1), nq.w.cell? ⟨wr.heap.size, 1, none⟩ = some (.int .u64 x.e.a.hi) := fun nq => Blk.in OB nq.h rfl
      have f2 : ∀ nq : Cls (Lows W1), nq.w.cell? ⟨wr.heap.size, 2, none⟩ = some (.int .u64 x.e.a.lo) := fun nq => Blk.in OB nq.h rfl
      have f3 : ∀ nq : Cls (Lows W1), nq.w.cell? ⟨wr.heap.size, 3, none⟩ = some (.int .i64 x.e.n) := fun nq => Blk.in OB nq.h rfl
      have f4 : ∀ nq : Cls (Lows W1), nq.w.cell? ⟨wr.heap.size, 4, none⟩ = some (.int .i64 x.st) := fun nq => Blk.in OB nq.h rfl
      have f5 : ∀ nq : Cls (Lows W1), nq.w.cell? ⟨wr.heap.size, 5, none⟩ = some (.int .i64 x.f) := fun nq => Blk.in OB nq.h rfl
      have f6 : ∀ nq : Cls (Lows W1), nq.w.cell? ⟨wr.heap.size, 6, none⟩ = some (.int .i64 x.nx) := fun nq => Blk.in OB nq.h rfl
      cases hr : rightY x
      · rw [hr] at KR
        have ER : Hid (rightB l = false) := Lib.hid (right_no1 hli (by rw [← HX.out]; exact hr))
        clear hr hcc hb HX
        refine Cls.region (Lows W1) (by kernel_rfl) (by kernel_rfl) (low_drewN (Below.refl _ _) 1) ?_
        (try dsimp only [List.append])
        repeat (go_big_quiet_step (first | fail | (with_reducible exact Cls.call ((lows_call KR).out _ (Cls.h _)))))
        refine wpQuiet_nil ?_
        intro n9
        have hk9 := n9.h
        generalize n9.w = w9 at hk9 ⊢
        clear hne n9 f0 f1 f2 f3 f4 f5 f6
        go_wp2_with fail
        go_ret
        exact ⟨by rw [ER.out]; rfl, lowT L1.out hk9⟩
      · rw [hr] at KR
        have HR := Lib.hid hr
        clear hr
        by_cases h0 : i = 0
        · have hd : decide (0 < i) = false := decide_eq_false (by omega)
          have HN2 : Hid (∀ j, j < i + 1 → rightY l[j]! = true ∧ (0 < j → 0 < cmpE l[j]!.e l[j - 1]!.e)) := Lib.hid fun j hj => by
            obtain rfl : j = i := by omega
            rw [← HX.out]
            exact ⟨HR.out, fun h => absurd h (by omega)⟩
          clear h0 hcc hb HX HR
          refine Cls.region (Lows W1) (by kernel_rfl) (by kernel_rfl) (low_drewN (Below.refl _ _) 1) ?_
          (try dsimp only [List.append])
          repeat (go_big_quiet_step (first | fail | (with_reducible exact Cls.call ((lows_call KR).out _ (Cls.h _)))))
          refine wpQuiet_nil ?_
          intro n9
          have hk9 := n9.h
          generalize n9.w = w9 at hk9 ⊢
          clear hne n9 f0 f1 f2 f3 f4 f5 f6
          go_wp2_with fail
          go_roundw
          case rel => exact ⟨i + 1, by go_num, by omega, HN2, Lib.hid (lowT L1.out hk9)⟩
          case measure => simp [intOf]; omega
        · have hd : decide (0 < i) = true := decide_eq_true (by omega)
          obtain ⟨k, hk⟩ : ∃ k, k = i - 1 := ⟨_, rfl⟩
          have hkl : k < l.length := by omega
          have hkz : (k : Int) < (l.length : Int) := by omega
          have hkw : IntKind.i64.wrap ((i : Int) - 1) = (k : Int) := by rw [IntKind.wrap_i64]; omega
          obtain ⟨z, hz⟩ : ∃ z, z = l[k]! := ⟨_, rfl⟩
          have hzo : z.ok := by rw [hz, getElem!_pos l k hkl]; exact HOK.out _ (List.getElem_mem _)
          have KF := Lib.hid (fun W => follows_any x z.e W hxo.he hzo.he)
          have g0 : ∀ nq : Cls (Lows W1), nq.w.cell? ⟨bb, o + k * 7, none⟩ = some (.bool z.e.a.v6) := fun nq => by rw [hz]; exact entry_at (lowT L1.out nq.h) hb hcc hkl (j := 0) rfl
          have g1 : ∀ nq : Cls (Lows W1), nq.w.cell? ⟨bb, o + k * 7 + 1, none⟩ = some (.int .u64 z.e.a.hi) := fun nq => by rw [hz]; exact entry_at (lowT L1.out nq.h) hb hcc hkl (j := 1) rfl
          have g2 : ∀ nq : Cls (Lows W1), nq.w.cell? ⟨bb, o + k * 7 + 2, none⟩ = some (.int .u64 z.e.a.lo) := fun nq => by rw [hz]; exact entry_at (lowT L1.out nq.h) hb hcc hkl (j := 2) rfl
          have g3 : ∀ nq : Cls (Lows W1), nq.w.cell? ⟨bb, o + k * 7 + 3, none⟩ = some (.int .i64 z.e.n) := fun nq => by rw [hz]; exact entry_at (lowT L1.out nq.h) hb hcc hkl (j := 3) rfl
          have HZ : Hid (z = l[i - 1]!) := Lib.hid (by rw [hz, hk])
          have HI0 : Hid (0 < i) := Lib.hid (by omega)
          have HP : Hid (isP z.e x = decide (0 < cmpE x.e z.e)) := Lib.hid rfl
          clear hcc hb hz hk hzo h0
          cases hq : isP z.e x
          · rw [hq] at KF HP
            have ER : Hid (rightB l = false) := Lib.hid (right_no2 hli HI0.out (by rw [← HX.out, ← HZ.out]; exact of_decide_eq_false HP.out.symm))
            clear hq HZ HX
            refine Cls.region (Lows W1) (by kernel_rfl) (by kernel_rfl) (low_drewN (Below.refl _ _) 1) ?_
            (try dsimp only [List.append])
            repeat (go_big_quiet_step (first | fail | (with_reducible exact Cls.call ((lows_call KR).out _ (Cls.h _))) | (with_reducible exact Cls.call ((lows_call KF).out _ (Cls.h _)))))
            refine wpQuiet_nil ?_
            intro n9
            have hk9 := n9.h
            generalize n9.w = w9 at hk9 ⊢
            clear hne n9 f0 f1 f2 f3 f4 f5 f6 g0 g1 g2 g3
            go_wp2_with fail
            go_ret
            exact ⟨by rw [ER.out]; rfl, lowT L1.out hk9⟩
          · rw [hq] at KF HP
            have HN2 : Hid (∀ j, j < i + 1 → rightY l[j]! = true ∧ (0 < j → 0 < cmpE l[j]!.e l[j - 1]!.e)) := Lib.hid fun j hj => by
              rcases Nat.lt_succ_iff_lt_or_eq.1 hj with h2 | rfl
              · exact HN.out j h2
              · rw [← HX.out, ← HZ.out]
                exact ⟨HR.out, fun _ => of_decide_eq_true HP.out.symm⟩
            clear hq HZ HX HR
            refine Cls.region (Lows W1) (by kernel_rfl) (by kernel_rfl) (low_drewN (Below.refl _ _) 1) ?_
            (try dsimp only [List.append])
            repeat (go_big_quiet_step (first | fail | (with_reducible exact Cls.call ((lows_call KR).out _ (Cls.h _))) | (with_reducible exact Cls.call ((lows_call KF).out _ (Cls.h _)))))
            refine wpQuiet_nil ?_
            intro n9
            have hk9 := n9.h
            generalize n9.w = w9 at hk9 ⊢
            clear hne n9 f0 f1 f2 f3 f4 f5 f6 g0 g1 g2 g3
            go_wp2_with fail
            go_roundw
            case rel => exact ⟨i + 1, by go_num, by omega, HN2, Lib.hid (lowT L1.out hk9)⟩
            case measure => simp [intOf]; omega
    · have hliz : ¬ (i : Int) < (l.length : Int) := by omega
      have ER : Hid (rightB l = true) := Lib.hid (right_next fun j hj => HN.out j (by omega))
      go_wp2_with fail
      go_ret
      exact ⟨by rw [ER.out]; rfl, HL.out⟩
end Go.Proofs.Ytnflgcpacacnlaa.Bo
