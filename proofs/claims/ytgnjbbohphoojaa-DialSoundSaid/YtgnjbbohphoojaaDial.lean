/- Package dial: may an entry be dialled? slices.IndexFunc, ContainsFunc at peers. -/
import Derived.Test.YtgnjbbohphoojaaDialMath
import Derived.Test.YtgnjbbohphoojaaBansAll
import Derived.Test.YtgnjbbohphoojaaSpreadKit
import Derived.Test.YtgnjbbohphoojaaBookAll
import Derived.Test.YtgnjbbohphoojaaPeersAll
import Derived.Deep.RegionHeld3
import Derived.Deep.CutRange
import Derived.Lib.MinMax
namespace Go.Proofs.Ytgnjbbohphoojaa.Di
set_option maxRecDepth 100000
open Go.ChangeShapes Go.WideShapes Go.ChangeAt Go.RowKit
open Dec Words V4 V6 Ad Ci En Gr Pe Et Ra Bo Sp Hp Go.Deep
set_option linter.unusedVariables false
/-- A view in memory: three lists within bounds. -/
structure Seen (w : World) (A1 : Option Addr) (c1 : Nat) (A2 : Option Addr) (c2 : Nat) (A3 : Option Addr) (c3 : Nat) (b : List Ey) (l : List Pr) (s : List Ba.Ban) : Prop where
  hb : Books w (.slice A1 b.length c1) b
  hp : Peers w (.slice A2 l.length c2) l
  hs : Bans w (.slice A3 s.length c3) s
  ob : ∀ y ∈ b, y.ok
  op : ∀ p ∈ l, p.ok
  os : ∀ x ∈ s, x.ok
  nb : b.length ≤ 400000
  np : l.length ≤ 400000
  ns : s.length ≤ 400000
theorem Seen.below {w w1 : World} {A1 : Option Addr} {c1 : Nat} {A2 : Option Addr} {c2 : Nat} {A3 : Option Addr} {c3 : Nat} {b : List Ey} {l : List Pr} {s : List Ba.Ban} (h : Seen w A1 c1 A2 c2 A3 c3 b l s) (k : Below w.heap.size w w1) : Seen w1 A1 c1 A2 c2 A3 c3 b l s :=
  ⟨h.hb.below k, h.hp.below k, h.hs.below k, h.ob, h.op, h.os, h.nb, h.np, h.ns⟩
/-- What a function value tells of a peer, wherever all that lay below B is as it was. -/
def TellsP (g : Nat) (lb : Array Value) (p : Pr → Bool) (B : Nat) (w : World) : Prop :=
  ∀ (W : World) (x : Pr), Below B w W → B ≤ W.heap.size → Calls Try.prog g (#[.agg #[.bool x.e.a.v6, .int .u64 x.e.a.hi, .int .u64 x.e.a.lo, .int .i64 x.e.n, .bool x.i, .int .i64 x.t, .int .i64 x.c.p, .int .i64 x.c.a, .int .i64 x.g, .int .i64 x.k]] ++ lb) W fun e w' => e = .returned (.bool (p x)) ∧ Below W.heap.size W w'
theorem TellsP.on {g : Nat} {lb : Array Value} {p : Pr → Bool} {B : Nat} {w w' : World} (h : TellsP g lb p B w) (k : Below B w w') : TellsP g lb p B w' := fun W x hb hB => h W x (k.trans hb) hB
theorem TellsP.mono {g : Nat} {lb : Array Value} {p : Pr → Bool} {B C : Nat} {w : World} (h : TellsP g lb p B w) (k : B ≤ C) : TellsP g lb p C w := fun W x hb hB => h W x (hb.mono k) (Nat.le_trans k hB)
def posP (p : Pr → Bool) (l : List Pr) : Int := if l.findIdx p < l.length then (l.findIdx p : Int) else -1
theorem posP_hit {p : Pr → Bool} {l : List Pr} {k : Nat} (hk : k < l.length) (h : ∀ i, i < l.length → i < k → p l[i]! = false) (hp : p l[k]! = true) : posP p l = (k : Int) ∧ l.findIdx p = k := by
  have e : l.findIdx p = k := (List.findIdx_eq hk).2 ⟨by rw [getElem!_pos l k hk] at hp; exact hp, fun j hj => by have := h j (by omega) hj; rw [getElem!_pos l j (by omega)] at this; simpa using this⟩
  exact ⟨by unfold posP; rw [e, if_pos hk], e⟩
theorem posP_miss {p : Pr → Bool} {l : List Pr} (h : ∀ i, i < l.length → p l[i]! = false) : posP p l = -1 := by
  have e : l.findIdx p = l.length := by
    rw [List.findIdx_eq_length]
    intro x hx
    obtain ⟨i, hi, rfl⟩ := List.getElem_of_mem hx
    have := h i hi
    rw [getElem!_pos l i hi] at this
    simpa using this
  unfold posP; rw [e, if_neg (by omega)]
set_option maxHeartbeats 4000000 in
theorem indexP_any (g : Nat) (lb : Array Value) (p : Pr → Bool) (eg : ∀ args w, (callFunc g args).run Try.prog w = .ok (.enter g args) w) (v : Value) (l : List Pr) (w : World) (h : Peers w v l) (hl : l.length ≤ 1000000) (hp : TellsP g lb p w.heap.size w) :
    Calls Try.prog 62 #[v, .func (.func g) #[] lb] w fun e w' => e = .returned (.int .i64 (posP p l)) ∧ Below w.heap.size w w' := by
  obtain ⟨A, c, rfl, hc, _, hcell⟩ := h
  have HC := Lib.hid hcell
  have HP := Lib.hid hp
  clear hcell hp
  go_enter Try.func62, Try.ntmps62
  go_wp2_with fail
  go_loopw [5, 8] (fun _ i wr => ∃ k : Nat, k ≤ l.length ∧ i = .int .i64 k ∧ Hid (∀ i, i < l.length → i < k → p l[i]! = false) ∧ Hid (Below w.heap.size w wr)) (fun _ i _ => l.length - (intOf i).toNat)
  case atStart => exact ⟨0, Nat.zero_le _, rfl, Lib.hid (fun _ _ h => absurd h (Nat.not_lt_zero _)), Lib.hid (Below.refl _ _)⟩
  case round =>
    obtain ⟨k, hk, rfl, HN, HL⟩ := hrel
    by_cases hlt : k < l.length
    · have hltz : (k : Int) < (l.length : Int) := by omega
      obtain ⟨bb, o, rfl, hb, hcc⟩ := HC.out (by omega)
      obtain ⟨x, hx⟩ : ∃ x, x = l[k]! := ⟨_, rfl⟩
      have c0 : wr.cell? ⟨bb, o + k * 10, none⟩ = some (.bool x.e.a.v6) := peer_at HL.out hb hcc hlt (j := 0) (by rw [← hx]; rfl)
      have c1 : wr.cell? ⟨bb, o + k * 10 + 1, none⟩ = some (.int .u64 x.e.a.hi) := peer_at HL.out hb hcc hlt (j := 1) (by rw [← hx]; rfl)
      have c2 : wr.cell? ⟨bb, o + k * 10 + 2, none⟩ = some (.int .u64 x.e.a.lo) := peer_at HL.out hb hcc hlt (j := 2) (by rw [← hx]; rfl)
      have c3 : wr.cell? ⟨bb, o + k * 10 + 3, none⟩ = some (.int .i64 x.e.n) := peer_at HL.out hb hcc hlt (j := 3) (by rw [← hx]; rfl)
      have c4 : wr.cell? ⟨bb, o + k * 10 + 4, none⟩ = some (.bool x.i) := peer_at HL.out hb hcc hlt (j := 4) (by rw [← hx]; rfl)
      have c5 : wr.cell? ⟨bb, o + k * 10 + 5, none⟩ = some (.int .i64 x.t) := peer_at HL.out hb hcc hlt (j := 5) (by rw [← hx]; rfl)
      have c6 : wr.cell? ⟨bb, o + k * 10 + 6, none⟩ = some (.int .i64 x.c.p) := peer_at HL.out hb hcc hlt (j := 6) (by rw [← hx]; rfl)
      have c7 : wr.cell? ⟨bb, o + k * 10 + 7, none⟩ = some (.int .i64 x.c.a) := peer_at HL.out hb hcc hlt (j := 7) (by rw [← hx]; rfl)
      have c8 : wr.cell? ⟨bb, o + k * 10 + 8, none⟩ = some (.int .i64 x.g) := peer_at HL.out hb hcc hlt (j := 8) (by rw [← hx]; rfl)
      have c9 : wr.cell? ⟨bb, o + k * 10 + 9, none⟩ = some (.int .i64 x.k) := peer_at HL.out hb hcc hlt (j := 9) (by rw [← hx]; rfl)
      have hcall := Lib.hid (HP.out wr x HL.out HL.out.size)
      have HX := Lib.hid hx
      clear hcc hb hx
      cases hq : p x
      · rw [hq] at hcall
        have HN2 : Hid (∀ i, i < l.length → i < k + 1 → p l[i]! = false) := Lib.hid fun i h hi => by
          rcases Nat.lt_succ_iff_lt_or_eq.1 hi with h2 | rfl
          · exact HN.out i h h2
          · rw [← HX.out]; exact hq
        clear hq HX
        go_wp2_with (go_at_fn g; refine hcall.out.mono ?_; rintro e w9 ⟨rfl, hb9⟩)
        go_roundw
        case rel => exact ⟨k + 1, by omega, by go_num, HN2, Lib.hid (low_trans HL.out hb9)⟩
        case measure => simp [intOf]; omega
      · rw [hq] at hcall
        have E : Hid (posP p l = k) := Lib.hid (posP_hit hlt HN.out (by rw [← HX.out]; exact hq)).1
        clear hq HX
        go_wp2_with (go_at_fn g; refine hcall.out.mono ?_; rintro e w9 ⟨rfl, hb9⟩)
        go_ret
        exact ⟨by rw [E.out]; rfl, low_trans HL.out hb9⟩
    · have hltz : ¬ (k : Int) < (l.length : Int) := by omega
      have E : Hid (posP p l = -1) := Lib.hid (posP_miss fun i h => HN.out i h (by omega))
      go_wp2_with fail
      go_ret
      exact ⟨by rw [E.out]; rfl, HL.out⟩
set_option maxHeartbeats 2000000 in
theorem containsP_any (g : Nat) (lb : Array Value) (p : Pr → Bool) (eg : ∀ args w, (callFunc g args).run Try.prog w = .ok (.enter g args) w) (v : Value) (l : List Pr) (w : World) (h : Peers w v l) (hl : l.length ≤ 1000000) (hp : TellsP g lb p w.heap.size w) :
    Calls Try.prog 42 #[v, .func (.func g) #[] lb] w fun e w' => e = .returned (.bool (l.any p)) ∧ Below w.heap.size w w' := by
  have KI := Lib.hid (indexP_any g lb p eg v l w h hl hp)
  have HE : Hid (l.any p = decide (0 ≤ posP p l)) := Lib.hid (by
    unfold posP
    cases ha : l.any p with
    | true =>
      have : l.findIdx p < l.length := List.findIdx_lt_length.2 (List.any_eq_true.1 ha)
      rw [if_pos this]; simp
    | false =>
      have : ¬ l.findIdx p < l.length := fun hh => by
        rw [List.any_eq_false] at ha
        obtain ⟨x, hx, hq⟩ := List.findIdx_lt_length.1 hh
        exact ha x hx hq
      rw [if_neg this]; rfl)
  generalize posP p l = q at *
  generalize l.any p = r at *
  clear h hp
  go_enter Try.func42, Try.ntmps42
  go_wp2_with fail
  refine KI.out.mono ?_; rintro e9 w1 ⟨rfl, hb1⟩
  have L1 := Lib.hid hb1
  clear hb1 KI
  go_wp2_with fail
  go_ret
  exact ⟨ret_b (by rw [HE.out]), L1.out⟩
set_option maxHeartbeats 2000000 in
theorem conn1_any (x : Pr) (E : Endp) (B : Nat) (w : World) (h0 : w.cell? ⟨B, 0, none⟩ = some (.bool E.a.v6)) (h1 : w.cell? ⟨B, 1, none⟩ = some (.int .u64 E.a.hi)) (h2 : w.cell? ⟨B, 2, none⟩ = some (.int .u64 E.a.lo)) (h3 : w.cell? ⟨B, 3, none⟩ = some (.int .i64 E.n)) :
    Calls Try.prog 43 #[.agg #[.bool x.e.a.v6, .int .u64 x.e.a.hi, .int .u64 x.e.a.lo, .int .i64 x.e.n, .bool x.i, .int .i64 x.t, .int .i64 x.c.p, .int .i64 x.c.a, .int .i64 x.g, .int .i64 x.k], .pointer (some ⟨B, 0, none⟩)] w fun e w' => e = .returned (.bool (sameE x.e E)) ∧ Below w.heap.size w w' := by
  have LL : Below w.heap.size w (w.alloc (.cells #[.bool x.e.a.v6, .int .u64 x.e.a.hi, .int .u64 x.e.a.lo, .int .i64 x.e.n, .bool x.i, .int .i64 x.t, .int .i64 x.c.p, .int .i64 x.c.a, .int .i64 x.g, .int .i64 x.k] 50)) := (Below.refl _ _).alloc (Nat.le_refl _) _
  have EQ := fun W => eqEnd x.e E W
  have k0 : (w.alloc (.cells #[.bool x.e.a.v6, .int .u64 x.e.a.hi, .int .u64 x.e.a.lo, .int .i64 x.e.n, .bool x.i, .int .i64 x.t, .int .i64 x.c.p, .int .i64 x.c.a, .int .i64 x.g, .int .i64 x.k] 50)).cell? ⟨B, 0, none⟩ = some (.bool E.a.v6) := cells_left LL h0
  have k1 : (w.alloc (.cells #[.bool x.e.a.v6, .int .u64 x.e.a.hi, .int .u64 x.e.a.lo, .int .i64 x.e.n, .bool x.i, .int .i64 x.t, .int .i64 x.c.p, .int .i64 x.c.a, .int .i64 x.g, .int .i64 x.k] 50)).cell? ⟨B, 1, none⟩ = some (.int .u64 E.a.hi) := cells_left LL h1
  have k2 : (w.alloc (.cells #[.bool x.e.a.v6, .int .u64 x.e.a.hi, .int .u64 x.e.a.lo, .int .i64 x.e.n, .bool x.i, .int .i64 x.t, .int .i64 x.c.p, .int .i64 x.c.a, .int .i64 x.g, .int .i64 x.k] 50)).cell? ⟨B, 2, none⟩ = some (.int .u64 E.a.lo) := cells_left LL h2
  have k3 : (w.alloc (.cells #[.bool x.e.a.v6, .int .u64 x.e.a.hi, .int .u64 x.e.a.lo, .int .i64 x.e.n, .bool x.i, .int .i64 x.t, .int .i64 x.c.p, .int .i64 x.c.a, .int .i64 x.g, .int .i64 x.k] 50)).cell? ⟨B, 3, none⟩ = some (.int .i64 E.n) := cells_left LL h3
  clear h0 h1 h2 h3
  go_enter Try.func43, Try.ntmps43
  go_wp2_with fail
  go_ret
  exact ⟨rfl, LL⟩
set_option maxHeartbeats 2000000 in
theorem conn_any (A1 : Option Addr) (c1 : Nat) (A2 : Option Addr) (c2 : Nat) (A3 : Option Addr) (c3 : Nat) (b : List Ey) (l : List Pr) (s : List Ba.Ban) (E : Endp) (w : World) (h : Seen w A1 c1 A2 c2 A3 c3 b l s) :
    Calls Try.prog 30 #[.agg #[.slice A1 b.length c1, .slice A2 l.length c2, .slice A3 s.length c3], .agg #[.bool E.a.v6, .int .u64 E.a.hi, .int .u64 E.a.lo, .int .i64 E.n]] w fun e w' => e = .returned (.bool (hereP l E)) ∧ Below w.heap.size w w' := by
  have LL : Hid (Below w.heap.size w ((w.alloc (.cells #[.slice A1 b.length c1, .slice A2 l.length c2, .slice A3 s.length c3] 26)).alloc (.cells #[.bool E.a.v6, .int .u64 E.a.hi, .int .u64 E.a.lo, .int .i64 E.n] 33))) := Lib.hid (Lows.alloc (Lows.alloc (Lows.self w) _) _)
  have OB : Hid (Blk ((w.alloc (.cells #[.slice A1 b.length c1, .slice A2 l.length c2, .slice A3 s.length c3] 26)).alloc (.cells #[.bool E.a.v6, .int .u64 E.a.hi, .int .u64 E.a.lo, .int .i64 E.n] 33)) (w.heap.size + 1) 33 [.bool E.a.v6, .int .u64 E.a.hi, .int .u64 E.a.lo, .int .i64 E.n]) := Lib.hid (Blk.two w (.cells #[.slice A1 b.length c1, .slice A2 l.length c2, .slice A3 s.length c3] 26) #[.bool E.a.v6, .int .u64 E.a.hi, .int .u64 E.a.lo, .int .i64 E.n] 33)
  have KC := Lib.hid (containsP_any 43 #[.pointer (some ⟨w.heap.size + 1, 0, none⟩)] (fun x => sameE x.e E) (fun args w => by kernel_rfl) (.slice A2 l.length c2) l ((w.alloc (.cells #[.slice A1 b.length c1, .slice A2 l.length c2, .slice A3 s.length c3] 26)).alloc (.cells #[.bool E.a.v6, .int .u64 E.a.hi, .int .u64 E.a.lo, .int .i64 E.n] 33)) (h.hp.below LL.out) (by have := h.np; omega) (fun W x hb hB => by
    have o := OB.out.on hb
    exact conn1_any x E (w.heap.size + 1) W (o.cell (j := 0) rfl) (o.cell (j := 1) rfl) (o.cell (j := 2) rfl) (o.cell (j := 3) rfl)))
  have HE : Hid (hereP l E = l.any fun x => sameE x.e E) := Lib.hid rfl
  rw [← HE.out] at KC
  clear h HE
  generalize hereP l E = r at *
  go_enter Try.func30, Try.ntmps30
  go_wp2_with fail
  refine KC.out.mono ?_; rintro e9 w1 ⟨rfl, hb1⟩
  have L1 := Lib.hid (low_trans LL.out hb1)
  clear hb1 KC OB LL
  go_wp2_with fail
  go_ret
  exact ⟨rfl, L1.out⟩
set_option maxHeartbeats 8000000 in
theorem open_any (A1 : Option Addr) (c1 : Nat) (A2 : Option Addr) (c2 : Nat) (A3 : Option Addr) (c3 : Nat) (b : List Ey) (l : List Pr) (s : List Ba.Ban) (E : Endp) (t : Int) (w : World) (h : Seen w A1 c1 A2 c2 A3 c3 b l s) (hE : E.ok) :
    Calls Try.prog 17 #[.agg #[.slice A1 b.length c1, .slice A2 l.length c2, .slice A3 s.length c3], .agg #[.bool E.a.v6, .int .u64 E.a.hi, .int .u64 E.a.lo, .int .i64 E.n], .int .i64 t] w fun e w' => e = .returned (.bool (opR b l s E t)) ∧ Below w.heap.size w w' := by
  have LL : Hid (Lows w ((w.alloc (.cells #[.slice A1 b.length c1, .slice A2 l.length c2, .slice A3 s.length c3] 26)).alloc (.cells #[.bool E.a.v6, .int .u64 E.a.hi, .int .u64 E.a.lo, .int .i64 E.n] 33))) := Lib.hid (Lows.alloc (Lows.alloc (Lows.self w) _) _)
  have OV : Hid (Blk ((w.alloc (.cells #[.slice A1 b.length c1, .slice A2 l.length c2, .slice A3 s.length c3] 26)).alloc (.cells #[.bool E.a.v6, .int .u64 E.a.hi, .int .u64 E.a.lo, .int .i64 E.n] 33)) w.heap.size 26 [.slice A1 b.length c1, .slice A2 l.length c2, .slice A3 s.length c3]) := Lib.hid ((Blk.new w #[.slice A1 b.length c1, .slice A2 l.length c2, .slice A3 s.length c3] 26).alloc (.cells #[.bool E.a.v6, .int .u64 E.a.hi, .int .u64 E.a.lo, .int .i64 E.n] 33))
  have OB : Hid (Blk ((w.alloc (.cells #[.slice A1 b.length c1, .slice A2 l.length c2, .slice A3 s.length c3] 26)).alloc (.cells #[.bool E.a.v6, .int .u64 E.a.hi, .int .u64 E.a.lo, .int .i64 E.n] 33)) (w.heap.size + 1) 33 [.bool E.a.v6, .int .u64 E.a.hi, .int .u64 E.a.lo, .int .i64 E.n]) := Lib.hid (Blk.two w (.cells #[.slice A1 b.length c1, .slice A2 l.length c2, .slice A3 s.length c3] 26) #[.bool E.a.v6, .int .u64 E.a.hi, .int .u64 E.a.lo, .int .i64 E.n] 33)
  have HS := Lib.hid h
  have KU := Lib.hid (Ba.until_any (.slice A3 s.length c3) s E.a t ((w.alloc (.cells #[.slice A1 b.length c1, .slice A2 l.length c2, .slice A3 s.length c3] 26)).alloc (.cells #[.bool E.a.v6, .int .u64 E.a.hi, .int .u64 E.a.lo, .int .i64 E.n] 33)) (h.hs.below LL.out) (by have := h.ns; omega) h.os hE.1)
  have KN := Lib.hid (fun (W : World) (hW : Below w.heap.size w W) => conn_any A1 c1 A2 c2 A3 c3 b l s E W (HS.out.below hW))
  have KF := Lib.hid (fun (W : World) (hW : Below w.heap.size w W) => freeN_any (.slice A2 l.length c2) (.slice A1 b.length c1) l b E.a W (HS.out.hp.below hW) (HS.out.hb.below hW) HS.out.np HS.out.nb HS.out.op HS.out.ob hE.1)
  have HE : Hid (opR b l s E t = ((Ba.untilL s E.a t == 0) && (!hereP l E && freeR l b E.a))) := Lib.hid rfl
  generalize opR b l s E t = r at *
  generalize Ba.untilL s E.a t = u at *
  generalize hereP l E = hn at *
  generalize freeR l b E.a = hf at *
  clear h hE HS
  by_cases h0 : u = 0
  · have hz : (u == 0) = true := by rw [h0]; rfl
    rw [hz, Bool.true_and] at HE
    clear h0
    go_enter Try.func17, Try.ntmps17
    go_wp2_with fail
    refine KU.out.mono ?_; rintro e9 w1 ⟨rfl, hb1⟩
    have L1 := Lib.hid (low_trans LL.out hb1)
    have OV1 := OV.out.on hb1
    have OB1 := OB.out.on hb1
    have d0 := OV1.cell (j := 0) rfl
    have d1 := OV1.cell (j := 1) rfl
    have d2 := OV1.cell (j := 2) rfl
    have e0 := OB1.cell (j := 0) rfl
    have e1 := OB1.cell (j := 1) rfl
    have e2 := OB1.cell (j := 2) rfl
    have e3 := OB1.cell (j := 3) rfl
    have KN1 := Lib.hid (KN.out w1 L1.out)
    have OV1 := Lib.hid OV1
    have OB1 := Lib.hid OB1
    clear hb1 KU OV OB LL KN
    go_wp2_with fail
    refine KN1.out.mono ?_; rintro e9 w2 ⟨rfl, hb2⟩
    have L2 := Lib.hid (low_trans L1.out hb2)
    clear d0 d1 d2 e0 e1 e2 e3
    cases hn with
    | true =>
      have E2 : Hid (r = false) := Lib.hid (by rw [HE.out]; rfl)
      clear hb2 KN1 HE KF OV1 OB1
      go_wp2_with fail
      go_ret
      exact ⟨ret_b (by rw [E2.out]), L2.out⟩
    | false =>
      have E2 : Hid (r = hf) := Lib.hid (by rw [HE.out]; simp)
      have OV2 := OV1.out.on hb2
      have OB2 := OB1.out.on hb2
      have d0 := OV2.cell (j := 0) rfl
      have d1 := OV2.cell (j := 1) rfl
      have d2 := OV2.cell (j := 2) rfl
      have e0 := OB2.cell (j := 0) rfl
      have e1 := OB2.cell (j := 1) rfl
      have e2 := OB2.cell (j := 2) rfl
      have e3 := OB2.cell (j := 3) rfl
      have KF1 := Lib.hid (KF.out w2 L2.out)
      clear hb2 KN1 HE KF OV1 OB1 OV2 OB2
      go_wp2_with fail
      refine KF1.out.mono ?_; rintro e9 w3 ⟨rfl, hb3⟩
      have L3 := Lib.hid (low_trans L2.out hb3)
      clear hb3 KF1
      go_wp2_with fail
      go_ret
      exact ⟨ret_b (by rw [E2.out]), L3.out⟩
  · have hz : (u == 0) = false := by rw [beq_eq_false_iff_ne]; exact h0
    rw [hz, Bool.false_and] at HE
    clear h0
    go_enter Try.func17, Try.ntmps17
    go_wp2_with fail
    refine KU.out.mono ?_; rintro e9 w1 ⟨rfl, hb1⟩
    have L1 := Lib.hid (low_trans LL.out hb1)
    clear hb1 KU OV OB LL KN KF
    go_wp2_with fail
    go_ret
    exact ⟨ret_b (by rw [HE.out]), L1.out⟩
set_option maxHeartbeats 4000000 in
theorem ready_any (y : Ey) (t : Int) (w : World) (hy : y.ok) :
    Calls Try.prog 15 #[.agg #[.bool y.e.a.v6, .int .u64 y.e.a.hi, .int .u64 y.e.a.lo, .int .i64 y.e.n, .int .i64 y.st, .int .i64 y.f, .int .i64 y.nx], .int .i64 t] w fun e w' => e = .returned (.bool (rdY y t)) ∧ Below w.heap.size w w' := by
  have LL : Hid (Lows w (w.alloc (.cells #[.bool y.e.a.v6, .int .u64 y.e.a.hi, .int .u64 y.e.a.lo, .int .i64 y.e.n, .int .i64 y.st, .int .i64 y.f, .int .i64 y.nx] 37))) := Lib.hid (Lows.alloc (Lows.self w) _)
  have OB := Lib.hid (Blk.new w #[.bool y.e.a.v6, .int .u64 y.e.a.hi, .int .u64 y.e.a.lo, .int .i64 y.e.n, .int .i64 y.st, .int .i64 y.f, .int .i64 y.nx] 37)
  have KR := Lib.hid (fun W => rightY_any y hy W)
  have KD := Lib.hid (fun W => due_any y t W)
  have HE : Hid (rdY y t = (rightY y && dueY y t)) := Lib.hid rfl
  generalize rdY y t = r at *
  generalize rightY y = r1 at *
  generalize dueY y t = r2 at *
  clear hy
  go_enter Try.func15, Try.ntmps15
  go_wp2_with fail
  refine (KR.out _).mono ?_; rintro e9 w1 ⟨rfl, hb1⟩
  have L1 := Lib.hid (low_trans LL.out hb1)
  have OB1 := OB.out.on hb1
  have e0 := OB1.cell (j := 0) rfl
  have e1 := OB1.cell (j := 1) rfl
  have e2 := OB1.cell (j := 2) rfl
  have e3 := OB1.cell (j := 3) rfl
  have e4 := OB1.cell (j := 4) rfl
  have e5 := OB1.cell (j := 5) rfl
  have e6 := OB1.cell (j := 6) rfl
  clear hb1 KR OB LL OB1
  cases r1 with
  | false =>
    go_wp2_with fail
    go_ret
    exact ⟨ret_b (by rw [HE.out]; rfl), L1.out⟩
  | true =>
    go_wp2_with fail
    refine (KD.out _).mono ?_; rintro e9 w2 ⟨rfl, hb2⟩
    have L2 := Lib.hid (low_trans L1.out hb2)
    clear hb2 KD L1 e0 e1 e2 e3 e4 e5 e6
    go_wp2_with fail
    go_ret
    exact ⟨ret_b (by rw [HE.out]; rfl), L2.out⟩
set_option maxHeartbeats 4000000 in
theorem may_any (A1 : Option Addr) (c1 : Nat) (A2 : Option Addr) (c2 : Nat) (A3 : Option Addr) (c3 : Nat) (b : List Ey) (l : List Pr) (s : List Ba.Ban) (y : Ey) (t : Int) (w : World) (h : Seen w A1 c1 A2 c2 A3 c3 b l s) (hy : y.ok) :
    Calls Try.prog 9 #[.agg #[.slice A1 b.length c1, .slice A2 l.length c2, .slice A3 s.length c3], .agg #[.bool y.e.a.v6, .int .u64 y.e.a.hi, .int .u64 y.e.a.lo, .int .i64 y.e.n, .int .i64 y.st, .int .i64 y.f, .int .i64 y.nx], .int .i64 t] w fun e w' => e = .returned (.bool (mayR b l s y t)) ∧ Below w.heap.size w w' := by
  have LL : Hid (Lows w ((w.alloc (.cells #[.slice A1 b.length c1, .slice A2 l.length c2, .slice A3 s.length c3] 26)).alloc (.cells #[.bool y.e.a.v6, .int .u64 y.e.a.hi, .int .u64 y.e.a.lo, .int .i64 y.e.n, .int .i64 y.st, .int .i64 y.f, .int .i64 y.nx] 37))) := Lib.hid (Lows.alloc (Lows.alloc (Lows.self w) _) _)
  have OV : Hid (Blk ((w.alloc (.cells #[.slice A1 b.length c1, .slice A2 l.length c2, .slice A3 s.length c3] 26)).alloc (.cells #[.bool y.e.a.v6, .int .u64 y.e.a.hi, .int .u64 y.e.a.lo, .int .i64 y.e.n, .int .i64 y.st, .int .i64 y.f, .int .i64 y.nx] 37)) w.heap.size 26 [.slice A1 b.length c1, .slice A2 l.length c2, .slice A3 s.length c3]) := Lib.hid ((Blk.new w #[.slice A1 b.length c1, .slice A2 l.length c2, .slice A3 s.length c3] 26).alloc (.cells #[.bool y.e.a.v6, .int .u64 y.e.a.hi, .int .u64 y.e.a.lo, .int .i64 y.e.n, .int .i64 y.st, .int .i64 y.f, .int .i64 y.nx] 37))
  have OB : Hid (Blk ((w.alloc (.cells #[.slice A1 b.length c1, .slice A2 l.length c2, .slice A3 s.length c3] 26)).alloc (.cells #[.bool y.e.a.v6, .int .u64 y.e.a.hi, .int .u64 y.e.a.lo, .int .i64 y.e.n, .int .i64 y.st, .int .i64 y.f, .int .i64 y.nx] 37)) (w.heap.size + 1) 37 [.bool y.e.a.v6, .int .u64 y.e.a.hi, .int .u64 y.e.a.lo, .int .i64 y.e.n, .int .i64 y.st, .int .i64 y.f, .int .i64 y.nx]) := Lib.hid (Blk.two w (.cells #[.slice A1 b.length c1, .slice A2 l.length c2, .slice A3 s.length c3] 26) #[.bool y.e.a.v6, .int .u64 y.e.a.hi, .int .u64 y.e.a.lo, .int .i64 y.e.n, .int .i64 y.st, .int .i64 y.f, .int .i64 y.nx] 37)
  have KR := Lib.hid (fun W => ready_any y t W hy)
  have KO := Lib.hid (fun (W : World) (hW : Below w.heap.size w W) => open_any A1 c1 A2 c2 A3 c3 b l s y.e t W (h.below hW) hy.he)
  have HE : Hid (mayR b l s y t = (rdY y t && opR b l s y.e t)) := Lib.hid rfl
  generalize mayR b l s y t = r at *
  generalize rdY y t = r1 at *
  generalize opR b l s y.e t = r2 at *
  clear h hy
  go_enter Try.func9, Try.ntmps9
  go_wp2_with fail
  refine (KR.out _).mono ?_; rintro e9 w1 ⟨rfl, hb1⟩
  have L1 := Lib.hid (low_trans LL.out hb1)
  have OV1 := OV.out.on hb1
  have OB1 := OB.out.on hb1
  have d0 := OV1.cell (j := 0) rfl
  have d1 := OV1.cell (j := 1) rfl
  have d2 := OV1.cell (j := 2) rfl
  have e0 := OB1.cell (j := 0) rfl
  have e1 := OB1.cell (j := 1) rfl
  have e2 := OB1.cell (j := 2) rfl
  have e3 := OB1.cell (j := 3) rfl
  have e4 := OB1.cell (j := 4) rfl
  have e5 := OB1.cell (j := 5) rfl
  have e6 := OB1.cell (j := 6) rfl
  clear hb1 KR OV OB LL OV1 OB1
  cases r1 with
  | false =>
    go_wp2_with fail
    go_ret
    exact ⟨ret_b (by rw [HE.out]; rfl), L1.out⟩
  | true =>
    have KO1 := Lib.hid (KO.out w1 L1.out)
    clear KO
    go_wp2_with fail
    refine KO1.out.mono ?_; rintro e9 w2 ⟨rfl, hb2⟩
    have L2 := Lib.hid (low_trans L1.out hb2)
    clear hb2 KO1 L1 e0 e1 e2 e3 e4 e5 e6 d0 d1 d2
    go_wp2_with fail
    go_ret
    exact ⟨ret_b (by rw [HE.out]; rfl), L2.out⟩
end Go.Proofs.Ytgnjbbohphoojaa.Di
