/- Plain mathematics of peers. Imports nothing of the dump. -/
import Derived.Test.YtgnjbbohphoojaaSat
import Derived.Test.YtgnjbbohphoojaaRef09All
import Derived.Test.YtgnjbbohphoojaaEndpDoor
import Derived.Test.YtgnjbbohphoojaaRecsDoor
import Derived.Test.YtgnjbbohphoojaaTwoDoor
import Derived.Test.YtgnjbbohphoojaaHalf
import Derived.Test.YtgnjbbohphoojaaKit
import Derived.Test.YtgnjbbohphoojaaRef08All
import Derived.Test.YtgnjbbohphoojaaMixAll
import Derived.Test.YtgnjbbohphoojaaDoor
import Derived.Test.YtgnjbbohphoojaaBox
import Derived.Deep.CutRange
import Derived.Lib.MinMax
import Derived.Deep.DeepCutAuto
namespace Go.Proofs.Ytgnjbbohphoojaa.Pe
open Dec Words V4 V6 Ad Ci En Sat Ha
set_option linter.unusedVariables false
/-- A peer: its end, came it in, since when, its score, its latency, its last work. -/
structure Pr where
  e : Endp
  i : Bool
  t : Int
  c : Sc
  g : Int
  k : Int
def Pr.ok (x : Pr) : Prop := x.e.ok ∧ (-9223372036854775808 ≤ x.t ∧ x.t ≤ 9223372036854775807) ∧ x.c.ok ∧ (-9223372036854775808 ≤ x.g ∧ x.g ≤ 9223372036854775807) ∧ (-9223372036854775808 ≤ x.k ∧ x.k ≤ 9223372036854775807)
def inR (n m : Int) : Bool := decide (0 ≤ n) && decide (n ≤ m)
def rightP (x : Pr) : Bool := rightE x.e && inR x.t 1099511627776 && inR x.c.a 1099511627776 && inR x.k 1099511627776 && inR x.c.p 1099511627776 && inR x.g 1048576
def newP (e : Endp) (i : Bool) (n : Int) : Pr := ⟨e, i, fit n, ⟨0, fit n⟩, 0, 0⟩
def pongG (g m : Int) : Int := if (1 ≤ m ∧ m ≤ 1048576) ∧ (g = 0 ∨ m < g) then m else g
def pongP (x : Pr) (m : Int) : Pr := ⟨x.e, x.i, x.t, x.c, pongG x.g m, x.k⟩
def workK (k n : Int) : Int := if k < fit n then fit n else k
def workP (x : Pr) (n : Int) : Pr := ⟨x.e, x.i, x.t, x.c, x.g, workK x.k n⟩
def blameP (x : Pr) (n h a : Int) : Pr := ⟨x.e, x.i, x.t, addS x.c n h a, x.g, x.k⟩
def wayP (i : Bool) : List UInt8 := if i then [105, 110] else [111, 117, 116]
def wordsP (x : Pr) : List (List UInt8) := [wayP x.i, textE x.e, [115, 105, 110, 99, 101], text x.t, [112, 111, 105, 110, 116, 115], text (wholeS x.c), [112, 105, 110, 103], text x.g, [119, 111, 114, 107], text x.k]
def textP (x : Pr) : List UInt8 := glue 32 (wordsP x)
theorem inR_iff (n m : Int) : inR n m = true ↔ 0 ≤ n ∧ n ≤ m := by unfold inR; simp
theorem rightP_iff (x : Pr) : rightP x = true ↔ rightE x.e = true ∧ (0 ≤ x.t ∧ x.t ≤ 1099511627776) ∧ (0 ≤ x.c.a ∧ x.c.a ≤ 1099511627776) ∧ (0 ≤ x.k ∧ x.k ≤ 1099511627776) ∧ (0 ≤ x.c.p ∧ x.c.p ≤ 1099511627776) ∧ (0 ≤ x.g ∧ x.g ≤ 1048576) := by
  unfold rightP; simp only [Bool.and_eq_true, inR_iff]
  constructor
  · rintro ⟨⟨⟨⟨⟨h1, h2⟩, h3⟩, h4⟩, h5⟩, h6⟩; exact ⟨h1, h2, h3, h4, h5, h6⟩
  · rintro ⟨h1, h2, h3, h4, h5, h6⟩; exact ⟨⟨⟨⟨⟨h1, h2⟩, h3⟩, h4⟩, h5⟩, h6⟩
theorem right_ok {x : Pr} (he : x.e.ok) (h : rightP x = true) : x.ok := by
  obtain ⟨_, h2, h3, h4, h5, h6⟩ := (rightP_iff x).1 h
  exact ⟨he, ⟨by omega, by omega⟩, ⟨⟨by omega, by omega⟩, ⟨by omega, by omega⟩⟩, ⟨by omega, by omega⟩, ⟨by omega, by omega⟩⟩
theorem whole_bd {s : Sc} (h : s.ok) : -9223372036854775808 ≤ wholeS s ∧ wholeS s ≤ 9223372036854775807 := by
  have := h.1
  unfold wholeS; split <;> omega
theorem workK_bd (k n : Int) (hk : 0 ≤ k ∧ k ≤ 1099511627776) : 0 ≤ workK k n ∧ workK k n ≤ 1099511627776 := by
  have := fit_bd n
  unfold workK; split <;> omega
theorem pongG_bd (g m : Int) (hg : 0 ≤ g ∧ g ≤ 1048576) : 0 ≤ pongG g m ∧ pongG g m ≤ 1048576 := by unfold pongG; split <;> omega
theorem pong_right {x : Pr} (h : rightP x = true) (m : Int) : rightP (pongP x m) = true := by
  obtain ⟨h1, h2, h3, h4, h5, h6⟩ := (rightP_iff x).1 h
  exact (rightP_iff _).2 ⟨h1, h2, h3, h4, h5, pongG_bd _ _ h6⟩
theorem work_right {x : Pr} (h : rightP x = true) (n : Int) : rightP (workP x n) = true := by
  obtain ⟨h1, h2, h3, h4, h5, h6⟩ := (rightP_iff x).1 h
  exact (rightP_iff _).2 ⟨h1, h2, h3, workK_bd _ _ h4, h5, h6⟩
theorem blame_right {x : Pr} (h : rightP x = true) (n l a : Int) : rightP (blameP x n l a) = true := by
  obtain ⟨h1, h2, h3, h4, h5, h6⟩ := (rightP_iff x).1 h
  exact (rightP_iff _).2 ⟨h1, h2, add_at _ _ _ _, h4, add_p _ _ _ _, h6⟩
theorem workK_is (k n : Int) (hk : 0 ≤ k) : max k (min n 1099511627776) = workK k n := by
  unfold workK fit; repeat (first | split | omega)
theorem textP_len {x : Pr} (h : x.ok) : (textP x).length ≤ 400 := by
  have h1 := textE_len h.1
  have h2 := text_len x.t h.2.1.1 h.2.1.2
  have h3 := text_len (wholeS x.c) (whole_bd h.2.2.1).1 (whole_bd h.2.2.1).2
  have h4 := text_len x.g h.2.2.2.1.1 h.2.2.2.1.2
  have h5 := text_len x.k h.2.2.2.2.1 h.2.2.2.2.2
  have h6 : (wayP x.i).length ≤ 3 := by unfold wayP; split <;> decide
  simp only [textP, wordsP, glue, List.length_append, List.length_cons, List.length_nil]
  omega
def encP (x : Pr) : List Value := [.bool x.e.a.v6, .int .u64 x.e.a.hi, .int .u64 x.e.a.lo, .int .i64 x.e.n, .bool x.i, .int .i64 x.t, .int .i64 x.c.p, .int .i64 x.c.a, .int .i64 x.g, .int .i64 x.k]
/-- What a peer does: a kind and two numbers. -/
structure Act17 where
  kind : Int
  n : Int
  a : Int
def Act17.ok (x : Act17) : Prop := (-9223372036854775808 ≤ x.kind ∧ x.kind ≤ 9223372036854775807) ∧ (-9223372036854775808 ≤ x.n ∧ x.n ≤ 9223372036854775807) ∧ (-9223372036854775808 ≤ x.a ∧ x.a ≤ 9223372036854775807)
def enc17 (x : Act17) : List Value := [.int .i64 x.kind, .int .i64 x.n, .int .i64 x.a]
theorem enc17_len (x : Act17) : (enc17 x).length = 3 := rfl
end Go.Proofs.Ytgnjbbohphoojaa.Pe
/- Peers that came in; peers compared; acts in memory. -/
namespace Go.Proofs.Ytgnjbbohphoojaa
set_option maxRecDepth 100000
open Go.ChangeShapes Go.WideShapes Go.ChangeAt Go.RowKit
open Ad Ci En Ha Pe Go.Deep
set_option linter.unusedVariables false
theorem score_cells {H : Type} {enc : TypeId × Value → H} {W : World} {fuel : Nat} {c0 c1 : Value} {y : DataW H × List MemPlace}
    (hf : DataW.trod enc Try.prog W 0 (fun _ => true) true fuel 48 [c0, c1] = some y) : ∃ s : Sc, c0 = .int .i64 s.p ∧ c1 = .int .i64 s.a ∧ s.ok := by
  obtain ⟨y0, y1, m, _, _, h0, h1⟩ := trod_struct2 Try.underlying48 hf
  have k1 : Try.prog.cellsOf 3 = 1 := by kernel_rfl
  have h0' : DataW.trod enc Try.prog W 0 (fun _ => true) true m 3 (([c0, c1].drop 0).take (Try.prog.cellsOf 3)) = some y0 := h0
  have h1' : DataW.trod enc Try.prog W 0 (fun _ => true) true m 3 (([c0, c1].drop 1).take (Try.prog.cellsOf 3)) = some y1 := h1
  rw [k1] at h0' h1'
  have g0 : DataW.trod enc Try.prog W 0 (fun _ => true) true m 3 [c0] = some y0 := h0'
  have g1 : DataW.trod enc Try.prog W 0 (fun _ => true) true m 3 [c1] = some y1 := h1'
  obtain ⟨x0, j0, _, w0⟩ := DataW.trod_int Try.underlying3 g0
  obtain ⟨x1, j1, _, w1⟩ := DataW.trod_int Try.underlying3 g1
  simp only [List.cons.injEq, and_true] at j0 j1
  exact ⟨⟨x0, x1⟩, j0, j1, wf64 w0, wf64 w1⟩
theorem peer_cells {H : Type} {enc : TypeId × Value → H} {W : World} {fuel : Nat} {cs : List Value} {y : DataW H × List MemPlace}
    (hf : DataW.trod enc Try.prog W 0 (fun _ => true) true fuel 50 cs = some y) (hl : cs.length = 10) : ∃ x : Pr, cs = encP x ∧ x.ok := by
  match cs, hl with
  | [c0, c1, c2, c3, c4, c5, c6, c7, c8, c9], _ =>
  obtain ⟨xs, m, _, _, _, hx, he⟩ := DataW.trod_struct Try.underlying50 hf
  have hx6 : xs.length = 6 := hx
  have k1 : Try.prog.cellsOf 3 = 1 := by kernel_rfl
  have kb : Try.prog.cellsOf 4 = 1 := by kernel_rfl
  have k2 : Try.prog.cellsOf 48 = 2 := by kernel_rfl
  have k4 : Try.prog.cellsOf 33 = 4 := by kernel_rfl
  obtain ⟨y0, e0⟩ : ∃ y, xs[0]? = some y := ⟨_, List.getElem?_eq_getElem (by omega)⟩
  obtain ⟨y1, e1⟩ : ∃ y, xs[1]? = some y := ⟨_, List.getElem?_eq_getElem (by omega)⟩
  obtain ⟨y2, e2⟩ : ∃ y, xs[2]? = some y := ⟨_, List.getElem?_eq_getElem (by omega)⟩
  obtain ⟨y3, e3⟩ : ∃ y, xs[3]? = some y := ⟨_, List.getElem?_eq_getElem (by omega)⟩
  obtain ⟨y4, e4⟩ : ∃ y, xs[4]? = some y := ⟨_, List.getElem?_eq_getElem (by omega)⟩
  obtain ⟨y5, e5⟩ : ∃ y, xs[5]? = some y := ⟨_, List.getElem?_eq_getElem (by omega)⟩
  have h0 : DataW.trod enc Try.prog W 0 (fun _ => true) true m 33 (([c0, c1, c2, c3, c4, c5, c6, c7, c8, c9].drop 0).take (Try.prog.cellsOf 33)) = xs[0]? := he 0 _ rfl
  have h1 : DataW.trod enc Try.prog W 0 (fun _ => true) true m 4 (([c0, c1, c2, c3, c4, c5, c6, c7, c8, c9].drop 4).take (Try.prog.cellsOf 4)) = xs[1]? := he 1 _ rfl
  have h2 : DataW.trod enc Try.prog W 0 (fun _ => true) true m 3 (([c0, c1, c2, c3, c4, c5, c6, c7, c8, c9].drop 5).take (Try.prog.cellsOf 3)) = xs[2]? := he 2 _ rfl
  have h3 : DataW.trod enc Try.prog W 0 (fun _ => true) true m 48 (([c0, c1, c2, c3, c4, c5, c6, c7, c8, c9].drop 6).take (Try.prog.cellsOf 48)) = xs[3]? := he 3 _ rfl
  have h4 : DataW.trod enc Try.prog W 0 (fun _ => true) true m 3 (([c0, c1, c2, c3, c4, c5, c6, c7, c8, c9].drop 8).take (Try.prog.cellsOf 3)) = xs[4]? := he 4 _ rfl
  have h5 : DataW.trod enc Try.prog W 0 (fun _ => true) true m 3 (([c0, c1, c2, c3, c4, c5, c6, c7, c8, c9].drop 9).take (Try.prog.cellsOf 3)) = xs[5]? := he 5 _ rfl
  rw [k4, e0] at h0
  rw [kb, e1] at h1
  rw [k1, e2] at h2
  rw [k2, e3] at h3
  rw [k1, e4] at h4
  rw [k1, e5] at h5
  have g0 : DataW.trod enc Try.prog W 0 (fun _ => true) true m 33 [c0, c1, c2, c3] = some y0 := h0
  have g1 : DataW.trod enc Try.prog W 0 (fun _ => true) true m 4 [c4] = some y1 := h1
  have g2 : DataW.trod enc Try.prog W 0 (fun _ => true) true m 3 [c5] = some y2 := h2
  have g3 : DataW.trod enc Try.prog W 0 (fun _ => true) true m 48 [c6, c7] = some y3 := h3
  have g4 : DataW.trod enc Try.prog W 0 (fun _ => true) true m 3 [c8] = some y4 := h4
  have g5 : DataW.trod enc Try.prog W 0 (fun _ => true) true m 3 [c9] = some y5 := h5
  obtain ⟨N, hN, jN⟩ := net_cells (ta := 31) (tb := 4) (tu := 29) (ti := 3) Try.underlying33 rfl rfl Try.underlying31 (by kernel_rfl) rfl rfl (by kernel_rfl) (by kernel_rfl) (by kernel_rfl) rfl rfl rfl Try.underlying4 Try.underlying29 Try.underlying3 g0
  obtain ⟨x1, j1, _⟩ := DataW.trod_bool Try.underlying4 g1
  obtain ⟨x2, j2, _, w2⟩ := DataW.trod_int Try.underlying3 g2
  obtain ⟨s, j6, j7, hs⟩ := score_cells g3
  obtain ⟨x4, j4, _, w4⟩ := DataW.trod_int Try.underlying3 g4
  obtain ⟨x5, j5, _, w5⟩ := DataW.trod_int Try.underlying3 g5
  simp only [List.cons.injEq, and_true] at jN j1 j2 j4 j5
  obtain ⟨rfl, rfl, rfl, rfl⟩ := jN
  subst j1 j2 j4 j5 j6 j7
  exact ⟨⟨⟨N.a, N.n⟩, x1, x2, s, x4, x5⟩, rfl, hN, wf64 w2, hs, wf64 w4, wf64 w5⟩
/-- A peer that came in. -/
theorem open_peer {H : Type} {enc : TypeId × Value → H} {W : World} {v : Value} {d : DataW H} {ps : List MemPlace} {r : Reach} {b0 : Nat}
    (hval : Value.okWide Try.prog W r b0 50 v) (h : DataW.Trod enc Try.prog W 0 (fun _ => true) true 50 v d ps) :
    ∃ x : Pr, x.ok ∧ v = .agg #[.bool x.e.a.v6, .int .u64 x.e.a.hi, .int .u64 x.e.a.lo, .int .i64 x.e.n, .bool x.i, .int .i64 x.t, .int .i64 x.c.p, .int .i64 x.c.a, .int .i64 x.g, .int .i64 x.k] := by
  obtain ⟨cs, rfl, hsz⟩ := okWide_struct Try.underlying50 hval
  have hC : Try.prog.cellsOf 50 = 10 := by kernel_rfl
  obtain ⟨fuel, hf⟩ := h
  obtain ⟨b, hb, hk⟩ := peer_cells hf (by show cs.toList.length = 10; rw [Array.length_toList, hsz, hC])
  refine ⟨b, hk, ?_⟩
  have e : cs = (encP b).toArray := by
    have : cs.toList = encP b := hb
    rw [← this]
  rw [e]; rfl
instance : Inhabited Act17 := ⟨⟨0, 0, 0⟩⟩
abbrev Acts17 (w : World) (v : Value) (l : List Act17) : Prop := Recs 3 enc17 w v l
/-- Scores, inside of a struct. -/
theorem eqInScore (d : Nat) (s t : Sc) (w : World) : (Op.equalIn (d + 2) 48 (.agg #[.int .i64 s.p, .int .i64 s.a]) (.agg #[.int .i64 t.p, .int .i64 t.a])).run Try.prog w = .ok (s.p == t.p && s.a == t.a) w := by
  have h3 : ∀ w : World, (isAgg 3).run Try.prog w = .ok false w := fun _ => by kernel_rfl
  rw [run_equalIn_struct w (d + 1) _ _ _ (by kernel_rfl) (by kernel_rfl)]
  rw [show (Try.prog.fieldsOf 48).toList = [⟨"Points", 3, 0, false, "", "", 0⟩, ⟨"At", 3, 1, false, "", "", 8⟩] from by kernel_rfl]
  have p0 : ∀ s : Sc, (part 3 #[.int .i64 s.p, .int .i64 s.a] 0).run Try.prog w = .ok (.int .i64 s.p) w := fun s => part_one w _ _ _ _ (h3 w) rfl
  have p1 : ∀ s : Sc, (part 3 #[.int .i64 s.p, .int .i64 s.a] 1).run Try.prog w = .ok (.int .i64 s.a) w := fun s => part_one w _ _ _ _ (h3 w) rfl
  have q0 : (Op.equalIn (d + 1) 3 (.int .i64 s.p) (.int .i64 t.p)).run Try.prog w = .ok (s.p == t.p) w := run_equalIn_int w d _ _ _ _ _ Try.underlying3
  have q1 : (Op.equalIn (d + 1) 3 (.int .i64 s.a) (.int .i64 t.a)).run Try.prog w = .ok (s.a == t.a) w := run_equalIn_int w d _ _ _ _ _ Try.underlying3
  simp only [Op.eqFields, Sem.run_bind, Sem.run_ite, p0, p1, q0, q1, Result.andThen_ok]
  cases (s.p == t.p) <;> cases (s.a == t.a) <;> simp
/-- A peer equals itself. -/
theorem eqPeer_self (x : Pr) (w : World) : (binOp .eql 50 (.agg #[.bool x.e.a.v6, .int .u64 x.e.a.hi, .int .u64 x.e.a.lo, .int .i64 x.e.n, .bool x.i, .int .i64 x.t, .int .i64 x.c.p, .int .i64 x.c.a, .int .i64 x.g, .int .i64 x.k]) (.agg #[.bool x.e.a.v6, .int .u64 x.e.a.hi, .int .u64 x.e.a.lo, .int .i64 x.e.n, .bool x.i, .int .i64 x.t, .int .i64 x.c.p, .int .i64 x.c.a, .int .i64 x.g, .int .i64 x.k])).run Try.prog w = .ok (.bool true) w := by
  have hE : ∀ w : World, (isAgg 33).run Try.prog w = .ok true w := fun _ => by kernel_rfl
  have hzE : ∀ w : World, (sizeOf 33).run Try.prog w = .ok 4 w := fun _ => by kernel_rfl
  have hS : ∀ w : World, (isAgg 48).run Try.prog w = .ok true w := fun _ => by kernel_rfl
  have hzS : ∀ w : World, (sizeOf 48).run Try.prog w = .ok 2 w := fun _ => by kernel_rfl
  have h3 : ∀ w : World, (isAgg 3).run Try.prog w = .ok false w := fun _ => by kernel_rfl
  have h4 : ∀ w : World, (isAgg 4).run Try.prog w = .ok false w := fun _ => by kernel_rfl
  rw [run_eql_struct, run_equalIn_struct w 9999 _ _ _ (by kernel_rfl) (by kernel_rfl)]
  rw [show (Try.prog.fieldsOf 50).toList = [⟨"End", 33, 0, false, "", "", 0⟩, ⟨"In", 4, 4, false, "", "", 32⟩, ⟨"Since", 3, 5, false, "", "", 40⟩, ⟨"Score", 48, 6, false, "", "", 48⟩, ⟨"Ping", 3, 8, false, "", "", 64⟩, ⟨"Work", 3, 9, false, "", "", 72⟩] from by kernel_rfl]
  obtain ⟨cs, hcs⟩ : ∃ cs : Array Value, cs = #[.bool x.e.a.v6, .int .u64 x.e.a.hi, .int .u64 x.e.a.lo, .int .i64 x.e.n, .bool x.i, .int .i64 x.t, .int .i64 x.c.p, .int .i64 x.c.a, .int .i64 x.g, .int .i64 x.k] := ⟨_, rfl⟩
  have p0 : (part 33 cs 0).run Try.prog w = .ok (.agg #[.bool x.e.a.v6, .int .u64 x.e.a.hi, .int .u64 x.e.a.lo, .int .i64 x.e.n]) w := by rw [hcs]; simp [part, hE, hzE]
  have p1 : (part 4 cs 4).run Try.prog w = .ok (.bool x.i) w := by rw [hcs]; exact part_one w _ _ _ _ (h4 w) rfl
  have p2 : (part 3 cs 5).run Try.prog w = .ok (.int .i64 x.t) w := by rw [hcs]; exact part_one w _ _ _ _ (h3 w) rfl
  have p3 : (part 48 cs 6).run Try.prog w = .ok (.agg #[.int .i64 x.c.p, .int .i64 x.c.a]) w := by rw [hcs]; simp [part, hS, hzS]
  have p4 : (part 3 cs 8).run Try.prog w = .ok (.int .i64 x.g) w := by rw [hcs]; exact part_one w _ _ _ _ (h3 w) rfl
  have p5 : (part 3 cs 9).run Try.prog w = .ok (.int .i64 x.k) w := by rw [hcs]; exact part_one w _ _ _ _ (h3 w) rfl
  have q0 := eqInEnd 9996 x.e x.e w
  rw [same_selfE] at q0
  have q1 : (Op.equalIn 9999 4 (.bool x.i) (.bool x.i)).run Try.prog w = .ok true w := by
    have k := run_equalIn_bool (P := Try.prog) w 9998 4 x.i x.i Try.underlying4
    simpa using k
  have q2 : ∀ n : Int, (Op.equalIn 9999 3 (.int .i64 n) (.int .i64 n)).run Try.prog w = .ok true w := fun n => by
    have k := run_equalIn_int (P := Try.prog) w 9998 3 .i64 .i64 n n Try.underlying3
    simpa using k
  have q3 := eqInScore 9997 x.c x.c w
  simp only [beq_self_eq_true, Bool.and_self] at q3
  rw [← hcs]
  simp [Op.eqFields, Sem.run_bind, Sem.run_ite, p0, p1, p2, p3, p4, p5, q0, q1, q2, q3, Result.andThen_ok]
end Go.Proofs.Ytgnjbbohphoojaa
/- A stable sort in place, in plain words: insertion into a sorted part; a search by halves; a part turned round; two sorted parts merged by turns (symMerge); blocks merged two by two. Lists are functions of their places. Of no program. -/
namespace Go.Proofs.Ytgnjbbohphoojaa.Stb
set_option maxRecDepth 100000
set_option linter.unusedVariables false
section
variable {α : Type}
/-- What lies in [a, b) is moved inside of it. -/
def Mv (a b : Nat) (f g : Nat → α) : Prop := ∃ σ τ : Nat → Nat, (∀ i, σ (τ i) = i) ∧ (∀ i, τ (σ i) = i) ∧ (∀ i, (i < a ∨ b ≤ i) → σ i = i) ∧ ∀ i, g i = f (σ i)
theorem Mv.refl (a b : Nat) (f : Nat → α) : Mv a b f f := ⟨id, id, fun _ => rfl, fun _ => rfl, fun _ _ => rfl, fun _ => rfl⟩
theorem Mv.trans {a b : Nat} {f g h : Nat → α} (k1 : Mv a b f g) (k2 : Mv a b g h) : Mv a b f h := by
  obtain ⟨s, t, h1, h2, h3, h4⟩ := k1
  obtain ⟨s', t', h1', h2', h3', h4'⟩ := k2
  refine ⟨fun i => s (s' i), fun i => t' (t i), fun i => ?_, fun i => ?_, fun i hi => ?_, fun i => ?_⟩
  · show s (s' (t' (t i))) = i
    rw [h1', h1]
  · show t' (t (s (s' i))) = i
    rw [h2, h2']
  · show s (s' i) = i
    rw [h3' i hi, h3 i hi]
  · show h i = f (s (s' i))
    rw [h4', h4]
theorem Mv.wide {a b a' b' : Nat} {f g : Nat → α} (k : Mv a b f g) (ha : a' ≤ a) (hb : b ≤ b') : Mv a' b' f g := by
  obtain ⟨s, t, h1, h2, h3, h4⟩ := k
  exact ⟨s, t, h1, h2, fun i hi => h3 i (by omega), h4⟩
theorem Mv.out {a b : Nat} {f g : Nat → α} (k : Mv a b f g) {i : Nat} (hi : i < a ∨ b ≤ i) : g i = f i := by
  obtain ⟨s, t, h1, h2, h3, h4⟩ := k
  rw [h4, h3 i hi]
theorem Mv.inn {a b : Nat} {f g : Nat → α} (k : Mv a b f g) {i : Nat} (ha : a ≤ i) (hb : i < b) : ∃ j, a ≤ j ∧ j < b ∧ g i = f j := by
  obtain ⟨s, t, h1, h2, h3, h4⟩ := k
  refine ⟨s i, ?_, ?_, h4 i⟩
  · refine Nat.le_of_not_lt fun h => ?_
    have e := congrArg t (h3 (s i) (Or.inl h))
    rw [h2, h2] at e
    omega
  · refine Nat.lt_of_not_le fun h => ?_
    have e := congrArg t (h3 (s i) (Or.inr h))
    rw [h2, h2] at e
    omega
theorem Mv.back {a b : Nat} {f g : Nat → α} (k : Mv a b f g) {i : Nat} (ha : a ≤ i) (hb : i < b) : ∃ j, a ≤ j ∧ j < b ∧ g j = f i := by
  obtain ⟨s, t, h1, h2, h3, h4⟩ := k
  have ht : ∀ j, (j < a ∨ b ≤ j) → t j = j := fun j hj => by
    have e := congrArg t (h3 j hj)
    rw [h2] at e
    exact e.symm
  refine ⟨t i, ?_, ?_, by rw [h4, h1]⟩
  · refine Nat.le_of_not_lt fun h => ?_
    have e := congrArg s (ht (t i) (Or.inl h))
    rw [h1, h1] at e
    omega
  · refine Nat.lt_of_not_le fun h => ?_
    have e := congrArg s (ht (t i) (Or.inr h))
    rw [h1, h1] at e
    omega
/-- Two places changed. -/
def sw (i j : Nat) (f : Nat → α) : Nat → α := fun p => if p = i then f j else if p = j then f i else f p
theorem Mv.sw (f : Nat → α) {a b i j : Nat} (h1 : a ≤ i) (h2 : i < b) (h3 : a ≤ j) (h4 : j < b) : Mv a b f (sw i j f) := by
  have e : ∀ p, (fun q : Nat => if q = i then j else if q = j then i else q) ((fun q : Nat => if q = i then j else if q = j then i else q) p) = p := fun p => by
    by_cases hi : p = i
    · subst hi
      by_cases hj : j = p
      · simp [hj]
      · simp [hj]
    · by_cases hj : p = j
      · subst hj; simp [hi]
      · simp [hi, hj]
  refine ⟨fun q : Nat => if q = i then j else if q = j then i else q, fun q : Nat => if q = i then j else if q = j then i else q, e, e, fun p hp => ?_, fun p => ?_⟩
  · show (if p = i then j else if p = j then i else p) = p
    rw [if_neg (by omega), if_neg (by omega)]
  · show (if p = i then f j else if p = j then f i else f p) = f (if p = i then j else if p = j then i else p)
    split
    · rfl
    · split <;> rfl
/-- Sorted on [a, b). -/
def St (lt : α → α → Prop) (a b : Nat) (f : Nat → α) : Prop := ∀ p q, a ≤ p → p < q → q < b → lt (f p) (f q)
/-- The test 'is the later one less?' of a stable sort, and the order that it makes with the number of each. -/
structure Ord (lo : α → α → Bool) (lt : α → α → Prop) (ix : α → Int) : Prop where
  tr : ∀ {x y z}, lt x y → lt y z → lt x z
  no : ∀ {x y}, ix x < ix y → lo y x = true → lt y x
  yes : ∀ {x y}, ix x < ix y → lo y x = false → lt x y
variable {lo : α → α → Bool} {lt : α → α → Prop} {ix : α → Int}
/-! Insertion. -/
structure InsO (lt : α → α → Prop) (ix : α → Int) (a b i : Nat) (f0 f : Nat → α) : Prop where
  mv : Mv a b f0 f
  st : St lt a i f
  asc : ∀ p q, a ≤ p → p < q → i ≤ q → q < b → ix (f p) < ix (f q)
structure InsI (lt : α → α → Prop) (ix : α → Int) (a i j : Nat) (f0 f : Nat → α) : Prop where
  mv : Mv a (i + 1) f0 f
  st : ∀ p q, a ≤ p → p < q → q ≤ i → q ≠ j → lt (f p) (f q)
  new : ∀ p, a ≤ p → p ≤ i → p ≠ j → ix (f p) < ix (f j)
theorem InsO.start {a b : Nat} {f : Nat → α} (h : ∀ p q, a ≤ p → p < q → q < b → ix (f p) < ix (f q)) : InsO lt ix a b (a + 1) f f :=
  ⟨Mv.refl _ _ _, fun p q h1 h2 h3 => by omega, fun p q h1 h2 _ h4 => h p q h1 h2 h4⟩
theorem InsI.start {a b i : Nat} {f0 f : Nat → α} (h : InsO lt ix a b i f0 f) (hi : i < b) (ha : a ≤ i) : InsI lt ix a i i f f :=
  ⟨Mv.refl _ _ _, fun p q h1 h2 h3 h4 => h.st p q h1 h2 (by omega), fun p h1 h2 h3 => h.asc p i h1 (by omega) (Nat.le_refl _) hi⟩
theorem InsI.next (O : Ord lo lt ix) {a i j : Nat} {f0 f : Nat → α} (h : InsI lt ix a i j f0 f) (ha : a < j) (hj : j ≤ i) (hl : lo (f j) (f (j - 1)) = true) : InsI lt ix a i (j - 1) f0 (sw j (j - 1) f) := by
  have hlt := O.no (h.new (j - 1) (by omega) (by omega) (by omega)) hl
  have e1 : sw j (j - 1) f j = f (j - 1) := by simp [sw]
  have e2 : sw j (j - 1) f (j - 1) = f j := by
    unfold sw
    rw [if_neg (by omega), if_pos rfl]
  have e3 : ∀ p, p ≠ j → p ≠ j - 1 → sw j (j - 1) f p = f p := fun p h1 h2 => by
    unfold sw
    rw [if_neg h1, if_neg h2]
  refine ⟨h.mv.trans (Mv.sw f (by omega) (by omega) (by omega) (by omega)), fun p q h1 h2 h3 h4 => ?_, fun p h1 h2 h3 => ?_⟩
  · by_cases hq : q = j
    · subst hq
      rw [e1]
      by_cases hp : p = q - 1
      · subst hp; rw [e2]; exact hlt
      · rw [e3 p (by omega) hp]; exact h.st p (q - 1) h1 (by omega) (by omega) (by omega)
    · rw [e3 q hq h4]
      by_cases hp : p = j
      · subst hp; rw [e1]; exact h.st (p - 1) q (by omega) (by omega) h3 hq
      · by_cases hp2 : p = j - 1
        · subst hp2; rw [e2]; exact h.st j q (by omega) (by omega) h3 hq
        · rw [e3 p hp hp2]; exact h.st p q h1 h2 h3 hq
  · rw [e2]
    by_cases hp : p = j
    · subst hp; rw [e1]; exact h.new (p - 1) (by omega) (by omega) (by omega)
    · rw [e3 p hp h3]; exact h.new p h1 h2 hp
theorem InsI.stop (O : Ord lo lt ix) {a b i j : Nat} {f0 f1 f : Nat → α} (h0 : InsO lt ix a b i f0 f1) (h : InsI lt ix a i j f1 f) (ha : a ≤ j) (hj : j ≤ i) (hb : i < b) (hl : ¬ a < j ∨ lo (f j) (f (j - 1)) = false) : InsO lt ix a b (i + 1) f0 f := by
  refine ⟨h0.mv.trans (h.mv.wide (Nat.le_refl _) (by omega)), fun p q h1 h2 h3 => ?_, fun p q h1 h2 h3 h4 => ?_⟩
  · by_cases hq : q = j
    · subst hq
      rcases hl with hl | hl
      · omega
      · have hk := O.yes (h.new (q - 1) (by omega) (by omega) (by omega)) hl
        by_cases hp : p = q - 1
        · subst hp; exact hk
        · exact O.tr (h.st p (q - 1) h1 (by omega) (by omega) (by omega)) hk
    · exact h.st p q h1 h2 (by omega) hq
  · rw [h.mv.out (Or.inr h3)]
    by_cases hp : p < i + 1
    · obtain ⟨p', k1, k2, e⟩ := h.mv.inn h1 hp
      rw [e]; exact h0.asc p' q k1 (by omega) (by omega) h4
    · rw [h.mv.out (Or.inr (by omega))]; exact h0.asc p q h1 h2 (by omega) h4
theorem InsO.done {a b i : Nat} {f0 f : Nat → α} (h : InsO lt ix a b i f0 f) (hi : b ≤ i) : Mv a b f0 f ∧ St lt a b f := ⟨h.mv, fun p q h1 h2 h3 => h.st p q h1 h2 (by omega)⟩
/-! One that is put into a sorted part behind it, or ahead of it. -/
def sl (a k : Nat) (f : Nat → α) : Nat → α := fun p => if p = k then f a else if a ≤ p ∧ p < k then f (p + 1) else f p
def sr (k m : Nat) (f : Nat → α) : Nat → α := fun p => if p = k then f m else if k < p ∧ p ≤ m then f (p - 1) else f p
theorem sl_start (a : Nat) (f : Nat → α) : sl a a f = f := by
  funext p
  unfold sl
  by_cases h : p = a
  · rw [if_pos h, h]
  · rw [if_neg h, if_neg (by omega)]
theorem sl_next {a k : Nat} (f : Nat → α) (h : a ≤ k) : sw k (k + 1) (sl a k f) = sl a (k + 1) f := by
  funext p
  unfold sw sl
  by_cases h1 : p = k
  · subst h1
    rw [if_pos rfl, if_neg (by omega), if_neg (by omega), if_neg (by omega), if_pos (by omega)]
  · by_cases h2 : p = k + 1
    · subst h2
      rw [if_neg h1, if_pos rfl, if_pos rfl, if_pos rfl]
    · rw [if_neg h1, if_neg h2, if_neg h1, if_neg h2]
      by_cases h3 : a ≤ p ∧ p < k
      · rw [if_pos h3, if_pos (by omega)]
      · rw [if_neg h3, if_neg (by omega)]
theorem sl_mv {a b : Nat} (f : Nat → α) : ∀ k, a ≤ k → k < b → Mv a b f (sl a k f)
  | 0, h, _ => by
    obtain rfl : a = 0 := by omega
    rw [sl_start]; exact Mv.refl _ _ _
  | k + 1, h, hb => by
    by_cases e : a = k + 1
    · rw [← e, sl_start]; exact Mv.refl _ _ _
    · rw [← sl_next f (by omega)]
      exact (sl_mv f k (by omega) (by omega)).trans (Mv.sw _ (by omega) (by omega) (by omega) (by omega))
theorem sr_start (m : Nat) (f : Nat → α) : sr m m f = f := by
  funext p
  unfold sr
  by_cases h : p = m
  · rw [if_pos h, h]
  · rw [if_neg h, if_neg (by omega)]
theorem sr_next {k m : Nat} (f : Nat → α) (h0 : 0 < k) (h : k ≤ m) : sw k (k - 1) (sr k m f) = sr (k - 1) m f := by
  funext p
  unfold sw sr
  by_cases h1 : p = k
  · subst h1
    rw [if_pos rfl, if_neg (by omega), if_neg (by omega), if_neg (by omega), if_pos (by omega)]
  · by_cases h2 : p = k - 1
    · subst h2
      rw [if_neg h1, if_pos rfl, if_pos rfl, if_pos rfl]
    · rw [if_neg h1, if_neg h2, if_neg h1, if_neg h2]
      by_cases h3 : k < p ∧ p ≤ m
      · rw [if_pos h3, if_pos (by omega)]
      · rw [if_neg h3, if_neg (by omega)]
theorem sr_mv {a b m : Nat} (f : Nat → α) (hb : m < b) : ∀ d k, m = k + d → a ≤ k → Mv a b f (sr k m f)
  | 0, k, h, _ => by
    obtain rfl : m = k := by omega
    rw [sr_start]; exact Mv.refl _ _ _
  | d + 1, k, h, ha => by
    have e := sr_next f (k := k + 1) (m := m) (by omega) (by omega)
    rw [Nat.add_sub_cancel] at e
    rw [← e]
    exact (sr_mv f hb d (k + 1) (by omega) (by omega)).trans (Mv.sw _ (by omega) (by omega) (by omega) (by omega))
/-- Two sorted parts, one behind the other, all of the second later than all of the first. -/
structure Mg (lt : α → α → Prop) (ix : α → Int) (a m b : Nat) (f : Nat → α) : Prop where
  l : St lt a m f
  r : St lt m b f
  x : ∀ p q, a ≤ p → p < m → m ≤ q → q < b → ix (f p) < ix (f q)
section
variable {a m b : Nat} {f : Nat → α}
theorem Mg.one_up (O : Ord lo lt ix) (h : Mg lt ix a m b f) (ha : a < m) {k : Nat} (h1 : m ≤ k) (h2 : k < b) (hl : lo (f k) (f a) = true) : ∀ q, m ≤ q → q < k + 1 → lt (f q) (f a) := fun q hq hk => by
  have t := O.no (h.x a k (Nat.le_refl _) ha h1 h2) hl
  by_cases e : q = k
  · subst e; exact t
  · exact O.tr (h.r q k hq (by omega) h2) t
theorem Mg.one_down (O : Ord lo lt ix) (h : Mg lt ix a m b f) (ha : a < m) {k : Nat} (h1 : m ≤ k) (h2 : k < b) (hl : lo (f k) (f a) = false) : ∀ q, k ≤ q → q < b → lt (f a) (f q) := fun q hq hk => by
  have t := O.yes (h.x a k (Nat.le_refl _) ha h1 h2) hl
  by_cases e : q = k
  · subst e; exact t
  · exact O.tr t (h.r k q h1 (by omega) hk)
theorem Mg.two_up (O : Ord lo lt ix) (h : Mg lt ix a m b f) (hb : m < b) {k : Nat} (h1 : a ≤ k) (h2 : k < m) (hl : lo (f m) (f k) = false) : ∀ q, a ≤ q → q < k + 1 → lt (f q) (f m) := fun q hq hk => by
  have t := O.yes (h.x k m h1 h2 (Nat.le_refl _) hb) hl
  by_cases e : q = k
  · subst e; exact t
  · exact O.tr (h.l q k hq (by omega) h2) t
theorem Mg.two_down (O : Ord lo lt ix) (h : Mg lt ix a m b f) (hb : m < b) {k : Nat} (h1 : a ≤ k) (h2 : k < m) (hl : lo (f m) (f k) = true) : ∀ q, k ≤ q → q < m → lt (f m) (f q) := fun q hq hk => by
  have t := O.no (h.x k m h1 h2 (Nat.le_refl _) hb) hl
  by_cases e : q = k
  · subst e; exact t
  · exact O.tr t (h.l k q h1 (by omega) hk)
theorem Mg.one_done (h : Mg lt ix a m b f) (hm : m = a + 1) {i : Nat} (h1 : m ≤ i) (h2 : i ≤ b) (hu : ∀ q, m ≤ q → q < i → lt (f q) (f a)) (hd : ∀ q, i ≤ q → q < b → lt (f a) (f q)) : Mv a b f (sl a (i - 1) f) ∧ St lt a b (sl a (i - 1) f) := by
  by_cases hab : a < b
  · refine ⟨sl_mv f (i - 1) (by omega) (by omega), fun p q k1 k2 k3 => ?_⟩
    have eL : ∀ p, a ≤ p → p < i - 1 → sl a (i - 1) f p = f (p + 1) := fun p x1 x2 => by
      unfold sl; rw [if_neg (by omega), if_pos ⟨x1, x2⟩]
    have eM : sl a (i - 1) f (i - 1) = f a := by unfold sl; rw [if_pos rfl]
    have eR : ∀ p, i - 1 < p → sl a (i - 1) f p = f p := fun p x1 => by
      unfold sl; rw [if_neg (by omega), if_neg (by omega)]
    rcases Nat.lt_trichotomy p (i - 1) with hp | hp | hp
    · rw [eL p k1 hp]
      rcases Nat.lt_trichotomy q (i - 1) with hq | hq | hq
      · rw [eL q (by omega) hq]; exact h.r _ _ (by omega) (by omega) (by omega)
      · subst hq; rw [eM]; exact hu _ (by omega) (by omega)
      · rw [eR q hq]; exact h.r _ _ (by omega) (by omega) (by omega)
    · subst hp
      rw [eM, eR q (by omega)]; exact hd q (by omega) k3
    · rw [eR p hp, eR q (by omega)]; exact h.r _ _ (by omega) (by omega) k3
  · obtain rfl : i = a + 1 := by omega
    rw [Nat.add_sub_cancel, sl_start]
    exact ⟨Mv.refl _ _ _, fun p q k1 k2 k3 => by omega⟩
theorem Mg.two_done (h : Mg lt ix a m b f) (hm : b = m + 1) {i : Nat} (h1 : a ≤ i) (h2 : i ≤ m) (hu : ∀ q, a ≤ q → q < i → lt (f q) (f m)) (hd : ∀ q, i ≤ q → q < m → lt (f m) (f q)) : Mv a b f (sr i m f) ∧ St lt a b (sr i m f) := by
  refine ⟨sr_mv f (by omega) (m - i) i (by omega) h1, fun p q k1 k2 k3 => ?_⟩
  have eL : ∀ p, p < i → sr i m f p = f p := fun p x1 => by
    unfold sr; rw [if_neg (by omega), if_neg (by omega)]
  have eM : sr i m f i = f m := by unfold sr; rw [if_pos rfl]
  have eR : ∀ p, i < p → p ≤ m → sr i m f p = f (p - 1) := fun p x1 x2 => by
    unfold sr; rw [if_neg (by omega), if_pos ⟨x1, x2⟩]
  rcases Nat.lt_trichotomy p i with hp | hp | hp
  · rw [eL p hp]
    rcases Nat.lt_trichotomy q i with hq | hq | hq
    · rw [eL q hq]; exact h.l _ _ k1 k2 (by omega)
    · subst hq; rw [eM]; exact hu _ k1 hp
    · rw [eR q hq (by omega)]; exact h.l _ _ k1 (by omega) (by omega)
  · subst hp
    rw [eM, eR q k2 (by omega)]; exact hd _ (by omega) (by omega)
  · rw [eR p hp (by omega), eR q (by omega) (by omega)]; exact h.l _ _ (by omega) (by omega) (by omega)
end
/-! Two parts of one length changed; two parts one behind the other changed. -/
def swR (a b n : Nat) (f : Nat → α) : Nat → α := fun p => if a ≤ p ∧ p < a + n then f (p - a + b) else if b ≤ p ∧ p < b + n then f (p - b + a) else f p
theorem swR_start (a b : Nat) (f : Nat → α) : swR a b 0 f = f := by
  funext p
  unfold swR
  rw [if_neg (by omega), if_neg (by omega)]
theorem swR_next {a b n i : Nat} (f : Nat → α) (h : a + n ≤ b) (hi : i < n) : sw (a + i) (b + i) (swR a b i f) = swR a b (i + 1) f := by
  funext p
  unfold sw swR
  by_cases h1 : p = a + i
  · subst h1
    rw [if_pos rfl, if_neg (by omega), if_neg (by omega), if_pos (by omega)]
    congr 1; omega
  · by_cases h2 : p = b + i
    · subst h2
      rw [if_neg h1, if_pos rfl, if_neg (by omega), if_neg (by omega), if_neg (by omega), if_pos (by omega)]
      congr 1; omega
    · rw [if_neg h1, if_neg h2]
      by_cases h3 : a ≤ p ∧ p < a + i
      · rw [if_pos h3, if_pos (by omega)]
      · rw [if_neg h3, if_neg (show ¬ (a ≤ p ∧ p < a + (i + 1)) by omega)]
        by_cases h4 : b ≤ p ∧ p < b + i
        · rw [if_pos h4, if_pos (by omega)]
        · rw [if_neg h4, if_neg (by omega)]
def rot (a m b : Nat) (f : Nat → α) : Nat → α := fun p => if a ≤ p ∧ p < a + (b - m) then f (p + (m - a)) else if a + (b - m) ≤ p ∧ p < b then f (p - (b - m)) else f p
theorem rot_left {m i j : Nat} (f : Nat → α) (hm : i ≤ m) (h : j < i) : rot (m - i) m (m + j) f = rot (m - (i - j)) m (m + j) (swR (m - i) m j f) := by
  funext p
  unfold rot swR
  by_cases h1 : m - i ≤ p ∧ p < m - i + (m + j - m)
  · rw [if_pos h1, if_neg (by omega), if_neg (by omega), if_pos (by omega)]
    congr 1; omega
  · rw [if_neg h1]
    by_cases h2 : m - i + (m + j - m) ≤ p ∧ p < m + j
    · rw [if_pos h2]
      by_cases h3 : p < m - (i - j) + (m + j - m)
      · rw [if_pos (by omega), if_neg (by omega), if_pos (by omega)]
        congr 1; omega
      · rw [if_neg (by omega), if_pos (by omega), if_neg (by omega), if_neg (by omega)]
    · rw [if_neg h2, if_neg (by omega), if_neg (by omega), if_neg (by omega), if_neg (by omega)]
theorem rot_right {m i j : Nat} (f : Nat → α) (hm : i ≤ m) (h : i < j) : rot (m - i) m (m + j) f = rot (m - i) m (m + (j - i)) (swR (m - i) (m + j - i) i f) := by
  funext p
  unfold rot swR
  by_cases h1 : m - i ≤ p ∧ p < m - i + (m + j - m)
  · rw [if_pos h1]
    by_cases h2 : p < m - i + (m + (j - i) - m)
    · rw [if_pos (by omega), if_neg (by omega), if_neg (by omega)]
    · rw [if_neg (by omega), if_pos (by omega), if_pos (by omega)]
      congr 1; omega
  · rw [if_neg h1]
    by_cases h2 : m - i + (m + j - m) ≤ p ∧ p < m + j
    · rw [if_pos h2, if_neg (by omega), if_neg (by omega), if_neg (by omega), if_pos (by omega)]
      congr 1; omega
    · rw [if_neg h2, if_neg (by omega), if_neg (by omega), if_neg (by omega), if_neg (by omega)]
theorem rot_same {m i : Nat} (f : Nat → α) (hm : i ≤ m) : rot (m - i) m (m + i) f = swR (m - i) m i f := by
  funext p
  unfold rot swR
  by_cases h1 : m - i ≤ p ∧ p < m - i + i
  · rw [if_pos (by omega), if_pos h1]
    congr 1; omega
  · rw [if_neg (by omega), if_neg h1]
    by_cases h2 : m ≤ p ∧ p < m + i
    · rw [if_pos (by omega), if_pos h2]
      congr 1; omega
    · rw [if_neg (by omega), if_neg h2]
theorem rot_none {a m b : Nat} (f : Nat → α) (h : a = m ∨ m = b) (ha : a ≤ m) (hb : m ≤ b) : rot a m b f = f := by
  funext p
  unfold rot
  rcases h with rfl | rfl
  · by_cases h1 : a ≤ p ∧ p < a + (b - a)
    · rw [if_pos h1]; congr 1; omega
    · rw [if_neg h1, if_neg (by omega)]
  · rw [if_neg (by omega)]
    by_cases h1 : a + (m - m) ≤ p ∧ p < m
    · rw [if_pos h1]; congr 1; omega
    · rw [if_neg h1]
theorem rot_mv {a m b : Nat} (f : Nat → α) (ha : a ≤ m) (hb : m ≤ b) : Mv a b f (rot a m b f) := by
  refine ⟨fun p => if a ≤ p ∧ p < a + (b - m) then p + (m - a) else if a + (b - m) ≤ p ∧ p < b then p - (b - m) else p, fun p => if a ≤ p ∧ p < m then p + (b - m) else if m ≤ p ∧ p < b then p - (m - a) else p, fun p => ?_, fun p => ?_, fun p hp => ?_, fun p => ?_⟩
  · simp only []
    by_cases h1 : a ≤ p ∧ p < m
    · rw [if_pos h1, if_neg (by omega), if_pos (by omega)]; omega
    · rw [if_neg h1]
      by_cases h2 : m ≤ p ∧ p < b
      · rw [if_pos h2, if_pos (by omega)]; omega
      · rw [if_neg h2, if_neg (by omega), if_neg (by omega)]
  · simp only []
    by_cases h1 : a ≤ p ∧ p < a + (b - m)
    · rw [if_pos h1, if_neg (by omega), if_pos (by omega)]; omega
    · rw [if_neg h1]
      by_cases h2 : a + (b - m) ≤ p ∧ p < b
      · rw [if_pos h2, if_pos (by omega)]; omega
      · rw [if_neg h2, if_neg (by omega), if_neg (by omega)]
  · simp only []
    rw [if_neg (by omega), if_neg (by omega)]
  · simp only [rot]
    split
    · rfl
    · split <;> rfl
/-! The merge by turns: s is where the first part is cut. -/
/-- What the search has found: s0 and r0 are its ends, n = mid + m. -/
structure Sy (lt : α → α → Prop) (n s0 r0 s r : Nat) (f : Nat → α) : Prop where
  h0 : s0 ≤ s
  h1 : s ≤ r
  h2 : r ≤ r0
  up : s = s0 ∨ (s0 < s ∧ lt (f (s - 1)) (f (n - s)))
  down : r = r0 ∨ (r < r0 ∧ lt (f (n - 1 - r)) (f r))
theorem Sy.start {n s0 r0 : Nat} {f : Nat → α} (h : s0 ≤ r0) : Sy lt n s0 r0 s0 r0 f := ⟨Nat.le_refl _, h, Nat.le_refl _, Or.inl rfl, Or.inl rfl⟩
theorem Sy.next_up (O : Ord lo lt ix) {n s0 r0 s r c : Nat} {f : Nat → α} (h : Sy lt n s0 r0 s r f) (h1 : s ≤ c) (h2 : c < r) (hx : ix (f c) < ix (f (n - 1 - c))) (hl : lo (f (n - 1 - c)) (f c) = false) : Sy lt n s0 r0 (c + 1) r f := by
  have a0 := h.h0
  refine ⟨by omega, by omega, h.h2, Or.inr ⟨by omega, ?_⟩, h.down⟩
  rw [Nat.add_sub_cancel, show n - (c + 1) = n - 1 - c by omega]
  exact O.yes hx hl
theorem Sy.next_down (O : Ord lo lt ix) {n s0 r0 s r c : Nat} {f : Nat → α} (h : Sy lt n s0 r0 s r f) (h1 : s ≤ c) (h2 : c < r) (hx : ix (f c) < ix (f (n - 1 - c))) (hl : lo (f (n - 1 - c)) (f c) = true) : Sy lt n s0 r0 s c f := by
  have a2 := h.h2
  exact ⟨h.h0, h1, by omega, h.up, Or.inr ⟨by omega, O.no hx hl⟩⟩
/-- What is left to do behind the turn. -/
structure Hv (lt : α → α → Prop) (ix : α → Int) (a mid b s e : Nat) (g : Nat → α) : Prop where
  x : Mg lt ix a s mid g
  y : Mg lt ix mid e b g
  z : ∀ p q, a ≤ p → p < mid → mid ≤ q → q < b → lt (g p) (g q)
theorem Sy.done (O : Ord lo lt ix) {a m b mid s0 r0 s : Nat} {f : Nat → α} (ha : a < m) (hb : m < b) (hm : mid = (a + b) / 2) (h0 : s0 = if mid < m then mid + m - b else a) (hr : r0 = if mid < m then mid else m) (M : Mg lt ix a m b f) (h : Sy lt (mid + m) s0 r0 s s f) :
    a ≤ s ∧ s ≤ mid ∧ s ≤ m ∧ mid ≤ mid + m - s ∧ m ≤ mid + m - s ∧ mid + m - s ≤ b ∧ Hv lt ix a mid b s (mid + m - s) (rot s m (mid + m - s) f) := by
  have H0 := h.h0
  have H2 := h.h2
  have hs : a ≤ s ∧ s ≤ mid ∧ s ≤ m ∧ mid + m - s ≤ b := by
    by_cases hc : mid < m
    · rw [if_pos hc] at h0 hr; omega
    · rw [if_neg hc] at h0 hr; omega
  have up : ∀ i, a ≤ i → i < s → ∀ j, mid + m - s ≤ j → j < b → lt (f i) (f j) := fun i i1 i2 j j1 j2 => by
    rcases h.up with hu | ⟨hu, ht⟩
    · by_cases hc : mid < m
      · rw [if_pos hc] at h0; omega
      · rw [if_neg hc] at h0; omega
    · have t1 : lt (f i) (f (mid + m - s)) := by
        by_cases e : i = s - 1
        · subst e; exact ht
        · exact O.tr (M.l i (s - 1) i1 (by omega) (by omega)) ht
      by_cases e : j = mid + m - s
      · subst e; exact t1
      · exact O.tr t1 (M.r _ j (by omega) (by omega) j2)
  have down : ∀ j, m ≤ j → j < mid + m - s → ∀ i, s ≤ i → i < m → lt (f j) (f i) := fun j j1 j2 i i1 i2 => by
    rcases h.down with hu | ⟨hu, ht⟩
    · by_cases hc : mid < m
      · rw [if_pos hc] at hr; omega
      · rw [if_neg hc] at hr; omega
    · have t1 : lt (f j) (f s) := by
        by_cases e : j = mid + m - 1 - s
        · subst e; exact ht
        · exact O.tr (M.r j (mid + m - 1 - s) j1 (by omega) (by omega)) ht
      by_cases e : i = s
      · subst e; exact t1
      · exact O.tr t1 (M.l s i (by omega) (by omega) i2)
  obtain ⟨e, he⟩ : ∃ e, e = mid + m - s := ⟨_, rfl⟩
  rw [← he] at up down hs ⊢
  have g1 : ∀ p, p < s → rot s m e f p = f p := fun p hp => by
    unfold rot; rw [if_neg (by omega), if_neg (by omega)]
  have g2 : ∀ p, s ≤ p → p < mid → rot s m e f p = f (p + (m - s)) := fun p p1 p2 => by
    unfold rot; rw [if_pos (by omega)]
  have g3 : ∀ p, mid ≤ p → p < e → rot s m e f p = f (p - (e - m)) := fun p p1 p2 => by
    unfold rot; rw [if_neg (by omega), if_pos (by omega)]
  have g4 : ∀ p, e ≤ p → rot s m e f p = f p := fun p p1 => by
    unfold rot; rw [if_neg (by omega), if_neg (by omega)]
  generalize rot s m e f = g at g1 g2 g3 g4 ⊢
  refine ⟨hs.1, hs.2.1, hs.2.2.1, by omega, by omega, by omega, ⟨fun p q p1 p2 p3 => ?_, fun p q p1 p2 p3 => ?_, fun p q p1 p2 p3 p4 => ?_⟩, ⟨fun p q p1 p2 p3 => ?_, fun p q p1 p2 p3 => ?_, fun p q p1 p2 p3 p4 => ?_⟩, fun p q p1 p2 p3 p4 => ?_⟩
  · rw [g1 p (by omega), g1 q p3]; exact M.l _ _ p1 p2 (by omega)
  · rw [g2 p p1 (by omega), g2 q (by omega) p3]; exact M.r _ _ (by omega) (by omega) (by omega)
  · rw [g1 p p2, g2 q p3 p4]; exact M.x _ _ p1 (by omega) (by omega) (by omega)
  · rw [g3 p p1 (by omega), g3 q (by omega) p3]; exact M.l _ _ (by omega) (by omega) (by omega)
  · rw [g4 p p1, g4 q (by omega)]; exact M.r _ _ (by omega) p2 p3
  · rw [g3 p p1 p2, g4 q p3]; exact M.x _ _ (by omega) (by omega) (by omega) p4
  · by_cases c1 : p < s
    · rw [g1 p c1]
      by_cases c2 : q < e
      · rw [g3 q p3 c2]; exact M.l _ _ p1 (by omega) (by omega)
      · rw [g4 q (by omega)]; exact up p p1 c1 q (by omega) p4
    · rw [g2 p (by omega) p2]
      by_cases c2 : q < e
      · rw [g3 q p3 c2]; exact down _ (by omega) (by omega) _ (by omega) (by omega)
      · rw [g4 q (by omega)]; exact M.r _ _ (by omega) (by omega) p4
/-- A part of which one half is empty is sorted. -/
theorem Mg.trivial {a s m : Nat} {f : Nat → α} (h : Mg lt ix a s m f) (hs : ¬ (a < s ∧ s < m)) (h1 : a ≤ s) (h2 : s ≤ m) : St lt a m f := by
  by_cases e : a = s
  · subst e; exact h.r
  · obtain rfl : s = m := by omega
    exact h.l
theorem Hv.done {a mid b s e : Nat} {g g1 g2 : Nat → α} (h : Hv lt ix a mid b s e g) (h1 : a ≤ mid) (h2 : mid ≤ b) (m1 : Mv a mid g g1) (s1 : St lt a mid g1) (m2 : Mv mid b g1 g2) (s2 : St lt mid b g2) : Mv a b g g2 ∧ St lt a b g2 := by
  refine ⟨(m1.wide (Nat.le_refl _) h2).trans (m2.wide h1 (Nat.le_refl _)), fun p q p1 p2 p3 => ?_⟩
  by_cases c1 : q < mid
  · rw [m2.out (Or.inl (by omega)), m2.out (Or.inl c1)]; exact s1 p q p1 p2 c1
  · by_cases c2 : p < mid
    · rw [m2.out (Or.inl c2)]
      obtain ⟨p', a1, a2, e1⟩ := m1.inn p1 c2
      obtain ⟨q', b1, b2, e2⟩ := m2.inn (by omega : mid ≤ q) p3
      rw [e1, e2, m1.out (Or.inr b1)]
      exact h.z p' q' a1 a2 b1 b2
    · exact s2 p q (by omega) p2 p3
/-- The second half is as it was while the first is put in order. -/
theorem Mg.kept {a b c d e : Nat} {g g1 : Nat → α} (h : Mg lt ix c d e g) (m : Mv a b g g1) (hb : b ≤ c) (hcd : c ≤ d) : Mg lt ix c d e g1 := by
  have k : ∀ p, c ≤ p → g1 p = g p := fun p hp => m.out (Or.inr (by omega))
  exact ⟨fun p q p1 p2 p3 => by rw [k p p1, k q (by omega)]; exact h.l p q p1 p2 p3, fun p q p1 p2 p3 => by rw [k p (by omega), k q (by omega)]; exact h.r p q p1 p2 p3, fun p q p1 p2 p3 p4 => by rw [k p p1, k q (by omega)]; exact h.x p q p1 p2 p3 p4⟩
/-! Blocks of s, the last one may be shorter. -/
/-- Ahead of block k all blocks of 20 are sorted; behind it all is as it was. -/
structure Ph (lt : α → α → Prop) (ix : α → Int) (n k : Nat) (f0 f : Nat → α) : Prop where
  mv : Mv 0 n f0 f
  lo : ∀ j, j < k → St lt (j * 20) (j * 20 + 20) f
  cr : ∀ j p q, p < j * 20 → j * 20 ≤ q → q < n → ix (f p) < ix (f q)
  hi : ∀ p q, k * 20 ≤ p → p < q → q < n → ix (f p) < ix (f q)
/-- All blocks of s are sorted, and each block's are earlier than the next one's. -/
structure Bl (lt : α → α → Prop) (ix : α → Int) (n s : Nat) (f0 f : Nat → α) : Prop where
  mv : Mv 0 n f0 f
  st : ∀ j p q, j * s ≤ p → p < q → q < j * s + s → q < n → lt (f p) (f q)
  cr : ∀ j p q, p < j * s → j * s ≤ q → q < n → ix (f p) < ix (f q)
/-- Ahead of the k-th pair all pairs are merged. -/
structure Pr (lt : α → α → Prop) (ix : α → Int) (n s k : Nat) (f0 f : Nat → α) : Prop where
  mv : Mv 0 n f0 f
  lo : ∀ j, j < k → St lt (j * (2 * s)) (j * (2 * s) + 2 * s) f
  hi : ∀ j p q, 2 * k ≤ j → j * s ≤ p → p < q → q < j * s + s → q < n → lt (f p) (f q)
  cr : ∀ j p q, p < j * (2 * s) → j * (2 * s) ≤ q → q < n → ix (f p) < ix (f q)
  ch : ∀ j p q, 2 * k ≤ j → p < j * s → k * (2 * s) ≤ p → j * s ≤ q → q < n → ix (f p) < ix (f q)
theorem Ph.start {n : Nat} {f : Nat → α} (h : ∀ p q, p < q → q < n → ix (f p) < ix (f q)) : Ph lt ix n 0 f f :=
  ⟨Mv.refl _ _ _, fun j hj => by omega, fun j p q h1 h2 h3 => h p q (by omega) h3, fun p q _ h2 h3 => h p q h2 h3⟩
/-- What a move inside of one block leaves. -/
theorem cr_kept {n s k a b : Nat} {f g : Nat → α} (h : ∀ j p q, p < j * s → j * s ≤ q → q < n → ix (f p) < ix (f q)) (m : Mv a b f g) (ha : a = k * s) (hb : b ≤ a + s) (hn : b ≤ n) : ∀ j p q, p < j * s → j * s ≤ q → q < n → ix (g p) < ix (g q) := fun j p q h1 h2 h3 => by
  have P : ∃ p', p' < j * s ∧ g p = f p' := by
    by_cases c : a ≤ p ∧ p < b
    · obtain ⟨p', a1, a2, e⟩ := m.inn c.1 c.2
      refine ⟨p', ?_, e⟩
      have hj : k < j := Nat.lt_of_mul_lt_mul_right (a := s) (by omega)
      have := Nat.mul_le_mul_right s (show k + 1 ≤ j from hj)
      rw [Nat.succ_mul] at this
      omega
    · exact ⟨p, h1, m.out (by omega)⟩
  have Q : ∃ q', j * s ≤ q' ∧ q' < n ∧ g q = f q' := by
    by_cases c : a ≤ q ∧ q < b
    · obtain ⟨q', a1, a2, e⟩ := m.inn c.1 c.2
      refine ⟨q', ?_, by omega, e⟩
      by_cases hj : k < j
      · have := Nat.mul_le_mul_right s (show k + 1 ≤ j from hj)
        rw [Nat.succ_mul] at this
        omega
      · have := Nat.mul_le_mul_right s (show j ≤ k by omega)
        omega
    · exact ⟨q, h2, h3, m.out (by omega)⟩
  obtain ⟨p', p1, p2⟩ := P
  obtain ⟨q', q1, q2, q3⟩ := Q
  rw [p2, q3]
  exact h j p' q' p1 q1 q2
theorem Ph.next {n k : Nat} {f0 f g : Nat → α} (h : Ph lt ix n k f0 f) (hk : k * 20 + 20 ≤ n) (m : Mv (k * 20) (k * 20 + 20) f g) (s : St lt (k * 20) (k * 20 + 20) g) : Ph lt ix n (k + 1) f0 g := by
  refine ⟨h.mv.trans (m.wide (Nat.zero_le _) hk), fun j hj p q h1 h2 h3 => ?_, cr_kept h.cr m rfl (Nat.le_refl _) hk, fun p q h1 h2 h3 => ?_⟩
  · by_cases e : j = k
    · subst e; exact s p q h1 h2 h3
    · rw [m.out (Or.inl (by omega)), m.out (Or.inl (by omega))]
      exact h.lo j (by omega) p q h1 h2 h3
  · rw [m.out (Or.inr (by omega)), m.out (Or.inr (by omega))]
    exact h.hi p q (by omega) h2 h3
theorem Ph.asc {n k b : Nat} {f0 f : Nat → α} (h : Ph lt ix n k f0 f) (hb : b ≤ n) : ∀ p q, k * 20 ≤ p → p < q → q < b → ix (f p) < ix (f q) := fun p q h1 h2 h3 => h.hi p q h1 h2 (by omega)
theorem Ph.done {n k : Nat} {f0 f g : Nat → α} (h : Ph lt ix n k f0 f) (h1 : k * 20 ≤ n) (h2 : n < k * 20 + 20) (m : Mv (k * 20) n f g) (s : St lt (k * 20) n g) : Bl lt ix n 20 f0 g := by
  refine ⟨h.mv.trans (m.wide (Nat.zero_le _) (Nat.le_refl _)), fun j p q k1 k2 k3 k4 => ?_, cr_kept h.cr m rfl (by omega) (Nat.le_refl _)⟩
  by_cases e : j = k
  · subst e; exact s p q k1 k2 k4
  · by_cases hj : j < k
    · rw [m.out (Or.inl (by omega)), m.out (Or.inl (by omega))]
      exact h.lo j hj p q k1 k2 k3
    · omega
theorem two_mul_block (j s : Nat) : j * (2 * s) = 2 * j * s := by rw [← Nat.mul_assoc, Nat.mul_comm j 2]
theorem Pr.start {n s : Nat} {f0 f : Nat → α} (h : Bl lt ix n s f0 f) : Pr lt ix n s 0 f0 f :=
  ⟨h.mv, fun j hj => by omega, fun j p q _ h1 h2 h3 h4 => h.st j p q h1 h2 h3 h4, fun j p q h1 h2 h3 => h.cr (2 * j) p q (by rw [← two_mul_block]; exact h1) (by rw [← two_mul_block]; exact h2) h3, fun j p q _ h1 _ h2 h3 => h.cr j p q h1 h2 h3⟩
theorem Pr.pair {n s k b : Nat} {f0 f : Nat → α} (h : Pr lt ix n s k f0 f) (hb : b ≤ n) (hm : k * (2 * s) + s ≤ b) (hb2 : b ≤ k * (2 * s) + 2 * s) : Mg lt ix (k * (2 * s)) (k * (2 * s) + s) b f := by
  have e := two_mul_block k s
  have e1 : (2 * k + 1) * s = 2 * k * s + s := Nat.succ_mul _ _
  exact ⟨fun p q h1 h2 h3 => h.hi (2 * k) p q (by omega) (by omega) h2 (by omega) (by omega), fun p q h1 h2 h3 => h.hi (2 * k + 1) p q (by omega) (by omega) h2 (by omega) (by omega), fun p q h1 h2 h3 h4 => h.ch (2 * k + 1) p q (by omega) (by omega) h1 (by omega) (by omega)⟩
theorem Pr.next {n s k : Nat} {f0 f g : Nat → α} (h : Pr lt ix n s k f0 f) (hk : k * (2 * s) + 2 * s ≤ n) (m : Mv (k * (2 * s)) (k * (2 * s) + 2 * s) f g) (d : St lt (k * (2 * s)) (k * (2 * s) + 2 * s) g) : Pr lt ix n s (k + 1) f0 g := by
  have e1 : (k + 1) * (2 * s) = k * (2 * s) + 2 * s := Nat.succ_mul _ _
  have e2 := two_mul_block (k + 1) s
  have up : ∀ j, 2 * (k + 1) ≤ j → (k + 1) * (2 * s) ≤ j * s := fun j hj => by rw [e2]; exact Nat.mul_le_mul_right s hj
  have eo : ∀ p, k * (2 * s) + 2 * s ≤ p → g p = f p := fun p hp => m.out (Or.inr hp)
  refine ⟨h.mv.trans (m.wide (Nat.zero_le _) hk), fun j hj p q h1 h2 h3 => ?_, fun j p q h0 h1 h2 h3 h4 => ?_, cr_kept h.cr m rfl (Nat.le_refl _) hk, fun j p q h0 h1 h2 h3 h4 => ?_⟩
  · by_cases e : j = k
    · subst e; exact d p q h1 h2 h3
    · have := Nat.mul_le_mul_right (2 * s) (show j + 1 ≤ k by omega)
      rw [Nat.succ_mul] at this
      rw [m.out (Or.inl (by omega)), m.out (Or.inl (by omega))]
      exact h.lo j (by omega) p q h1 h2 h3
  · have := up j h0
    rw [eo p (by omega), eo q (by omega)]
    exact h.hi j p q (by omega) h1 h2 h3 h4
  · rw [eo p (by omega), eo q (by omega)]
    exact h.ch j p q (by omega) h1 (by omega) h3 h4
theorem Pr.done {n s k : Nat} {f0 f g : Nat → α} (h : Pr lt ix n s k f0 f) (h1 : k * (2 * s) ≤ n) (h2 : n < k * (2 * s) + 2 * s) (m : Mv (k * (2 * s)) n f g) (d : St lt (k * (2 * s)) n g) : Bl lt ix n (2 * s) f0 g := by
  refine ⟨h.mv.trans (m.wide (Nat.zero_le _) (Nat.le_refl _)), fun j p q k1 k2 k3 k4 => ?_, cr_kept h.cr m rfl (by omega) (Nat.le_refl _)⟩
  by_cases e : j = k
  · subst e; exact d p q k1 k2 k4
  · by_cases hj : j < k
    · have := Nat.mul_le_mul_right (2 * s) (show j + 1 ≤ k from hj)
      rw [Nat.succ_mul] at this
      rw [m.out (Or.inl (by omega)), m.out (Or.inl (by omega))]
      exact h.lo j hj p q k1 k2 k3
    · have := Nat.mul_le_mul_right (2 * s) (show k + 1 ≤ j by omega)
      rw [Nat.succ_mul] at this
      omega
/-- The last pair has one part only. -/
theorem Pr.one {n s k : Nat} {f0 f : Nat → α} (h : Pr lt ix n s k f0 f) (hn : n ≤ k * (2 * s) + s) : St lt (k * (2 * s)) n f := fun p q h1 h2 h3 => by
  have e := two_mul_block k s
  exact h.hi (2 * k) p q (Nat.le_refl _) (by omega) h2 (by omega) h3
theorem Bl.all {n s : Nat} {f0 f : Nat → α} (h : Bl lt ix n s f0 f) (hn : n ≤ s) : Mv 0 n f0 f ∧ St lt 0 n f := ⟨h.mv, fun p q _ h2 h3 => h.st 0 p q (by omega) h2 (by omega) h3⟩
end
/-! A list that is strictly sorted is known by what is in it. -/
section
variable {α : Type} {lt : α → α → Prop}
theorem sorted_one (irr : ∀ x, ¬ lt x x) (asy : ∀ x y, lt x y → ¬ lt y x) : ∀ {L M : List α}, L.Pairwise lt → M.Pairwise lt → (∀ x, x ∈ L ↔ x ∈ M) → L = M
  | [], [], _, _, _ => rfl
  | [], y :: M, _, _, h => by
    have := (h y).2 (List.mem_cons_self ..)
    simp at this
  | x :: L, [], _, _, h => by
    have := (h x).1 (List.mem_cons_self ..)
    simp at this
  | x :: L, y :: M, hl, hm, h => by
    rw [List.pairwise_cons] at hl hm
    have e : x = y := by
      have h1 := (h x).1 (List.mem_cons_self ..)
      have h2 := (h y).2 (List.mem_cons_self ..)
      rcases List.mem_cons.1 h1 with h1 | h1
      · exact h1
      · rcases List.mem_cons.1 h2 with h2 | h2
        · exact h2.symm
        · exact (asy _ _ (hl.1 _ h2) (hm.1 _ h1)).elim
    subst e
    congr 1
    refine sorted_one irr asy hl.2 hm.2 fun z => ⟨fun hz => ?_, fun hz => ?_⟩
    · rcases List.mem_cons.1 ((h z).1 (List.mem_cons_of_mem _ hz)) with e | e
      · subst e; exact (irr _ (hl.1 _ hz)).elim
      · exact e
    · rcases List.mem_cons.1 ((h z).2 (List.mem_cons_of_mem _ hz)) with e | e
      · subst e; exact (irr _ (hm.1 _ hz)).elim
      · exact e
/-- What n places hold, as a list. -/
def ls (n : Nat) (f : Nat → α) : List α := (List.range n).map f
theorem ls_length (n : Nat) (f : Nat → α) : (ls n f).length = n := by simp [ls]
theorem ls_get {n : Nat} {f : Nat → α} {i : Nat} (h : i < (ls n f).length) : (ls n f)[i] = f i := by simp [ls]
theorem ls_at {n i : Nat} (f : Nat → α) (h : i < n) : (ls n f)[i]? = some (f i) := by
  rw [List.getElem?_eq_getElem (by rw [ls_length]; exact h), ls_get]
theorem ls_set {n i : Nat} (f : Nat → α) (x : α) (h : i < n) : (ls n f).set i x = ls n (fun p => if p = i then x else f p) := by
  refine List.ext_getElem (by simp [ls_length]) fun j h1 h2 => ?_
  rw [ls_get, List.getElem_set]
  by_cases e : i = j
  · rw [if_pos e, if_pos e.symm]
  · rw [if_neg e, if_neg (fun h => e h.symm), ls_get]
theorem ls_sw {n i j : Nat} (f : Nat → α) (hi : i < n) (hj : j < n) : ((ls n f).set i (f j)).set j (f i) = ls n (sw i j f) := by
  rw [ls_set f _ hi, ls_set _ _ hj]
  congr 1
  funext p
  unfold sw
  by_cases h1 : p = j
  · subst h1
    rw [if_pos rfl]
    by_cases h2 : p = i
    · rw [if_pos h2, h2]
    · rw [if_neg h2, if_pos rfl]
  · rw [if_neg h1]
    by_cases h2 : p = i
    · rw [if_pos h2, if_pos h2]
    · rw [if_neg h2, if_neg h2, if_neg h1]
theorem ls_sorted {n : Nat} {f : Nat → α} (h : St lt 0 n f) : (ls n f).Pairwise lt := by
  rw [List.pairwise_iff_getElem]
  intro i j hi hj hij
  rw [ls_get, ls_get]
  exact h i j (Nat.zero_le _) hij (by rw [ls_length] at hj; exact hj)
theorem ls_mem {n : Nat} {f g : Nat → α} (h : Mv 0 n f g) (x : α) : x ∈ ls n g ↔ x ∈ ls n f := by
  simp only [ls, List.mem_map, List.mem_range]
  constructor
  · rintro ⟨i, hi, rfl⟩
    obtain ⟨j, _, hj, e⟩ := h.inn (Nat.zero_le _) hi
    exact ⟨j, hj, e.symm⟩
  · rintro ⟨i, hi, rfl⟩
    obtain ⟨j, _, hj, e⟩ := h.back (Nat.zero_le _) hi
    exact ⟨j, hj, e⟩
theorem ls_of [Inhabited α] (L : List α) : ls L.length (fun i => L[i]!) = L := by
  refine List.ext_getElem (by simp [ls_length]) fun j h1 h2 => ?_
  rw [ls_get, getElem!_pos L j h2]
end
end Go.Proofs.Ytgnjbbohphoojaa.Stb
/- Of layer 18 (rank), in plain words: where a peer stands in an order, who counts, the places in order, ranks. -/
namespace Go.Proofs.Ytgnjbbohphoojaa.Ra
set_option maxRecDepth 100000
set_option linter.unusedVariables false
set_option linter.unusedSimpArgs false
open Dec Words V4 V6 Ad Ci En Sat Ha Pe Stb Gr Mi
/-- Where a peer stands: a number, an end, an index. -/
structure Pl where
  k : Nat
  e : Endp
  i : Int
instance : Inhabited Pl := ⟨⟨0, zeroE, 0⟩⟩
instance : Inhabited Pr := ⟨⟨zeroE, false, 0, ⟨0, 0⟩, 0, 0⟩⟩
def Pl.ok (x : Pl) : Prop := x.k < 18446744073709551616 ∧ x.e.ok ∧ (-9223372036854775808 ≤ x.i ∧ x.i ≤ 9223372036854775807)
def encL (x : Pl) : List Value := [.int .u64 (x.k : Nat), .bool x.e.a.v6, .int .u64 x.e.a.hi, .int .u64 x.e.a.lo, .int .i64 x.e.n, .int .i64 x.i]
theorem encL_len (x : Pl) : (encL x).length = 6 := rfl
theorem encL_one : ∀ x, ∀ u ∈ encL x, u.oneCell' = true := fun x u hu => by
  simp only [encL, List.mem_cons, List.not_mem_nil, or_false] at hu
  rcases hu with rfl | rfl | rfl | rfl | rfl | rfl <;> rfl
/-- Compared: by the number, then by the end. -/
def cmpL (x y : Pl) : Int := if x.k = y.k then cmpE x.e y.e else if x.k < y.k then -1 else 1
def loL (x y : Pl) : Bool := decide (cmpL x y < 0)
def ltL (x y : Pl) : Prop := cmpL x y < 0 ∨ (cmpL x y = 0 ∧ x.i < y.i)
instance (x y : Pl) : Decidable (ltL x y) := by unfold ltL; exact inferInstance
theorem cmpL_flip (x y : Pl) : cmpL x y = -cmpL y x := by
  unfold cmpL
  by_cases h : x.k = y.k
  · rw [if_pos h, if_pos h.symm, cmpE_flip]
  · rw [if_neg h, if_neg (show ¬ y.k = x.k by omega)]
    by_cases h2 : x.k < y.k
    · rw [if_pos h2, if_neg (by omega)]
    · rw [if_neg h2, if_pos (by omega)]; rfl
theorem cmpL_zero (x y : Pl) : cmpL x y = 0 ↔ x.k = y.k ∧ x.e = y.e := by
  unfold cmpL
  by_cases h : x.k = y.k
  · rw [if_pos h, cmpE_zero]; exact ⟨fun e => ⟨h, e⟩, fun e => e.2⟩
  · rw [if_neg h]
    constructor
    · intro e; split at e <;> omega
    · intro e; exact (h e.1).elim
theorem cmpL_le {x y z : Pl} (h1 : cmpL x y ≤ 0) (h2 : cmpL y z ≤ 0) : cmpL x z ≤ 0 := by
  unfold cmpL at *
  by_cases a : x.k = y.k
  · rw [if_pos a] at h1
    by_cases b : y.k = z.k
    · rw [if_pos b] at h2
      rw [if_pos (a.trans b)]; exact cmpE_le h1 h2
    · rw [if_neg b] at h2
      rw [if_neg (by omega), a]; exact h2
  · rw [if_neg a] at h1
    have a2 : x.k < y.k := by
      by_cases c : x.k < y.k
      · exact c
      · rw [if_neg c] at h1; omega
    by_cases b : y.k = z.k
    · rw [if_neg (by omega), if_pos (by omega)]; omega
    · rw [if_neg b] at h2
      have b2 : y.k < z.k := by
        by_cases c : y.k < z.k
        · exact c
        · rw [if_neg c] at h2; omega
      rw [if_neg (by omega), if_pos (by omega)]; omega
theorem cmpL_same {x y z : Pl} (h : cmpL x y = 0) : cmpL x z = cmpL y z ∧ cmpL z x = cmpL z y := by
  obtain ⟨h1, h2⟩ := (cmpL_zero x y).1 h
  unfold cmpL
  rw [h1, h2]; exact ⟨rfl, rfl⟩
theorem ltL_trans {x y z : Pl} (h1 : ltL x y) (h2 : ltL y z) : ltL x z := by
  rcases h1 with h1 | ⟨h1, i1⟩
  · rcases h2 with h2 | ⟨h2, i2⟩
    · left
      have h := cmpL_le (x := x) (y := y) (z := z) (by omega) (by omega)
      by_cases e : cmpL x z = 0
      · have k := (cmpL_same (z := y) e).2
        have f := cmpL_flip y x
        have f2 := cmpL_flip y z
        omega
      · omega
    · left
      have := (cmpL_same (z := x) h2).2
      omega
  · have e := (cmpL_same (z := z) h1).1
    rcases h2 with h2 | ⟨h2, i2⟩
    · left; omega
    · right; exact ⟨by omega, by omega⟩
theorem ltL_irr (x : Pl) : ¬ ltL x x := by
  have := (cmpL_zero x x).2 ⟨rfl, rfl⟩
  unfold ltL; omega
theorem ltL_asy (x y : Pl) (h : ltL x y) : ¬ ltL y x := fun k => ltL_irr x (ltL_trans h k)
theorem ordL : Ord loL ltL Pl.i where
  tr := ltL_trans
  no := fun {x y} _ h => Or.inl (by simpa [loL] using h)
  yes := fun {x y} hi h => by
    have f := cmpL_flip x y
    have h2 : ¬ cmpL y x < 0 := by simpa [loL] using h
    unfold ltL
    omega
/-- A number without a sign: negative ones become the lesser half. -/
def rise (n : Int) : Nat := (n + 9223372036854775808).toNat
def fall (n : Nat) : Nat := 18446744073709551615 - n
def numR (x : Pr) (b : Int) (s : Nat) : Nat := if b = 1 then fall (mixN s (groupN x.e.a)) else if b = 2 then rise x.g else if b = 3 then fall (rise x.k) else if b = 4 then rise x.t else 0
def endR (x : Pr) (b : Int) : Endp := if b = 1 ∨ b = 2 ∨ b = 3 ∨ b = 4 then x.e else zeroE
def placeR (x : Pr) (b : Int) (s : Nat) (i : Int) : Pl := ⟨numR x b s, endR x b, i⟩
def countsR (x : Pr) (b : Int) : Bool := decide (b = 1 ∨ b = 4 ∨ (b = 2 ∧ 0 < x.g) ∨ (b = 3 ∧ 0 < x.k))
def aheadR (x y : Pr) (b : Int) (s : Nat) : Bool := loL (placeR x b s 0) (placeR y b s 0)
def cntTo (l : List Pr) (b : Int) (k : Nat) : List Nat := (List.range k).filter fun i => countsR l[i]! b
def placesTo (l : List Pr) (b : Int) (s k : Nat) : List Pl := (cntTo l b k).map fun i : Nat => placeR l[i]! b s (i : Int)
def leR (l : List Pr) (b : Int) (s : Nat) (i j : Nat) : Bool := !decide (ltL (placeR l[j]! b s j) (placeR l[i]! b s i))
/-- The places of all that count, in order. -/
def ordR (l : List Pr) (b : Int) (s : Nat) : List Nat := (cntTo l b l.length).mergeSort (leR l b s)
def firstR (l : List Pr) (b n : Int) (s : Nat) : List Nat := (ordR l b s).take n.toNat
def beforeR (l : List Pr) (i : Nat) (b : Int) (s k : Nat) : List Nat := (List.range k).filter fun j => countsR l[j]! b && aheadR l[j]! l[i]! b s
def rankR (l : List Pr) (i b : Int) (s : Nat) : Int := if 0 ≤ i ∧ i < l.length then ((beforeR l i.toNat b s l.length).length : Int) else -1
theorem rise_lt {n : Int} (h : -9223372036854775808 ≤ n ∧ n ≤ 9223372036854775807) : rise n < 18446744073709551616 := by unfold rise; omega
theorem fall_lt (n : Nat) : fall n < 18446744073709551616 := by unfold fall; omega
theorem num_lt {x : Pr} (hx : x.ok) (b : Int) (s : Nat) : numR x b s < 18446744073709551616 := by
  unfold numR
  split
  · exact fall_lt _
  · split
    · exact rise_lt hx.2.2.2.1
    · split
      · exact fall_lt _
      · split
        · exact rise_lt hx.2.1
        · decide
theorem zeroE_ok : zeroE.ok := ⟨⟨by decide, by decide⟩, by decide, by decide⟩
theorem place_ok {x : Pr} (hx : x.ok) (b : Int) (s : Nat) {i : Int} (hi : -9223372036854775808 ≤ i ∧ i ≤ 9223372036854775807) : (placeR x b s i).ok := by
  refine ⟨num_lt hx b s, ?_, hi⟩
  show (endR x b).ok
  unfold endR
  split
  · exact hx.1
  · exact zeroE_ok
theorem cntTo_succ_yes {l : List Pr} {b : Int} {k : Nat} (h : countsR l[k]! b = true) : cntTo l b (k + 1) = cntTo l b k ++ [k] := by
  unfold cntTo; rw [List.range_succ, List.filter_append]; simp only [List.filter_cons, h, if_true, List.filter_nil, List.append_nil, if_false, Bool.false_eq_true]
theorem cntTo_succ_no {l : List Pr} {b : Int} {k : Nat} (h : countsR l[k]! b = false) : cntTo l b (k + 1) = cntTo l b k := by
  unfold cntTo; rw [List.range_succ, List.filter_append]; simp only [List.filter_cons, h, if_true, List.filter_nil, List.append_nil, if_false, Bool.false_eq_true]
theorem cntTo_le (l : List Pr) (b : Int) (k : Nat) : (cntTo l b k).length ≤ k := by
  unfold cntTo
  have := List.length_filter_le (fun i => countsR l[i]! b) (List.range k)
  simpa using this
theorem cntTo_mem {l : List Pr} {b : Int} {k i : Nat} : i ∈ cntTo l b k ↔ i < k ∧ countsR l[i]! b = true := by unfold cntTo; simp
theorem cntTo_sorted (l : List Pr) (b : Int) (k : Nat) : (cntTo l b k).Pairwise (· < ·) := by
  unfold cntTo; exact List.Pairwise.filter _ List.pairwise_lt_range
theorem ltL_place (l : List Pr) (b : Int) (s : Nat) (i j : Nat) (h : i ≠ j) : ltL (placeR l[i]! b s i) (placeR l[j]! b s j) ∨ ltL (placeR l[j]! b s j) (placeR l[i]! b s i) := by
  have f := cmpL_flip (placeR l[i]! b s i) (placeR l[j]! b s j)
  unfold ltL
  have e1 : (placeR l[i]! b s i).i = (i : Int) := rfl
  have e2 : (placeR l[j]! b s j).i = (j : Int) := rfl
  rw [e1, e2]
  omega
theorem ordR_mem {l : List Pr} {b : Int} {s i : Nat} : i ∈ ordR l b s ↔ i < l.length ∧ countsR l[i]! b = true := by
  unfold ordR; rw [List.mem_mergeSort, cntTo_mem]
theorem ordR_length (l : List Pr) (b : Int) (s : Nat) : (ordR l b s).length = (cntTo l b l.length).length := by unfold ordR; rw [List.length_mergeSort]
theorem ordR_le (l : List Pr) (b : Int) (s : Nat) : (ordR l b s).length ≤ l.length := by rw [ordR_length]; exact cntTo_le l b _
/-- Each stands strictly ahead of those behind it. -/
theorem ordR_sorted (l : List Pr) (b : Int) (s : Nat) : (ordR l b s).Pairwise fun i j : Nat => ltL (placeR l[i]! b s (i : Int)) (placeR l[j]! b s (j : Int)) := by
  have h1 := List.pairwise_mergeSort (le := leR l b s) (fun x y z h1 h2 => by
    unfold leR at *
    simp only [Bool.not_eq_true', decide_eq_false_iff_not] at *
    intro h
    by_cases e : x = y
    · subst e; exact h2 h
    · by_cases e2 : y = z
      · subst e2; exact h1 h
      · have k1 := (ltL_place l b s x y e).resolve_right h1
        have k2 := (ltL_place l b s y z e2).resolve_right h2
        exact ltL_asy _ _ (ltL_trans k1 k2) h) (fun x y => by
    unfold leR
    cases h : decide (ltL (placeR l[y]! b s y) (placeR l[x]! b s x))
    · rfl
    · have := ltL_asy _ _ (of_decide_eq_true h)
      simp only [decide_eq_false this]; rfl) (cntTo l b l.length)
  have hn : (ordR l b s).Nodup := by
    unfold ordR
    refine (List.mergeSort_perm _ _).nodup_iff.2 ?_
    exact (cntTo_sorted l b _).imp fun {a c} h => Nat.ne_of_lt h
  refine (h1.and hn).imp fun {i j} ⟨h, hne⟩ => ?_
  unfold leR at h
  simp only [Bool.not_eq_true', decide_eq_false_iff_not] at h
  exact (ltL_place l b s i j hne).resolve_right h
theorem placesTo_length (l : List Pr) (b : Int) (s k : Nat) : (placesTo l b s k).length = (cntTo l b k).length := by simp [placesTo]
/-- Sorted, the places of all that count are those of the order. -/
theorem places_sorted {l : List Pr} {b : Int} {s : Nat} {L : List Pl} (h : L.Pairwise ltL) (hm : ∀ x, x ∈ L ↔ x ∈ placesTo l b s l.length) : L = (ordR l b s).map fun i : Nat => placeR l[i]! b s (i : Int) := by
  refine sorted_one ltL_irr ltL_asy h ?_ fun x => ?_
  · rw [List.pairwise_map]; exact ordR_sorted l b s
  · rw [hm]
    unfold placesTo
    simp only [List.mem_map, cntTo_mem, ordR_mem]
theorem places_asc (l : List Pr) (b : Int) (s k : Nat) : (placesTo l b s k).Pairwise fun x y => x.i < y.i := by
  unfold placesTo
  rw [List.pairwise_map]
  exact (cntTo_sorted l b k).imp fun {a c} h => by show (a : Int) < (c : Int); omega
theorem places_ok {l : List Pr} {b : Int} {s k : Nat} (hl : ∀ x ∈ l, x.ok) (hk : k ≤ l.length) (hn : l.length ≤ 1000000) : ∀ x ∈ placesTo l b s k, x.ok := fun x hx => by
  obtain ⟨i, hi, rfl⟩ := List.mem_map.1 hx
  have h1 := cntTo_mem.1 hi
  refine place_ok ?_ b s (by omega)
  rw [getElem!_pos l i (by omega)]
  exact hl _ (List.getElem_mem _)
theorem placesTo_yes {l : List Pr} {b : Int} {s k : Nat} (h : countsR l[k]! b = true) : placesTo l b s (k + 1) = placesTo l b s k ++ [placeR l[k]! b s k] := by
  unfold placesTo; rw [cntTo_succ_yes h, List.map_append]; rfl
theorem placesTo_no {l : List Pr} {b : Int} {s k : Nat} (h : countsR l[k]! b = false) : placesTo l b s (k + 1) = placesTo l b s k := by
  unfold placesTo; rw [cntTo_succ_no h]
theorem before_yes {l : List Pr} {i : Nat} {b : Int} {s k : Nat} (h : (countsR l[k]! b && aheadR l[k]! l[i]! b s) = true) : (beforeR l i b s (k + 1)).length = (beforeR l i b s k).length + 1 := by
  unfold beforeR; rw [List.range_succ, List.filter_append, List.length_append]
  simp only [List.filter_cons, h, if_true, List.filter_nil, List.length_cons, List.length_nil]
theorem before_no {l : List Pr} {i : Nat} {b : Int} {s k : Nat} (h : (countsR l[k]! b && aheadR l[k]! l[i]! b s) = false) : (beforeR l i b s (k + 1)).length = (beforeR l i b s k).length := by
  unfold beforeR; rw [List.range_succ, List.filter_append, List.length_append]
  simp only [List.filter_cons, h, List.filter_nil, List.length_nil, Bool.false_eq_true, if_false, Nat.add_zero]
theorem before_le (l : List Pr) (i : Nat) (b : Int) (s k : Nat) : (beforeR l i b s k).length ≤ k := by
  unfold beforeR
  have := List.length_filter_le (fun j => countsR l[j]! b && aheadR l[j]! l[i]! b s) (List.range k)
  simpa using this
end Go.Proofs.Ytgnjbbohphoojaa.Ra
/- Of layer 18 (rank), in plain words: one after the other picked, as the document has it; the order of peers with unlike ends, however they are turned; ranks and places. -/
namespace Go.Proofs.Ytgnjbbohphoojaa.Ra
set_option maxRecDepth 100000
set_option linter.unusedVariables false
open Dec Words V4 V6 Ad Ci En Sat Ha Pe Stb Gr Mi
abbrev plR (l : List Pr) (b : Int) (s : Nat) (i : Nat) : Pl := placeR l[i]! b s (i : Int)
theorem cmp_plR (l : List Pr) (b : Int) (s i j : Nat) : cmpL (plR l b s i) (plR l b s j) = cmpL (placeR l[i]! b s 0) (placeR l[j]! b s 0) := rfl
/-- Who is picked of the first i, if those of the first k of the order are used. -/
def PickR (l : List Pr) (b : Int) (s k i : Nat) (a : Int) : Prop :=
  (a = -1 ∧ ∀ j, j < i → j ∉ (ordR l b s).take k → countsR l[j]! b = false) ∨
  ∃ m : Nat, a = (m : Int) ∧ m < i ∧ m ∉ (ordR l b s).take k ∧ countsR l[m]! b = true ∧ ∀ j, j < i → j ∉ (ordR l b s).take k → countsR l[j]! b = true → j ≠ m → ltL (plR l b s m) (plR l b s j)
section
variable {l : List Pr} {b : Int} {s k i : Nat} {a : Int}
theorem pick_start : PickR l b s k 0 (-1) := Or.inl ⟨rfl, fun j hj => by omega⟩
theorem pick_skip (h : PickR l b s k i a) (hs : i ∈ (ordR l b s).take k ∨ countsR l[i]! b = false) : PickR l b s k (i + 1) a := by
  rcases h with ⟨h1, h2⟩ | ⟨m, h1, h2, h3, h4, h5⟩
  · refine Or.inl ⟨h1, fun j hj hu => ?_⟩
    by_cases e : j = i
    · subst e
      rcases hs with hs | hs
      · exact (hu hs).elim
      · exact hs
    · exact h2 j (by omega) hu
  · refine Or.inr ⟨m, h1, by omega, h3, h4, fun j hj hu hc hne => ?_⟩
    by_cases e : j = i
    · subst e
      rcases hs with hs | hs
      · exact (hu hs).elim
      · rw [hs] at hc; cases hc
    · exact h5 j (by omega) hu hc hne
theorem pick_first (h : PickR l b s k i a) (ha : a < 0) (hu : i ∉ (ordR l b s).take k) (hc : countsR l[i]! b = true) : PickR l b s k (i + 1) (i : Int) := by
  rcases h with ⟨h1, h2⟩ | ⟨m, h1, _⟩
  · refine Or.inr ⟨i, rfl, by omega, hu, hc, fun j hj hu2 hc2 hne => ?_⟩
    have := h2 j (by omega) hu2
    rw [this] at hc2; cases hc2
  · omega
theorem pick_better {m : Nat} (h : PickR l b s k i (m : Int)) (hu : i ∉ (ordR l b s).take k) (hc : countsR l[i]! b = true) (hq : aheadR l[i]! l[m]! b s = true) : PickR l b s k (i + 1) (i : Int) := by
  rcases h with ⟨h1, h2⟩ | ⟨m2, h1, h2, h3, h4, h5⟩
  · omega
  · obtain rfl : m = m2 := by omega
    have hlt : ltL (plR l b s i) (plR l b s m) := by
      left
      rw [cmp_plR]
      simpa [aheadR, loL] using hq
    refine Or.inr ⟨i, rfl, by omega, hu, hc, fun j hj hu2 hc2 hne => ?_⟩
    by_cases e : j = m
    · subst e; exact hlt
    · exact ltL_trans hlt (h5 j (by omega) hu2 hc2 e)
theorem pick_worse {m : Nat} (h : PickR l b s k i (m : Int)) (hq : aheadR l[i]! l[m]! b s = false) : PickR l b s k (i + 1) (m : Int) := by
  rcases h with ⟨h1, h2⟩ | ⟨m2, h1, h2, h3, h4, h5⟩
  · omega
  · obtain rfl : m = m2 := by omega
    refine Or.inr ⟨m, rfl, by omega, h3, h4, fun j hj hu2 hc2 hne => ?_⟩
    by_cases e : j = i
    · subst e
      have hn : ¬ cmpL (placeR l[j]! b s 0) (placeR l[m]! b s 0) < 0 := by simpa [aheadR, loL] using hq
      have hf := cmpL_flip (placeR l[j]! b s 0) (placeR l[m]! b s 0)
      unfold ltL
      rw [cmp_plR]
      show _ ∨ (_ ∧ (m : Int) < (j : Int))
      omega
    · exact h5 j (by omega) hu2 hc2 hne
theorem ord_at (hk : k < (ordR l b s).length) : (ordR l b s)[k] ∉ (ordR l b s).take k := by
  intro h
  obtain ⟨q, hq, e⟩ := List.getElem_of_mem h
  rw [List.length_take] at hq
  rw [List.getElem_take] at e
  have := List.pairwise_iff_getElem.1 (ordR_sorted l b s) q k (by omega) hk (by omega)
  rw [e] at this
  exact ltL_irr _ this
theorem pick_none (h : PickR l b s k l.length a) (ha : a < 0) (hk : k ≤ (ordR l b s).length) : k = (ordR l b s).length := by
  rcases h with ⟨h1, h2⟩ | ⟨m, h1, _⟩
  · refine Nat.le_antisymm hk (Nat.le_of_not_lt fun hlt => ?_)
    have hm := ordR_mem.1 (List.getElem_mem hlt)
    have := h2 _ hm.1 (ord_at hlt)
    rw [hm.2] at this; cases this
  · omega
theorem pick_one {m : Nat} (h : PickR l b s k l.length (m : Int)) : k < (ordR l b s).length ∧ (ordR l b s)[k]! = m ∧ m < l.length := by
  rcases h with ⟨h1, h2⟩ | ⟨m2, h1, h2, h3, h4, h5⟩
  · omega
  · obtain rfl : m = m2 := by omega
    have hmO : m ∈ ordR l b s := ordR_mem.2 ⟨h2, h4⟩
    obtain ⟨p, hp, e⟩ := List.getElem_of_mem hmO
    have hkp : k ≤ p := Nat.le_of_not_lt fun hlt => h3 (by
      rw [← e]
      have : ((ordR l b s).take k)[p]'(by rw [List.length_take]; omega) = (ordR l b s)[p] := List.getElem_take
      rw [← this]
      exact List.getElem_mem _)
    have hk : k < (ordR l b s).length := by omega
    refine ⟨hk, ?_, h2⟩
    rw [getElem!_pos _ k hk]
    by_cases ekp : p = k
    · subst ekp; exact e
    · have hs := List.pairwise_iff_getElem.1 (ordR_sorted l b s) k p hk hp (by omega)
      rw [e] at hs
      have hm := ordR_mem.1 (List.getElem_mem hk)
      have hne : (ordR l b s)[k] ≠ m := fun e2 => by rw [e2] at hs; exact ltL_irr _ hs
      exact (ltL_asy _ _ hs (h5 _ hm.1 (ord_at hk) hm.2 hne)).elim
/-- Those used behind one more. -/
theorem used_next {j : Nat} (hk : k < (ordR l b s).length) : (j ∈ (ordR l b s).take (k + 1)) ↔ (j = (ordR l b s)[k]! ∨ j ∈ (ordR l b s).take k) := by
  rw [List.take_succ_eq_append_getElem hk, List.mem_append, getElem!_pos _ k hk]
  simp only [List.mem_singleton]
  exact Or.comm
theorem take_next (hk : k < (ordR l b s).length) : (ordR l b s).take (k + 1) = (ordR l b s).take k ++ [(ordR l b s)[k]!] := by
  rw [List.take_succ_eq_append_getElem hk, getElem!_pos _ k hk]
theorem take_done {n : Int} (hk : k ≤ n.toNat) (h : ¬ (k : Int) < n ∨ (ordR l b s).length ≤ k) : (ordR l b s).take k = firstR l b n s := by
  unfold firstR
  rcases h with h | h
  · rw [show n.toNat = k by omega]
  · rw [List.take_of_length_le h, List.take_of_length_le (by omega)]
end
end Go.Proofs.Ytgnjbbohphoojaa.Ra
/- Of layer 18 (rank), in plain words: peers with unlike ends stand in just one order, however they are turned; the first are those whose rank is below their number. -/
namespace Go.Proofs.Ytgnjbbohphoojaa.Ra
set_option maxRecDepth 100000
set_option linter.unusedVariables false
open Dec Words V4 V6 Ad Ci En Sat Ha Pe Stb Gr Mi
/-- No two have one end. -/
def Unlike (l : List Pr) : Prop := l.Pairwise fun x y => x.e ≠ y.e
def ltP (b : Int) (s : Nat) (x y : Pr) : Prop := cmpL (placeR x b s 0) (placeR y b s 0) < 0
theorem counts_by {x : Pr} {b : Int} (h : countsR x b = true) : b = 1 ∨ b = 2 ∨ b = 3 ∨ b = 4 := by
  unfold countsR at h
  have := of_decide_eq_true h
  omega
theorem cmp_ends {x y : Pr} {b : Int} {s : Nat} (hb : b = 1 ∨ b = 2 ∨ b = 3 ∨ b = 4) (h : cmpL (placeR x b s 0) (placeR y b s 0) = 0) : x.e = y.e := by
  have e := ((cmpL_zero _ _).1 h).2
  unfold placeR endR at e
  simp only [if_pos hb] at e
  exact e
theorem unlike_at {l : List Pr} (h : Unlike l) {i j : Nat} (hi : i < l.length) (hj : j < l.length) (e : (l[i]!).e = (l[j]!).e) : i = j := by
  rw [getElem!_pos l i hi, getElem!_pos l j hj] at e
  have h2 := List.pairwise_iff_getElem.1 h
  rcases Nat.lt_trichotomy i j with c | c | c
  · exact (h2 i j hi hj c e).elim
  · exact c
  · exact (h2 j i hj hi c e.symm).elim
theorem ltP_of {l : List Pr} {b : Int} {s : Nat} (h : Unlike l) {i j : Nat} (hi : i < l.length) (hj : j < l.length) (hb : b = 1 ∨ b = 2 ∨ b = 3 ∨ b = 4) (hl : ltL (plR l b s i) (plR l b s j)) : ltP b s l[i]! l[j]! := by
  rcases hl with hl | ⟨h0, hlt⟩
  · rw [cmp_plR] at hl; exact hl
  · rw [cmp_plR] at h0
    have := unlike_at h hi hj (cmp_ends hb h0)
    have h2 : (i : Int) < (j : Int) := hlt
    omega
theorem ltP_irr (b : Int) (s : Nat) (x : Pr) : ¬ ltP b s x x := by
  have := (cmpL_zero (placeR x b s 0) (placeR x b s 0)).2 ⟨rfl, rfl⟩
  unfold ltP; omega
theorem ltP_asy (b : Int) (s : Nat) (x y : Pr) (h : ltP b s x y) : ¬ ltP b s y x := by
  have := cmpL_flip (placeR x b s 0) (placeR y b s 0)
  unfold ltP at *; omega
theorem map_sorted {l : List Pr} {b : Int} {s : Nat} (h : Unlike l) : ((ordR l b s).map fun i : Nat => l[i]!).Pairwise (ltP b s) := by
  rw [List.pairwise_map]
  have hs := ordR_sorted l b s
  rw [List.pairwise_iff_getElem] at hs ⊢
  intro i j hi hj hij
  have mi := ordR_mem.1 (List.getElem_mem hi)
  have mj := ordR_mem.1 (List.getElem_mem hj)
  exact ltP_of h mi.1 mj.1 (counts_by mi.2) (hs i j hi hj hij)
theorem map_mem {l : List Pr} {b : Int} {s : Nat} (x : Pr) : x ∈ ((ordR l b s).map fun i : Nat => l[i]!) ↔ x ∈ l ∧ countsR x b = true := by
  simp only [List.mem_map, ordR_mem]
  constructor
  · rintro ⟨i, ⟨hi, hc⟩, rfl⟩
    refine ⟨?_, hc⟩
    rw [getElem!_pos l i hi]
    exact List.getElem_mem _
  · rintro ⟨hx, hc⟩
    obtain ⟨i, hi, rfl⟩ := List.getElem_of_mem hx
    exact ⟨i, ⟨hi, by rw [getElem!_pos l i hi]; exact hc⟩, getElem!_pos l i hi⟩
def turnR (l : List Pr) (k : Nat) : List Pr := l.drop k ++ l.take k
theorem turn_perm (l : List Pr) (k : Nat) : (turnR l k).Perm l := by
  unfold turnR
  exact List.perm_append_comm.trans (by rw [List.take_append_drop])
theorem turn_length (l : List Pr) (k : Nat) : (turnR l k).length = l.length := (turn_perm l k).length_eq
theorem turn_unlike {l : List Pr} (h : Unlike l) (k : Nat) : Unlike (turnR l k) := ((turn_perm l k).pairwise_iff (fun h e => h e.symm)).2 h
theorem order_one {l : List Pr} (h : Unlike l) (k : Nat) (b : Int) (s : Nat) : ((ordR l b s).map fun i : Nat => l[i]!) = ((ordR (turnR l k) b s).map fun i : Nat => (turnR l k)[i]!) := by
  refine sorted_one (ltP_irr b s) (ltP_asy b s) (map_sorted h) (map_sorted (turn_unlike h k)) fun x => ?_
  rw [map_mem, map_mem, (turn_perm l k).mem_iff]
theorem first_one {l : List Pr} (h : Unlike l) (k : Nat) (b n : Int) (s : Nat) : ((firstR l b n s).map fun i : Nat => l[i]!) = ((firstR (turnR l k) b n s).map fun i : Nat => (turnR l k)[i]!) := by
  unfold firstR
  rw [List.map_take, List.map_take, order_one h k b s]
theorem first_length {l : List Pr} (h : Unlike l) (k : Nat) (b n : Int) (s : Nat) : (firstR l b n s).length = (firstR (turnR l k) b n s).length := by
  have := congrArg List.length (first_one h k b n s)
  simpa using this
theorem first_at {l : List Pr} (h : Unlike l) (k : Nat) (b n : Int) (s : Nat) {i : Nat} (hi : i < (firstR l b n s).length) : l[(firstR l b n s)[i]!]! = (turnR l k)[(firstR (turnR l k) b n s)[i]!]! := by
  have hl := first_length h k b n s
  have e := congrArg (fun L => L[i]?) (first_one h k b n s)
  simp only [List.getElem?_map, List.getElem?_eq_getElem hi, List.getElem?_eq_getElem (hl ▸ hi), Option.map_some, Option.some.injEq] at e
  rw [getElem!_pos (firstR l b n s) i hi, getElem!_pos (firstR (turnR l k) b n s) i (hl ▸ hi)]
  exact e
theorem first_mem {l : List Pr} {b n : Int} {s i : Nat} (h : i ∈ firstR l b n s) : i < l.length := by
  unfold firstR at h
  exact (ordR_mem.1 (List.mem_of_mem_take h)).1
theorem first_lt {l : List Pr} {b n : Int} {s i : Nat} (hi : i < (firstR l b n s).length) : (firstR l b n s)[i]! < l.length := by
  rw [getElem!_pos _ i hi]; exact first_mem (List.getElem_mem _)
/-- As many stand ahead of one as stand ahead of it in the order. -/
theorem rank_at {l : List Pr} (h : Unlike l) {b : Int} {s p : Nat} (hp : p < (ordR l b s).length) : (beforeR l (ordR l b s)[p] b s l.length).length = p := by
  have hm := ordR_mem.1 (List.getElem_mem hp)
  have hs := List.pairwise_iff_getElem.1 (ordR_sorted l b s)
  have hnO : (ordR l b s).Nodup := (ordR_sorted l b s).imp fun {i j} hl e => by subst e; exact ltL_irr _ hl
  have hn1 : (beforeR l (ordR l b s)[p] b s l.length).Nodup := by
    unfold beforeR; exact List.Pairwise.filter _ List.nodup_range
  have hn2 : ((ordR l b s).take p).Nodup := List.Pairwise.sublist (List.take_sublist _ _) hnO
  have e : (beforeR l (ordR l b s)[p] b s l.length).Perm ((ordR l b s).take p) := by
    rw [List.perm_ext_iff_of_nodup hn1 hn2]
    intro i
    unfold beforeR
    rw [List.mem_filter, List.mem_range, Bool.and_eq_true]
    constructor
    · rintro ⟨hi, hc, ha⟩
      have hlt : cmpL (placeR l[i]! b s 0) (placeR l[(ordR l b s)[p]]! b s 0) < 0 := by simpa [aheadR, loL] using ha
      obtain ⟨q, hq, rfl⟩ := List.getElem_of_mem (ordR_mem (s := s).2 ⟨hi, hc⟩)
      have hqp : q < p := by
        rcases Nat.lt_trichotomy q p with c | c | c
        · exact c
        · subst c
          exact (ltP_irr b s _ hlt).elim
        · have := hs p q hp hq c
          have h2 : ltL (plR l b s (ordR l b s)[q]) (plR l b s (ordR l b s)[p]) := Or.inl (by rw [cmp_plR]; exact hlt)
          exact (ltL_asy _ _ this h2).elim
      have : ((ordR l b s).take p)[q]'(by rw [List.length_take]; omega) = (ordR l b s)[q] := List.getElem_take
      rw [← this]
      exact List.getElem_mem _
    · intro hi
      obtain ⟨q, hq, e⟩ := List.getElem_of_mem hi
      rw [List.length_take] at hq
      rw [List.getElem_take] at e
      subst e
      have mq := ordR_mem.1 (List.getElem_mem (show q < (ordR l b s).length by omega))
      refine ⟨mq.1, mq.2, ?_⟩
      have := ltP_of h mq.1 hm.1 (counts_by mq.2) (hs q p (by omega) hp (by omega))
      unfold aheadR loL
      exact decide_eq_true this
  rw [e.length_eq, List.length_take]
  omega
theorem first_rank {l : List Pr} (h : Unlike l) {b n : Int} {s j : Nat} (hj : j < l.length) : decide (j ∈ firstR l b n s) = (countsR l[j]! b && decide (rankR l j b s < n)) := by
  have hr : rankR l j b s = ((beforeR l j b s l.length).length : Int) := by unfold rankR; rw [if_pos (by omega), Int.toNat_natCast]
  rw [hr]
  cases hc : countsR l[j]! b with
  | false =>
    rw [Bool.false_and, decide_eq_false_iff_not]
    intro hm
    unfold firstR at hm
    have := (ordR_mem.1 (List.mem_of_mem_take hm)).2
    rw [hc] at this; cases this
  | true =>
    rw [Bool.true_and, decide_eq_decide]
    obtain ⟨p, hp, rfl⟩ := List.getElem_of_mem (ordR_mem (s := s).2 ⟨hj, hc⟩)
    rw [rank_at h hp]
    have hnO : (ordR l b s).Nodup := (ordR_sorted l b s).imp fun {i j} hl e => by subst e; exact ltL_irr _ hl
    unfold firstR
    constructor
    · intro hm
      obtain ⟨q, hq, e⟩ := List.getElem_of_mem hm
      rw [List.length_take] at hq
      rw [List.getElem_take] at e
      have : q = p := by
        have h2 := List.pairwise_iff_getElem.1 hnO
        rcases Nat.lt_trichotomy q p with c | c | c
        · exact (h2 q p (by omega) hp c e).elim
        · exact c
        · exact (h2 p q hp (by omega) c e.symm).elim
      omega
    · intro hlt
      have : ((ordR l b s).take n.toNat)[p]'(by rw [List.length_take]; omega) = (ordR l b s)[p] := List.getElem_take
      rw [← this]
      exact List.getElem_mem _
/-- The order is known by its list. -/
theorem ordR_is {l : List Pr} {b : Int} {s : Nat} {L : List Nat} (hs : L.Pairwise fun i j : Nat => ltL (placeR l[i]! b s (i : Int)) (placeR l[j]! b s (j : Int))) (hm : ∀ x, x ∈ L ↔ x < l.length ∧ countsR l[x]! b = true) : ordR l b s = L :=
  sorted_one (lt := fun i j : Nat => ltL (placeR l[i]! b s (i : Int)) (placeR l[j]! b s (j : Int))) (fun x => ltL_irr _) (fun x y => ltL_asy _ _) (ordR_sorted l b s) hs fun x => by rw [ordR_mem, hm]
end Go.Proofs.Ytgnjbbohphoojaa.Ra
/- Lists of peers in memory, of no one package: those that came in, one read, one list put behind another; a place around. -/
namespace Go.Proofs.Ytgnjbbohphoojaa.Ra
set_option maxRecDepth 100000
open Go.ChangeShapes Go.WideShapes Go.ChangeAt Go.RowKit
open Dec Words V4 V6 Ad Ci En Sat Ha Pe Stb Gr Mi Go.Deep
set_option linter.unusedVariables false
abbrev Peers (w : World) (v : Value) (l : List Pr) : Prop := Recs 10 encP w v l
theorem low_trans'' {B : Nat} {a b c : World} (h : Below B a b) (k : Lows b c) (hB : B ≤ a.heap.size := by exact Nat.le_refl _) : Below B a c := h.trans (k.mono (Nat.le_trans hB h.size))
theorem peer_at {w : World} {bb o : Nat} {l : List Pr} {wr : World} (hlow : Below w.heap.size w wr) (hb : bb < w.heap.size) (hcc : ∀ i (h : i < l.length) j u, (encP l[i])[j]? = some u → w.cell? ⟨bb, o + i * 10 + j, none⟩ = some u) {i : Nat} (hi : i < l.length) {j : Nat} {u : Value} (hu : (encP l[i]!)[j]? = some u) : wr.cell? ⟨bb, o + i * 10 + j, none⟩ = some u := by
  rw [getElem!_pos l i hi] at hu
  exact (hlow.cell (p := ⟨bb, o + i * 10 + j, none⟩) hb).trans (hcc i hi j u hu)
abbrev OwnP (B : Nat) (w : World) (v : Value) (l : List Pr) : Prop := w.ownsRow B 50 10 v l.length (flat encP l)
theorem encP_len (x : Pr) : (encP x).length = 10 := rfl
theorem encP_one : ∀ x, ∀ u ∈ encP x, u.oneCell' = true := fun x u hu => by
  simp only [encP, List.mem_cons, List.not_mem_nil, or_false] at hu
  rcases hu with rfl | rfl | rfl | rfl | rfl | rfl | rfl | rfl | rfl | rfl <;> rfl
theorem ownP_lit (W : World) {B : Nat} (hB : B ≤ W.heap.size) : OwnP B (W.alloc (.cells #[] 50)) (.slice (some ⟨W.heap.size, 0, none⟩) 0 0) [] := World.ownsRow_made W #[] 0 hB (by simp [maxLen]) rfl
theorem append_peers {B : Nat} {W : World} {v x : Value} {xs ys : List Pr} (hown : OwnP B W v xs) (hy : Peers W x ys) (hlen : xs.length + ys.length ≤ 1000000) (hB : B ≤ W.heap.size) :
    ∃ v' w', (Builtin.append_ #[23, 23] 23 #[v, x]).run Try.prog W = .ok v' w' ∧ OwnP B w' v' (xs ++ ys) ∧ Below B W w' :=
  append_recs (P := Try.prog) (z := .agg #[.bool false, .int .u64 0, .int .u64 0, .int .i64 0, .bool false, .int .i64 0, .int .i64 0, .int .i64 0, .int .i64 0, .int .i64 0]) (bytes := 80) Try.underlying23 (by kernel_rfl) rfl (by decide) encP_len encP_one hown hy (by omega) (by omega) hB
theorem recs_at {w wr : World} {b o : Nat} {l : List Pr} (hb : b < w.heap.size) (hcc : ∀ i (h : i < l.length) j u, (encP l[i])[j]? = some u → w.cell? ⟨b, o + i * 10 + j, none⟩ = some u) {i : Nat} (hi : i < l.length) (hL : Lows w wr) {j : Nat} {u : Value} (hu : (encP l[i]!)[j]? = some u) : wr.cell? ⟨b, o + i * 10 + j, none⟩ = some u := by
  rw [getElem!_pos l i hi] at hu
  exact (hL.cell (p := ⟨b, o + i * 10 + j, none⟩) hb).trans (hcc i hi j u hu)
/-- Peers that came in. -/
theorem open_peers {H : Type} {enc : TypeId × Value → H} {W : World} {v : Value} {d : DataW H} {ps : List MemPlace} {r : Reach} {b0 : Nat}
    (hval : Value.okWide Try.prog W r b0 23 v) (h : DataW.Trod enc Try.prog W 0 (fun _ => true) true 23 v d ps) : ∃ xs : List Pr, Peers W v xs ∧ xs.length ≤ 9223372036854775807 ∧ ∀ x ∈ xs, x.ok :=
  open_recs (encR := encP) (good := Pr.ok) Try.underlying23 (by kernel_rfl) (by decide) (fun _ _ _ hf hl => peer_cells hf hl) hval h
theorem neqPeer_self (x : Pr) (w : World) : (binOp .neq 50 (.agg #[.bool x.e.a.v6, .int .u64 x.e.a.hi, .int .u64 x.e.a.lo, .int .i64 x.e.n, .bool x.i, .int .i64 x.t, .int .i64 x.c.p, .int .i64 x.c.a, .int .i64 x.g, .int .i64 x.k]) (.agg #[.bool x.e.a.v6, .int .u64 x.e.a.hi, .int .u64 x.e.a.lo, .int .i64 x.e.n, .bool x.i, .int .i64 x.t, .int .i64 x.c.p, .int .i64 x.c.a, .int .i64 x.g, .int .i64 x.k])).run Try.prog w = .ok (.bool false) w := by
  have h := eqPeer_self x w
  rw [run_eql_struct] at h
  rw [run_neq_struct]
  generalize (Op.equalIn 10000 50 (.agg #[.bool x.e.a.v6, .int .u64 x.e.a.hi, .int .u64 x.e.a.lo, .int .i64 x.e.n, .bool x.i, .int .i64 x.t, .int .i64 x.c.p, .int .i64 x.c.a, .int .i64 x.g, .int .i64 x.k]) (.agg #[.bool x.e.a.v6, .int .u64 x.e.a.hi, .int .u64 x.e.a.lo, .int .i64 x.e.n, .bool x.i, .int .i64 x.t, .int .i64 x.c.p, .int .i64 x.c.a, .int .i64 x.g, .int .i64 x.k])).run Try.prog w = r at h
  cases r with
  | ok x w' =>
    simp only [Result.andThen_ok, Result.ok.injEq, Value.bool.injEq] at h ⊢
    obtain ⟨rfl, rfl⟩ := h
    exact ⟨rfl, rfl⟩
  | halt x w' => cases h
end Go.Proofs.Ytgnjbbohphoojaa.Ra
