/- Contracts of package shield, second part: Saved, Left, Inside. -/
import Derived.Test.YtlnbjkbbnhjkgaaShield
import Derived.Deep.RegionHeld3
namespace Go.Proofs.Ytlnbjkbbnhjkgaa.Sh
set_option maxRecDepth 100000
open Go.ChangeShapes Go.WideShapes Go.ChangeAt Go.RowKit
open Dec Words V4 V6 Ad Ci En Sat Ha Pe Stb Gr Mi Ra Go.Deep
set_option linter.unusedVariables false
/-- A number's block is none of bools. -/
theorem num_block {w : World} {g n b o : Nat} {t : TypeId} {S : Nat → Bool} {x : Int} (h : Blk w g t (ls n (bv S))) (hc : w.cell? ⟨b, o, none⟩ = some (.int .i64 x)) : b ≠ g := fun e => by
  subst e
  rw [cell_of_row _ _ _ _ _ _ h] at hc
  have hc2 : (ls n (bv S))[o]? = some (.int .i64 x) := by simpa using hc
  obtain ⟨hlt, e⟩ := List.getElem?_eq_some_iff.1 hc2
  rw [ls_get] at e
  cases e
abbrev S19 (W3 : World) (g : Nat) (b m : Int) (w' : World) : Prop := w'.cell? ⟨g, 0, none⟩ = some (.int .i64 b) ∧ w'.cell? ⟨g, 1, none⟩ = some (.int .i64 m) ∧ Lows W3 w'
set_option maxHeartbeats 16000000 in
theorem saved_any (v : Value) (l : List Pr) (q : Qt) (s : Nat) (w : World) (h : Peers w v l) (hok : ∀ x ∈ l, x.ok) (hl : l.length ≤ 1000000) (hs : s < 18446744073709551616) :
    Calls Try.prog 10 #[v, .agg #[.int .i64 q.g, .int .i64 q.p, .int .i64 q.w, .int .i64 q.t], .int .u64 (s : Nat)] w fun e w' => ∃ u, e = .returned u ∧ BoolsI w' u (ls l.length (savedR l q s 4)) ∧ Below w.heap.size w w' := by
  have PW := Lib.hid h
  obtain ⟨A, c, rfl, hc, _, hcell⟩ := h
  have HOK := Lib.hid hok
  have HS := Lib.hid hs
  have R1 := Lib.hid (make_bools (w.alloc (.cells #[.int .i64 q.g, .int .i64 q.p, .int .i64 q.w, .int .i64 q.t] 24)) l.length hl)
  have B0 : Hid (Blk ((w.alloc (.cells #[.int .i64 q.g, .int .i64 q.p, .int .i64 q.w, .int .i64 q.t] 24)).alloc (.cells (madeCells (Value.cells (.bool false)) (l.length * 1)) 4)) (w.heap.size + 1) 4 (ls l.length (bv (savedR l q s 0)))) := Lib.hid (by
    have h := Blk.two w (.cells #[.int .i64 q.g, .int .i64 q.p, .int .i64 q.w, .int .i64 q.t] 24) (madeCells (Value.cells (.bool false)) (l.length * 1)) 4
    rw [made_bools] at h
    exact h)
  have OQ : Hid (Blk ((w.alloc (.cells #[.int .i64 q.g, .int .i64 q.p, .int .i64 q.w, .int .i64 q.t] 24)).alloc (.cells (madeCells (Value.cells (.bool false)) (l.length * 1)) 4)) w.heap.size 24 [.int .i64 q.g, .int .i64 q.p, .int .i64 q.w, .int .i64 q.t]) := Lib.hid ((Blk.new w #[.int .i64 q.g, .int .i64 q.p, .int .i64 q.w, .int .i64 q.t] 24).alloc _)
  have L0 : Hid (Below w.heap.size w ((w.alloc (.cells #[.int .i64 q.g, .int .i64 q.p, .int .i64 q.w, .int .i64 q.t] 24)).alloc (.cells (madeCells (Value.cells (.bool false)) (l.length * 1)) 4))) := Lib.hid (Lows.alloc (Lows.alloc (Lows.self w) _) _)
  rw [show (w.alloc (.cells #[.int .i64 q.g, .int .i64 q.p, .int .i64 q.w, .int .i64 q.t] 24)).heap.size = w.heap.size + 1 from by simp] at R1
  generalize (w.alloc (.cells #[.int .i64 q.g, .int .i64 q.p, .int .i64 q.w, .int .i64 q.t] 24)).alloc (.cells (madeCells (Value.cells (.bool false)) (l.length * 1)) 4) = W4 at R1 B0 L0 OQ
  have q0 := OQ.out.cell (j := 0) rfl
  have q1 := OQ.out.cell (j := 1) rfl
  have q2 := OQ.out.cell (j := 2) rfl
  have q3 := OQ.out.cell (j := 3) rfl
  have KS := Lib.hid (fun W => shares_any q W)
  clear hcell hok hs OQ
  go_enter Try.func10, Try.ntmps10
  go_wp2_with (first
    | (at_make; refine wpList_make_run rfl _ _ _ rfl _ _ _ _ rfl rfl R1.out ?_)
    | fail)
  refine (KS.out _).mono ?_; rintro e9 w2 ⟨rfl, hb2⟩
  have B2 : Hid (Blk w2 (w.heap.size + 1) 4 (ls l.length (bv (savedR l q s 0)))) := Lib.hid (B0.out.on hb2)
  have L2 : Hid (Below w.heap.size w w2) := Lib.hid (low_trans'' L0.out hb2)
  clear hb2 B0 L0 R1 KS q0 q1 q2 q3
  go_wp2_with fail
  go_loopw [18] (fun vi wr => ∃ i : Nat, vi = .int .i64 i ∧ i ≤ 4 ∧ Hid (Blk wr (w.heap.size + 1) 4 (ls l.length (bv (savedR l q s i)))) ∧ Hid (Below w.heap.size w wr)) (fun vi _ => 4 - (intOf vi).toNat)
  case atStart => exact ⟨0, rfl, Nat.zero_le _, B2, L2⟩
  case round =>
    obtain ⟨i, rfl, hi, HB, HL⟩ := hrel
    clear B2 L2
    by_cases hi4 : i < 4
    · have hi4z : (i : Int) < 4 := by omega
      obtain ⟨W, hW⟩ : ∃ W, W = wr := ⟨_, rfl⟩
      subst hW
      have RI := share_at q i hi4
      obtain ⟨b, hb⟩ : ∃ b : Int, b = (i : Int) + 1 := ⟨_, rfl⟩
      obtain ⟨m, hm⟩ : ∃ m, m = q.by b := ⟨_, rfl⟩
      rw [← hb, ← hm] at RI
      obtain ⟨S, hS⟩ : ∃ S, S = savedR l q s i := ⟨_, rfl⟩
      rw [← hS] at HB
      obtain ⟨O, hO⟩ : ∃ O, O = ordX l b s S := ⟨_, rfl⟩
      have HSN : Hid (savedR l q s (i + 1) = upto S O m.toNat) := Lib.hid (by
        show upto _ _ _ = _
        rw [hO, hm, hS, hb]; rfl)
      obtain ⟨R, hR⟩ : ∃ R, R = restR l.length S := ⟨_, rfl⟩
      have HRR : Hid (∀ x ∈ R, x < l.length) := Lib.hid fun x hx => by rw [hR] at hx; exact (rest_mem.1 hx).1
      have HRL : Hid (R.length ≤ l.length) := Lib.hid (by rw [hR]; exact rest_le _ _)
      have HOT : Hid (∀ x ∈ thoseR l R, x.ok) := Lib.hid (those_ok HOK.out HRR.out)
      have HTL : Hid ((thoseR l R).length = R.length) := Lib.hid (those_length l R)
      obtain ⟨F, hF⟩ : ∃ F, F = firstR (thoseR l R) b m s := ⟨_, rfl⟩
      have HF1 : Hid (∀ j, j < F.length → j < O.length ∧ F[j]! < R.length ∧ R[F[j]!]! = O[j]! ∧ O[j]! < l.length) := Lib.hid fun j hj => by
        rw [hF, hR] at hj
        have k := those_first_at (l := l) (b := b) (s := s) (S := S) hj
        rw [hF, hR, hO]
        exact ⟨k.1, k.2.2.1, k.2.2.2.1, k.2.2.2.2⟩
      have hFL : F.length ≤ 1000000 := by
        have k1 := ordX_le l b s S
        have k2 := those_first_length l b m s S
        rw [← hR, ← hF, List.length_take] at k2
        omega
      have HFD : Hid (upto S O F.length = upto S O m.toNat) := Lib.hid (by rw [hF, hR, hO]; exact those_first_done l b m s S)
      have KO : Hid (∀ X v, BoolsI X v (ls l.length S) → Calls Try.prog 23 #[v] X fun e w' => ∃ u, e = .returned u ∧ NumsI w' u R ∧ Below X.heap.size X w') := Lib.hid fun X v h => by rw [hR]; exact others_any v l.length S X h hl
      have KF0 : Hid (∀ X v, Peers X v (thoseR l R) → Calls Try.prog 24 #[v, .int .i64 b, .int .i64 m, .int .u64 (s : Nat)] X fun e w' => ∃ u, e = .returned u ∧ NumsI w' u F ∧ Below X.heap.size X w') := Lib.hid fun X v h => by rw [hF]; exact first_any v (thoseR l R) b m s X h HOT.out (by have := HTL.out; have := HRL.out; omega) HS.out
      have HB1 := Lib.hid (Blk.new W #[.int .i64 b, .int .i64 m] 46)
      have HB5 : Hid (Blk (W.alloc (.cells #[.int .i64 b, .int .i64 m] 46)) (w.heap.size + 1) 4 (ls l.length (bv S))) := Lib.hid (HB.out.alloc _)
      have HL5 : Hid (Below w.heap.size w (W.alloc (.cells #[.int .i64 b, .int .i64 m] 46))) := Lib.hid (low_trans'' HL.out (Lows.alloc (Lows.self W) _))
      have KO5 := Lib.hid (KO.out _ _ (bools_read HB5.out (Nat.le_refl _)))
      clear hb hm hS hO hR hF KO HB
      go_wp2_with fail
      refine KO5.out.mono ?_; rintro e9 w3 ⟨u2, rfl, hU, hb3⟩
      have HU := Lib.hid hU
      obtain ⟨A2, c2, rfl, hc2, hn2, hcell2⟩ := id hU
      have HC2 := Lib.hid hcell2
      have OB := Lib.hid (HB1.out.on hb3)
      have HB6 := Lib.hid (HB5.out.on hb3)
      have HL6 := Lib.hid (low_trans'' HL5.out hb3)
      have IN : Hid (∀ X, Lows w3 X → S19 w3 W.heap.size b m X) := Lib.hid fun X h => ⟨Blk.in OB h rfl, Blk.in OB h rfl, h⟩
      have KT : Hid (∀ X, S19 w3 W.heap.size b m X → Calls Try.prog 25 #[.slice A l.length c, .slice A2 R.length c2] X fun e w' => ∃ x, e = .returned x ∧ Peers w' x (thoseR l R) ∧ Below X.heap.size X w' ∧ S19 w3 W.heap.size b m w') := Lib.hid fun X h => (those_any _ _ l R X (PW.out.below (low_trans'' HL6.out h.2.2)) (HU.out.below h.2.2) HRR.out (by have := HRL.out; omega) hl).mono fun e w' ⟨x, he, hx, hb⟩ => ⟨x, he, hx, hb, IN.out _ (low_trans h.2.2 hb)⟩
      have KF : Hid (∀ X v, Peers X v (thoseR l R) → S19 w3 W.heap.size b m X → Calls Try.prog 24 #[v, .int .i64 b, .int .i64 m, .int .u64 (s : Nat)] X fun e w' => ∃ A3 c3, e = .returned (.slice A3 F.length c3) ∧ NumsI w' (.slice A3 F.length c3) F ∧ S19 w3 W.heap.size b m w') := Lib.hid fun X v h hs => (KF0.out X v h).mono fun e w' ⟨x, he, hx, hb⟩ => by
        obtain ⟨A3, c3, e3, _⟩ := id hx
        subst e3
        exact ⟨A3, c3, he, hx, IN.out _ (low_trans hs.2.2 hb)⟩
      have JD : Hid (∀ X, S19 w3 W.heap.size b m X → S19 w3 W.heap.size b m X.drew) := Lib.hid fun X h => IN.out _ (low_drewN h.2.2 1)
      have hk0 := IN.out _ (Lows.self _)
      have HGG : Hid (w.heap.size + 1 < w3.heap.size) := Lib.hid HB6.out.lt
      clear hU hb3 hc2 hn2 hcell2 KO5 HB1 HB5 HL5 KF0 RI
      obtain ⟨k0, k1, hsk⟩ := id hk0
      go_wp2_with fail
      go_region_held3 (fun w' => w'.cell? ⟨W.heap.size, 0, none⟩ = some (.int .i64 b) ∧ w'.cell? ⟨W.heap.size, 1, none⟩ = some (.int .i64 m) ∧ Lows w3 w')
        (first | (with_reducible assumption) | (with_reducible exact JD.out _ (by with_reducible assumption)))
        (first
          | (go_at_call 25; (with_reducible refine (KT.out _ (by with_reducible assumption)).mono ?_); rintro e w9 ⟨x, rfl, hX, hbX, hkw⟩)
          | (go_at_call 24; (with_reducible refine (KF.out _ _ hX (by with_reducible assumption)).mono ?_); rintro e w9 ⟨A3, c3, rfl, hY, hkw⟩))
      obtain ⟨A3', c3', e3, _, _, hcell3⟩ := id hY
      obtain ⟨rfl, rfl⟩ : A3 = A3' ∧ c3 = c3' := by simpa using e3
      have HC3 := Lib.hid hcell3
      have H39 := Lib.hid hkw.2.2
      have HL9 : Hid (Below w.heap.size w w9) := Lib.hid (low_trans'' HL6.out H39.out)
      have HB9 := Lib.hid (HB6.out.on H39.out)
      have HB90 : Hid (Blk w9 (w.heap.size + 1) 4 (ls l.length (bv (upto S O 0)))) := Lib.hid (by rw [upto_zero]; exact HB9.out)
      clear hY e3 hcell3 hkw hk0 hsk k0 k1 KT KF JD IN HB6 HL6 OB HU
      go_wp2_with fail
      go_loopw [33] (fun vj wr => ∃ j : Nat, vj = .int .i64 j ∧ j ≤ F.length ∧ Hid (Blk wr (w.heap.size + 1) 4 (ls l.length (bv (upto S O j)))) ∧ Hid (Bt (w.heap.size + 1) w9 wr)) (fun vj _ => F.length - (intOf vj).toNat)
      case atStart => exact ⟨0, rfl, Nat.zero_le _, HB90, Lib.hid (Bt.refl _ _)⟩
      case round =>
        obtain ⟨j, rfl, hj, HBj, HT⟩ := hrel
        clear HB90
        by_cases hjF : j < F.length
        · have hjz : (j : Int) < (F.length : Int) := by omega
          obtain ⟨hjO, hfR, hRO, hOl⟩ := HF1.out j hjF
          obtain ⟨b3, o3, rfl, hb3, hcc3⟩ := HC3.out (by omega)
          obtain ⟨b2, o2, rfl, hb2, hcc2⟩ := HC2.out (by omega)
          have n3 := num_at (wr := w9) hb3 hcc3 hjF (fun p _ => rfl)
          have n2 := num_at (wr := w9) hb2 hcc2 hfR (fun p hp => H39.out.cell (p := p) (by omega))
          have e3 := (Bt.cell HT.out (p := ⟨b3, o3 + j, none⟩) (num_block HB9.out n3) hb3).trans n3
          have e2 := (Bt.cell HT.out (p := ⟨b2, o2 + F[j]!, none⟩) (num_block HB9.out n2) (Nat.lt_of_lt_of_le hb2 H39.out.size)).trans n2
          rw [hRO] at e2
          have u0 : wr.cell? ⟨w.heap.size + 1, O[j]!, none⟩ = some (.bool (upto S O j O[j]!)) := HBj.out.cell (by rw [ls_at _ hOl])
          have u1 := HBj.out.free O[j]!
          have HN := Lib.hid (HBj.out.set O[j]! (.bool true))
          have HE := Lib.hid (upto_set (S := S) hjO rfl hOl)
          have HT2 : Hid (Bt (w.heap.size + 1) w9 (wr.setCell ⟨w.heap.size + 1, O[j]!, none⟩ (.bool true))) := Lib.hid (HT.out.trans (Bt.setCell _ _ _ _))
          rw [HE.out] at HN
          clear n3 n2 hRO hcc3 hcc2 hb3 hb2
          have hfz : ((F[j]! : Nat) : Int) < (R.length : Int) := by omega
          have hoz : ((O[j]! : Nat) : Int) < (l.length : Int) := by omega
          clear HE
          generalize F[j]! = f at *
          generalize O[j]! = o at *
          have hjb : j + 1 ≤ 1000000 := by omega
          go_wp2_with fail
          go_roundw
          case rel => exact ⟨j + 1, by go_num, by omega, HN, HT2⟩
          case measure => simp [intOf]; omega
        · have hjz : ¬ (j : Int) < (F.length : Int) := by omega
          have HE : Hid (upto S O j = savedR l q s (i + 1)) := Lib.hid (by rw [HSN.out, ← HFD.out, show j = F.length by omega])
          have HLN : Hid (Below w.heap.size w wr) := Lib.hid (HL9.out.trans (HT.out.low (Nat.le_succ _) HL9.out.size))
          go_wp2_with fail
          go_roundw
          case rel => exact ⟨i + 1, by go_num, by omega, Lib.hid (by rw [← HE.out]; exact HBj.out), HLN⟩
          case measure => simp [intOf]; omega
    · have hi4z : ¬ (i : Int) < 4 := by omega
      have HR : Hid (BoolsI wr (.slice (some ⟨w.heap.size + 1, 0, none⟩) l.length l.length) (ls l.length (savedR l q s i))) := Lib.hid (bools_read HB.out (Nat.le_refl _))
      have HE : Hid (4 = i) := Lib.hid (by omega)
      clear HB
      go_wp2_with fail
      go_ret
      exact ⟨_, rfl, by rw [HE.out]; exact HR.out, HL.out⟩
set_option maxHeartbeats 4000000 in
theorem left_any (v : Value) (l : List Pr) (q : Qt) (s : Nat) (w : World) (h : Peers w v l) (hok : ∀ x ∈ l, x.ok) (hl : l.length ≤ 1000000) (hs : s < 18446744073709551616) :
    Calls Try.prog 13 #[v, .agg #[.int .i64 q.g, .int .i64 q.p, .int .i64 q.w, .int .i64 q.t], .int .u64 (s : Nat)] w fun e w' => ∃ u, e = .returned u ∧ NumsI w' u (leftR l q s) ∧ Below w.heap.size w w' := by
  have L0 : Hid (Lows w (w.alloc (.cells #[.int .i64 q.g, .int .i64 q.p, .int .i64 q.w, .int .i64 q.t] 24))) := Lib.hid (Lows.alloc (Lows.self w) _)
  have KS := Lib.hid (saved_any v l q s (w.alloc (.cells #[.int .i64 q.g, .int .i64 q.p, .int .i64 q.w, .int .i64 q.t] 24)) (h.below L0.out) hok hl hs)
  have OQ := Lib.hid (Blk.new w #[.int .i64 q.g, .int .i64 q.p, .int .i64 q.w, .int .i64 q.t] 24)
  have q0 := OQ.out.cell (j := 0) rfl
  have q1 := OQ.out.cell (j := 1) rfl
  have q2 := OQ.out.cell (j := 2) rfl
  have q3 := OQ.out.cell (j := 3) rfl
  clear h hok hs OQ
  go_enter Try.func13, Try.ntmps13
  go_wp2_with fail
  refine KS.out.mono ?_; rintro e9 w1 ⟨u, rfl, hU, hb1⟩
  have KO := Lib.hid (others_any u l.length _ w1 hU hl)
  have L1 := Lib.hid (low_trans L0.out hb1)
  clear hU hb1 KS q0 q1 q2 q3
  go_wp2_with fail
  refine KO.out.mono ?_; rintro e9 w2 ⟨u2, rfl, hU, hb2⟩
  have HU := Lib.hid hU
  have L2 := Lib.hid (low_trans L1.out hb2)
  clear hU hb2 KO
  go_wp2_with fail
  go_ret
  exact ⟨_, rfl, HU.out, L2.out⟩
theorem ins_next {l : List Pr} {k j : Nat} {q : Qt} {s : Nat} {b : Int} (hb : ((j + 1 : Nat) : Int) = b) (h : ∀ c : Nat, 1 ≤ c → c ≤ j → inR l k q s ((c : Nat) : Int) = false) (hn : inR l k q s b = false) : ∀ c : Nat, 1 ≤ c → c ≤ j + 1 → inR l k q s ((c : Nat) : Int) = false := fun c h1 h2 => by
  by_cases e : c = j + 1
  · rw [e, hb]; exact hn
  · exact h c h1 (by omega)
theorem ins_yes {l : List Pr} {k j : Nat} {q : Qt} {s : Nat} {b : Int} (hb : ((j + 1 : Nat) : Int) = b) (hj : j < 4) (h : inR l k q s b = true) : insR l k q s = true := by
  subst hb
  have : j = 0 ∨ j = 1 ∨ j = 2 ∨ j = 3 := by omega
  have h1 : ((0 + 1 : Nat) : Int) = 1 := rfl
  have h2 : ((1 + 1 : Nat) : Int) = 2 := rfl
  have h3 : ((2 + 1 : Nat) : Int) = 3 := rfl
  have h4 : ((3 + 1 : Nat) : Int) = 4 := rfl
  unfold insR
  rcases this with rfl | rfl | rfl | rfl
  · rw [h1] at h; rw [h]; simp
  · rw [h2] at h; rw [h]; simp
  · rw [h3] at h; rw [h]; simp
  · rw [h4] at h; rw [h]; simp
theorem ins_no {l : List Pr} {k : Nat} {q : Qt} {s : Nat} (h : ∀ c : Nat, 1 ≤ c → c ≤ 4 → inR l k q s ((c : Nat) : Int) = false) : insR l k q s = false := by
  have h1 := h 1 (by decide) (by decide)
  have h2 := h 2 (by decide) (by decide)
  have h3 := h 3 (by decide) (by decide)
  have h4 := h 4 (by decide) (by decide)
  unfold insR
  rw [show inR l k q s 1 = false from h1, show inR l k q s 2 = false from h2, show inR l k q s 3 = false from h3, show inR l k q s 4 = false from h4]
  rfl
set_option maxHeartbeats 16000000 in
theorem inside_any (v : Value) (l : List Pr) (i : Int) (q : Qt) (s : Nat) (w : World) (h : Peers w v l) (hok : ∀ x ∈ l, x.ok) (hl : l.length ≤ 1000000) (hs : s < 18446744073709551616) :
    Calls Try.prog 7 #[v, .int .i64 i, .agg #[.int .i64 q.g, .int .i64 q.p, .int .i64 q.w, .int .i64 q.t], .int .u64 (s : Nat)] w fun e w' => e = .returned (.bool (insideR l i q s)) ∧ Below w.heap.size w w' := by
  have PW := Lib.hid h
  obtain ⟨A, c, rfl, hc, _, hcell⟩ := h
  have HC := Lib.hid hcell
  have HOK := Lib.hid hok
  have HS := Lib.hid hs
  have L0 : Hid (Lows w (w.alloc (.cells #[.int .i64 q.g, .int .i64 q.p, .int .i64 q.w, .int .i64 q.t] 24))) := Lib.hid (Lows.alloc (Lows.self w) _)
  have OQ := Lib.hid (Blk.new w #[.int .i64 q.g, .int .i64 q.p, .int .i64 q.w, .int .i64 q.t] 24)
  clear hcell hok hs
  by_cases hi0 : i < 0
  · have E : Hid (insideR l i q s = false) := Lib.hid (by unfold insideR; rw [decide_eq_false (by omega)]; rfl)
    go_enter Try.func7, Try.ntmps7
    go_wp2_with fail
    go_ret
    exact ⟨ret_b E.out.symm, L0.out⟩
  · by_cases hi1 : i < (l.length : Int)
    · obtain ⟨k, rfl⟩ : ∃ k : Nat, i = (k : Int) := ⟨i.toNat, by omega⟩
      have E : Hid (insideR l k q s = insR l k q s) := Lib.hid (by unfold insideR; rw [decide_eq_true (by omega), Int.toNat_natCast, Bool.true_and])
      have hlk : k < l.length := by omega
      have hkz : (k : Int) < (l.length : Int) := hi1
      have hkz2 : ¬ (l.length : Int) ≤ (k : Int) := by omega
      have KS := Lib.hid (fun W => shares_any q W)
      have q0 := OQ.out.cell (j := 0) rfl
      have q1 := OQ.out.cell (j := 1) rfl
      have q2 := OQ.out.cell (j := 2) rfl
      have q3 := OQ.out.cell (j := 3) rfl
      generalize insideR l k q s = II at E ⊢
      clear hi0 hi1 OQ
      go_enter Try.func7, Try.ntmps7
      go_wp2_with fail
      refine (KS.out _).mono ?_; rintro e9 w2 ⟨rfl, hb2⟩
      have L2 : Hid (Below w.heap.size w w2) := Lib.hid (low_trans'' L0.out hb2)
      clear hb2 L0 KS q0 q1 q2 q3
      go_wp2_with fail
      go_loopw [21] (fun vi wr => ∃ j : Nat, vi = .int .i64 j ∧ j ≤ 4 ∧ Hid (∀ c : Nat, 1 ≤ c → c ≤ j → inR l k q s ((c : Nat) : Int) = false) ∧ Hid (Below w.heap.size w wr)) (fun vi _ => 4 - (intOf vi).toNat)
      case atStart => exact ⟨0, rfl, Nat.zero_le _, Lib.hid (fun c h1 h2 => by omega), L2⟩
      case round =>
        obtain ⟨j, rfl, hj, HI, HL⟩ := hrel
        clear L2
        by_cases hj4 : j < 4
        · have hj4z : (j : Int) < 4 := by omega
          have RI := share_at q j hj4
          obtain ⟨b, hb0⟩ : ∃ b : Int, b = (j : Int) + 1 := ⟨_, rfl⟩
          obtain ⟨m, hm⟩ : ∃ m, m = q.by b := ⟨_, rfl⟩
          rw [← hb0, ← hm] at RI
          have HB : Hid (((j + 1 : Nat) : Int) = b) := Lib.hid (by rw [hb0]; rfl)
          have HM := Lib.hid hm
          have O12 := Lib.hid (Blk.new wr #[.int .i64 b, .int .i64 m] 46)
          have HLW : Hid (Below w.heap.size w (wr.alloc (.cells #[.int .i64 b, .int .i64 m] 46))) := Lib.hid (low_trans'' HL.out (Lows.alloc (Lows.self wr) _))
          obtain ⟨bb, o, rfl, hb, hcc⟩ := HC.out (by omega)
          have hne : Nonempty (Cls (Lows (wr.alloc (.cells #[.int .i64 b, .int .i64 m] 46)))) := ⟨⟨_, Lows.self _⟩⟩
          obtain ⟨x, hx⟩ : ∃ x, x = l[k]! := ⟨_, rfl⟩
          have f0 : ∀ nq : Cls (Lows (wr.alloc (.cells #[.int .i64 b, .int .i64 m] 46))), nq.w.cell? ⟨bb, o + k * 10, none⟩ = some (.bool x.e.a.v6) := fun nq => by rw [hx]; exact peer_at (low_trans'' HLW.out nq.h) hb hcc hlk (j := 0) rfl
          have f1 : ∀ nq : Cls (Lows (wr.alloc (.cells #[.int .i64 b, .int .i64 m] 46))), nq.w.cell? ⟨bb, o + k * 10 + 1, none⟩ = some (.int .u64 x.e.a.hi) := fun nq => by rw [hx]; exact peer_at (low_trans'' HLW.out nq.h) hb hcc hlk (j := 1) rfl
          have f2 : ∀ nq : Cls (Lows (wr.alloc (.cells #[.int .i64 b, .int .i64 m] 46))), nq.w.cell? ⟨bb, o + k * 10 + 2, none⟩ = some (.int .u64 x.e.a.lo) := fun nq => by rw [hx]; exact peer_at (low_trans'' HLW.out nq.h) hb hcc hlk (j := 2) rfl
          have f3 : ∀ nq : Cls (Lows (wr.alloc (.cells #[.int .i64 b, .int .i64 m] 46))), nq.w.cell? ⟨bb, o + k * 10 + 3, none⟩ = some (.int .i64 x.e.n) := fun nq => by rw [hx]; exact peer_at (low_trans'' HLW.out nq.h) hb hcc hlk (j := 3) rfl
          have f4 : ∀ nq : Cls (Lows (wr.alloc (.cells #[.int .i64 b, .int .i64 m] 46))), nq.w.cell? ⟨bb, o + k * 10 + 4, none⟩ = some (.bool x.i) := fun nq => by rw [hx]; exact peer_at (low_trans'' HLW.out nq.h) hb hcc hlk (j := 4) rfl
          have f5 : ∀ nq : Cls (Lows (wr.alloc (.cells #[.int .i64 b, .int .i64 m] 46))), nq.w.cell? ⟨bb, o + k * 10 + 5, none⟩ = some (.int .i64 x.t) := fun nq => by rw [hx]; exact peer_at (low_trans'' HLW.out nq.h) hb hcc hlk (j := 5) rfl
          have f6 : ∀ nq : Cls (Lows (wr.alloc (.cells #[.int .i64 b, .int .i64 m] 46))), nq.w.cell? ⟨bb, o + k * 10 + 6, none⟩ = some (.int .i64 x.c.p) := fun nq => by rw [hx]; exact peer_at (low_trans'' HLW.out nq.h) hb hcc hlk (j := 6) rfl
          have f7 : ∀ nq : Cls (Lows (wr.alloc (.cells #[.int .i64 b, .int .i64 m] 46))), nq.w.cell? ⟨bb, o + k * 10 + 7, none⟩ = some (.int .i64 x.c.a) := fun nq => by rw [hx]; exact peer_at (low_trans'' HLW.out nq.h) hb hcc hlk (j := 7) rfl
          have f8 : ∀ nq : Cls (Lows (wr.alloc (.cells #[.int .i64 b, .int .i64 m] 46))), nq.w.cell? ⟨bb, o + k * 10 + 8, none⟩ = some (.int .i64 x.g) := fun nq => by rw [hx]; exact peer_at (low_trans'' HLW.out nq.h) hb hcc hlk (j := 8) rfl
          have f9 : ∀ nq : Cls (Lows (wr.alloc (.cells #[.int .i64 b, .int .i64 m] 46))), nq.w.cell? ⟨bb, o + k * 10 + 9, none⟩ = some (.int .i64 x.k) := fun nq => by rw [hx]; exact peer_at (low_trans'' HLW.out nq.h) hb hcc hlk (j := 9) rfl
          have g0 : ∀ nq : Cls (Lows (wr.alloc (.cells #[.int .i64 b, .int .i64 m] 46))), nq.w.cell? ⟨wr.heap.size, 0, none⟩ = some (.int .i64 b) := fun nq => Blk.in O12 nq.h rfl
          have g1 : ∀ nq : Cls (Lows (wr.alloc (.cells #[.int .i64 b, .int .i64 m] 46))), nq.w.cell? ⟨wr.heap.size, 1, none⟩ = some (.int .i64 m) := fun nq => Blk.in O12 nq.h rfl
          have Hx := Lib.hid hx
          have KC : Hid (∀ W, Calls Try.prog 18 #[.agg #[.bool x.e.a.v6, .int .u64 x.e.a.hi, .int .u64 x.e.a.lo, .int .i64 x.e.n, .bool x.i, .int .i64 x.t, .int .i64 x.c.p, .int .i64 x.c.a, .int .i64 x.g, .int .i64 x.k], .int .i64 b] W fun e w' => e = .returned (.bool (countsR x b)) ∧ Below W.heap.size W w') := Lib.hid fun W => counts_any x b W
          have KR0 : Hid (∀ W, Lows (wr.alloc (.cells #[.int .i64 b, .int .i64 m] 46)) W → Calls Try.prog 19 #[.slice (some ⟨bb, o, none⟩) l.length c, .int .i64 k, .int .i64 b, .int .u64 (s : Nat)] W fun e w' => e = .returned (.int .i64 (rankR l k b s)) ∧ Lows (wr.alloc (.cells #[.int .i64 b, .int .i64 m] 46)) w') := Lib.hid fun W h => (rank_any _ l k b s W (PW.out.below (low_trans'' HLW.out h)) HOK.out hl HS.out).mono fun e w' ⟨he, hb⟩ => ⟨he, low_trans h hb⟩
          have KR := KR0
          obtain ⟨RR, hRR⟩ : ∃ r, r = rankR l k b s := ⟨_, rfl⟩
          rw [← hRR] at KR
          have HR := Lib.hid hRR
          clear hx hcc hb hm hb0 hRR KR0
          cases hq : countsR x b with
          | false =>
            rw [hq] at KC
            have HN : Hid (inR l k q s b = false) := Lib.hid (by unfold inR; rw [← Hx.out, hq]; rfl)
            clear hq KR Hx
            go_wp2_with fail
            refine Cls.region (Lows (wr.alloc (.cells #[.int .i64 b, .int .i64 m] 46))) (by kernel_rfl) (by kernel_rfl) (low_drewN (Below.refl _ _) 1) ?_
            (try dsimp only [List.append])
            repeat (go_big_quiet_step (first | fail | (with_reducible exact Cls.call ((lows_call KC).out _ (Cls.h _)))))
            refine wpQuiet_nil ?_
            intro n9
            have hk9 := n9.h
            generalize n9.w = w9 at hk9 ⊢
            clear hne n9 f0 f1 f2 f3 f4 f5 f6 f7 f8 f9 g0 g1 KC
            have HLN : Hid (Below w.heap.size w w9) := Lib.hid (low_trans'' HLW.out hk9)
            go_wp2_with fail
            go_roundw
            case rel => exact ⟨j + 1, by go_num, by omega, Lib.hid (ins_next HB.out HI.out HN.out), HLN⟩
            case measure => simp [intOf]; omega
          | true =>
            rw [hq] at KC
            by_cases hr : RR < m
            · have hrz : decide (RR < m) = true := decide_eq_true hr
              have HN : Hid (inR l k q s b = true) := Lib.hid (by unfold inR; rw [← Hx.out, hq, ← HR.out, ← HM.out, decide_eq_true hr]; rfl)
              clear hq Hx
              go_wp2_with fail
              refine Cls.region (Lows (wr.alloc (.cells #[.int .i64 b, .int .i64 m] 46))) (by kernel_rfl) (by kernel_rfl) (low_drewN (Below.refl _ _) 1) ?_
              (try dsimp only [List.append])
              repeat (go_big_quiet_step (first | fail | (with_reducible exact Cls.call ((lows_call KC).out _ (Cls.h _))) | (with_reducible exact Cls.call (KR.out _ (Cls.h _)))))
              refine wpQuiet_nil ?_
              intro n9
              have hk9 := n9.h
              generalize n9.w = w9 at hk9 ⊢
              clear hne n9 f0 f1 f2 f3 f4 f5 f6 f7 f8 f9 g0 g1 KC KR
              have HLN : Hid (Below w.heap.size w w9) := Lib.hid (low_trans'' HLW.out hk9)
              go_wp2_with fail
              go_ret
              exact ⟨ret_b (by rw [E.out]; exact (ins_yes HB.out hj4 HN.out).symm), HLN.out⟩
            · have hrz : decide (RR < m) = false := decide_eq_false hr
              have HN : Hid (inR l k q s b = false) := Lib.hid (by unfold inR; rw [← Hx.out, hq, ← HR.out, ← HM.out, decide_eq_false hr]; rfl)
              clear hq Hx
              go_wp2_with fail
              refine Cls.region (Lows (wr.alloc (.cells #[.int .i64 b, .int .i64 m] 46))) (by kernel_rfl) (by kernel_rfl) (low_drewN (Below.refl _ _) 1) ?_
              (try dsimp only [List.append])
              repeat (go_big_quiet_step (first | fail | (with_reducible exact Cls.call ((lows_call KC).out _ (Cls.h _))) | (with_reducible exact Cls.call (KR.out _ (Cls.h _)))))
              refine wpQuiet_nil ?_
              intro n9
              have hk9 := n9.h
              generalize n9.w = w9 at hk9 ⊢
              clear hne n9 f0 f1 f2 f3 f4 f5 f6 f7 f8 f9 g0 g1 KC KR
              have HLN : Hid (Below w.heap.size w w9) := Lib.hid (low_trans'' HLW.out hk9)
              go_wp2_with fail
              go_roundw
              case rel => exact ⟨j + 1, by go_num, by omega, Lib.hid (ins_next HB.out HI.out HN.out), HLN⟩
              case measure => simp [intOf]; omega
        · have hj4z : ¬ (j : Int) < 4 := by omega
          have E2 : Hid (II = false) := Lib.hid (by rw [E.out]; exact ins_no fun c h1 h2 => HI.out c h1 (by omega))
          go_wp2_with fail
          go_ret
          exact ⟨ret_b E2.out.symm, HL.out⟩
    · have E : Hid (insideR l i q s = false) := Lib.hid (by unfold insideR; rw [decide_eq_false (by omega)]; rfl)
      have hi2 : (l.length : Int) ≤ i := by omega
      go_enter Try.func7, Try.ntmps7
      go_wp2_with fail
      go_ret
      exact ⟨ret_b E.out.symm, L0.out⟩
end Go.Proofs.Ytlnbjkbbnhjkgaa.Sh
