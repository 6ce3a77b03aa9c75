/- slices.Compact at subnets, walked in the library's own text. -/
import Derived.Test.YtbonfmjalgfgaaaSpreadMem
namespace Go.Proofs.Ytbonfmjalgfgaaa.Sp
set_option maxRecDepth 100000
open Go.ChangeShapes Go.WideShapes Go.ChangeAt Go.RowKit
open Dec Words V4 V6 Ad Ci En Gr Go.Deep
set_option linter.unusedVariables false
theorem compact_few (v : Value) {n c : Nat} {A : Option Addr} (w : World) (h : n < 2) :
    Calls Try.prog 12 #[.slice A n c] w fun e w' => e = .returned (.slice A n c) ∧ w = w' := by
  have hz : (n : Int) < 2 := by omega
  go_enter Try.func12, Try.ntmps12
  go_wp2_with fail
  go_ret
  exact ⟨rfl, rfl⟩
theorem clear_nets (w : World) (g o n c : Nat) (hn : 0 < n) (cur : List Value) (hg : Blk w g 40 cur) (hfit : o + n * 4 ≤ cur.length) :
    ∃ (w' : World) (zs : List Value), (∀ ty, (Builtin.clear_ #[29] ty #[.slice (some ⟨g, o, none⟩) n c]).run Try.prog w = .ok (.tuple #[]) w') ∧ zs.length = n * 4 ∧ Blk w' g 40 (splice cur o zs) ∧ Bt g w w' := by
  obtain ⟨w', zs, h1, h2⟩ := run_clear_blk (P := Try.prog) w 29 40 0 40 _ 4 Try.underlying29 Try.zeroValue40 rfl (by decide) (by decide) g o n c hn cur hg hfit
  exact ⟨w', zs, fun ty => h1, h2⟩
theorem drop_set {α : Type} (D s : List α) (x : α) (h : D.length < s.length) : (D ++ s.drop D.length).set D.length x = (D ++ [x]) ++ s.drop (D ++ [x]).length := by
  rw [List.set_append_right _ _ (Nat.le_refl _), Nat.sub_self, List.drop_eq_getElem_cons h, List.set_cons_zero]
  simp
theorem drop_at {s D : List Net} {i : Nat} (h1 : D.length ≤ i) (h2 : i < s.length) : (D ++ s.drop D.length)[i]! = s[i]! := by
  rw [getElem!_pos _ i (by simp; omega), getElem!_pos s i h2, List.getElem_append_right h1, List.getElem_drop]
  congr 1
  omega
set_option maxHeartbeats 8000000 in
/-- slices.Compact: repetitions struck out, in the row itself. -/
theorem compact_any (g cap : Nat) (s : List Net) (Z : List Value) (w : World) (hB : Blk w g 40 (flat encM s ++ Z)) (hc : s.length ≤ cap) (hl : s.length ≤ 1000000) (h2 : 2 ≤ s.length) :
    Calls Try.prog 12 #[.slice (some ⟨g, 0, none⟩) s.length cap] w fun e w' => e = .returned (.slice (some ⟨g, 0, none⟩) (cpt s s.length).length cap) ∧ Nets w' (.slice (some ⟨g, 0, none⟩) (cpt s s.length).length cap) (cpt s s.length) ∧ Bt g w w' := by
  have HB := Lib.hid hB
  clear hB
  obtain ⟨n, hn⟩ : ∃ n, n = s.length := ⟨_, rfl⟩
  rw [← hn] at hc hl h2 ⊢
  have HN := Lib.hid hn
  obtain ⟨M, hM⟩ : ∃ M, M = cpt s n := ⟨_, rfl⟩
  rw [← hM]
  have HM := Lib.hid hM
  have hz : ¬ (n : Int) < 2 := by omega
  clear hn hM
  go_enter Try.func12, Try.ntmps12
  go_wp2_with fail
  go_loopw [3] (fun vk wr => ∃ k : Nat, vk = .int .i64 k ∧ 1 ≤ k ∧ k ≤ n ∧ Hid (∀ j, 0 < j → j < k → s[j]! ≠ s[j - 1]!) ∧ Hid (Blk wr g 40 (flat encM s ++ Z)) ∧ Hid (Bt g w wr)) (fun vk _ => n - (intOf vk).toNat)
  case atStart => exact ⟨1, rfl, Nat.le_refl _, by omega, Lib.hid (fun j h1 h2 => by omega), HB, Lib.hid (Bt.refl _ _)⟩
  case round =>
    obtain ⟨k, rfl, hk1, hkn, HS, HBw, HT⟩ := hrel
    by_cases hlt : k < n
    · have hkz : (k : Int) < (n : Int) := by omega
      obtain ⟨m, hm⟩ : ∃ m : Nat, m = k - 1 := ⟨_, rfl⟩
      have hw : IntKind.i64.wrap ((k : Int) - 1) = (m : Int) := by rw [IntKind.wrap_i64]; omega
      have hmz : (m : Int) < (n : Int) := by omega
      obtain ⟨x, hx⟩ : ∃ x, x = s[k]! := ⟨_, rfl⟩
      obtain ⟨y, hy⟩ : ∃ y, y = s[m]! := ⟨_, rfl⟩
      have c0 : wr.cell? ⟨g, k * 4, none⟩ = some (.bool x.a.v6) := cellM HBw.out (by have := HN.out; omega) (j := 0) (by rw [← hx]; rfl)
      have c1 : wr.cell? ⟨g, k * 4 + 1, none⟩ = some (.int .u64 x.a.hi) := cellM HBw.out (by have := HN.out; omega) (j := 1) (by rw [← hx]; rfl)
      have c2 : wr.cell? ⟨g, k * 4 + 2, none⟩ = some (.int .u64 x.a.lo) := cellM HBw.out (by have := HN.out; omega) (j := 2) (by rw [← hx]; rfl)
      have c3 : wr.cell? ⟨g, k * 4 + 3, none⟩ = some (.int .i64 x.n) := cellM HBw.out (by have := HN.out; omega) (j := 3) (by rw [← hx]; rfl)
      have d0 : wr.cell? ⟨g, m * 4, none⟩ = some (.bool y.a.v6) := cellM HBw.out (by have := HN.out; omega) (j := 0) (by rw [← hy]; rfl)
      have d1 : wr.cell? ⟨g, m * 4 + 1, none⟩ = some (.int .u64 y.a.hi) := cellM HBw.out (by have := HN.out; omega) (j := 1) (by rw [← hy]; rfl)
      have d2 : wr.cell? ⟨g, m * 4 + 2, none⟩ = some (.int .u64 y.a.lo) := cellM HBw.out (by have := HN.out; omega) (j := 2) (by rw [← hy]; rfl)
      have d3 : wr.cell? ⟨g, m * 4 + 3, none⟩ = some (.int .i64 y.n) := cellM HBw.out (by have := HN.out; omega) (j := 3) (by rw [← hy]; rfl)
      have EN := fun W => eqNet x y W
      have HX : Hid (x = s[k]! ∧ y = s[k - 1]!) := Lib.hid ⟨hx, by rw [hy, hm]⟩
      clear hx hy hm
      cases hsame : sameN x y
      · have HS2 : Hid (∀ j, 0 < j → j < k + 1 → s[j]! ≠ s[j - 1]!) := Lib.hid fun j h1 h2 => by
          rcases Nat.lt_succ_iff_lt_or_eq.1 h2 with h3 | rfl
          · exact HS.out j h1 h3
          · intro e
            rw [← HX.out.1, ← HX.out.2, ← sameN_iff, hsame] at e
            cases e
        rw [hsame] at EN
        clear hsame
        go_wp2_with fail
        go_quiet (fail)
        go_wp2_with fail
        go_roundw
        case rel => exact ⟨k + 1, by go_num, by omega, by omega, HS2, Lib.hid (HBw.out.drewN _), Lib.hid (HT.out.drewN _)⟩
        case measure => simp [intOf]; omega
      · have HD : Hid (cpt s (k + 1) = s.take k ∧ k < s.length) := Lib.hid ⟨by
          rw [cpt_skip (by omega) (by rw [← HX.out.1, ← HX.out.2]; exact (sameN_iff x y).1 hsame)]
          exact cpt_plain k (by have := HN.out; omega) HS.out, by have := HN.out; omega⟩
        rw [hsame] at EN
        clear hsame
        go_wp2_with fail
        go_quiet (fail)
        go_wp2_with fail
        generalize hqq : n - k = q
        generalize cap - k = cp
        have HQ : Hid (n = k + q) := Lib.hid (by omega)
        have HB0 := Lib.hid (HBw.out.drewN nq)
        have HT0 := Lib.hid (HT.out.drewN nq)
        generalize wr.drewN nq = w1 at HB0 HT0 ⊢
        clear c0 c1 c2 c3 d0 d1 d2 d3 HX EN hw HBw HT hqq hmz HS
        clear wr nq
        have hq1 : 1 ≤ q := by have := HQ.out; omega
        have hql : q ≤ 1000000 := by have := HQ.out; omega
        go_loopw [3, 5] (fun va vb wq => ∃ (a b : Nat), va = .int .i64 a ∧ vb = .int .i64 b ∧ 1 ≤ b ∧ b ≤ q ∧ Hid (a + 1 ≤ k + b) ∧ Hid (∃ D, D = cpt s (k + b) ∧ a = D.length ∧ Blk wq g 40 (flat encM (D ++ s.drop D.length) ++ Z)) ∧ Hid (Bt g w wq)) (fun _ vb _ => q - (intOf vb).toNat)
        case atStart => exact ⟨k, 1, rfl, rfl, Nat.le_refl _, hq1, Lib.hid (Nat.le_refl _), Lib.hid ⟨s.take k, HD.out.1.symm, by rw [List.length_take]; have := HD.out.2; omega, by
          rw [show (s.take k).length = k by rw [List.length_take]; have := HD.out.2; omega, List.take_append_drop]; exact HB0.out⟩, HT0⟩
        case round =>
          obtain ⟨a, b, rfl, rfl, hb1, hbq, HA, HD2, HT2⟩ := hrel
          by_cases hbl : b < q
          · have hbz : (b : Int) < (q : Int) := by omega
            obtain ⟨D, hD, ha, hBD⟩ := HD2.out
            obtain ⟨p, hp⟩ : ∃ p : Nat, p = b - 1 := ⟨_, rfl⟩
            have hw : IntKind.i64.wrap ((b : Int) - 1) = (p : Int) := by have := HQ.out; rw [IntKind.wrap_i64]; omega
            have hpz : (p : Int) < (q : Int) := by omega
            have hsl : k + b < s.length := by have := HN.out; have := HQ.out; omega
            have hal : a < s.length := by have := HA.out; omega
            have haz : (a : Int) < (n : Int) := by have := HN.out; omega
            have hDl : (D ++ s.drop D.length).length = s.length := by rw [List.length_append, List.length_drop]; omega
            obtain ⟨x, hx⟩ : ∃ x, x = s[k + b]! := ⟨_, rfl⟩
            obtain ⟨y, hy⟩ : ∃ y, y = s[k + p]! := ⟨_, rfl⟩
            have hxD : (D ++ s.drop D.length)[k + b]! = x := by rw [hx]; exact drop_at (by have := HA.out; omega) hsl
            have hyD : (D ++ s.drop D.length)[k + p]! = y := by rw [hy]; exact drop_at (by have := HA.out; omega) (by omega)
            have c0 : wr.cell? ⟨g, k * 4 + b * 4, none⟩ = some (.bool x.a.v6) := by
              have h3 := cellM hBD (i := k + b) (by omega) (j := 0) (by rw [hxD]; rfl)
              rw [show (k + b) * 4 + 0 = k * 4 + b * 4 + 0 by omega] at h3
              exact h3
            have c1 : wr.cell? ⟨g, k * 4 + b * 4 + 1, none⟩ = some (.int .u64 x.a.hi) := by
              have h3 := cellM hBD (i := k + b) (by omega) (j := 1) (by rw [hxD]; rfl)
              rw [show (k + b) * 4 + 1 = k * 4 + b * 4 + 1 by omega] at h3
              exact h3
            have c2 : wr.cell? ⟨g, k * 4 + b * 4 + 2, none⟩ = some (.int .u64 x.a.lo) := by
              have h3 := cellM hBD (i := k + b) (by omega) (j := 2) (by rw [hxD]; rfl)
              rw [show (k + b) * 4 + 2 = k * 4 + b * 4 + 2 by omega] at h3
              exact h3
            have c3 : wr.cell? ⟨g, k * 4 + b * 4 + 3, none⟩ = some (.int .i64 x.n) := by
              have h3 := cellM hBD (i := k + b) (by omega) (j := 3) (by rw [hxD]; rfl)
              rw [show (k + b) * 4 + 3 = k * 4 + b * 4 + 3 by omega] at h3
              exact h3
            have d0 : wr.cell? ⟨g, k * 4 + p * 4, none⟩ = some (.bool y.a.v6) := by
              have h3 := cellM hBD (i := k + p) (by omega) (j := 0) (by rw [hyD]; rfl)
              rw [show (k + p) * 4 + 0 = k * 4 + p * 4 + 0 by omega] at h3
              exact h3
            have d1 : wr.cell? ⟨g, k * 4 + p * 4 + 1, none⟩ = some (.int .u64 y.a.hi) := by
              have h3 := cellM hBD (i := k + p) (by omega) (j := 1) (by rw [hyD]; rfl)
              rw [show (k + p) * 4 + 1 = k * 4 + p * 4 + 1 by omega] at h3
              exact h3
            have d2 : wr.cell? ⟨g, k * 4 + p * 4 + 2, none⟩ = some (.int .u64 y.a.lo) := by
              have h3 := cellM hBD (i := k + p) (by omega) (j := 2) (by rw [hyD]; rfl)
              rw [show (k + p) * 4 + 2 = k * 4 + p * 4 + 2 by omega] at h3
              exact h3
            have d3 : wr.cell? ⟨g, k * 4 + p * 4 + 3, none⟩ = some (.int .i64 y.n) := by
              have h3 := cellM hBD (i := k + p) (by omega) (j := 3) (by rw [hyD]; rfl)
              rw [show (k + p) * 4 + 3 = k * 4 + p * 4 + 3 by omega] at h3
              exact h3
            obtain ⟨z, hzD⟩ : ∃ z, (D ++ s.drop D.length)[a]! = z := ⟨_, rfl⟩
            have z0 : wr.cell? ⟨g, a * 4, none⟩ = some (.bool z.a.v6) := cellM hBD (by omega) (j := 0) (by rw [hzD]; rfl)
            have z1 : wr.cell? ⟨g, a * 4 + 1, none⟩ = some (.int .u64 z.a.hi) := cellM hBD (by omega) (j := 1) (by rw [hzD]; rfl)
            have z2 : wr.cell? ⟨g, a * 4 + 2, none⟩ = some (.int .u64 z.a.lo) := cellM hBD (by omega) (j := 2) (by rw [hzD]; rfl)
            have z3 : wr.cell? ⟨g, a * 4 + 3, none⟩ = some (.int .i64 z.n) := cellM hBD (by omega) (j := 3) (by rw [hzD]; rfl)
            clear hzD
            have EN := fun W => neqNet x y W
            have HX : Hid (x = s[k + b]! ∧ y = s[k + b - 1]!) := Lib.hid ⟨hx, by rw [hy, hp, Nat.add_sub_assoc hb1]⟩
            have HAD : Hid (a = D.length ∧ D = cpt s (k + b)) := Lib.hid ⟨ha, hD⟩
            have HBD := Lib.hid hBD
            have HL := Lib.hid (show (D ++ s.drop D.length).length = s.length ∧ a < s.length from ⟨hDl, hal⟩)
            have hw2 : IntKind.i64.wrap ((a : Int) + 1) = ((a + 1 : Nat) : Int) := by rw [IntKind.wrap_i64]; omega
            clear hx hy hp hD ha hBD hxD hyD hDl hsl hal HD2
            cases hsame : sameN x y
            · rw [hsame] at EN
              have f0 := HBD.out.free (a * 4)
              have f1 := HBD.out.free (a * 4 + 1)
              have f2 := HBD.out.free (a * 4 + 2)
              have f3 := HBD.out.free (a * 4 + 3)
              have hD3 : Hid (∃ D', D' = cpt s (k + (b + 1)) ∧ a + 1 = D'.length ∧ ∀ W, Blk W g 40 (flat encM (D ++ s.drop D.length) ++ Z) → Blk ((((W.setCell ⟨g, a * 4, none⟩ (.bool x.a.v6)).setCell ⟨g, a * 4 + 1, none⟩ (.int .u64 x.a.hi)).setCell ⟨g, a * 4 + 2, none⟩ (.int .u64 x.a.lo)).setCell ⟨g, a * 4 + 3, none⟩ (.int .i64 x.n)) g 40 (flat encM (D' ++ s.drop D'.length) ++ Z) ∧ Bt g W ((((W.setCell ⟨g, a * 4, none⟩ (.bool x.a.v6)).setCell ⟨g, a * 4 + 1, none⟩ (.int .u64 x.a.hi)).setCell ⟨g, a * 4 + 2, none⟩ (.int .u64 x.a.lo)).setCell ⟨g, a * 4 + 3, none⟩ (.int .i64 x.n))) := Lib.hid ⟨D ++ [x], by
                rw [← Nat.add_assoc, cpt_more (by
                  intro e
                  rw [← HX.out.1, ← HX.out.2, ← sameN_iff, hsame] at e
                  cases e), ← HAD.out.2, ← HX.out.1], by rw [List.length_append, ← HAD.out.1]; rfl, fun W hW => by
                have h3 := put_net hW (i := a) (by rw [HL.out.1]; exact HL.out.2) x
                rw [HAD.out.1] at h3 ⊢
                rw [drop_set D s x (by rw [← HAD.out.1]; exact HL.out.2)] at h3
                exact h3⟩
              clear hsame
              go_wp2_with fail
              go_quiet (fail)
              go_wp2_with fail
              have hnb : Hid (∃ D', D' = cpt s (k + (b + 1)) ∧ a + 1 = D'.length ∧ Blk (((((wr.drewN nq).setCell ⟨g, a * 4, none⟩ (.bool x.a.v6)).setCell ⟨g, a * 4 + 1, none⟩ (.int .u64 x.a.hi)).setCell ⟨g, a * 4 + 2, none⟩ (.int .u64 x.a.lo)).setCell ⟨g, a * 4 + 3, none⟩ (.int .i64 x.n)) g 40 (flat encM (D' ++ s.drop D'.length) ++ Z)) ∧ Hid (Bt g w (((((wr.drewN nq).setCell ⟨g, a * 4, none⟩ (.bool x.a.v6)).setCell ⟨g, a * 4 + 1, none⟩ (.int .u64 x.a.hi)).setCell ⟨g, a * 4 + 2, none⟩ (.int .u64 x.a.lo)).setCell ⟨g, a * 4 + 3, none⟩ (.int .i64 x.n))) := by
                obtain ⟨D', e1, e2, e3⟩ := hD3.out
                obtain ⟨h3, h4⟩ := e3 (wr.drewN nq) (HBD.out.drewN _)
                exact ⟨Lib.hid ⟨D', e1, e2, h3⟩, Lib.hid ((HT2.out.drewN _).trans h4)⟩
              go_roundw
              case rel => exact ⟨a + 1, b + 1, by first | rfl | go_num, by go_num, by omega, by omega, Lib.hid (by have := HA.out; omega), hnb.1, hnb.2⟩
              case measure => simp [intOf]; omega
            · rw [hsame] at EN
              have hD3 : Hid (∃ D', D' = cpt s (k + (b + 1)) ∧ a = D'.length ∧ D = D') := Lib.hid ⟨D, by
                rw [← Nat.add_assoc, cpt_skip (i := k + b) (by omega) (by rw [← HX.out.1, ← HX.out.2]; exact (sameN_iff x y).1 hsame)]; exact HAD.out.2, HAD.out.1, rfl⟩
              clear hsame
              go_wp2_with fail
              go_quiet (fail)
              go_wp2_with fail
              go_roundw
              case rel =>
                obtain ⟨D', e1, e2, e3⟩ := hD3.out
                exact ⟨a, b + 1, rfl, by go_num, by omega, by omega, Lib.hid (by have := HA.out; omega), Lib.hid ⟨D', e1, e2, by rw [← e3]; exact HBD.out.drewN _⟩, Lib.hid (HT2.out.drewN _)⟩
              case measure => simp [intOf]; omega
          · have hbz : ¬ (b : Int) < (q : Int) := by omega
            obtain ⟨D, hD, ha, hBD⟩ := HD2.out
            have hkb : k + b = n := by have := HQ.out; omega
            have han : a < n := by have := HA.out; omega
            have hal : a < s.length := by have := HN.out; omega
            have hDM : D = M := by rw [hD, hkb]; exact HM.out.symm
            have hDl : (D ++ s.drop D.length).length = s.length := by rw [List.length_append, List.length_drop]; omega
            obtain ⟨w2, zs, R2, hzs, b2, t2⟩ := clear_nets wr g (a * 4) (n - a) (cap - a) (by omega) _ hBD (by rw [List.length_append, flat_len encM_len, hDl, ← HN.out]; omega)
            have HR : Hid (a = M.length ∧ Nets w2 (.slice (some ⟨g, 0, none⟩) a cap) M) := Lib.hid ⟨by rw [← hDM]; exact ha, by
              refine b2.reads encM_len ?_ (by rw [← hDM]; exact ha.symm) (by omega)
              rw [take_splice _ _ _ _ (Nat.le_refl _) (by rw [List.length_append, flat_len encM_len, hDl]; omega), List.take_append_of_le_length (by rw [flat_len encM_len, hDl]; omega), flat_take encM_len, ← hDM, ha, List.take_left' rfl]⟩
            have HT3 : Hid (Bt g w w2) := Lib.hid (HT2.out.trans t2)
            have hac : (a : Int) ≤ (n : Int) := by omega
            have hacp : (a : Int) ≤ (cap : Int) := by omega
            have haz : (a : Int) < (n : Int) := by omega
            clear hD ha hBD hkb hDM hDl hzs b2 t2 hal HD2
            go_wp2_with fail
            go_ret
            exact ⟨by rw [← HR.out.1]; rfl, by rw [← HR.out.1]; exact HR.out.2, HT3.out⟩
    · have hkz : ¬ (k : Int) < (n : Int) := by omega
      have E : Hid (M = s ∧ n = M.length) := Lib.hid (by
        have h3 : M = s := by
          rw [HM.out, cpt_plain n (by have := HN.out; omega) (fun j h1 h2 => HS.out j h1 (by omega)), HN.out, List.take_length]
        exact ⟨h3, by rw [h3]; exact HN.out⟩)
      go_wp2_with fail
      go_ret
      refine ⟨by rw [← E.out.2]; rfl, ?_, HT.out⟩
      rw [← E.out.2, E.out.1]
      exact Blk.reads encM_len HBw.out (by rw [HN.out, List.take_left' (flat_len encM_len s)]) HN.out.symm hc
end Go.Proofs.Ytbonfmjalgfgaaa.Sp
