/- Contracts of the document's answers for layer 5: parts, and the address that they make. -/
import Derived.Test.YtokbifndhkijiaaDoorIpv6Low
import Derived.Test.YtokbifndhkijiaaDoorRef02Hex
import Derived.Test.YtokbifndhkijiaaDoorRef04
import Derived.Laws.AppendOwnNone
import Derived.IntWalk
namespace Go.Proofs.YtokbifndhkijiaaDoor.V6
set_option maxRecDepth 100000
open Go.ChangeShapes Go.WideShapes Go.ChangeAt Go.RowKit
open Dec Words V4
set_option linter.unusedVariables false
/-! Lists that are read, nil let in. -/
def Src (w : World) (A : Option Addr) (c : Nat) (ls : List (List UInt8)) : Prop :=
  (A = none ∧ c = 0 ∧ ls = []) ∨ (ls.length ≤ c ∧ ∃ b o, A = some ⟨b, o, none⟩ ∧ b < w.heap.size ∧ ∀ j (h : j < ls.length), w.cell? ⟨b, o + j, none⟩ = some (.string ⟨ls[j].toArray⟩))
theorem Src.below {w w1 : World} {A : Option Addr} {c : Nat} {ls : List (List UInt8)} (h : Src w A c ls) (hb : Below w.heap.size w w1) : Src w1 A c ls := by
  rcases h with h | ⟨hc, b, o, e, hlt, h⟩
  · exact Or.inl h
  · exact Or.inr ⟨hc, b, o, e, Nat.lt_of_lt_of_le hlt hb.size, fun j hj => (hb.cell (p := ⟨b, o + j, none⟩) hlt).trans (h j hj)⟩
theorem Src.own {w : World} {base e : Nat} {A : Option Addr} {n c : Nat} {ls : List (List UInt8)} (h : w.ownsRow base e 1 (.slice A n c) ls.length (ls.map strV)) : n = ls.length ∧ Src w A c ls := by
  rcases h.2 with ⟨h1, h0⟩ | ⟨g, cap, cur, h1, _, hh, hnc, _, _, hcur⟩
  · injection h1 with h1 h2 h3
    exact ⟨by omega, Or.inl ⟨h1, h3, List.eq_nil_of_length_eq_zero h0⟩⟩
  · injection h1 with h1 h2 h3
    subst h1 h3
    refine ⟨h2, Or.inr ⟨hnc, g, 0, rfl, ?_, fun j hj => ?_⟩⟩
    · rcases Nat.lt_or_ge g w.heap.size with hlt | hge
      · exact hlt
      · rw [Array.getElem?_eq_none hge] at hh; cases hh
    · have := h.cells (g := g) rfl j (strV ls[j]) (by rw [List.getElem?_map, List.getElem?_eq_getElem hj]; rfl)
      rw [show (⟨g, 0, none⟩ : Addr).add j = ⟨g, 0 + j, none⟩ from by unfold Addr.add; split <;> simp_all] at this
      exact this
theorem Src.at_ {w : World} {A : Option Addr} {c : Nat} {ls : List (List UInt8)} (h : Src w A c ls) {k : Nat} (hk : k < ls.length) : ∃ b o, A = some ⟨b, o, none⟩ ∧ b < w.heap.size ∧ w.cell? ⟨b, o + k, none⟩ = some (.string ⟨ls[k].toArray⟩) := by
  rcases h with ⟨_, _, rfl⟩ | ⟨_, b, o, e, hlt, h⟩
  · simp at hk
  · exact ⟨b, o, e, hlt, h k hk⟩
/-- A list put behind a list of the call's own. -/
theorem append_src {P : Program} {w : World} {ops : Array Oper} {rest : List Oper} {o : Oper} {a : Act} {Q : Exit → Act → World → Prop} (hgd : o.guard = none) (s x : Operand) (t : TypeId)
    (ho : o.op = .call { callee := .builtin .append, args := #[s, x], argTypes := #[t, t] })
    (base : Nat) (e : TypeId) (i : TypeInfo) (z : Value) (ht : P.underlying t = some (.slice e)) (hi : P.info? e = some i) (hz : i.zero = some z)
    (hsize : i.size = 1) (hby : i.bytes = 16) (hzs : z.cells.size = 1)
    (v : Value) (n : Nat) (xs : List Value) (hs : a.eval s = v) (hown : w.ownsRow base e 1 v n xs)
    (A : Option Addr) (c : Nat) (ls : List (List UInt8)) (hx : a.eval x = .slice A ls.length c) (hr : Src w A c ls)
    (h63 : n + ls.length ≤ 1000000000) (hbase : base ≤ w.heap.size)
    (h : ∀ v' w', w'.ownsRow base e 1 v' (n + ls.length) (xs ++ ls.map strV) → w.grownBy w' v.ownBlock → wpList P ops Q rest (a.put o.dst v') w') : wpList P ops Q (o :: rest) a w := by
  rcases hr with ⟨rfl, rfl, rfl⟩ | ⟨hc, b, o', rfl, hlt, hcell⟩
  · exact wpList_append_own_none hgd s x t ho base e i 1 ht hi v n xs hs hown hx (h v w (by simpa using hown) (World.grownBy.refl w _))
  · refine wpList_append_own w hgd s x t ho base e i z 1 16 ht hi hz hsize hby hzs (by decide) v n xs hs hown ⟨b, o', none⟩ ls.length c (ls.map strV) hx (by simp) (fun j u hj => ?_) (strs_one ls) (by unfold maxLen; omega) (by omega) hbase (fun v' w' h1 h2 _ => h v' w' h1 h2)
    rw [List.getElem?_map] at hj
    obtain ⟨y, hy, rfl⟩ := Option.map_eq_some_iff.1 hj
    obtain ⟨hlt2, rfl⟩ := List.getElem?_eq_some_iff.1 hy
    rw [add_plain]; exact hcell j hlt2
def RetSrc (ls : List (List UInt8)) (w : World) (e : Ending) (w' : World) : Prop := ∃ A c, e = .returned (.slice A ls.length c) ∧ Src w' A c ls ∧ Below w.heap.size w w'
theorem rparts_any (l : List UInt8) (w : World) (hl : l.length < 4294967281) : Calls Tryd.prog 42 #[.string ⟨l.toArray⟩] w (RetSrc (parts l) w) := by
  by_cases h0 : l = []
  · subst h0
    go_enter Tryd.func42, Tryd.ntmps42
    go_wp2
    go_ret
    exact ⟨none, 0, rfl, Or.inl ⟨rfl, rfl, rfl⟩, Below.refl _ _⟩
  · have HP : Hid (parts l = cut 58 l) := Lib.hid (by unfold parts; rw [if_neg h0])
    have hl0 : ¬ l.length = 0 := by simpa using h0
    have hb0 : (l == []) = false := by simpa using h0
    have HR := Lib.hid (rsplit_any ⟨l.toArray⟩ 58 w (by rw [← len_size, str_back]; exact hl))
    rw [str_back] at HR
    clear h0
    go_enter Tryd.func42, Tryd.ntmps42
    go_wp2_with fail
    refine HR.out.mono ?_
    rintro e w1 ⟨v, rfl, hv, hb1⟩
    obtain ⟨A, c, rfl, hcap, hcell⟩ := hv
    have HC := Lib.hid hcell
    clear hcell
    go_wp2_with fail
    go_ret
    have h1 : 0 < (cut 58 l).length := List.length_pos_iff.2 (cut_ne _ _)
    obtain ⟨b, o, rfl, hb, hc⟩ := HC.out h1
    exact ⟨some ⟨b, o, none⟩, c, by rw [HP.out]; rfl, by rw [HP.out]; exact Or.inr ⟨hcap, b, o, rfl, hb, hc⟩, hb1⟩
/-! Where two colons stand. -/
def gapI (l : List UInt8) : Int := match gap l with | some (b, _) => (b.length : Int) | none => -1
theorem gap_at {l : List UInt8} {k : Nat} (h : ∀ i, i < k → ¬ two l i) (h2 : two l k) : gap l = some (l.take k, l.drop (k + 2)) := by
  rw [gap_some]
  have h3 := h2
  unfold two at h3
  obtain ⟨a1, b1⟩ := List.getElem?_eq_some_iff.1 h3.1
  obtain ⟨a2, b2⟩ := List.getElem?_eq_some_iff.1 h3.2
  constructor
  · conv => lhs; rw [← List.take_append_drop k l, List.drop_eq_getElem_cons a1, List.drop_eq_getElem_cons a2, b1, b2]
  · intro i hi
    exact h i (by rw [List.length_take] at hi; omega)
theorem gap_no {l : List UInt8} {k : Nat} (h : ∀ i, i < k → ¬ two l i) (hk : l.length ≤ k + 1) : gap l = none := by
  rw [gap_none]
  intro i h2
  have h3 := h2
  unfold two at h3
  obtain ⟨a2, _⟩ := List.getElem?_eq_some_iff.1 h3.2
  exact h i (by omega) h2
theorem two_byte (s : ByteArray) (k : Nat) (h : k + 1 < s.size) : two s.data.toList k ↔ s[k] = 58 ∧ s[k + 1] = 58 := by
  unfold two
  rw [List.getElem?_eq_getElem (by rw [len_size]; omega), List.getElem?_eq_getElem (by rw [len_size]; omega), byte_get s k (by omega), byte_get s (k + 1) h]
  simp
theorem byte58 {c : UInt8} : ((c.toNat : Int) == 58) = decide (c = 58) := by
  rw [Bool.eq_iff_iff, beq_iff_eq, decide_eq_true_iff, ← UInt8.toNat_inj]
  show _ ↔ c.toNat = 58
  omega
set_option maxHeartbeats 2000000 in
theorem rgap_any (s : ByteArray) (w : World) (hs : s.size ≤ 1000000) : Calls Tryd.prog 40 #[.string s] w fun e w' => e = .returned (.int .i64 (gapI s.data.toList)) ∧ w = w' := by
  go_enter Tryd.func40, Tryd.ntmps40
  go_wp2
  go_loop [3] (fun i => ∃ k : Nat, k ≤ s.size ∧ i = .int .i64 k ∧ Hid (∀ j, j < k → ¬ two s.data.toList j)) (fun i => s.size - (intOf i).toNat)
  case atStart => exact ⟨0, by omega, rfl, Lib.hid (by intro j hj; omega)⟩
  case round =>
    obtain ⟨k, hk, rfl, HA⟩ := hrel
    by_cases hlt : k + 1 < s.size
    · have ht := two_byte s k hlt
      have hkk : k < s.size := by omega
      by_cases c1 : s[k] = 58
      · have q1 : ((s[k].toNat : Int) == 58) = true := by rw [byte58]; simpa using c1
        by_cases c2 : s[k + 1] = 58
        · have q2 : ((s[k + 1].toNat : Int) == 58) = true := by rw [byte58]; simpa using c2
          have E : Hid (gapI s.data.toList = k) := Lib.hid (by
            unfold gapI; rw [gap_at HA.out (ht.2 ⟨c1, c2⟩)]
            simp only [List.length_take, len_size]; omega)
          clear c1 c2 ht
          go_wp2
          go_ret
          exact ⟨ret_i E.out.symm, rfl⟩
        · have q2 : ((s[k + 1].toNat : Int) == 58) = false := by rw [byte58]; simpa using c2
          have HA2 : Hid (∀ j, j < k + 1 → ¬ two s.data.toList j) := fun j hj => by
            by_cases e : j = k
            · subst e; intro h; exact c2 (ht.1 h).2
            · exact HA.out j (by omega)
          clear c1 c2 ht
          go_wp2
          go_round
          case rel => exact ⟨k + 1, by omega, by go_num, HA2⟩
          case measure => simp [intOf]; omega
      · have q1 : ((s[k].toNat : Int) == 58) = false := by rw [byte58]; simpa using c1
        have HA2 : Hid (∀ j, j < k + 1 → ¬ two s.data.toList j) := fun j hj => by
          by_cases e : j = k
          · subst e; intro h; exact c1 (ht.1 h).1
          · exact HA.out j (by omega)
        clear c1 ht
        go_wp2
        go_round
        case rel => exact ⟨k + 1, by omega, by go_num, HA2⟩
        case measure => simp [intOf]; omega
    · have E : Hid (gapI s.data.toList = -1) := Lib.hid (by
        unfold gapI; rw [gap_no HA.out (by rw [len_size]; omega)])
      go_wp2
      go_ret
      exact ⟨ret_i E.out.symm, rfl⟩
end Go.Proofs.YtokbifndhkijiaaDoor.V6
