/- Contracts of package trie, last part: what a tree tells, and the trees that are made of it; all of it as one structure. -/
import Derived.Test.YtgnpnmdndlodlaaTriF
import Derived.Test.YtgnpnmdndlodlaaTrieAll
namespace Go.Proofs.Ytgnpnmdndlodlaa.Tr
set_option maxRecDepth 100000
open Go.ChangeShapes Go.WideShapes Go.ChangeAt Go.RowKit
open Dec Words V4 V6 Ad Ci
set_option linter.unusedVariables false
/-- A tree in memory: a list of subnets. -/
def IsT (w : World) (v : Value) (l : List Hit) : Prop := ∃ b p0 p1 t0 t1, v = .pointer (some ⟨b, 0, none⟩) ∧ Top w b p0 p1 (l.length : Nat) ∧ At (fun _ => True) w t0 p0 ∧ At (fun _ => True) w t1 p1 ∧ Pair t0 t1 ∧ l = both t0 t1
theorem IsT.on {w w1 : World} {v : Value} {l : List Hit} (h : IsT w v l) (k : Below w.heap.size w w1) : IsT w1 v l := by
  obtain ⟨b, p0, p1, t0, t1, e, hT, h0, h1, hp, hl⟩ := h
  exact ⟨b, p0, p1, t0, t1, e, hT.on k, h0.on k, h1.on k, hp, hl⟩
theorem Own.top {w : World} {b : Nat} {t : TypeId} {p0 p1 : Option Addr} {s : Int} (h : Own w b t [.pointer p0, .pointer p1, .int .i64 s]) : Top w b p0 p1 s := ⟨h.cell rfl, h.cell rfl, h.cell rfl⟩
def Made (w : World) (l : List Hit) (e : Ending) (w' : World) : Prop := ∃ u, e = .returned u ∧ IsT w' u l ∧ Below w.heap.size w w'
def HitsR (w : World) (l : List Hit) (e : Ending) (w' : World) : Prop := ∃ u, e = .returned u ∧ Hits w' u l ∧ Below w.heap.size w w'
theorem new_any (w : World) :
    Calls Try.prog 7 #[] w (Made w []) := by
  go_enter Try.func7, Try.ntmps7
  go_wp2_with fail
  go_ret
  exact ⟨_, rfl, ⟨w.heap.size, none, none, .leaf, .leaf, rfl, (Own.new w _ _).top, rfl, rfl, Pair.leaf, rfl⟩, (Below.refl _ _).alloc (Nat.le_refl _) _⟩
theorem len_any (b : Nat) (p0 p1 : Option Addr) (s : Int) (w : World) (hT : Top w b p0 p1 s) :
    Calls Try.prog 13 #[.pointer (some ⟨b, 0, none⟩)] w fun e w' => e = .returned (.int .i64 s) ∧ Below w.heap.size w w' := by
  have AG := Lib.hid (again_any b p0 p1 s w hT)
  clear hT
  go_enter Try.func13, Try.ntmps13
  go_wp2_with fail
  ((with_reducible refine (AG.out).mono ?_); rintro e w1 ⟨g, rfl, hg, ho, hb⟩)
  have g2 : w1.cell? ⟨g, 2, none⟩ = some (.int .i64 s) := ho.cell rfl
  have HB := Lib.hid hb
  clear ho hb hg
  go_wp2_with fail
  go_ret
  exact ⟨rfl, HB.out⟩
set_option maxHeartbeats 2000000 in
theorem get_any4 (b : Nat) (p0 p1 : Option Addr) (s : Int) (t0 t1 : Tri) (n : Net) (w : World) (hn : n.ok) (h6 : n.a.v6 = false) (hT : Top w b p0 p1 s) (h0 : At (fun _ => True) w t0 p0) (h1 : At (fun _ => True) w t1 p1) (hp : Pair t0 t1) :
    Calls Try.prog 11 #[.pointer (some ⟨b, 0, none⟩), .agg #[.bool n.a.v6, .int .u64 n.a.hi, .int .u64 n.a.lo, .int .i64 n.n]] w fun e w' => e = .returned (.tuple #[.int .i64 (getV (both t0 t1) n), .bool (getB (both t0 t1) n)]) ∧ Below w.heap.size w w' := by
  have LK := hp.look hn
  rw [h6] at LK
  have E0 : (t0.over n.a).foldl (pick n) (0, false) = (getV (both t0 t1) n, getB (both t0 t1) n) := LK
  have L1 : Below w.heap.size w (w.alloc (.cells #[.bool n.a.v6, .int .u64 n.a.hi, .int .u64 n.a.lo, .int .i64 n.n] 27)) := (Below.refl _ _).alloc (Nat.le_refl _) _
  have LOW : Below w.heap.size w (((w.alloc (.cells #[.bool n.a.v6, .int .u64 n.a.hi, .int .u64 n.a.lo, .int .i64 n.n] 27)).alloc (.cells #[.int .i64 0] 3)).alloc (.cells #[.bool false] 4)) := ((L1.alloc (by simp) _).alloc (by simp; omega) _)
  have oB : Own (((w.alloc (.cells #[.bool n.a.v6, .int .u64 n.a.hi, .int .u64 n.a.lo, .int .i64 n.n] 27)).alloc (.cells #[.int .i64 0] 3)).alloc (.cells #[.bool false] 4)) w.heap.size 27 [.bool n.a.v6, .int .u64 n.a.hi, .int .u64 n.a.lo, .int .i64 n.n] := (((Own.new w _ _).on ((Below.refl _ _).alloc (Nat.le_refl _) _)).on ((Below.refl _ _).alloc (Nat.le_refl _) _))
  have oV : Own (((w.alloc (.cells #[.bool n.a.v6, .int .u64 n.a.hi, .int .u64 n.a.lo, .int .i64 n.n] 27)).alloc (.cells #[.int .i64 0] 3)).alloc (.cells #[.bool false] 4)) (w.heap.size + 1) 3 [.int .i64 0] := by have h := (Own.new (w.alloc (.cells #[.bool n.a.v6, .int .u64 n.a.hi, .int .u64 n.a.lo, .int .i64 n.n] 27)) #[.int .i64 0] 3).on ((Below.refl _ _).alloc (Nat.le_refl _) (.cells #[.bool false] 4)); rwa [show (w.alloc (.cells #[.bool n.a.v6, .int .u64 n.a.hi, .int .u64 n.a.lo, .int .i64 n.n] 27)).heap.size = w.heap.size + 1 from by simp] at h
  have oK : Own (((w.alloc (.cells #[.bool n.a.v6, .int .u64 n.a.hi, .int .u64 n.a.lo, .int .i64 n.n] 27)).alloc (.cells #[.int .i64 0] 3)).alloc (.cells #[.bool false] 4)) (w.heap.size + 2) 4 [.bool false] := by have h := Own.new ((w.alloc (.cells #[.bool n.a.v6, .int .u64 n.a.hi, .int .u64 n.a.lo, .int .i64 n.n] 27)).alloc (.cells #[.int .i64 0] 3)) #[.bool false] 4; rwa [show ((w.alloc (.cells #[.bool n.a.v6, .int .u64 n.a.hi, .int .u64 n.a.lo, .int .i64 n.n] 27)).alloc (.cells #[.int .i64 0] 3)).heap.size = w.heap.size + 2 from by simp] at h
  have FO := Lib.hid (follow_get4 b p0 p1 s t0 t1 (fun b => b < w.heap.size) n.a (((w.alloc (.cells #[.bool n.a.v6, .int .u64 n.a.hi, .int .u64 n.a.lo, .int .i64 n.n] 27)).alloc (.cells #[.int .i64 0] 3)).alloc (.cells #[.bool false] 4)) n w.heap.size (w.heap.size + 1) (w.heap.size + 2) (0, false) (fun h => h.elim (fun h => by omega) (fun h => by omega)) (by omega) (by simp) (by simp) oB oV oK hn.1 h6 (hT.on LOW) ((h0.old.mono fun b h => h.2).on LOW) hp.g0 (fun b hb => ⟨by simp; omega, fun h => h.elim (fun h => by omega) (fun h => by omega)⟩))
  rw [E0] at FO
  have k0 : (((w.alloc (.cells #[.bool n.a.v6, .int .u64 n.a.hi, .int .u64 n.a.lo, .int .i64 n.n] 27)).alloc (.cells #[.int .i64 0] 3)).alloc (.cells #[.bool false] 4)).cell? ⟨w.heap.size, 0, none⟩ = some (.bool n.a.v6) := oB.cell rfl
  have k1 : (((w.alloc (.cells #[.bool n.a.v6, .int .u64 n.a.hi, .int .u64 n.a.lo, .int .i64 n.n] 27)).alloc (.cells #[.int .i64 0] 3)).alloc (.cells #[.bool false] 4)).cell? ⟨w.heap.size, 1, none⟩ = some (.int .u64 n.a.hi) := oB.cell rfl
  have k2 : (((w.alloc (.cells #[.bool n.a.v6, .int .u64 n.a.hi, .int .u64 n.a.lo, .int .i64 n.n] 27)).alloc (.cells #[.int .i64 0] 3)).alloc (.cells #[.bool false] 4)).cell? ⟨w.heap.size, 2, none⟩ = some (.int .u64 n.a.lo) := oB.cell rfl
  have k3 : (((w.alloc (.cells #[.bool n.a.v6, .int .u64 n.a.hi, .int .u64 n.a.lo, .int .i64 n.n] 27)).alloc (.cells #[.int .i64 0] 3)).alloc (.cells #[.bool false] 4)).cell? ⟨w.heap.size, 3, none⟩ = some (.int .i64 n.n) := oB.cell rfl
  clear LK E0 oB oV oK h6 h0 h1 hT hp
  go_enter Try.func11, Try.ntmps11
  go_wp2_with fail
  ((with_reducible refine (FO.out).mono ?_); rintro e w1 ⟨rfl, hV, hK, hb⟩)
  have v0 : w1.cell? ⟨w.heap.size + 1, 0, none⟩ = some (.int .i64 (getV (both t0 t1) n)) := hV.cell rfl
  have v1 : w1.cell? ⟨w.heap.size + 2, 0, none⟩ = some (.bool (getB (both t0 t1) n)) := hK.cell rfl
  have HB := Lib.hid (LOW.trans (hb.below fun k hk => ⟨by simp; omega, fun h => h.elim (fun h => by omega) (fun h => by omega)⟩))
  clear hV hK hb
  go_wp2_with fail
  go_quiet (fail)
  go_wp2_with fail
  go_ret2
  exact ⟨rfl, low_drewN HB.out _⟩
set_option maxHeartbeats 2000000 in
theorem get_any6 (b : Nat) (p0 p1 : Option Addr) (s : Int) (t0 t1 : Tri) (n : Net) (w : World) (hn : n.ok) (h6 : n.a.v6 = true) (hT : Top w b p0 p1 s) (h0 : At (fun _ => True) w t0 p0) (h1 : At (fun _ => True) w t1 p1) (hp : Pair t0 t1) :
    Calls Try.prog 11 #[.pointer (some ⟨b, 0, none⟩), .agg #[.bool n.a.v6, .int .u64 n.a.hi, .int .u64 n.a.lo, .int .i64 n.n]] w fun e w' => e = .returned (.tuple #[.int .i64 (getV (both t0 t1) n), .bool (getB (both t0 t1) n)]) ∧ Below w.heap.size w w' := by
  have LK := hp.look hn
  rw [h6] at LK
  have E0 : (t1.over n.a).foldl (pick n) (0, false) = (getV (both t0 t1) n, getB (both t0 t1) n) := LK
  have L1 : Below w.heap.size w (w.alloc (.cells #[.bool n.a.v6, .int .u64 n.a.hi, .int .u64 n.a.lo, .int .i64 n.n] 27)) := (Below.refl _ _).alloc (Nat.le_refl _) _
  have LOW : Below w.heap.size w (((w.alloc (.cells #[.bool n.a.v6, .int .u64 n.a.hi, .int .u64 n.a.lo, .int .i64 n.n] 27)).alloc (.cells #[.int .i64 0] 3)).alloc (.cells #[.bool false] 4)) := ((L1.alloc (by simp) _).alloc (by simp; omega) _)
  have oB : Own (((w.alloc (.cells #[.bool n.a.v6, .int .u64 n.a.hi, .int .u64 n.a.lo, .int .i64 n.n] 27)).alloc (.cells #[.int .i64 0] 3)).alloc (.cells #[.bool false] 4)) w.heap.size 27 [.bool n.a.v6, .int .u64 n.a.hi, .int .u64 n.a.lo, .int .i64 n.n] := (((Own.new w _ _).on ((Below.refl _ _).alloc (Nat.le_refl _) _)).on ((Below.refl _ _).alloc (Nat.le_refl _) _))
  have oV : Own (((w.alloc (.cells #[.bool n.a.v6, .int .u64 n.a.hi, .int .u64 n.a.lo, .int .i64 n.n] 27)).alloc (.cells #[.int .i64 0] 3)).alloc (.cells #[.bool false] 4)) (w.heap.size + 1) 3 [.int .i64 0] := by have h := (Own.new (w.alloc (.cells #[.bool n.a.v6, .int .u64 n.a.hi, .int .u64 n.a.lo, .int .i64 n.n] 27)) #[.int .i64 0] 3).on ((Below.refl _ _).alloc (Nat.le_refl _) (.cells #[.bool false] 4)); rwa [show (w.alloc (.cells #[.bool n.a.v6, .int .u64 n.a.hi, .int .u64 n.a.lo, .int .i64 n.n] 27)).heap.size = w.heap.size + 1 from by simp] at h
  have oK : Own (((w.alloc (.cells #[.bool n.a.v6, .int .u64 n.a.hi, .int .u64 n.a.lo, .int .i64 n.n] 27)).alloc (.cells #[.int .i64 0] 3)).alloc (.cells #[.bool false] 4)) (w.heap.size + 2) 4 [.bool false] := by have h := Own.new ((w.alloc (.cells #[.bool n.a.v6, .int .u64 n.a.hi, .int .u64 n.a.lo, .int .i64 n.n] 27)).alloc (.cells #[.int .i64 0] 3)) #[.bool false] 4; rwa [show ((w.alloc (.cells #[.bool n.a.v6, .int .u64 n.a.hi, .int .u64 n.a.lo, .int .i64 n.n] 27)).alloc (.cells #[.int .i64 0] 3)).heap.size = w.heap.size + 2 from by simp] at h
  have FO := Lib.hid (follow_get6 b p0 p1 s t0 t1 (fun b => b < w.heap.size) n.a (((w.alloc (.cells #[.bool n.a.v6, .int .u64 n.a.hi, .int .u64 n.a.lo, .int .i64 n.n] 27)).alloc (.cells #[.int .i64 0] 3)).alloc (.cells #[.bool false] 4)) n w.heap.size (w.heap.size + 1) (w.heap.size + 2) (0, false) (fun h => h.elim (fun h => by omega) (fun h => by omega)) (by omega) (by simp) (by simp) oB oV oK hn.1 h6 (hT.on LOW) ((h1.old.mono fun b h => h.2).on LOW) hp.g1 (fun b hb => ⟨by simp; omega, fun h => h.elim (fun h => by omega) (fun h => by omega)⟩))
  rw [E0] at FO
  have k0 : (((w.alloc (.cells #[.bool n.a.v6, .int .u64 n.a.hi, .int .u64 n.a.lo, .int .i64 n.n] 27)).alloc (.cells #[.int .i64 0] 3)).alloc (.cells #[.bool false] 4)).cell? ⟨w.heap.size, 0, none⟩ = some (.bool n.a.v6) := oB.cell rfl
  have k1 : (((w.alloc (.cells #[.bool n.a.v6, .int .u64 n.a.hi, .int .u64 n.a.lo, .int .i64 n.n] 27)).alloc (.cells #[.int .i64 0] 3)).alloc (.cells #[.bool false] 4)).cell? ⟨w.heap.size, 1, none⟩ = some (.int .u64 n.a.hi) := oB.cell rfl
  have k2 : (((w.alloc (.cells #[.bool n.a.v6, .int .u64 n.a.hi, .int .u64 n.a.lo, .int .i64 n.n] 27)).alloc (.cells #[.int .i64 0] 3)).alloc (.cells #[.bool false] 4)).cell? ⟨w.heap.size, 2, none⟩ = some (.int .u64 n.a.lo) := oB.cell rfl
  have k3 : (((w.alloc (.cells #[.bool n.a.v6, .int .u64 n.a.hi, .int .u64 n.a.lo, .int .i64 n.n] 27)).alloc (.cells #[.int .i64 0] 3)).alloc (.cells #[.bool false] 4)).cell? ⟨w.heap.size, 3, none⟩ = some (.int .i64 n.n) := oB.cell rfl
  clear LK E0 oB oV oK h6 h0 h1 hT hp
  go_enter Try.func11, Try.ntmps11
  go_wp2_with fail
  ((with_reducible refine (FO.out).mono ?_); rintro e w1 ⟨rfl, hV, hK, hb⟩)
  have v0 : w1.cell? ⟨w.heap.size + 1, 0, none⟩ = some (.int .i64 (getV (both t0 t1) n)) := hV.cell rfl
  have v1 : w1.cell? ⟨w.heap.size + 2, 0, none⟩ = some (.bool (getB (both t0 t1) n)) := hK.cell rfl
  have HB := Lib.hid (LOW.trans (hb.below fun k hk => ⟨by simp; omega, fun h => h.elim (fun h => by omega) (fun h => by omega)⟩))
  clear hV hK hb
  go_wp2_with fail
  go_quiet (fail)
  go_wp2_with fail
  go_ret2
  exact ⟨rfl, low_drewN HB.out _⟩
theorem Tri.over_len (a : Adr) : ∀ t : Tri, (t.over a).length ≤ t.list.length
  | .leaf => by simp [Tri.over, Tri.list]
  | .node n i x z o => by
    have h1 := over_len a z
    have h2 := over_len a o
    rw [Tri.over, Tri.list, List.length_append, List.length_append]
    generalize (if i then [(⟨n, x⟩ : Hit)] else []) = q
    split
    · rw [List.length_append]
      by_cases hb : bitA a n.n = 0
      · rw [if_pos hb]; omega
      · rw [if_neg hb]; omega
    · simp
theorem both_len (s t : Tri) : (both s t).length = s.list.length + t.list.length := by unfold both; rw [List.length_append]
set_option maxHeartbeats 2000000 in
theorem cover_any4 (b : Nat) (p0 p1 : Option Addr) (s : Int) (t0 t1 : Tri) (a : Adr) (w : World) (ha : a.ok) (h6 : a.v6 = false) (hT : Top w b p0 p1 s) (h0 : At (fun _ => True) w t0 p0) (h1 : At (fun _ => True) w t1 p1) (hp : Pair t0 t1) (hlen : (both t0 t1).length ≤ 1000000) :
    Calls Try.prog 16 #[.pointer (some ⟨b, 0, none⟩), .agg #[.bool a.v6, .int .u64 a.hi, .int .u64 a.lo]] w (HitsR w (cover (both t0 t1) a)) := by
  have LK := hp.cover ha
  rw [h6] at LK
  have E0 : t0.over a = cover (both t0 t1) a := LK
  have hl : (t0.over a).length ≤ 1000000 := by have := Tri.over_len a t0; have := both_len t0 t1; omega
  have L1 : Below w.heap.size w (w.alloc (.cells #[.bool a.v6, .int .u64 a.hi, .int .u64 a.lo] 25)) := (Below.refl _ _).alloc (Nat.le_refl _) _
  have LOW : Below w.heap.size w ((w.alloc (.cells #[.bool a.v6, .int .u64 a.hi, .int .u64 a.lo] 25)).alloc (.cells #[.slice none 0 0] 42)) := L1.alloc (by simp) _
  have oB : Own ((w.alloc (.cells #[.bool a.v6, .int .u64 a.hi, .int .u64 a.lo] 25)).alloc (.cells #[.slice none 0 0] 42)) w.heap.size 25 [.bool a.v6, .int .u64 a.hi, .int .u64 a.lo] := (Own.new w _ _).on ((Below.refl _ _).alloc (Nat.le_refl _) _)
  have oC : Own ((w.alloc (.cells #[.bool a.v6, .int .u64 a.hi, .int .u64 a.lo] 25)).alloc (.cells #[.slice none 0 0] 42)) (w.heap.size + 1) 42 [.slice none 0 0] := by have h := Own.new (w.alloc (.cells #[.bool a.v6, .int .u64 a.hi, .int .u64 a.lo] 25)) #[.slice none 0 0] 42; rwa [show (w.alloc (.cells #[.bool a.v6, .int .u64 a.hi, .int .u64 a.lo] 25)).heap.size = w.heap.size + 1 from by simp] at h
  have FO := Lib.hid (follow_cover4 b p0 p1 s t0 t1 (fun b => b < w.heap.size) a ((w.alloc (.cells #[.bool a.v6, .int .u64 a.hi, .int .u64 a.lo] 25)).alloc (.cells #[.slice none 0 0] 42)) (w.heap.size + 1) (by simp) oC hl ha h6 (hT.on LOW) ((h0.old.mono fun b h => h.2).on LOW) hp.g0 (fun b hb => ⟨by simp; omega, fun h => h.elim (fun h => by omega) (fun h => by simp at h; omega)⟩))
  rw [E0] at FO
  have k0 : ((w.alloc (.cells #[.bool a.v6, .int .u64 a.hi, .int .u64 a.lo] 25)).alloc (.cells #[.slice none 0 0] 42)).cell? ⟨w.heap.size, 0, none⟩ = some (.bool a.v6) := oB.cell rfl
  have k1 : ((w.alloc (.cells #[.bool a.v6, .int .u64 a.hi, .int .u64 a.lo] 25)).alloc (.cells #[.slice none 0 0] 42)).cell? ⟨w.heap.size, 1, none⟩ = some (.int .u64 a.hi) := oB.cell rfl
  have k2 : ((w.alloc (.cells #[.bool a.v6, .int .u64 a.hi, .int .u64 a.lo] 25)).alloc (.cells #[.slice none 0 0] 42)).cell? ⟨w.heap.size, 2, none⟩ = some (.int .u64 a.lo) := oB.cell rfl
  clear LK E0 oB oC h6 h0 h1 hT hp hl hlen
  go_enter Try.func16, Try.ntmps16
  go_wp2_with fail
  ((with_reducible refine (FO.out).mono ?_); rintro e w1 ⟨rfl, v', hC, hl, hb⟩)
  have c0 : w1.cell? ⟨w.heap.size + 1, 0, none⟩ = some v' := hC.cell rfl
  have HB := Lib.hid (LOW.trans (hb.below fun k hk => ⟨by simp; omega, fun h => h.elim (fun h => by omega) (fun h => by simp at h; omega)⟩))
  have HL := Lib.hid (recs_own encH_len (by decide) hl).1
  clear hC hl hb
  go_wp2_with fail
  go_ret
  exact ⟨v', rfl, HL.out, HB.out⟩
set_option maxHeartbeats 2000000 in
theorem cover_any6 (b : Nat) (p0 p1 : Option Addr) (s : Int) (t0 t1 : Tri) (a : Adr) (w : World) (ha : a.ok) (h6 : a.v6 = true) (hT : Top w b p0 p1 s) (h0 : At (fun _ => True) w t0 p0) (h1 : At (fun _ => True) w t1 p1) (hp : Pair t0 t1) (hlen : (both t0 t1).length ≤ 1000000) :
    Calls Try.prog 16 #[.pointer (some ⟨b, 0, none⟩), .agg #[.bool a.v6, .int .u64 a.hi, .int .u64 a.lo]] w (HitsR w (cover (both t0 t1) a)) := by
  have LK := hp.cover ha
  rw [h6] at LK
  have E0 : t1.over a = cover (both t0 t1) a := LK
  have hl : (t1.over a).length ≤ 1000000 := by have := Tri.over_len a t1; have := both_len t0 t1; omega
  have L1 : Below w.heap.size w (w.alloc (.cells #[.bool a.v6, .int .u64 a.hi, .int .u64 a.lo] 25)) := (Below.refl _ _).alloc (Nat.le_refl _) _
  have LOW : Below w.heap.size w ((w.alloc (.cells #[.bool a.v6, .int .u64 a.hi, .int .u64 a.lo] 25)).alloc (.cells #[.slice none 0 0] 42)) := L1.alloc (by simp) _
  have oB : Own ((w.alloc (.cells #[.bool a.v6, .int .u64 a.hi, .int .u64 a.lo] 25)).alloc (.cells #[.slice none 0 0] 42)) w.heap.size 25 [.bool a.v6, .int .u64 a.hi, .int .u64 a.lo] := (Own.new w _ _).on ((Below.refl _ _).alloc (Nat.le_refl _) _)
  have oC : Own ((w.alloc (.cells #[.bool a.v6, .int .u64 a.hi, .int .u64 a.lo] 25)).alloc (.cells #[.slice none 0 0] 42)) (w.heap.size + 1) 42 [.slice none 0 0] := by have h := Own.new (w.alloc (.cells #[.bool a.v6, .int .u64 a.hi, .int .u64 a.lo] 25)) #[.slice none 0 0] 42; rwa [show (w.alloc (.cells #[.bool a.v6, .int .u64 a.hi, .int .u64 a.lo] 25)).heap.size = w.heap.size + 1 from by simp] at h
  have FO := Lib.hid (follow_cover6 b p0 p1 s t0 t1 (fun b => b < w.heap.size) a ((w.alloc (.cells #[.bool a.v6, .int .u64 a.hi, .int .u64 a.lo] 25)).alloc (.cells #[.slice none 0 0] 42)) (w.heap.size + 1) (by simp) oC hl ha h6 (hT.on LOW) ((h1.old.mono fun b h => h.2).on LOW) hp.g1 (fun b hb => ⟨by simp; omega, fun h => h.elim (fun h => by omega) (fun h => by simp at h; omega)⟩))
  rw [E0] at FO
  have k0 : ((w.alloc (.cells #[.bool a.v6, .int .u64 a.hi, .int .u64 a.lo] 25)).alloc (.cells #[.slice none 0 0] 42)).cell? ⟨w.heap.size, 0, none⟩ = some (.bool a.v6) := oB.cell rfl
  have k1 : ((w.alloc (.cells #[.bool a.v6, .int .u64 a.hi, .int .u64 a.lo] 25)).alloc (.cells #[.slice none 0 0] 42)).cell? ⟨w.heap.size, 1, none⟩ = some (.int .u64 a.hi) := oB.cell rfl
  have k2 : ((w.alloc (.cells #[.bool a.v6, .int .u64 a.hi, .int .u64 a.lo] 25)).alloc (.cells #[.slice none 0 0] 42)).cell? ⟨w.heap.size, 2, none⟩ = some (.int .u64 a.lo) := oB.cell rfl
  clear LK E0 oB oC h6 h0 h1 hT hp hl hlen
  go_enter Try.func16, Try.ntmps16
  go_wp2_with fail
  ((with_reducible refine (FO.out).mono ?_); rintro e w1 ⟨rfl, v', hC, hl, hb⟩)
  have c0 : w1.cell? ⟨w.heap.size + 1, 0, none⟩ = some v' := hC.cell rfl
  have HB := Lib.hid (LOW.trans (hb.below fun k hk => ⟨by simp; omega, fun h => h.elim (fun h => by omega) (fun h => by simp at h; omega)⟩))
  have HL := Lib.hid (recs_own encH_len (by decide) hl).1
  clear hC hl hb
  go_wp2_with fail
  go_ret
  exact ⟨v', rfl, HL.out, HB.out⟩
set_option maxHeartbeats 2000000 in
theorem all_any (b : Nat) (p0 p1 : Option Addr) (s : Int) (t0 t1 : Tri) (w : World) (hT : Top w b p0 p1 s) (h0 : At (fun _ => True) w t0 p0) (h1 : At (fun _ => True) w t1 p1) (hlen : (both t0 t1).length ≤ 1000000) :
    Calls Try.prog 15 #[.pointer (some ⟨b, 0, none⟩)] w (HitsR w (both t0 t1)) := by
  have LOW : Below w.heap.size w (w.alloc (.cells #[.slice none 0 0] 42)) := (Below.refl _ _).alloc (Nat.le_refl _) _
  have hbl := both_len t0 t1
  have AG := Lib.hid (again_any b p0 p1 s (w.alloc (.cells #[.slice none 0 0] 42)) (hT.on LOW))
  have HS : ∀ b, b < w.heap.size → ¬ Dc w.heap.size (w.heap.size + 1) b := fun b hb h => h.elim (fun h => by omega) (fun h => by omega)
  have EZ := Lib.hid (fun w1 (k : But (Dc w.heap.size (w.heap.size + 1)) w w1) (hz : w.heap.size + 1 ≤ w1.heap.size) hC => each_any w.heap.size (w.heap.size + 1) t0 (fun b => b < w.heap.size) p0 (.slice none 0 0) [] w1 ((h0.old.mono fun b h => h.2).but k HS) HS hC (World.ownsRow_nil _ _ _ _) (by simp only [List.length_nil]; omega) hz (by omega))
  have EO := Lib.hid (fun w1 (k : But (Dc w.heap.size (w.heap.size + 1)) w w1) (hz : w.heap.size + 1 ≤ w1.heap.size) v1 hC hl => each_any w.heap.size (w.heap.size + 1) t1 (fun b => b < w.heap.size) p1 v1 t0.list w1 ((h1.old.mono fun b h => h.2).but k HS) HS hC hl (by omega) hz (by omega))
  have HLOW := Lib.hid LOW
  clear h0 h1 hT hlen hbl HS LOW
  go_enter Try.func15, Try.ntmps15
  go_wp2_with fail
  ((with_reducible refine (AG.out).mono ?_); rintro e w1 ⟨g, rfl, hg, ho, hb⟩)
  have g0 : w1.cell? ⟨g, 0, none⟩ = some (.pointer p0) := ho.cell rfl
  have g1 : w1.cell? ⟨g, 1, none⟩ = some (.pointer p1) := ho.cell rfl
  have hB1 : But (Dc w.heap.size (w.heap.size + 1)) w w1 := But.stays (low_trans HLOW.out hb)
  have hz1 : w.heap.size + 1 ≤ w1.heap.size := by have := hb.size; simp at this; omega
  have EZ1 := Lib.hid (EZ.out w1 hB1 hz1 ((Own.new w _ _).on hb))
  have HB1 := Lib.hid hB1
  have IX0 := pair_0 p0 p1
  have IX1 := pair_1 p0 p1
  clear ho hb hg hB1
  go_wp2_with fail
  refine wp_loop_rounds 3 ?_
  rw [rounds_succ]
  go_wp2_with fail
  ((with_reducible refine (EZ1.out).mono ?_); rintro e w2 ⟨rfl, v2, hC2, hl2, hb2⟩)
  have HB2 := Lib.hid (HB1.out.trans hb2)
  have EO1 := Lib.hid (EO.out w2 HB2.out (Nat.le_trans hz1 hb2.size) v2 hC2 hl2)
  clear hC2 hl2 hb2
  go_wp2_with fail
  rw [rounds_succ]
  go_wp2_with fail
  ((with_reducible refine (EO1.out).mono ?_); rintro e w3 ⟨rfl, v3, hC3, hl3, hb3⟩)
  have c0 : w3.cell? ⟨w.heap.size, 0, none⟩ = some v3 := hC3.cell rfl
  have HL3 := Lib.hid (recs_own encH_len (by decide) hl3).1
  have HB3 := Lib.hid (HB2.out.trans hb3)
  clear hC3 hl3 hb3
  go_wp2_with fail
  rw [rounds_succ]
  go_wp2_with fail
  go_ret
  exact ⟨v3, rfl, HL3.out, HB3.out.below fun k hk => ⟨hk, fun h => h.elim (fun h => by omega) (fun h => by omega)⟩⟩
def getN (b : Bool) : Int := if b then 1 else 0
theorem get_any (b : Nat) (p0 p1 : Option Addr) (s : Int) (t0 t1 : Tri) (n : Net) (w : World) (hn : n.ok) (hT : Top w b p0 p1 s) (h0 : At (fun _ => True) w t0 p0) (h1 : At (fun _ => True) w t1 p1) (hp : Pair t0 t1) :
    Calls Try.prog 11 #[.pointer (some ⟨b, 0, none⟩), .agg #[.bool n.a.v6, .int .u64 n.a.hi, .int .u64 n.a.lo, .int .i64 n.n]] w fun e w' => e = .returned (.tuple #[.int .i64 (getV (both t0 t1) n), .bool (getB (both t0 t1) n)]) ∧ Below w.heap.size w w' := by
  cases h : n.a.v6
  · have := get_any4 b p0 p1 s t0 t1 n w hn h hT h0 h1 hp; rwa [h] at this
  · have := get_any6 b p0 p1 s t0 t1 n w hn h hT h0 h1 hp; rwa [h] at this
theorem cover_any (b : Nat) (p0 p1 : Option Addr) (s : Int) (t0 t1 : Tri) (a : Adr) (w : World) (ha : a.ok) (hT : Top w b p0 p1 s) (h0 : At (fun _ => True) w t0 p0) (h1 : At (fun _ => True) w t1 p1) (hp : Pair t0 t1) (hlen : (both t0 t1).length ≤ 1000000) :
    Calls Try.prog 16 #[.pointer (some ⟨b, 0, none⟩), .agg #[.bool a.v6, .int .u64 a.hi, .int .u64 a.lo]] w (HitsR w (cover (both t0 t1) a)) := by
  cases h : a.v6
  · have := cover_any4 b p0 p1 s t0 t1 a w ha h hT h0 h1 hp hlen; rwa [h] at this
  · have := cover_any6 b p0 p1 s t0 t1 a w ha h hT h0 h1 hp hlen; rwa [h] at this
set_option maxHeartbeats 8000000 in
theorem with_no (b : Nat) (p0 p1 : Option Addr) (t0 t1 : Tri) (n : Net) (v : Int) (w : World) (hn : n.ok) (hT : Top w b p0 p1 ((both t0 t1).length : Nat)) (h0 : At (fun _ => True) w t0 p0) (h1 : At (fun _ => True) w t1 p1) (hp : Pair t0 t1) (hlen : (both t0 t1).length ≤ 1000) (hv : -9223372036854775808 ≤ v ∧ v ≤ 9223372036854775807) (hno : rightN n = false) :
    Calls Try.prog 18 #[.pointer (some ⟨b, 0, none⟩), .agg #[.bool n.a.v6, .int .u64 n.a.hi, .int .u64 n.a.lo, .int .i64 n.n], .int .i64 v] w (Made w (withH (both t0 t1) n v)) := by
  have LOW : Below w.heap.size w (w.alloc (.cells #[.bool n.a.v6, .int .u64 n.a.hi, .int .u64 n.a.lo, .int .i64 n.n] 27)) := (Below.refl _ _).alloc (Nat.le_refl _) _
  have HLEN := Lib.hid hlen
  have HP := Lib.hid hp
  have HT := Lib.hid hT
  have H0 := Lib.hid h0
  have H1 := Lib.hid h1
  obtain ⟨s, hs⟩ : ∃ s : Int, s = ((both t0 t1).length : Nat) := ⟨_, rfl⟩
  have hs1 : 0 ≤ s := by omega
  have hs2 : s ≤ 1000 := by omega
  rw [← hs] at hT
  have HSE := Lib.hid hs
  clear hs
  have AG := Lib.hid (again_any b p0 p1 s (w.alloc (.cells #[.bool n.a.v6, .int .u64 n.a.hi, .int .u64 n.a.lo, .int .i64 n.n] 27)) (hT.on LOW))
  have GT := Lib.hid (fun W (k : Below w.heap.size w W) => get_any b p0 p1 s t0 t1 n W hn (hT.on k) (h0.on k) (h1.on k) hp)
  have RN := Lib.hid (fun W => rightN_any n W hn)
  have E0 := Lib.hid (show both t0 t1 = withH (both t0 t1) n v by unfold withH; rw [hno]; rfl)
  rw [hno] at RN
  clear hno
  have k0 : (w.alloc (.cells #[.bool n.a.v6, .int .u64 n.a.hi, .int .u64 n.a.lo, .int .i64 n.n] 27)).cell? ⟨w.heap.size, 0, none⟩ = some (.bool n.a.v6) := by simp [go_sem]
  have k1 : (w.alloc (.cells #[.bool n.a.v6, .int .u64 n.a.hi, .int .u64 n.a.lo, .int .i64 n.n] 27)).cell? ⟨w.heap.size, 1, none⟩ = some (.int .u64 n.a.hi) := by simp [go_sem]
  have k2 : (w.alloc (.cells #[.bool n.a.v6, .int .u64 n.a.hi, .int .u64 n.a.lo, .int .i64 n.n] 27)).cell? ⟨w.heap.size, 2, none⟩ = some (.int .u64 n.a.lo) := by simp [go_sem]
  have k3 : (w.alloc (.cells #[.bool n.a.v6, .int .u64 n.a.hi, .int .u64 n.a.lo, .int .i64 n.n] 27)).cell? ⟨w.heap.size, 3, none⟩ = some (.int .i64 n.n) := by simp [go_sem]
  clear hlen hp hT h0 h1
  go_enter Try.func18, Try.ntmps18
  go_wp2_with fail
  ((with_reducible refine (AG.out).mono ?_); rintro e w1 ⟨g, rfl, hg, ho, hb⟩)
  have hgw : w.heap.size < g := by simp at hg; omega
  have HB1 := Lib.hid (low_trans LOW hb)
  have HO1 := Lib.hid ho
  have a0 : w1.cell? ⟨w.heap.size, 0, none⟩ = some (.bool n.a.v6) := cells_left hb k0
  have a1 : w1.cell? ⟨w.heap.size, 1, none⟩ = some (.int .u64 n.a.hi) := cells_left hb k1
  have a2 : w1.cell? ⟨w.heap.size, 2, none⟩ = some (.int .u64 n.a.lo) := cells_left hb k2
  have a3 : w1.cell? ⟨w.heap.size, 3, none⟩ = some (.int .i64 n.n) := cells_left hb k3
  clear k0 k1 k2 k3
  clear ho hb hg
  go_wp2_with fail
  ((with_reducible refine (RN.out _).mono ?_); rintro e w2 ⟨rfl, hb⟩)
  have HB2 := Lib.hid (low_trans HB1.out hb)
  have HO2 := Lib.hid (HO1.out.on hb)
  have c0 : w2.cell? ⟨w.heap.size, 0, none⟩ = some (.bool n.a.v6) := cells_left hb a0
  have c1 : w2.cell? ⟨w.heap.size, 1, none⟩ = some (.int .u64 n.a.hi) := cells_left hb a1
  have c2 : w2.cell? ⟨w.heap.size, 2, none⟩ = some (.int .u64 n.a.lo) := cells_left hb a2
  have c3 : w2.cell? ⟨w.heap.size, 3, none⟩ = some (.int .i64 n.n) := cells_left hb a3
  clear a0 a1 a2 a3
  clear hb
  go_wp2_with fail
  go_ret
  exact ⟨_, rfl, ⟨g, p0, p1, t0, t1, rfl, by rw [← E0.out, ← HSE.out]; exact HO2.out.top, H0.out.on HB2.out, H1.out.on HB2.out, HP.out, E0.out.symm⟩, HB2.out⟩
set_option maxHeartbeats 8000000 in
theorem without_no (b : Nat) (p0 p1 : Option Addr) (t0 t1 : Tri) (n : Net) (w : World) (hn : n.ok) (hT : Top w b p0 p1 ((both t0 t1).length : Nat)) (h0 : At (fun _ => True) w t0 p0) (h1 : At (fun _ => True) w t1 p1) (hp : Pair t0 t1) (hlen : (both t0 t1).length ≤ 1000) (hno : getB (both t0 t1) n = false) :
    Calls Try.prog 20 #[.pointer (some ⟨b, 0, none⟩), .agg #[.bool n.a.v6, .int .u64 n.a.hi, .int .u64 n.a.lo, .int .i64 n.n]] w (Made w (cut (both t0 t1) n)) := by
  have LOW : Below w.heap.size w (w.alloc (.cells #[.bool n.a.v6, .int .u64 n.a.hi, .int .u64 n.a.lo, .int .i64 n.n] 27)) := (Below.refl _ _).alloc (Nat.le_refl _) _
  have HLEN := Lib.hid hlen
  have HP := Lib.hid hp
  have HT := Lib.hid hT
  have H0 := Lib.hid h0
  have H1 := Lib.hid h1
  obtain ⟨s, hs⟩ : ∃ s : Int, s = ((both t0 t1).length : Nat) := ⟨_, rfl⟩
  have hs1 : 0 ≤ s := by omega
  have hs2 : s ≤ 1000 := by omega
  rw [← hs] at hT
  have HSE := Lib.hid hs
  clear hs
  have AG := Lib.hid (again_any b p0 p1 s (w.alloc (.cells #[.bool n.a.v6, .int .u64 n.a.hi, .int .u64 n.a.lo, .int .i64 n.n] 27)) (hT.on LOW))
  have GT := Lib.hid (fun W (k : Below w.heap.size w W) => get_any b p0 p1 s t0 t1 n W hn (hT.on k) (h0.on k) (h1.on k) hp)
  have E0 := Lib.hid (show both t0 t1 = cut (both t0 t1) n from (cut_none hno).symm)
  rw [hno] at GT
  clear hno
  have k0 : (w.alloc (.cells #[.bool n.a.v6, .int .u64 n.a.hi, .int .u64 n.a.lo, .int .i64 n.n] 27)).cell? ⟨w.heap.size, 0, none⟩ = some (.bool n.a.v6) := by simp [go_sem]
  have k1 : (w.alloc (.cells #[.bool n.a.v6, .int .u64 n.a.hi, .int .u64 n.a.lo, .int .i64 n.n] 27)).cell? ⟨w.heap.size, 1, none⟩ = some (.int .u64 n.a.hi) := by simp [go_sem]
  have k2 : (w.alloc (.cells #[.bool n.a.v6, .int .u64 n.a.hi, .int .u64 n.a.lo, .int .i64 n.n] 27)).cell? ⟨w.heap.size, 2, none⟩ = some (.int .u64 n.a.lo) := by simp [go_sem]
  have k3 : (w.alloc (.cells #[.bool n.a.v6, .int .u64 n.a.hi, .int .u64 n.a.lo, .int .i64 n.n] 27)).cell? ⟨w.heap.size, 3, none⟩ = some (.int .i64 n.n) := by simp [go_sem]
  clear hlen hp hT h0 h1
  go_enter Try.func20, Try.ntmps20
  go_wp2_with fail
  ((with_reducible refine (AG.out).mono ?_); rintro e w1 ⟨g, rfl, hg, ho, hb⟩)
  have hgw : w.heap.size < g := by simp at hg; omega
  have HB1 := Lib.hid (low_trans LOW hb)
  have HO1 := Lib.hid ho
  have a0 : w1.cell? ⟨w.heap.size, 0, none⟩ = some (.bool n.a.v6) := cells_left hb k0
  have a1 : w1.cell? ⟨w.heap.size, 1, none⟩ = some (.int .u64 n.a.hi) := cells_left hb k1
  have a2 : w1.cell? ⟨w.heap.size, 2, none⟩ = some (.int .u64 n.a.lo) := cells_left hb k2
  have a3 : w1.cell? ⟨w.heap.size, 3, none⟩ = some (.int .i64 n.n) := cells_left hb k3
  clear k0 k1 k2 k3
  clear ho hb hg
  go_wp2_with fail
  have GT1 := Lib.hid (GT.out _ HB1.out)
  ((with_reducible refine (GT1.out).mono ?_); rintro e w3 ⟨rfl, hb⟩)
  have HB3 := Lib.hid (low_trans HB1.out hb)
  have HO3 := Lib.hid (HO1.out.on hb)
  have d0 : w3.cell? ⟨w.heap.size, 0, none⟩ = some (.bool n.a.v6) := cells_left hb a0
  have d1 : w3.cell? ⟨w.heap.size, 1, none⟩ = some (.int .u64 n.a.hi) := cells_left hb a1
  have d2 : w3.cell? ⟨w.heap.size, 2, none⟩ = some (.int .u64 n.a.lo) := cells_left hb a2
  have d3 : w3.cell? ⟨w.heap.size, 3, none⟩ = some (.int .i64 n.n) := cells_left hb a3
  clear a0 a1 a2 a3
  clear hb
  go_wp2_with fail
  go_ret
  exact ⟨_, rfl, ⟨g, p0, p1, t0, t1, rfl, by rw [← E0.out, ← HSE.out]; exact HO3.out.top, H0.out.on HB3.out, H1.out.on HB3.out, HP.out, E0.out.symm⟩, HB3.out⟩
set_option maxHeartbeats 8000000 in
theorem without_do4 (b : Nat) (p0 p1 : Option Addr) (t0 t1 : Tri) (n : Net) (w : World) (hn : n.ok) (hT : Top w b p0 p1 ((both t0 t1).length : Nat)) (h0 : At (fun _ => True) w t0 p0) (h1 : At (fun _ => True) w t1 p1) (hp : Pair t0 t1) (hlen : (both t0 t1).length ≤ 1000) (h6 : n.a.v6 = false) (hx : getB (both t0 t1) n = true) :
    Calls Try.prog 20 #[.pointer (some ⟨b, 0, none⟩), .agg #[.bool n.a.v6, .int .u64 n.a.hi, .int .u64 n.a.lo, .int .i64 n.n]] w (Made w (cut (both t0 t1) n)) := by
  have LOW : Below w.heap.size w (w.alloc (.cells #[.bool n.a.v6, .int .u64 n.a.hi, .int .u64 n.a.lo, .int .i64 n.n] 27)) := (Below.refl _ _).alloc (Nat.le_refl _) _
  have HLEN := Lib.hid hlen
  have HP := Lib.hid hp
  have HT := Lib.hid hT
  have H0 := Lib.hid h0
  have H1 := Lib.hid h1
  obtain ⟨s, hs⟩ : ∃ s : Int, s = ((both t0 t1).length : Nat) := ⟨_, rfl⟩
  have hs1 : 0 ≤ s := by omega
  have hs2 : s ≤ 1000 := by omega
  rw [← hs] at hT
  have HSE := Lib.hid hs
  clear hs
  have AG := Lib.hid (again_any b p0 p1 s (w.alloc (.cells #[.bool n.a.v6, .int .u64 n.a.hi, .int .u64 n.a.lo, .int .i64 n.n] 27)) (hT.on LOW))
  have GT := Lib.hid (fun W (k : Below w.heap.size w W) => get_any b p0 p1 s t0 t1 n W hn (hT.on k) (h0.on k) (h1.on k) hp)
  obtain ⟨HQ1, HQ2, hy⟩ := (hp.del hx).1 h6
  have HSZ := Lib.hid (show s - 1 = ((cut (both t0 t1) n).length : Nat) by have := cut_one hp.sorted hx; rw [HSE.out]; omega)
  have DO := Lib.hid (fun W (k : Below w.heap.size w W) => without_any n hn t0 (fun b => b < w.heap.size) p0 W (fun b hb => Nat.lt_of_lt_of_le hb k.size) ((h0.old.mono fun b h => h.2).on k) hp.g0 hy)
  have hs3 : 1 ≤ s := by have := cut_one hp.sorted hx; rw [HSE.out]; omega
  have HPQ := Lib.hid HQ1
  have HLQ := Lib.hid HQ2
  clear HQ1 HQ2
  have KD := Lib.hid (fun W => kind_any n.a W)
  rw [show kindI n.a.v6 = 0 by rw [h6]; rfl] at KD
  rw [hx] at GT
  clear hx h6 hy
  have k0 : (w.alloc (.cells #[.bool n.a.v6, .int .u64 n.a.hi, .int .u64 n.a.lo, .int .i64 n.n] 27)).cell? ⟨w.heap.size, 0, none⟩ = some (.bool n.a.v6) := by simp [go_sem]
  have k1 : (w.alloc (.cells #[.bool n.a.v6, .int .u64 n.a.hi, .int .u64 n.a.lo, .int .i64 n.n] 27)).cell? ⟨w.heap.size, 1, none⟩ = some (.int .u64 n.a.hi) := by simp [go_sem]
  have k2 : (w.alloc (.cells #[.bool n.a.v6, .int .u64 n.a.hi, .int .u64 n.a.lo, .int .i64 n.n] 27)).cell? ⟨w.heap.size, 2, none⟩ = some (.int .u64 n.a.lo) := by simp [go_sem]
  have k3 : (w.alloc (.cells #[.bool n.a.v6, .int .u64 n.a.hi, .int .u64 n.a.lo, .int .i64 n.n] 27)).cell? ⟨w.heap.size, 3, none⟩ = some (.int .i64 n.n) := by simp [go_sem]
  clear hlen hp hT h0 h1
  go_enter Try.func20, Try.ntmps20
  go_wp2_with fail
  ((with_reducible refine (AG.out).mono ?_); rintro e w1 ⟨g, rfl, hg, ho, hb⟩)
  have hgw : w.heap.size < g := by simp at hg; omega
  have HB1 := Lib.hid (low_trans LOW hb)
  have HO1 := Lib.hid ho
  have a0 : w1.cell? ⟨w.heap.size, 0, none⟩ = some (.bool n.a.v6) := cells_left hb k0
  have a1 : w1.cell? ⟨w.heap.size, 1, none⟩ = some (.int .u64 n.a.hi) := cells_left hb k1
  have a2 : w1.cell? ⟨w.heap.size, 2, none⟩ = some (.int .u64 n.a.lo) := cells_left hb k2
  have a3 : w1.cell? ⟨w.heap.size, 3, none⟩ = some (.int .i64 n.n) := cells_left hb k3
  clear k0 k1 k2 k3
  clear ho hb hg
  go_wp2_with fail
  have GT1 := Lib.hid (GT.out _ HB1.out)
  ((with_reducible refine (GT1.out).mono ?_); rintro e w3 ⟨rfl, hb⟩)
  have HB3 := Lib.hid (low_trans HB1.out hb)
  have HO3 := Lib.hid (HO1.out.on hb)
  have d0 : w3.cell? ⟨w.heap.size, 0, none⟩ = some (.bool n.a.v6) := cells_left hb a0
  have d1 : w3.cell? ⟨w.heap.size, 1, none⟩ = some (.int .u64 n.a.hi) := cells_left hb a1
  have d2 : w3.cell? ⟨w.heap.size, 2, none⟩ = some (.int .u64 n.a.lo) := cells_left hb a2
  have d3 : w3.cell? ⟨w.heap.size, 3, none⟩ = some (.int .i64 n.n) := cells_left hb a3
  clear a0 a1 a2 a3
  clear hb
  have q2 : w3.cell? ⟨g, 2, none⟩ = some (.int .i64 s) := HO3.out.cell rfl
  have z2 : w3.frozen? ⟨g, 2, none⟩ = false := HO3.out.free _
  have W4 := Lib.hid (show Below w.heap.size w (w3.setCell ⟨g, 2, none⟩ (.int .i64 (s - 1))) from HB3.out.setCell (p := ⟨g, 2, none⟩) (Nat.le_of_lt hgw) _)
  have O4 := Lib.hid (HO3.out.set 2 (.int .i64 (s - 1)))
  have e0 : (w3.setCell ⟨g, 2, none⟩ (.int .i64 (s - 1))).cell? ⟨w.heap.size, 0, none⟩ = some (.bool n.a.v6) := ((World.cell?_of_block (Below.heap_setCell _ _ _ _ (show w.heap.size ≠ g by omega))).trans d0)
  have e1 : (w3.setCell ⟨g, 2, none⟩ (.int .i64 (s - 1))).cell? ⟨w.heap.size, 1, none⟩ = some (.int .u64 n.a.hi) := ((World.cell?_of_block (Below.heap_setCell _ _ _ _ (show w.heap.size ≠ g by omega))).trans d1)
  have e2 : (w3.setCell ⟨g, 2, none⟩ (.int .i64 (s - 1))).cell? ⟨w.heap.size, 2, none⟩ = some (.int .u64 n.a.lo) := ((World.cell?_of_block (Below.heap_setCell _ _ _ _ (show w.heap.size ≠ g by omega))).trans d2)
  have e3 : (w3.setCell ⟨g, 2, none⟩ (.int .i64 (s - 1))).cell? ⟨w.heap.size, 3, none⟩ = some (.int .i64 n.n) := ((World.cell?_of_block (Below.heap_setCell _ _ _ _ (show w.heap.size ≠ g by omega))).trans d3)
  go_wp2_with fail
  ((with_reducible refine (KD.out _).mono ?_); rintro e w5 ⟨rfl, hb⟩)
  have HB5 := Lib.hid (low_trans W4.out hb)
  have HO5 := Lib.hid (O4.out.on hb)
  have j0 : w5.cell? ⟨w.heap.size, 0, none⟩ = some (.bool n.a.v6) := cells_left hb e0
  have j1 : w5.cell? ⟨w.heap.size, 1, none⟩ = some (.int .u64 n.a.hi) := cells_left hb e1
  have j2 : w5.cell? ⟨w.heap.size, 2, none⟩ = some (.int .u64 n.a.lo) := cells_left hb e2
  have j3 : w5.cell? ⟨w.heap.size, 3, none⟩ = some (.int .i64 n.n) := cells_left hb e3
  clear hb e0 e1 e2 e3 d0 d1 d2 d3 q2 z2
  have g0 : w5.cell? ⟨g, 0, none⟩ = some (.pointer p0) := HO5.out.cell rfl
  have fg : w5.frozen? ⟨g, 0, none⟩ = false := HO5.out.free _
  have hgl : g < w5.heap.size := HO5.out.lt
  have DO1 := Lib.hid (DO.out w5.drew (low_drew HB5.out))
  go_upto_region 7 with fail
  go_cut [] (fun wx => ∃ w6 u, wx = w6.setCell ⟨g, 0, none⟩ (.pointer u) ∧ At (fun b => b < w.heap.size ∨ w5.heap.size ≤ b) w6 (t0.del n) u ∧ Below w5.heap.size w5 w6)
  case first =>
    first
      | (go_region_with (first
          | (go_at_call 35; (with_reducible refine (DO1.out).mono ?_); rintro e w6 ⟨u, rfl, hu, hb6⟩; have sc6 : w6.cell? ⟨g, 0, none⟩ = some (.pointer p0) := cells_left (W := w5.drew) hb6 g0; have sf6 : w6.frozen? ⟨g, 0, none⟩ = false := frozen_left (W := w5.drew) hb6 hgl fg; have HU := Lib.hid hu; have HB6 := Lib.hid hb6; clear hu hb6)))
      | fail
    all_goals
      go_wp2_with fail
      go_meet
      exact ⟨w6, u, rfl, HU.out, low_trans (low_drew (Below.refl _ w5)) HB6.out⟩
  case rest =>
    obtain ⟨w6, u, rfl, hu, hb6⟩ := hcut
    have O6 := Lib.hid ((HO5.out.on hb6).set 0 (.pointer u))
    have LB := Lib.hid ((low_trans HB5.out hb6).setCell (p := ⟨g, 0, none⟩) (Nat.le_of_lt hgw) (.pointer u))
    have HU := Lib.hid hu
    clear hu hb6
    go_wp2_with fail
    go_ret
    have hno : ¬ (fun b => b < w.heap.size ∨ w5.heap.size ≤ b) g := fun h => h.elim (fun h => by omega) (fun h => by omega)
    refine ⟨_, rfl, ⟨g, u, p1, t0.del n, t1, rfl, ?_, ?_, ?_, HPQ.out, HLQ.out.symm⟩, LB.out⟩
    · rw [← HSZ.out]; exact O6.out.top
    · exact (HU.out.set (a := ⟨g, 0, none⟩) hno _).mono fun _ _ => trivial
    · exact H1.out.on LB.out
set_option maxHeartbeats 8000000 in
theorem with_do40 (b : Nat) (p0 p1 : Option Addr) (t0 t1 : Tri) (n : Net) (v : Int) (w : World) (hn : n.ok) (hT : Top w b p0 p1 ((both t0 t1).length : Nat)) (h0 : At (fun _ => True) w t0 p0) (h1 : At (fun _ => True) w t1 p1) (hp : Pair t0 t1) (hlen : (both t0 t1).length ≤ 1000) (hv : -9223372036854775808 ≤ v ∧ v ≤ 9223372036854775807) (h6 : n.a.v6 = false) (hx : getB (both t0 t1) n = false) (hr : rightN n = true) :
    Calls Try.prog 18 #[.pointer (some ⟨b, 0, none⟩), .agg #[.bool n.a.v6, .int .u64 n.a.hi, .int .u64 n.a.lo, .int .i64 n.n], .int .i64 v] w (Made w (withH (both t0 t1) n v)) := by
  have LOW : Below w.heap.size w (w.alloc (.cells #[.bool n.a.v6, .int .u64 n.a.hi, .int .u64 n.a.lo, .int .i64 n.n] 27)) := (Below.refl _ _).alloc (Nat.le_refl _) _
  have HLEN := Lib.hid hlen
  have HP := Lib.hid hp
  have HT := Lib.hid hT
  have H0 := Lib.hid h0
  have H1 := Lib.hid h1
  obtain ⟨s, hs⟩ : ∃ s : Int, s = ((both t0 t1).length : Nat) := ⟨_, rfl⟩
  have hs1 : 0 ≤ s := by omega
  have hs2 : s ≤ 1000 := by omega
  rw [← hs] at hT
  have HSE := Lib.hid hs
  clear hs
  have AG := Lib.hid (again_any b p0 p1 s (w.alloc (.cells #[.bool n.a.v6, .int .u64 n.a.hi, .int .u64 n.a.lo, .int .i64 n.n] 27)) (hT.on LOW))
  have GT := Lib.hid (fun W (k : Below w.heap.size w W) => get_any b p0 p1 s t0 t1 n W hn (hT.on k) (h0.on k) (h1.on k) hp)
  have RN := Lib.hid (fun W => rightN_any n W hn)
  have okn : Ok n := ⟨hn, hr⟩
  obtain ⟨HQ1, HQ2⟩ := (hp.put (n := n) (v := v) okn hv).1 h6
  have HSZ := Lib.hid (show s + 1 = ((withH (both t0 t1) n v).length : Nat) by have := withH_size hp.sorted v hr; rw [hx] at this; rw [HSE.out, this]; simp)
  have DO := Lib.hid (fun W (k : Below w.heap.size w W) => with_any n v okn t0 (fun b => b < w.heap.size) p0 W (fun b hb => Nat.lt_of_lt_of_le hb k.size) ((h0.old.mono fun b h => h.2).on k) hp.g0 (h6 ▸ hp.k0))
  rw [hr] at RN
  clear hr okn
  have HPQ := Lib.hid HQ1
  have HLQ := Lib.hid HQ2
  clear HQ1 HQ2
  have KD := Lib.hid (fun W => kind_any n.a W)
  rw [show kindI n.a.v6 = 0 by rw [h6]; rfl] at KD
  rw [hx] at GT
  clear hx h6
  have k0 : (w.alloc (.cells #[.bool n.a.v6, .int .u64 n.a.hi, .int .u64 n.a.lo, .int .i64 n.n] 27)).cell? ⟨w.heap.size, 0, none⟩ = some (.bool n.a.v6) := by simp [go_sem]
  have k1 : (w.alloc (.cells #[.bool n.a.v6, .int .u64 n.a.hi, .int .u64 n.a.lo, .int .i64 n.n] 27)).cell? ⟨w.heap.size, 1, none⟩ = some (.int .u64 n.a.hi) := by simp [go_sem]
  have k2 : (w.alloc (.cells #[.bool n.a.v6, .int .u64 n.a.hi, .int .u64 n.a.lo, .int .i64 n.n] 27)).cell? ⟨w.heap.size, 2, none⟩ = some (.int .u64 n.a.lo) := by simp [go_sem]
  have k3 : (w.alloc (.cells #[.bool n.a.v6, .int .u64 n.a.hi, .int .u64 n.a.lo, .int .i64 n.n] 27)).cell? ⟨w.heap.size, 3, none⟩ = some (.int .i64 n.n) := by simp [go_sem]
  clear hlen hp hT h0 h1
  go_enter Try.func18, Try.ntmps18
  go_wp2_with fail
  ((with_reducible refine (AG.out).mono ?_); rintro e w1 ⟨g, rfl, hg, ho, hb⟩)
  have hgw : w.heap.size < g := by simp at hg; omega
  have HB1 := Lib.hid (low_trans LOW hb)
  have HO1 := Lib.hid ho
  have a0 : w1.cell? ⟨w.heap.size, 0, none⟩ = some (.bool n.a.v6) := cells_left hb k0
  have a1 : w1.cell? ⟨w.heap.size, 1, none⟩ = some (.int .u64 n.a.hi) := cells_left hb k1
  have a2 : w1.cell? ⟨w.heap.size, 2, none⟩ = some (.int .u64 n.a.lo) := cells_left hb k2
  have a3 : w1.cell? ⟨w.heap.size, 3, none⟩ = some (.int .i64 n.n) := cells_left hb k3
  clear k0 k1 k2 k3
  clear ho hb hg
  go_wp2_with fail
  ((with_reducible refine (RN.out _).mono ?_); rintro e w2 ⟨rfl, hb⟩)
  have HB2 := Lib.hid (low_trans HB1.out hb)
  have HO2 := Lib.hid (HO1.out.on hb)
  have c0 : w2.cell? ⟨w.heap.size, 0, none⟩ = some (.bool n.a.v6) := cells_left hb a0
  have c1 : w2.cell? ⟨w.heap.size, 1, none⟩ = some (.int .u64 n.a.hi) := cells_left hb a1
  have c2 : w2.cell? ⟨w.heap.size, 2, none⟩ = some (.int .u64 n.a.lo) := cells_left hb a2
  have c3 : w2.cell? ⟨w.heap.size, 3, none⟩ = some (.int .i64 n.n) := cells_left hb a3
  clear a0 a1 a2 a3
  clear hb
  go_wp2_with fail
  have GT1 := Lib.hid (GT.out _ HB2.out)
  ((with_reducible refine (GT1.out).mono ?_); rintro e w3 ⟨rfl, hb⟩)
  have HB3 := Lib.hid (low_trans HB2.out hb)
  have HO3 := Lib.hid (HO2.out.on hb)
  have d0 : w3.cell? ⟨w.heap.size, 0, none⟩ = some (.bool n.a.v6) := cells_left hb c0
  have d1 : w3.cell? ⟨w.heap.size, 1, none⟩ = some (.int .u64 n.a.hi) := cells_left hb c1
  have d2 : w3.cell? ⟨w.heap.size, 2, none⟩ = some (.int .u64 n.a.lo) := cells_left hb c2
  have d3 : w3.cell? ⟨w.heap.size, 3, none⟩ = some (.int .i64 n.n) := cells_left hb c3
  clear c0 c1 c2 c3
  clear hb
  have q2 : w3.cell? ⟨g, 2, none⟩ = some (.int .i64 s) := HO3.out.cell rfl
  have z2 : w3.frozen? ⟨g, 2, none⟩ = false := HO3.out.free _
  have W4 := Lib.hid (show Below w.heap.size w (w3.setCell ⟨g, 2, none⟩ (.int .i64 (s + 1))) from HB3.out.setCell (p := ⟨g, 2, none⟩) (Nat.le_of_lt hgw) _)
  have O4 := Lib.hid (HO3.out.set 2 (.int .i64 (s + 1)))
  have e0 : (w3.setCell ⟨g, 2, none⟩ (.int .i64 (s + 1))).cell? ⟨w.heap.size, 0, none⟩ = some (.bool n.a.v6) := ((World.cell?_of_block (Below.heap_setCell _ _ _ _ (show w.heap.size ≠ g by omega))).trans d0)
  have e1 : (w3.setCell ⟨g, 2, none⟩ (.int .i64 (s + 1))).cell? ⟨w.heap.size, 1, none⟩ = some (.int .u64 n.a.hi) := ((World.cell?_of_block (Below.heap_setCell _ _ _ _ (show w.heap.size ≠ g by omega))).trans d1)
  have e2 : (w3.setCell ⟨g, 2, none⟩ (.int .i64 (s + 1))).cell? ⟨w.heap.size, 2, none⟩ = some (.int .u64 n.a.lo) := ((World.cell?_of_block (Below.heap_setCell _ _ _ _ (show w.heap.size ≠ g by omega))).trans d2)
  have e3 : (w3.setCell ⟨g, 2, none⟩ (.int .i64 (s + 1))).cell? ⟨w.heap.size, 3, none⟩ = some (.int .i64 n.n) := ((World.cell?_of_block (Below.heap_setCell _ _ _ _ (show w.heap.size ≠ g by omega))).trans d3)
  go_wp2_with fail
  ((with_reducible refine (KD.out _).mono ?_); rintro e w5 ⟨rfl, hb⟩)
  have HB5 := Lib.hid (low_trans W4.out hb)
  have HO5 := Lib.hid (O4.out.on hb)
  have j0 : w5.cell? ⟨w.heap.size, 0, none⟩ = some (.bool n.a.v6) := cells_left hb e0
  have j1 : w5.cell? ⟨w.heap.size, 1, none⟩ = some (.int .u64 n.a.hi) := cells_left hb e1
  have j2 : w5.cell? ⟨w.heap.size, 2, none⟩ = some (.int .u64 n.a.lo) := cells_left hb e2
  have j3 : w5.cell? ⟨w.heap.size, 3, none⟩ = some (.int .i64 n.n) := cells_left hb e3
  clear hb e0 e1 e2 e3 d0 d1 d2 d3 q2 z2
  have g0 : w5.cell? ⟨g, 0, none⟩ = some (.pointer p0) := HO5.out.cell rfl
  have fg : w5.frozen? ⟨g, 0, none⟩ = false := HO5.out.free _
  have hgl : g < w5.heap.size := HO5.out.lt
  have DO1 := Lib.hid (DO.out w5.drew (low_drew HB5.out))
  go_upto_region 8 with fail
  go_cut [] (fun wx => ∃ w6 u, wx = w6.setCell ⟨g, 0, none⟩ (.pointer u) ∧ At (fun b => b < w.heap.size ∨ w5.heap.size ≤ b) w6 (t0.put n v) u ∧ Below w5.heap.size w5 w6)
  case first =>
    first
      | (go_region_with (first
          | (go_at_call 34; (with_reducible refine (DO1.out).mono ?_); rintro e w6 ⟨u, rfl, hu, hb6⟩; have sc6 : w6.cell? ⟨g, 0, none⟩ = some (.pointer p0) := cells_left (W := w5.drew) hb6 g0; have sf6 : w6.frozen? ⟨g, 0, none⟩ = false := frozen_left (W := w5.drew) hb6 hgl fg; have HU := Lib.hid hu; have HB6 := Lib.hid hb6; clear hu hb6)))
      | fail
    all_goals
      go_wp2_with fail
      go_meet
      exact ⟨w6, u, rfl, HU.out, low_trans (low_drew (Below.refl _ w5)) HB6.out⟩
  case rest =>
    obtain ⟨w6, u, rfl, hu, hb6⟩ := hcut
    have O6 := Lib.hid ((HO5.out.on hb6).set 0 (.pointer u))
    have LB := Lib.hid ((low_trans HB5.out hb6).setCell (p := ⟨g, 0, none⟩) (Nat.le_of_lt hgw) (.pointer u))
    have HU := Lib.hid hu
    clear hu hb6
    go_wp2_with fail
    go_ret
    have hno : ¬ (fun b => b < w.heap.size ∨ w5.heap.size ≤ b) g := fun h => h.elim (fun h => by omega) (fun h => by omega)
    refine ⟨_, rfl, ⟨g, u, p1, t0.put n v, t1, rfl, ?_, ?_, ?_, HPQ.out, HLQ.out.symm⟩, LB.out⟩
    · rw [← HSZ.out]; exact O6.out.top
    · exact (HU.out.set (a := ⟨g, 0, none⟩) hno _).mono fun _ _ => trivial
    · exact H1.out.on LB.out
set_option maxHeartbeats 8000000 in
theorem with_do41 (b : Nat) (p0 p1 : Option Addr) (t0 t1 : Tri) (n : Net) (v : Int) (w : World) (hn : n.ok) (hT : Top w b p0 p1 ((both t0 t1).length : Nat)) (h0 : At (fun _ => True) w t0 p0) (h1 : At (fun _ => True) w t1 p1) (hp : Pair t0 t1) (hlen : (both t0 t1).length ≤ 1000) (hv : -9223372036854775808 ≤ v ∧ v ≤ 9223372036854775807) (h6 : n.a.v6 = false) (hx : getB (both t0 t1) n = true) (hr : rightN n = true) :
    Calls Try.prog 18 #[.pointer (some ⟨b, 0, none⟩), .agg #[.bool n.a.v6, .int .u64 n.a.hi, .int .u64 n.a.lo, .int .i64 n.n], .int .i64 v] w (Made w (withH (both t0 t1) n v)) := by
  have LOW : Below w.heap.size w (w.alloc (.cells #[.bool n.a.v6, .int .u64 n.a.hi, .int .u64 n.a.lo, .int .i64 n.n] 27)) := (Below.refl _ _).alloc (Nat.le_refl _) _
  have HLEN := Lib.hid hlen
  have HP := Lib.hid hp
  have HT := Lib.hid hT
  have H0 := Lib.hid h0
  have H1 := Lib.hid h1
  obtain ⟨s, hs⟩ : ∃ s : Int, s = ((both t0 t1).length : Nat) := ⟨_, rfl⟩
  have hs1 : 0 ≤ s := by omega
  have hs2 : s ≤ 1000 := by omega
  rw [← hs] at hT
  have HSE := Lib.hid hs
  clear hs
  have AG := Lib.hid (again_any b p0 p1 s (w.alloc (.cells #[.bool n.a.v6, .int .u64 n.a.hi, .int .u64 n.a.lo, .int .i64 n.n] 27)) (hT.on LOW))
  have GT := Lib.hid (fun W (k : Below w.heap.size w W) => get_any b p0 p1 s t0 t1 n W hn (hT.on k) (h0.on k) (h1.on k) hp)
  have RN := Lib.hid (fun W => rightN_any n W hn)
  have okn : Ok n := ⟨hn, hr⟩
  obtain ⟨HQ1, HQ2⟩ := (hp.put (n := n) (v := v) okn hv).1 h6
  have HSZ := Lib.hid (show s = ((withH (both t0 t1) n v).length : Nat) by have := withH_size hp.sorted v hr; rw [hx] at this; rw [HSE.out, this]; simp)
  have DO := Lib.hid (fun W (k : Below w.heap.size w W) => with_any n v okn t0 (fun b => b < w.heap.size) p0 W (fun b hb => Nat.lt_of_lt_of_le hb k.size) ((h0.old.mono fun b h => h.2).on k) hp.g0 (h6 ▸ hp.k0))
  rw [hr] at RN
  clear hr okn
  have HPQ := Lib.hid HQ1
  have HLQ := Lib.hid HQ2
  clear HQ1 HQ2
  have KD := Lib.hid (fun W => kind_any n.a W)
  rw [show kindI n.a.v6 = 0 by rw [h6]; rfl] at KD
  rw [hx] at GT
  clear hx h6
  have k0 : (w.alloc (.cells #[.bool n.a.v6, .int .u64 n.a.hi, .int .u64 n.a.lo, .int .i64 n.n] 27)).cell? ⟨w.heap.size, 0, none⟩ = some (.bool n.a.v6) := by simp [go_sem]
  have k1 : (w.alloc (.cells #[.bool n.a.v6, .int .u64 n.a.hi, .int .u64 n.a.lo, .int .i64 n.n] 27)).cell? ⟨w.heap.size, 1, none⟩ = some (.int .u64 n.a.hi) := by simp [go_sem]
  have k2 : (w.alloc (.cells #[.bool n.a.v6, .int .u64 n.a.hi, .int .u64 n.a.lo, .int .i64 n.n] 27)).cell? ⟨w.heap.size, 2, none⟩ = some (.int .u64 n.a.lo) := by simp [go_sem]
  have k3 : (w.alloc (.cells #[.bool n.a.v6, .int .u64 n.a.hi, .int .u64 n.a.lo, .int .i64 n.n] 27)).cell? ⟨w.heap.size, 3, none⟩ = some (.int .i64 n.n) := by simp [go_sem]
  clear hlen hp hT h0 h1
  go_enter Try.func18, Try.ntmps18
  go_wp2_with fail
  ((with_reducible refine (AG.out).mono ?_); rintro e w1 ⟨g, rfl, hg, ho, hb⟩)
  have hgw : w.heap.size < g := by simp at hg; omega
  have HB1 := Lib.hid (low_trans LOW hb)
  have HO1 := Lib.hid ho
  have a0 : w1.cell? ⟨w.heap.size, 0, none⟩ = some (.bool n.a.v6) := cells_left hb k0
  have a1 : w1.cell? ⟨w.heap.size, 1, none⟩ = some (.int .u64 n.a.hi) := cells_left hb k1
  have a2 : w1.cell? ⟨w.heap.size, 2, none⟩ = some (.int .u64 n.a.lo) := cells_left hb k2
  have a3 : w1.cell? ⟨w.heap.size, 3, none⟩ = some (.int .i64 n.n) := cells_left hb k3
  clear k0 k1 k2 k3
  clear ho hb hg
  go_wp2_with fail
  ((with_reducible refine (RN.out _).mono ?_); rintro e w2 ⟨rfl, hb⟩)
  have HB2 := Lib.hid (low_trans HB1.out hb)
  have HO2 := Lib.hid (HO1.out.on hb)
  have c0 : w2.cell? ⟨w.heap.size, 0, none⟩ = some (.bool n.a.v6) := cells_left hb a0
  have c1 : w2.cell? ⟨w.heap.size, 1, none⟩ = some (.int .u64 n.a.hi) := cells_left hb a1
  have c2 : w2.cell? ⟨w.heap.size, 2, none⟩ = some (.int .u64 n.a.lo) := cells_left hb a2
  have c3 : w2.cell? ⟨w.heap.size, 3, none⟩ = some (.int .i64 n.n) := cells_left hb a3
  clear a0 a1 a2 a3
  clear hb
  go_wp2_with fail
  have GT1 := Lib.hid (GT.out _ HB2.out)
  ((with_reducible refine (GT1.out).mono ?_); rintro e w3 ⟨rfl, hb⟩)
  have HB3 := Lib.hid (low_trans HB2.out hb)
  have HO3 := Lib.hid (HO2.out.on hb)
  have d0 : w3.cell? ⟨w.heap.size, 0, none⟩ = some (.bool n.a.v6) := cells_left hb c0
  have d1 : w3.cell? ⟨w.heap.size, 1, none⟩ = some (.int .u64 n.a.hi) := cells_left hb c1
  have d2 : w3.cell? ⟨w.heap.size, 2, none⟩ = some (.int .u64 n.a.lo) := cells_left hb c2
  have d3 : w3.cell? ⟨w.heap.size, 3, none⟩ = some (.int .i64 n.n) := cells_left hb c3
  clear c0 c1 c2 c3
  clear hb
  have W4 := HB3
  have O4 := HO3
  have e0 := d0
  have e1 := d1
  have e2 := d2
  have e3 := d3
  go_wp2_with fail
  ((with_reducible refine (KD.out _).mono ?_); rintro e w5 ⟨rfl, hb⟩)
  have HB5 := Lib.hid (low_trans W4.out hb)
  have HO5 := Lib.hid (O4.out.on hb)
  have j0 : w5.cell? ⟨w.heap.size, 0, none⟩ = some (.bool n.a.v6) := cells_left hb e0
  have j1 : w5.cell? ⟨w.heap.size, 1, none⟩ = some (.int .u64 n.a.hi) := cells_left hb e1
  have j2 : w5.cell? ⟨w.heap.size, 2, none⟩ = some (.int .u64 n.a.lo) := cells_left hb e2
  have j3 : w5.cell? ⟨w.heap.size, 3, none⟩ = some (.int .i64 n.n) := cells_left hb e3
  clear hb e0 e1 e2 e3 d0 d1 d2 d3
  have g0 : w5.cell? ⟨g, 0, none⟩ = some (.pointer p0) := HO5.out.cell rfl
  have fg : w5.frozen? ⟨g, 0, none⟩ = false := HO5.out.free _
  have hgl : g < w5.heap.size := HO5.out.lt
  have DO1 := Lib.hid (DO.out w5.drew (low_drew HB5.out))
  go_upto_region 8 with fail
  go_cut [] (fun wx => ∃ w6 u, wx = w6.setCell ⟨g, 0, none⟩ (.pointer u) ∧ At (fun b => b < w.heap.size ∨ w5.heap.size ≤ b) w6 (t0.put n v) u ∧ Below w5.heap.size w5 w6)
  case first =>
    first
      | (go_region_with (first
          | (go_at_call 34; (with_reducible refine (DO1.out).mono ?_); rintro e w6 ⟨u, rfl, hu, hb6⟩; have sc6 : w6.cell? ⟨g, 0, none⟩ = some (.pointer p0) := cells_left (W := w5.drew) hb6 g0; have sf6 : w6.frozen? ⟨g, 0, none⟩ = false := frozen_left (W := w5.drew) hb6 hgl fg; have HU := Lib.hid hu; have HB6 := Lib.hid hb6; clear hu hb6)))
      | fail
    all_goals
      go_wp2_with fail
      go_meet
      exact ⟨w6, u, rfl, HU.out, low_trans (low_drew (Below.refl _ w5)) HB6.out⟩
  case rest =>
    obtain ⟨w6, u, rfl, hu, hb6⟩ := hcut
    have O6 := Lib.hid ((HO5.out.on hb6).set 0 (.pointer u))
    have LB := Lib.hid ((low_trans HB5.out hb6).setCell (p := ⟨g, 0, none⟩) (Nat.le_of_lt hgw) (.pointer u))
    have HU := Lib.hid hu
    clear hu hb6
    go_wp2_with fail
    go_ret
    have hno : ¬ (fun b => b < w.heap.size ∨ w5.heap.size ≤ b) g := fun h => h.elim (fun h => by omega) (fun h => by omega)
    refine ⟨_, rfl, ⟨g, u, p1, t0.put n v, t1, rfl, ?_, ?_, ?_, HPQ.out, HLQ.out.symm⟩, LB.out⟩
    · rw [← HSZ.out]; exact O6.out.top
    · exact (HU.out.set (a := ⟨g, 0, none⟩) hno _).mono fun _ _ => trivial
    · exact H1.out.on LB.out
set_option maxHeartbeats 8000000 in
theorem without_do6 (b : Nat) (p0 p1 : Option Addr) (t0 t1 : Tri) (n : Net) (w : World) (hn : n.ok) (hT : Top w b p0 p1 ((both t0 t1).length : Nat)) (h0 : At (fun _ => True) w t0 p0) (h1 : At (fun _ => True) w t1 p1) (hp : Pair t0 t1) (hlen : (both t0 t1).length ≤ 1000) (h6 : n.a.v6 = true) (hx : getB (both t0 t1) n = true) :
    Calls Try.prog 20 #[.pointer (some ⟨b, 0, none⟩), .agg #[.bool n.a.v6, .int .u64 n.a.hi, .int .u64 n.a.lo, .int .i64 n.n]] w (Made w (cut (both t0 t1) n)) := by
  have LOW : Below w.heap.size w (w.alloc (.cells #[.bool n.a.v6, .int .u64 n.a.hi, .int .u64 n.a.lo, .int .i64 n.n] 27)) := (Below.refl _ _).alloc (Nat.le_refl _) _
  have HLEN := Lib.hid hlen
  have HP := Lib.hid hp
  have HT := Lib.hid hT
  have H0 := Lib.hid h0
  have H1 := Lib.hid h1
  obtain ⟨s, hs⟩ : ∃ s : Int, s = ((both t0 t1).length : Nat) := ⟨_, rfl⟩
  have hs1 : 0 ≤ s := by omega
  have hs2 : s ≤ 1000 := by omega
  rw [← hs] at hT
  have HSE := Lib.hid hs
  clear hs
  have AG := Lib.hid (again_any b p0 p1 s (w.alloc (.cells #[.bool n.a.v6, .int .u64 n.a.hi, .int .u64 n.a.lo, .int .i64 n.n] 27)) (hT.on LOW))
  have GT := Lib.hid (fun W (k : Below w.heap.size w W) => get_any b p0 p1 s t0 t1 n W hn (hT.on k) (h0.on k) (h1.on k) hp)
  obtain ⟨HQ1, HQ2, hy⟩ := (hp.del hx).2 h6
  have HSZ := Lib.hid (show s - 1 = ((cut (both t0 t1) n).length : Nat) by have := cut_one hp.sorted hx; rw [HSE.out]; omega)
  have DO := Lib.hid (fun W (k : Below w.heap.size w W) => without_any n hn t1 (fun b => b < w.heap.size) p1 W (fun b hb => Nat.lt_of_lt_of_le hb k.size) ((h1.old.mono fun b h => h.2).on k) hp.g1 hy)
  have hs3 : 1 ≤ s := by have := cut_one hp.sorted hx; rw [HSE.out]; omega
  have HPQ := Lib.hid HQ1
  have HLQ := Lib.hid HQ2
  clear HQ1 HQ2
  have KD := Lib.hid (fun W => kind_any n.a W)
  rw [show kindI n.a.v6 = 1 by rw [h6]; rfl] at KD
  rw [hx] at GT
  clear hx h6 hy
  have k0 : (w.alloc (.cells #[.bool n.a.v6, .int .u64 n.a.hi, .int .u64 n.a.lo, .int .i64 n.n] 27)).cell? ⟨w.heap.size, 0, none⟩ = some (.bool n.a.v6) := by simp [go_sem]
  have k1 : (w.alloc (.cells #[.bool n.a.v6, .int .u64 n.a.hi, .int .u64 n.a.lo, .int .i64 n.n] 27)).cell? ⟨w.heap.size, 1, none⟩ = some (.int .u64 n.a.hi) := by simp [go_sem]
  have k2 : (w.alloc (.cells #[.bool n.a.v6, .int .u64 n.a.hi, .int .u64 n.a.lo, .int .i64 n.n] 27)).cell? ⟨w.heap.size, 2, none⟩ = some (.int .u64 n.a.lo) := by simp [go_sem]
  have k3 : (w.alloc (.cells #[.bool n.a.v6, .int .u64 n.a.hi, .int .u64 n.a.lo, .int .i64 n.n] 27)).cell? ⟨w.heap.size, 3, none⟩ = some (.int .i64 n.n) := by simp [go_sem]
  clear hlen hp hT h0 h1
  go_enter Try.func20, Try.ntmps20
  go_wp2_with fail
  ((with_reducible refine (AG.out).mono ?_); rintro e w1 ⟨g, rfl, hg, ho, hb⟩)
  have hgw : w.heap.size < g := by simp at hg; omega
  have HB1 := Lib.hid (low_trans LOW hb)
  have HO1 := Lib.hid ho
  have a0 : w1.cell? ⟨w.heap.size, 0, none⟩ = some (.bool n.a.v6) := cells_left hb k0
  have a1 : w1.cell? ⟨w.heap.size, 1, none⟩ = some (.int .u64 n.a.hi) := cells_left hb k1
  have a2 : w1.cell? ⟨w.heap.size, 2, none⟩ = some (.int .u64 n.a.lo) := cells_left hb k2
  have a3 : w1.cell? ⟨w.heap.size, 3, none⟩ = some (.int .i64 n.n) := cells_left hb k3
  clear k0 k1 k2 k3
  clear ho hb hg
  go_wp2_with fail
  have GT1 := Lib.hid (GT.out _ HB1.out)
  ((with_reducible refine (GT1.out).mono ?_); rintro e w3 ⟨rfl, hb⟩)
  have HB3 := Lib.hid (low_trans HB1.out hb)
  have HO3 := Lib.hid (HO1.out.on hb)
  have d0 : w3.cell? ⟨w.heap.size, 0, none⟩ = some (.bool n.a.v6) := cells_left hb a0
  have d1 : w3.cell? ⟨w.heap.size, 1, none⟩ = some (.int .u64 n.a.hi) := cells_left hb a1
  have d2 : w3.cell? ⟨w.heap.size, 2, none⟩ = some (.int .u64 n.a.lo) := cells_left hb a2
  have d3 : w3.cell? ⟨w.heap.size, 3, none⟩ = some (.int .i64 n.n) := cells_left hb a3
  clear a0 a1 a2 a3
  clear hb
  have q2 : w3.cell? ⟨g, 2, none⟩ = some (.int .i64 s) := HO3.out.cell rfl
  have z2 : w3.frozen? ⟨g, 2, none⟩ = false := HO3.out.free _
  have W4 := Lib.hid (show Below w.heap.size w (w3.setCell ⟨g, 2, none⟩ (.int .i64 (s - 1))) from HB3.out.setCell (p := ⟨g, 2, none⟩) (Nat.le_of_lt hgw) _)
  have O4 := Lib.hid (HO3.out.set 2 (.int .i64 (s - 1)))
  have e0 : (w3.setCell ⟨g, 2, none⟩ (.int .i64 (s - 1))).cell? ⟨w.heap.size, 0, none⟩ = some (.bool n.a.v6) := ((World.cell?_of_block (Below.heap_setCell _ _ _ _ (show w.heap.size ≠ g by omega))).trans d0)
  have e1 : (w3.setCell ⟨g, 2, none⟩ (.int .i64 (s - 1))).cell? ⟨w.heap.size, 1, none⟩ = some (.int .u64 n.a.hi) := ((World.cell?_of_block (Below.heap_setCell _ _ _ _ (show w.heap.size ≠ g by omega))).trans d1)
  have e2 : (w3.setCell ⟨g, 2, none⟩ (.int .i64 (s - 1))).cell? ⟨w.heap.size, 2, none⟩ = some (.int .u64 n.a.lo) := ((World.cell?_of_block (Below.heap_setCell _ _ _ _ (show w.heap.size ≠ g by omega))).trans d2)
  have e3 : (w3.setCell ⟨g, 2, none⟩ (.int .i64 (s - 1))).cell? ⟨w.heap.size, 3, none⟩ = some (.int .i64 n.n) := ((World.cell?_of_block (Below.heap_setCell _ _ _ _ (show w.heap.size ≠ g by omega))).trans d3)
  go_wp2_with fail
  ((with_reducible refine (KD.out _).mono ?_); rintro e w5 ⟨rfl, hb⟩)
  have HB5 := Lib.hid (low_trans W4.out hb)
  have HO5 := Lib.hid (O4.out.on hb)
  have j0 : w5.cell? ⟨w.heap.size, 0, none⟩ = some (.bool n.a.v6) := cells_left hb e0
  have j1 : w5.cell? ⟨w.heap.size, 1, none⟩ = some (.int .u64 n.a.hi) := cells_left hb e1
  have j2 : w5.cell? ⟨w.heap.size, 2, none⟩ = some (.int .u64 n.a.lo) := cells_left hb e2
  have j3 : w5.cell? ⟨w.heap.size, 3, none⟩ = some (.int .i64 n.n) := cells_left hb e3
  clear hb e0 e1 e2 e3 d0 d1 d2 d3 q2 z2
  have g1 : w5.cell? ⟨g, 1, none⟩ = some (.pointer p1) := HO5.out.cell rfl
  have fg : w5.frozen? ⟨g, 1, none⟩ = false := HO5.out.free _
  have hgl : g < w5.heap.size := HO5.out.lt
  have DO1 := Lib.hid (DO.out w5.drew (low_drew HB5.out))
  go_upto_region 7 with fail
  go_cut [] (fun wx => ∃ w6 u, wx = w6.setCell ⟨g, 1, none⟩ (.pointer u) ∧ At (fun b => b < w.heap.size ∨ w5.heap.size ≤ b) w6 (t1.del n) u ∧ Below w5.heap.size w5 w6)
  case first =>
    first
      | (go_region_with (first
          | (go_at_call 35; (with_reducible refine (DO1.out).mono ?_); rintro e w6 ⟨u, rfl, hu, hb6⟩; have sc6 : w6.cell? ⟨g, 1, none⟩ = some (.pointer p1) := cells_left (W := w5.drew) hb6 g1; have sf6 : w6.frozen? ⟨g, 1, none⟩ = false := frozen_left (W := w5.drew) hb6 hgl fg; have HU := Lib.hid hu; have HB6 := Lib.hid hb6; clear hu hb6)))
      | fail
    all_goals
      go_wp2_with fail
      go_meet
      exact ⟨w6, u, rfl, HU.out, low_trans (low_drew (Below.refl _ w5)) HB6.out⟩
  case rest =>
    obtain ⟨w6, u, rfl, hu, hb6⟩ := hcut
    have O6 := Lib.hid ((HO5.out.on hb6).set 1 (.pointer u))
    have LB := Lib.hid ((low_trans HB5.out hb6).setCell (p := ⟨g, 1, none⟩) (Nat.le_of_lt hgw) (.pointer u))
    have HU := Lib.hid hu
    clear hu hb6
    go_wp2_with fail
    go_ret
    have hno : ¬ (fun b => b < w.heap.size ∨ w5.heap.size ≤ b) g := fun h => h.elim (fun h => by omega) (fun h => by omega)
    refine ⟨_, rfl, ⟨g, p0, u, t0, t1.del n, rfl, ?_, ?_, ?_, HPQ.out, HLQ.out.symm⟩, LB.out⟩
    · rw [← HSZ.out]; exact O6.out.top
    · exact H0.out.on LB.out
    · exact (HU.out.set (a := ⟨g, 1, none⟩) hno _).mono fun _ _ => trivial
set_option maxHeartbeats 8000000 in
theorem with_do60 (b : Nat) (p0 p1 : Option Addr) (t0 t1 : Tri) (n : Net) (v : Int) (w : World) (hn : n.ok) (hT : Top w b p0 p1 ((both t0 t1).length : Nat)) (h0 : At (fun _ => True) w t0 p0) (h1 : At (fun _ => True) w t1 p1) (hp : Pair t0 t1) (hlen : (both t0 t1).length ≤ 1000) (hv : -9223372036854775808 ≤ v ∧ v ≤ 9223372036854775807) (h6 : n.a.v6 = true) (hx : getB (both t0 t1) n = false) (hr : rightN n = true) :
    Calls Try.prog 18 #[.pointer (some ⟨b, 0, none⟩), .agg #[.bool n.a.v6, .int .u64 n.a.hi, .int .u64 n.a.lo, .int .i64 n.n], .int .i64 v] w (Made w (withH (both t0 t1) n v)) := by
  have LOW : Below w.heap.size w (w.alloc (.cells #[.bool n.a.v6, .int .u64 n.a.hi, .int .u64 n.a.lo, .int .i64 n.n] 27)) := (Below.refl _ _).alloc (Nat.le_refl _) _
  have HLEN := Lib.hid hlen
  have HP := Lib.hid hp
  have HT := Lib.hid hT
  have H0 := Lib.hid h0
  have H1 := Lib.hid h1
  obtain ⟨s, hs⟩ : ∃ s : Int, s = ((both t0 t1).length : Nat) := ⟨_, rfl⟩
  have hs1 : 0 ≤ s := by omega
  have hs2 : s ≤ 1000 := by omega
  rw [← hs] at hT
  have HSE := Lib.hid hs
  clear hs
  have AG := Lib.hid (again_any b p0 p1 s (w.alloc (.cells #[.bool n.a.v6, .int .u64 n.a.hi, .int .u64 n.a.lo, .int .i64 n.n] 27)) (hT.on LOW))
  have GT := Lib.hid (fun W (k : Below w.heap.size w W) => get_any b p0 p1 s t0 t1 n W hn (hT.on k) (h0.on k) (h1.on k) hp)
  have RN := Lib.hid (fun W => rightN_any n W hn)
  have okn : Ok n := ⟨hn, hr⟩
  obtain ⟨HQ1, HQ2⟩ := (hp.put (n := n) (v := v) okn hv).2 h6
  have HSZ := Lib.hid (show s + 1 = ((withH (both t0 t1) n v).length : Nat) by have := withH_size hp.sorted v hr; rw [hx] at this; rw [HSE.out, this]; simp)
  have DO := Lib.hid (fun W (k : Below w.heap.size w W) => with_any n v okn t1 (fun b => b < w.heap.size) p1 W (fun b hb => Nat.lt_of_lt_of_le hb k.size) ((h1.old.mono fun b h => h.2).on k) hp.g1 (h6 ▸ hp.k1))
  rw [hr] at RN
  clear hr okn
  have HPQ := Lib.hid HQ1
  have HLQ := Lib.hid HQ2
  clear HQ1 HQ2
  have KD := Lib.hid (fun W => kind_any n.a W)
  rw [show kindI n.a.v6 = 1 by rw [h6]; rfl] at KD
  rw [hx] at GT
  clear hx h6
  have k0 : (w.alloc (.cells #[.bool n.a.v6, .int .u64 n.a.hi, .int .u64 n.a.lo, .int .i64 n.n] 27)).cell? ⟨w.heap.size, 0, none⟩ = some (.bool n.a.v6) := by simp [go_sem]
  have k1 : (w.alloc (.cells #[.bool n.a.v6, .int .u64 n.a.hi, .int .u64 n.a.lo, .int .i64 n.n] 27)).cell? ⟨w.heap.size, 1, none⟩ = some (.int .u64 n.a.hi) := by simp [go_sem]
  have k2 : (w.alloc (.cells #[.bool n.a.v6, .int .u64 n.a.hi, .int .u64 n.a.lo, .int .i64 n.n] 27)).cell? ⟨w.heap.size, 2, none⟩ = some (.int .u64 n.a.lo) := by simp [go_sem]
  have k3 : (w.alloc (.cells #[.bool n.a.v6, .int .u64 n.a.hi, .int .u64 n.a.lo, .int .i64 n.n] 27)).cell? ⟨w.heap.size, 3, none⟩ = some (.int .i64 n.n) := by simp [go_sem]
  clear hlen hp hT h0 h1
  go_enter Try.func18, Try.ntmps18
  go_wp2_with fail
  ((with_reducible refine (AG.out).mono ?_); rintro e w1 ⟨g, rfl, hg, ho, hb⟩)
  have hgw : w.heap.size < g := by simp at hg; omega
  have HB1 := Lib.hid (low_trans LOW hb)
  have HO1 := Lib.hid ho
  have a0 : w1.cell? ⟨w.heap.size, 0, none⟩ = some (.bool n.a.v6) := cells_left hb k0
  have a1 : w1.cell? ⟨w.heap.size, 1, none⟩ = some (.int .u64 n.a.hi) := cells_left hb k1
  have a2 : w1.cell? ⟨w.heap.size, 2, none⟩ = some (.int .u64 n.a.lo) := cells_left hb k2
  have a3 : w1.cell? ⟨w.heap.size, 3, none⟩ = some (.int .i64 n.n) := cells_left hb k3
  clear k0 k1 k2 k3
  clear ho hb hg
  go_wp2_with fail
  ((with_reducible refine (RN.out _).mono ?_); rintro e w2 ⟨rfl, hb⟩)
  have HB2 := Lib.hid (low_trans HB1.out hb)
  have HO2 := Lib.hid (HO1.out.on hb)
  have c0 : w2.cell? ⟨w.heap.size, 0, none⟩ = some (.bool n.a.v6) := cells_left hb a0
  have c1 : w2.cell? ⟨w.heap.size, 1, none⟩ = some (.int .u64 n.a.hi) := cells_left hb a1
  have c2 : w2.cell? ⟨w.heap.size, 2, none⟩ = some (.int .u64 n.a.lo) := cells_left hb a2
  have c3 : w2.cell? ⟨w.heap.size, 3, none⟩ = some (.int .i64 n.n) := cells_left hb a3
  clear a0 a1 a2 a3
  clear hb
  go_wp2_with fail
  have GT1 := Lib.hid (GT.out _ HB2.out)
  ((with_reducible refine (GT1.out).mono ?_); rintro e w3 ⟨rfl, hb⟩)
  have HB3 := Lib.hid (low_trans HB2.out hb)
  have HO3 := Lib.hid (HO2.out.on hb)
  have d0 : w3.cell? ⟨w.heap.size, 0, none⟩ = some (.bool n.a.v6) := cells_left hb c0
  have d1 : w3.cell? ⟨w.heap.size, 1, none⟩ = some (.int .u64 n.a.hi) := cells_left hb c1
  have d2 : w3.cell? ⟨w.heap.size, 2, none⟩ = some (.int .u64 n.a.lo) := cells_left hb c2
  have d3 : w3.cell? ⟨w.heap.size, 3, none⟩ = some (.int .i64 n.n) := cells_left hb c3
  clear c0 c1 c2 c3
  clear hb
  have q2 : w3.cell? ⟨g, 2, none⟩ = some (.int .i64 s) := HO3.out.cell rfl
  have z2 : w3.frozen? ⟨g, 2, none⟩ = false := HO3.out.free _
  have W4 := Lib.hid (show Below w.heap.size w (w3.setCell ⟨g, 2, none⟩ (.int .i64 (s + 1))) from HB3.out.setCell (p := ⟨g, 2, none⟩) (Nat.le_of_lt hgw) _)
  have O4 := Lib.hid (HO3.out.set 2 (.int .i64 (s + 1)))
  have e0 : (w3.setCell ⟨g, 2, none⟩ (.int .i64 (s + 1))).cell? ⟨w.heap.size, 0, none⟩ = some (.bool n.a.v6) := ((World.cell?_of_block (Below.heap_setCell _ _ _ _ (show w.heap.size ≠ g by omega))).trans d0)
  have e1 : (w3.setCell ⟨g, 2, none⟩ (.int .i64 (s + 1))).cell? ⟨w.heap.size, 1, none⟩ = some (.int .u64 n.a.hi) := ((World.cell?_of_block (Below.heap_setCell _ _ _ _ (show w.heap.size ≠ g by omega))).trans d1)
  have e2 : (w3.setCell ⟨g, 2, none⟩ (.int .i64 (s + 1))).cell? ⟨w.heap.size, 2, none⟩ = some (.int .u64 n.a.lo) := ((World.cell?_of_block (Below.heap_setCell _ _ _ _ (show w.heap.size ≠ g by omega))).trans d2)
  have e3 : (w3.setCell ⟨g, 2, none⟩ (.int .i64 (s + 1))).cell? ⟨w.heap.size, 3, none⟩ = some (.int .i64 n.n) := ((World.cell?_of_block (Below.heap_setCell _ _ _ _ (show w.heap.size ≠ g by omega))).trans d3)
  go_wp2_with fail
  ((with_reducible refine (KD.out _).mono ?_); rintro e w5 ⟨rfl, hb⟩)
  have HB5 := Lib.hid (low_trans W4.out hb)
  have HO5 := Lib.hid (O4.out.on hb)
  have j0 : w5.cell? ⟨w.heap.size, 0, none⟩ = some (.bool n.a.v6) := cells_left hb e0
  have j1 : w5.cell? ⟨w.heap.size, 1, none⟩ = some (.int .u64 n.a.hi) := cells_left hb e1
  have j2 : w5.cell? ⟨w.heap.size, 2, none⟩ = some (.int .u64 n.a.lo) := cells_left hb e2
  have j3 : w5.cell? ⟨w.heap.size, 3, none⟩ = some (.int .i64 n.n) := cells_left hb e3
  clear hb e0 e1 e2 e3 d0 d1 d2 d3 q2 z2
  have g1 : w5.cell? ⟨g, 1, none⟩ = some (.pointer p1) := HO5.out.cell rfl
  have fg : w5.frozen? ⟨g, 1, none⟩ = false := HO5.out.free _
  have hgl : g < w5.heap.size := HO5.out.lt
  have DO1 := Lib.hid (DO.out w5.drew (low_drew HB5.out))
  go_upto_region 8 with fail
  go_cut [] (fun wx => ∃ w6 u, wx = w6.setCell ⟨g, 1, none⟩ (.pointer u) ∧ At (fun b => b < w.heap.size ∨ w5.heap.size ≤ b) w6 (t1.put n v) u ∧ Below w5.heap.size w5 w6)
  case first =>
    first
      | (go_region_with (first
          | (go_at_call 34; (with_reducible refine (DO1.out).mono ?_); rintro e w6 ⟨u, rfl, hu, hb6⟩; have sc6 : w6.cell? ⟨g, 1, none⟩ = some (.pointer p1) := cells_left (W := w5.drew) hb6 g1; have sf6 : w6.frozen? ⟨g, 1, none⟩ = false := frozen_left (W := w5.drew) hb6 hgl fg; have HU := Lib.hid hu; have HB6 := Lib.hid hb6; clear hu hb6)))
      | fail
    all_goals
      go_wp2_with fail
      go_meet
      exact ⟨w6, u, rfl, HU.out, low_trans (low_drew (Below.refl _ w5)) HB6.out⟩
  case rest =>
    obtain ⟨w6, u, rfl, hu, hb6⟩ := hcut
    have O6 := Lib.hid ((HO5.out.on hb6).set 1 (.pointer u))
    have LB := Lib.hid ((low_trans HB5.out hb6).setCell (p := ⟨g, 1, none⟩) (Nat.le_of_lt hgw) (.pointer u))
    have HU := Lib.hid hu
    clear hu hb6
    go_wp2_with fail
    go_ret
    have hno : ¬ (fun b => b < w.heap.size ∨ w5.heap.size ≤ b) g := fun h => h.elim (fun h => by omega) (fun h => by omega)
    refine ⟨_, rfl, ⟨g, p0, u, t0, t1.put n v, rfl, ?_, ?_, ?_, HPQ.out, HLQ.out.symm⟩, LB.out⟩
    · rw [← HSZ.out]; exact O6.out.top
    · exact H0.out.on LB.out
    · exact (HU.out.set (a := ⟨g, 1, none⟩) hno _).mono fun _ _ => trivial
set_option maxHeartbeats 8000000 in
theorem with_do61 (b : Nat) (p0 p1 : Option Addr) (t0 t1 : Tri) (n : Net) (v : Int) (w : World) (hn : n.ok) (hT : Top w b p0 p1 ((both t0 t1).length : Nat)) (h0 : At (fun _ => True) w t0 p0) (h1 : At (fun _ => True) w t1 p1) (hp : Pair t0 t1) (hlen : (both t0 t1).length ≤ 1000) (hv : -9223372036854775808 ≤ v ∧ v ≤ 9223372036854775807) (h6 : n.a.v6 = true) (hx : getB (both t0 t1) n = true) (hr : rightN n = true) :
    Calls Try.prog 18 #[.pointer (some ⟨b, 0, none⟩), .agg #[.bool n.a.v6, .int .u64 n.a.hi, .int .u64 n.a.lo, .int .i64 n.n], .int .i64 v] w (Made w (withH (both t0 t1) n v)) := by
  have LOW : Below w.heap.size w (w.alloc (.cells #[.bool n.a.v6, .int .u64 n.a.hi, .int .u64 n.a.lo, .int .i64 n.n] 27)) := (Below.refl _ _).alloc (Nat.le_refl _) _
  have HLEN := Lib.hid hlen
  have HP := Lib.hid hp
  have HT := Lib.hid hT
  have H0 := Lib.hid h0
  have H1 := Lib.hid h1
  obtain ⟨s, hs⟩ : ∃ s : Int, s = ((both t0 t1).length : Nat) := ⟨_, rfl⟩
  have hs1 : 0 ≤ s := by omega
  have hs2 : s ≤ 1000 := by omega
  rw [← hs] at hT
  have HSE := Lib.hid hs
  clear hs
  have AG := Lib.hid (again_any b p0 p1 s (w.alloc (.cells #[.bool n.a.v6, .int .u64 n.a.hi, .int .u64 n.a.lo, .int .i64 n.n] 27)) (hT.on LOW))
  have GT := Lib.hid (fun W (k : Below w.heap.size w W) => get_any b p0 p1 s t0 t1 n W hn (hT.on k) (h0.on k) (h1.on k) hp)
  have RN := Lib.hid (fun W => rightN_any n W hn)
  have okn : Ok n := ⟨hn, hr⟩
  obtain ⟨HQ1, HQ2⟩ := (hp.put (n := n) (v := v) okn hv).2 h6
  have HSZ := Lib.hid (show s = ((withH (both t0 t1) n v).length : Nat) by have := withH_size hp.sorted v hr; rw [hx] at this; rw [HSE.out, this]; simp)
  have DO := Lib.hid (fun W (k : Below w.heap.size w W) => with_any n v okn t1 (fun b => b < w.heap.size) p1 W (fun b hb => Nat.lt_of_lt_of_le hb k.size) ((h1.old.mono fun b h => h.2).on k) hp.g1 (h6 ▸ hp.k1))
  rw [hr] at RN
  clear hr okn
  have HPQ := Lib.hid HQ1
  have HLQ := Lib.hid HQ2
  clear HQ1 HQ2
  have KD := Lib.hid (fun W => kind_any n.a W)
  rw [show kindI n.a.v6 = 1 by rw [h6]; rfl] at KD
  rw [hx] at GT
  clear hx h6
  have k0 : (w.alloc (.cells #[.bool n.a.v6, .int .u64 n.a.hi, .int .u64 n.a.lo, .int .i64 n.n] 27)).cell? ⟨w.heap.size, 0, none⟩ = some (.bool n.a.v6) := by simp [go_sem]
  have k1 : (w.alloc (.cells #[.bool n.a.v6, .int .u64 n.a.hi, .int .u64 n.a.lo, .int .i64 n.n] 27)).cell? ⟨w.heap.size, 1, none⟩ = some (.int .u64 n.a.hi) := by simp [go_sem]
  have k2 : (w.alloc (.cells #[.bool n.a.v6, .int .u64 n.a.hi, .int .u64 n.a.lo, .int .i64 n.n] 27)).cell? ⟨w.heap.size, 2, none⟩ = some (.int .u64 n.a.lo) := by simp [go_sem]
  have k3 : (w.alloc (.cells #[.bool n.a.v6, .int .u64 n.a.hi, .int .u64 n.a.lo, .int .i64 n.n] 27)).cell? ⟨w.heap.size, 3, none⟩ = some (.int .i64 n.n) := by simp [go_sem]
  clear hlen hp hT h0 h1
  go_enter Try.func18, Try.ntmps18
  go_wp2_with fail
  ((with_reducible refine (AG.out).mono ?_); rintro e w1 ⟨g, rfl, hg, ho, hb⟩)
  have hgw : w.heap.size < g := by simp at hg; omega
  have HB1 := Lib.hid (low_trans LOW hb)
  have HO1 := Lib.hid ho
  have a0 : w1.cell? ⟨w.heap.size, 0, none⟩ = some (.bool n.a.v6) := cells_left hb k0
  have a1 : w1.cell? ⟨w.heap.size, 1, none⟩ = some (.int .u64 n.a.hi) := cells_left hb k1
  have a2 : w1.cell? ⟨w.heap.size, 2, none⟩ = some (.int .u64 n.a.lo) := cells_left hb k2
  have a3 : w1.cell? ⟨w.heap.size, 3, none⟩ = some (.int .i64 n.n) := cells_left hb k3
  clear k0 k1 k2 k3
  clear ho hb hg
  go_wp2_with fail
  ((with_reducible refine (RN.out _).mono ?_); rintro e w2 ⟨rfl, hb⟩)
  have HB2 := Lib.hid (low_trans HB1.out hb)
  have HO2 := Lib.hid (HO1.out.on hb)
  have c0 : w2.cell? ⟨w.heap.size, 0, none⟩ = some (.bool n.a.v6) := cells_left hb a0
  have c1 : w2.cell? ⟨w.heap.size, 1, none⟩ = some (.int .u64 n.a.hi) := cells_left hb a1
  have c2 : w2.cell? ⟨w.heap.size, 2, none⟩ = some (.int .u64 n.a.lo) := cells_left hb a2
  have c3 : w2.cell? ⟨w.heap.size, 3, none⟩ = some (.int .i64 n.n) := cells_left hb a3
  clear a0 a1 a2 a3
  clear hb
  go_wp2_with fail
  have GT1 := Lib.hid (GT.out _ HB2.out)
  ((with_reducible refine (GT1.out).mono ?_); rintro e w3 ⟨rfl, hb⟩)
  have HB3 := Lib.hid (low_trans HB2.out hb)
  have HO3 := Lib.hid (HO2.out.on hb)
  have d0 : w3.cell? ⟨w.heap.size, 0, none⟩ = some (.bool n.a.v6) := cells_left hb c0
  have d1 : w3.cell? ⟨w.heap.size, 1, none⟩ = some (.int .u64 n.a.hi) := cells_left hb c1
  have d2 : w3.cell? ⟨w.heap.size, 2, none⟩ = some (.int .u64 n.a.lo) := cells_left hb c2
  have d3 : w3.cell? ⟨w.heap.size, 3, none⟩ = some (.int .i64 n.n) := cells_left hb c3
  clear c0 c1 c2 c3
  clear hb
  have W4 := HB3
  have O4 := HO3
  have e0 := d0
  have e1 := d1
  have e2 := d2
  have e3 := d3
  go_wp2_with fail
  ((with_reducible refine (KD.out _).mono ?_); rintro e w5 ⟨rfl, hb⟩)
  have HB5 := Lib.hid (low_trans W4.out hb)
  have HO5 := Lib.hid (O4.out.on hb)
  have j0 : w5.cell? ⟨w.heap.size, 0, none⟩ = some (.bool n.a.v6) := cells_left hb e0
  have j1 : w5.cell? ⟨w.heap.size, 1, none⟩ = some (.int .u64 n.a.hi) := cells_left hb e1
  have j2 : w5.cell? ⟨w.heap.size, 2, none⟩ = some (.int .u64 n.a.lo) := cells_left hb e2
  have j3 : w5.cell? ⟨w.heap.size, 3, none⟩ = some (.int .i64 n.n) := cells_left hb e3
  clear hb e0 e1 e2 e3 d0 d1 d2 d3
  have g1 : w5.cell? ⟨g, 1, none⟩ = some (.pointer p1) := HO5.out.cell rfl
  have fg : w5.frozen? ⟨g, 1, none⟩ = false := HO5.out.free _
  have hgl : g < w5.heap.size := HO5.out.lt
  have DO1 := Lib.hid (DO.out w5.drew (low_drew HB5.out))
  go_upto_region 8 with fail
  go_cut [] (fun wx => ∃ w6 u, wx = w6.setCell ⟨g, 1, none⟩ (.pointer u) ∧ At (fun b => b < w.heap.size ∨ w5.heap.size ≤ b) w6 (t1.put n v) u ∧ Below w5.heap.size w5 w6)
  case first =>
    first
      | (go_region_with (first
          | (go_at_call 34; (with_reducible refine (DO1.out).mono ?_); rintro e w6 ⟨u, rfl, hu, hb6⟩; have sc6 : w6.cell? ⟨g, 1, none⟩ = some (.pointer p1) := cells_left (W := w5.drew) hb6 g1; have sf6 : w6.frozen? ⟨g, 1, none⟩ = false := frozen_left (W := w5.drew) hb6 hgl fg; have HU := Lib.hid hu; have HB6 := Lib.hid hb6; clear hu hb6)))
      | fail
    all_goals
      go_wp2_with fail
      go_meet
      exact ⟨w6, u, rfl, HU.out, low_trans (low_drew (Below.refl _ w5)) HB6.out⟩
  case rest =>
    obtain ⟨w6, u, rfl, hu, hb6⟩ := hcut
    have O6 := Lib.hid ((HO5.out.on hb6).set 1 (.pointer u))
    have LB := Lib.hid ((low_trans HB5.out hb6).setCell (p := ⟨g, 1, none⟩) (Nat.le_of_lt hgw) (.pointer u))
    have HU := Lib.hid hu
    clear hu hb6
    go_wp2_with fail
    go_ret
    have hno : ¬ (fun b => b < w.heap.size ∨ w5.heap.size ≤ b) g := fun h => h.elim (fun h => by omega) (fun h => by omega)
    refine ⟨_, rfl, ⟨g, p0, u, t0, t1.put n v, rfl, ?_, ?_, ?_, HPQ.out, HLQ.out.symm⟩, LB.out⟩
    · rw [← HSZ.out]; exact O6.out.top
    · exact H0.out.on LB.out
    · exact (HU.out.set (a := ⟨g, 1, none⟩) hno _).mono fun _ _ => trivial
def api : TrieApi where
  Is := IsT
  below := fun h k => h.on k
  shape := fun ⟨b, _, _, _, _, e, _⟩ => ⟨_, e⟩
  new := fun w => new_any w
  put := fun t l n v w h hl hn hv1 hv2 => by
    obtain ⟨b, p0, p1, t0, t1, rfl, hT, h0, h1, hp, rfl⟩ := h
    cases hr : rightN n
    · exact with_no b p0 p1 t0 t1 n v w hn hT h0 h1 hp hl ⟨hv1, hv2⟩ hr
    · cases h6 : n.a.v6 <;> cases hx : getB (both t0 t1) n
      · have := with_do40 b p0 p1 t0 t1 n v w hn hT h0 h1 hp hl ⟨hv1, hv2⟩ h6 hx hr; rw [h6] at this; exact this
      · have := with_do41 b p0 p1 t0 t1 n v w hn hT h0 h1 hp hl ⟨hv1, hv2⟩ h6 hx hr; rw [h6] at this; exact this
      · have := with_do60 b p0 p1 t0 t1 n v w hn hT h0 h1 hp hl ⟨hv1, hv2⟩ h6 hx hr; rw [h6] at this; exact this
      · have := with_do61 b p0 p1 t0 t1 n v w hn hT h0 h1 hp hl ⟨hv1, hv2⟩ h6 hx hr; rw [h6] at this; exact this
  drop := fun t l n w h hl hn => by
    obtain ⟨b, p0, p1, t0, t1, rfl, hT, h0, h1, hp, rfl⟩ := h
    cases hx : getB (both t0 t1) n
    · exact without_no b p0 p1 t0 t1 n w hn hT h0 h1 hp hl hx
    · cases h6 : n.a.v6
      · have := without_do4 b p0 p1 t0 t1 n w hn hT h0 h1 hp hl h6 hx; rw [h6] at this; exact this
      · have := without_do6 b p0 p1 t0 t1 n w hn hT h0 h1 hp hl h6 hx; rw [h6] at this; exact this
  get := fun t l n w h hl hn => by
    obtain ⟨b, p0, p1, t0, t1, rfl, hT, h0, h1, hp, rfl⟩ := h
    exact get_any b p0 p1 _ t0 t1 n w hn hT h0 h1 hp
  cov := fun t l a w h hl ha => by
    obtain ⟨b, p0, p1, t0, t1, rfl, hT, h0, h1, hp, rfl⟩ := h
    exact cover_any b p0 p1 _ t0 t1 a w ha hT h0 h1 hp (Nat.le_trans hl (by omega))
  all := fun t l w h hl => by
    obtain ⟨b, p0, p1, t0, t1, rfl, hT, h0, h1, hp, rfl⟩ := h
    exact all_any b p0 p1 _ t0 t1 w hT h0 h1 (Nat.le_trans hl (by omega))
  len := fun t l w h hl => by
    obtain ⟨b, p0, p1, t0, t1, rfl, hT, h0, h1, hp, rfl⟩ := h
    exact len_any b p0 p1 _ w hT
end Go.Proofs.Ytgnpnmdndlodlaa.Tr
