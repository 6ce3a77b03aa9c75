/- Items in memory: appended; slices.Grow, Concat, Clone at []heap.Item, walked in the library's own text. -/
import Derived.Test.YtakldkolkdpcoaaHeapMath
import Derived.Test.YtakldkolkdpcoaaBox
import Derived.Test.YtakldkolkdpcoaaEndpDoor
import Derived.Test.YtakldkolkdpcoaaRecsDoor
import Derived.Laws.AppendOwn
import Derived.Laws.Cover3
import Derived.Deep.RegionHeld3
import Derived.Deep.CutRange
import Derived.Lib.MinMax
namespace Go.Proofs.Ytakldkolkdpcoaa.Hp
set_option maxRecDepth 100000
open Go.ChangeShapes Go.WideShapes Go.ChangeAt Go.RowKit
open Dec Words V4 V6 Ad Ci En Go.Deep
set_option linter.unusedVariables false
abbrev Items (w : World) (v : Value) (l : List It) : Prop := Recs 5 encI w v l
theorem low_trans3 {B : Nat} {a b c : World} (h : Below B a b) (k : Lows b c) (hB : B ≤ a.heap.size := by exact Nat.le_refl _) : Below B a c := h.trans (k.mono (Nat.le_trans hB h.size))
/-- A place of a list that came in. -/
theorem item_at {w : World} {bb o : Nat} {l : List It} {wr : World} (hlow : Below w.heap.size w wr) (hb : bb < w.heap.size) (hcc : ∀ i (h : i < l.length) j u, (encI l[i])[j]? = some u → w.cell? ⟨bb, o + i * 5 + j, none⟩ = some u) {i : Nat} (hi : i < l.length) {j : Nat} {u : Value} (hu : (encI (fn l i))[j]? = some u) : wr.cell? ⟨bb, o + i * 5 + j, none⟩ = some u := by
  rw [show fn l i = l[i] from getElem!_pos l i hi] at hu
  exact (hlow.cell (p := ⟨bb, o + i * 5 + j, none⟩) hb).trans (hcc i hi j u hu)
abbrev OwnI (B : Nat) (w : World) (v : Value) (l : List It) : Prop := w.ownsRow B 32 5 v l.length (flat encI l)
theorem ownI_lit (W : World) {B : Nat} (hB : B ≤ W.heap.size) : OwnI B (W.alloc (.cells #[] 32)) (.slice (some ⟨W.heap.size, 0, none⟩) 0 0) [] := World.ownsRow_made W #[] 0 hB (by simp [maxLen]) rfl
theorem ownI_nil (W : World) (B : Nat) : OwnI B W (.slice none 0 0) [] := ⟨rfl, Or.inl ⟨rfl, rfl⟩⟩
theorem append_Is {B : Nat} {W : World} {v x : Value} {xs ys : List It} (hown : OwnI B W v xs) (hy : Items W x ys) (hlen : xs.length + ys.length ≤ 1000000) (hB : B ≤ W.heap.size) :
    ∃ v' w', (Builtin.append_ #[35, 35] 35 #[v, x]).run Try.prog W = .ok v' w' ∧ OwnI B w' v' (xs ++ ys) ∧ Below B W w' ∧ ∀ k, k < W.heap.size → some k ≠ v.ownBlock → w'.heap[k]? = W.heap[k]? := by
  obtain ⟨i, hi, hz0, hz1, hz2⟩ := info_parts (P := Try.prog) (e := 32) (z := .agg #[.int .i64 0, .bool false, .int .u64 0, .int .u64 0, .int .i64 0]) (size := 5) (bytes := 40) (by kernel_rfl)
  obtain ⟨A, c, rfl, hc, hnil, hcell⟩ := hy
  cases A with
  | none =>
    obtain rfl := hnil rfl
    obtain rfl : ys = [] := List.eq_nil_of_length_eq_zero (by omega)
    have hr := run_append_owned_none (P := Try.prog) (w := W) B 35 35 32 i 5 Try.underlying35 hi v xs.length (flat encI xs) hown
    refine ⟨v, W, hr, ?_, Below.refl _ _, fun _ _ _ => rfl⟩
    rw [List.append_nil]; exact hown
  | some a =>
    obtain ⟨v', w', hr, h2, h3, _⟩ := run_append_own (P := Try.prog) W B 35 35 32 i _ 5 40 Try.underlying35 hi hz0 hz1 hz2 rfl (by decide) v xs.length (flat encI xs) hown
      a ys.length c (flat encI ys) (flat_len encI_len ys) (fun j u hj => by
        have hlt : j < ys.length * 5 := by have := (List.getElem?_eq_some_iff.1 hj).1; rwa [flat_len encI_len] at this
        have hq : j / 5 < ys.length := by omega
        have hjm : j = j / 5 * 5 + j % 5 := by omega
        rw [hjm, flat_at encI_len ys _ _ hq (Nat.mod_lt _ (by decide))] at hj
        obtain ⟨b, o, e, _, hcc⟩ := hcell (Nat.lt_of_le_of_lt (Nat.zero_le _) hq)
        obtain rfl : a = ⟨b, o, none⟩ := Option.some.inj e
        rw [add_plain, hjm, ← Nat.add_assoc]
        exact hcc _ hq _ _ hj) (fun u hu => by
        obtain ⟨y, _, hu2⟩ := List.mem_flatMap.1 hu
        exact encI_one y u hu2) (by simp only [maxLen]; omega) (by omega) hB
    refine ⟨v', w', hr, ?_, (Below.refl B W).grown h3 hB (fun k hk => (hown.lt k hk).1), fun k h1 h2 => h3.block k h1 h2⟩
    unfold OwnI
    rw [List.length_append, flat_append]
    exact h2
theorem append_I {B : Nat} {W : World} {v : Value} {xs : List It} (hown : OwnI B W v xs) (y : It) (hlen : xs.length ≤ 900000) (hB : B ≤ W.heap.size) :
    ∃ v' w', (Builtin.append_ #[35, 35] 35 #[v, .slice (some ⟨W.heap.size, 0, none⟩) 1 1]).run Try.prog (W.alloc (.cells #[.int .i64 y.k, .bool y.e.a.v6, .int .u64 y.e.a.hi, .int .u64 y.e.a.lo, .int .i64 y.e.n] 32)) = .ok v' w' ∧ OwnI B w' v' (xs ++ [y]) ∧ Below B W w' := by
  obtain ⟨v', w', h1, h2, h3, _⟩ := append_Is (B := B) (hown.alloc (.cells #[.int .i64 y.k, .bool y.e.a.v6, .int .u64 y.e.a.hi, .int .u64 y.e.a.lo, .int .i64 y.e.n] 32)) (Recs.lit encI_len W [y] #[.int .i64 y.k, .bool y.e.a.v6, .int .u64 y.e.a.hi, .int .u64 y.e.a.lo, .int .i64 y.e.n] 32 (by rw [flat_one]; rfl)) (by simp; omega) (Nat.le_trans hB (by simp))
  exact ⟨v', w', h1, h2, ((Below.refl B W).alloc hB _).trans h3⟩
theorem ownI_items {B : Nat} {w : World} {v : Value} {l : List It} (h : OwnI B w v l) : Items w v l := (recs_own encI_len (by decide) h).1
abbrev OwnR (B : Nat) (w : World) (v : Value) (l : List It) : Prop := w.ownsRow B 33 5 v l.length (flat encI l)
theorem ownR_lit (W : World) {B : Nat} (hB : B ≤ W.heap.size) : OwnR B (W.alloc (.cells #[] 33)) (.slice (some ⟨W.heap.size, 0, none⟩) 0 0) [] := World.ownsRow_made W #[] 0 hB (by simp [maxLen]) rfl
theorem ownR_nil (W : World) (B : Nat) : OwnR B W (.slice none 0 0) [] := ⟨rfl, Or.inl ⟨rfl, rfl⟩⟩
theorem append_Rs {B : Nat} {W : World} {v x : Value} {xs ys : List It} (hown : OwnR B W v xs) (hy : Items W x ys) (hlen : xs.length + ys.length ≤ 1000000) (hB : B ≤ W.heap.size) :
    ∃ v' w', (Builtin.append_ #[38, 38] 38 #[v, x]).run Try.prog W = .ok v' w' ∧ OwnR B w' v' (xs ++ ys) ∧ Below B W w' ∧ ∀ k, k < W.heap.size → some k ≠ v.ownBlock → w'.heap[k]? = W.heap[k]? := by
  obtain ⟨i, hi, hz0, hz1, hz2⟩ := info_parts (P := Try.prog) (e := 33) (z := .agg #[.int .i64 0, .bool false, .int .u64 0, .int .u64 0, .int .i64 0]) (size := 5) (bytes := 40) (by kernel_rfl)
  obtain ⟨A, c, rfl, hc, hnil, hcell⟩ := hy
  cases A with
  | none =>
    obtain rfl := hnil rfl
    obtain rfl : ys = [] := List.eq_nil_of_length_eq_zero (by omega)
    have hr := run_append_owned_none (P := Try.prog) (w := W) B 38 38 33 i 5 Try.underlying38 hi v xs.length (flat encI xs) hown
    refine ⟨v, W, hr, ?_, Below.refl _ _, fun _ _ _ => rfl⟩
    rw [List.append_nil]; exact hown
  | some a =>
    obtain ⟨v', w', hr, h2, h3, _⟩ := run_append_own (P := Try.prog) W B 38 38 33 i _ 5 40 Try.underlying38 hi hz0 hz1 hz2 rfl (by decide) v xs.length (flat encI xs) hown
      a ys.length c (flat encI ys) (flat_len encI_len ys) (fun j u hj => by
        have hlt : j < ys.length * 5 := by have := (List.getElem?_eq_some_iff.1 hj).1; rwa [flat_len encI_len] at this
        have hq : j / 5 < ys.length := by omega
        have hjm : j = j / 5 * 5 + j % 5 := by omega
        rw [hjm, flat_at encI_len ys _ _ hq (Nat.mod_lt _ (by decide))] at hj
        obtain ⟨b, o, e, _, hcc⟩ := hcell (Nat.lt_of_le_of_lt (Nat.zero_le _) hq)
        obtain rfl : a = ⟨b, o, none⟩ := Option.some.inj e
        rw [add_plain, hjm, ← Nat.add_assoc]
        exact hcc _ hq _ _ hj) (fun u hu => by
        obtain ⟨y, _, hu2⟩ := List.mem_flatMap.1 hu
        exact encI_one y u hu2) (by simp only [maxLen]; omega) (by omega) hB
    refine ⟨v', w', hr, ?_, (Below.refl B W).grown h3 hB (fun k hk => (hown.lt k hk).1), fun k h1 h2 => h3.block k h1 h2⟩
    unfold OwnR
    rw [List.length_append, flat_append]
    exact h2
theorem append_R {B : Nat} {W : World} {v : Value} {xs : List It} (hown : OwnR B W v xs) (y : It) (hlen : xs.length ≤ 900000) (hB : B ≤ W.heap.size) :
    ∃ v' w', (Builtin.append_ #[38, 38] 38 #[v, .slice (some ⟨W.heap.size, 0, none⟩) 1 1]).run Try.prog (W.alloc (.cells #[.int .i64 y.k, .bool y.e.a.v6, .int .u64 y.e.a.hi, .int .u64 y.e.a.lo, .int .i64 y.e.n] 33)) = .ok v' w' ∧ OwnR B w' v' (xs ++ [y]) ∧ Below B W w' := by
  obtain ⟨v', w', h1, h2, h3, _⟩ := append_Rs (B := B) (hown.alloc (.cells #[.int .i64 y.k, .bool y.e.a.v6, .int .u64 y.e.a.hi, .int .u64 y.e.a.lo, .int .i64 y.e.n] 33)) (Recs.lit encI_len W [y] #[.int .i64 y.k, .bool y.e.a.v6, .int .u64 y.e.a.hi, .int .u64 y.e.a.lo, .int .i64 y.e.n] 33 (by rw [flat_one]; rfl)) (by simp; omega) (Nat.le_trans hB (by simp))
  exact ⟨v', w', h1, h2, ((Below.refl B W).alloc hB _).trans h3⟩
theorem ownR_items {B : Nat} {w : World} {v : Value} {l : List It} (h : OwnR B w v l) : Items w v l := (recs_own encI_len (by decide) h).1
section
variable {P : Program}
/-- 'append(s, make([]T, n)...)' at a nil slice. -/
theorem run_append_zeros (w : World) (t u ty e : TypeId) (i : TypeInfo) (z : Value) (kd : IntKind) (ht : P.underlying t = some (.slice e)) (hu : P.underlying u = some (.int kd)) (hi : P.info? e = some i) (hz : i.zero = some z)
    (n : Nat) (h0 : 0 < n) (hs : 0 < i.size) (h63 : (n : Int) ≤ 9223372036854775807) (h48 : n * i.bytes ≤ 281474976710656) :
    (Builtin.append_ #[t, u] ty #[.slice none 0 0, .int .i64 n]).run P w =
      .ok (.slice (some ⟨w.heap.size, 0, none⟩) n (grownCap w n 0 e)) (w.drew.alloc (.cells (Builtin.zeroCells z.cells n ++ Builtin.zeroCells z.cells (grownCap w n 0 e - n)) e)) := by
  have hn : n ≠ 0 := by omega
  have hw : IntKind.i64.wrap (n : Int) = (n : Int) := by rw [IntKind.wrap_i64]; omega
  have hng : ¬ ((n : Int) < 0) := by omega
  have h48' : ¬ (281474976710656 < Builtin.nextslicecap n 0 * i.bytes) := by rw [nextslicecap_zero h0]; omega
  have h48'' : ¬ (281474976710656 < (n : Int) * (i.bytes : Int)) := by
    have : ((n * i.bytes : Nat) : Int) ≤ 281474976710656 := by omega
    rw [Int.natCast_mul] at this
    omega
  have hm : ¬ (n * i.size = 0) := by
    intro h
    rcases Nat.mul_eq_zero.1 h with h | h <;> omega
  have h63' : ¬ (9223372036854775807 < (n : Int)) := by omega
  have hmx : max (n : Int) 0 = (n : Int) := by omega
  simp [Builtin.append_, run_underlying ht, run_underlying hu, sizeOf, typeInfo, zeroValue, hi, hz, asInt, asIntOf, hw, hng, hn, hm, h48', h48'', h63', hmx, Question.forced, run_firstCells_none, newRow, grownCap]
theorem wpList_append_run2 {w : World} {ops : Array Oper} {rest : List Oper} {o : Oper} {a : Act} {Q : Exit → Act → World → Prop} (hgd : o.guard = none) (s x : Operand) (t u ty : TypeId)
    (ho : o.op = .call { callee := .builtin .append, args := #[s, x], argTypes := #[t, u] }) (hty : o.type = ty) (vs vx v : Value) (w' : World) (hs : a.eval s = vs) (hx : a.eval x = vx)
    (hrun : (Builtin.append_ #[t, u] ty #[vs, vx]).run P w = .ok v w') (h : wpList P ops Q rest (a.put o.dst v) w') : wpList P ops Q (o :: rest) a w := by
  subst hty
  refine wpList_plain hgd fun K hK => ?_
  unfold Oper.wp
  simp [execOp, ho, resolve, invoke, builtin, hs, hx, hrun, Result.andThen]
  exact hK _ _ h
end
set_option maxHeartbeats 4000000 in
theorem grow_any (n : Nat) (w : World) (hn : n ≤ 1000000) :
    Calls Try.prog 34 #[.slice none 0 0, .int .i64 n] w fun e w' => ∃ u, e = .returned u ∧ OwnI w.heap.size w' u [] ∧ Below w.heap.size w w' := by
  by_cases h0 : n = 0
  · subst h0
    rw [show ((0 : Nat) : Int) = 0 from rfl]
    go_enter Try.func34, Try.ntmps34
    go_wp2_with fail
    go_ret
    exact ⟨_, rfl, ⟨rfl, Or.inl ⟨rfl, rfl⟩⟩, Below.refl _ _⟩
  · obtain ⟨i, hi, hz, hsz, hby⟩ := info_parts (P := Try.prog) (e := 32) (z := .agg #[.int .i64 0, .bool false, .int .u64 0, .int .u64 0, .int .i64 0]) (size := 5) (bytes := 40) (by kernel_rfl)
    have RR := run_append_zeros (P := Try.prog) w 35 3 35 32 i _ .i64 Try.underlying35 Try.underlying3 hi hz n (by omega) (by omega) (by omega) (by rw [hby]; omega)
    have HO : Hid (OwnI w.heap.size (w.drew.alloc (.cells (Builtin.zeroCells (Value.agg #[.int .i64 0, .bool false, .int .u64 0, .int .u64 0, .int .i64 0]).cells n ++ Builtin.zeroCells (Value.agg #[.int .i64 0, .bool false, .int .u64 0, .int .u64 0, .int .i64 0]).cells (grownCap w n 0 32 - n)) 32)) (.slice (some ⟨w.heap.size, 0, none⟩) 0 (grownCap w n 0 32)) []) := Lib.hid (by
      have hge := grownCap_ge w n 0 32
      refine World.ownsRow_made w.drew _ _ (Nat.le_refl _) (grownCap_le_maxLen w n 0 _ (by simp only [maxLen]; omega)) ?_
      rw [Array.size_append, size_zeroCells, size_zeroCells, show (Value.cells (.agg #[.int .i64 0, .bool false, .int .u64 0, .int .u64 0, .int .i64 0])).size = 5 from rfl, ← Nat.add_mul]
      congr 1
      omega)
    have HL : Hid (Below w.heap.size w (w.drew.alloc (.cells (Builtin.zeroCells (Value.agg #[.int .i64 0, .bool false, .int .u64 0, .int .u64 0, .int .i64 0]).cells n ++ Builtin.zeroCells (Value.agg #[.int .i64 0, .bool false, .int .u64 0, .int .u64 0, .int .i64 0]).cells (grownCap w n 0 32 - n)) 32))) := Lib.hid ((low_drewN (Below.refl _ _) 1).alloc (Nat.le_refl _) _)
    generalize w.drew.alloc (.cells (Builtin.zeroCells (Value.agg #[.int .i64 0, .bool false, .int .u64 0, .int .u64 0, .int .i64 0]).cells n ++ Builtin.zeroCells (Value.agg #[.int .i64 0, .bool false, .int .u64 0, .int .u64 0, .int .i64 0]).cells (grownCap w n 0 32 - n)) 32) = W1 at RR HO HL
    generalize grownCap w n 0 32 = cap at RR HO
    have R1 := Lib.hid RR
    clear RR hi hz hsz hby
    have hng : ¬ ((n : Int) < 0) := by omega
    have hps : (0 : Int) < (n : Int) := by omega
    go_enter Try.func34, Try.ntmps34
    go_wp2_with (first
      | (at_builtin; refine wpList_append_run2 rfl (.tmp 20) (.tmp 21) _ _ _ rfl rfl _ _ _ _ rfl rfl R1.out ?_)
      | fail)
    go_ret
    exact ⟨_, rfl, HO.out, HL.out⟩
set_option maxHeartbeats 4000000 in
/-- slices.Concat: rows put one behind the other, in a row of the call's own. -/
theorem concat_any (b : Nat) (us : List Value) (Ls : List (List It)) (w : World) (hB : Blk w b 35 us) (hul : us.length = Ls.length) (hP : ∀ k (h : k < us.length), Items w us[k] (Ls[k]'(by omega))) (hn : us.length ≤ 1000000) (hl : Ls.flatten.length ≤ 900000) :
    Calls Try.prog 25 #[.slice (some ⟨b, 0, none⟩) us.length us.length] w fun e w' => ∃ u, e = .returned u ∧ OwnI w.heap.size w' u Ls.flatten ∧ Below w.heap.size w w' := by
  have HB := Lib.hid hB
  have HP := Lib.hid hP
  obtain ⟨n, hnn⟩ : ∃ n, n = us.length := ⟨_, rfl⟩
  have HN := Lib.hid hnn
  have HUL := Lib.hid hul
  have HT : Hid (∀ k, k < us.length → (Ls.take (k + 1)).flatten = (Ls.take k).flatten ++ Ls[k]! ∧ ((Ls.take k).flatten.length + (Ls[k]!).length ≤ Ls.flatten.length)) := Lib.hid fun k hk => by
    have e : (Ls.take (k + 1)).flatten = (Ls.take k).flatten ++ Ls[k]! := by
      rw [List.take_succ_eq_append_getElem (by omega), List.flatten_append, getElem!_pos Ls k (by omega)]
      simp
    refine ⟨e, ?_⟩
    have h2 : ((Ls.take (k + 1)).flatten ++ (Ls.drop (k + 1)).flatten).length = Ls.flatten.length := by rw [← List.flatten_append, List.take_append_drop]
    rw [e] at h2
    simp only [List.length_append] at h2
    omega
  have KG := Lib.hid fun W (m : Nat) (hm : m ≤ 1000000) => grow_any m W hm
  rw [← hnn] at hn ⊢
  clear hB hP hnn
  go_enter Try.func25, Try.ntmps25
  go_wp2_with fail
  go_loopw [3, 5, 11] (fun vs _ vk wr => ∃ (k m : Nat), vs = .int .i64 m ∧ vk = .int .i64 k ∧ k ≤ n ∧ m = (Ls.take k).flatten.length ∧ Hid (w = wr)) (fun _ _ vk _ => n - (intOf vk).toNat)
  case atStart => exact ⟨0, 0, rfl, rfl, Nat.zero_le _, rfl, Lib.hid rfl⟩
  case round =>
    obtain ⟨k, m, rfl, rfl, hk, hm, HWr⟩ := hrel
    have hwr := HWr.out
    subst hwr
    by_cases hkn : k < n
    · have hknz : (k : Int) < (n : Int) := by omega
      have hku : k < us.length := by have := HN.out; omega
      obtain ⟨A, c, hu, hc, hnil, _⟩ := HP.out k hku
      have c0 := HB.out.cell (j := k) (List.getElem?_eq_getElem hku)
      rw [hu] at c0
      obtain ⟨hT1, hT2⟩ := HT.out k hku
      have hLk : Ls[k]! = Ls[k]'(by have := HUL.out; omega) := getElem!_pos Ls k _
      obtain ⟨z, hz⟩ : ∃ z, z = (Ls[k]'(by have := HUL.out; omega)).length := ⟨_, rfl⟩
      rw [← hz] at c0
      rw [← hm, hLk, ← hz] at hT2
      have hmz : m + z ≤ 900000 := by omega
      obtain ⟨s, hs⟩ : ∃ s, s = m + z := ⟨_, rfl⟩
      have hw : IntKind.i64.wrap ((m : Int) + (z : Int)) = (s : Int) := by rw [IntKind.wrap_i64]; omega
      have hsz : ¬ ((s : Int) < 0) := by omega
      have HS : Hid (s = (Ls.take (k + 1)).flatten.length) := Lib.hid (by rw [hT1, List.length_append, ← hm, hLk, ← hz]; exact hs)
      clear hs hz hT1 hT2 hLk hm hu hnil hc
      go_wp2_with fail
      go_roundw
      case rel => exact ⟨k + 1, s, rfl, by go_num, by omega, HS.out, by first | exact Lib.hid rfl | exact Lib.hid trivial⟩
      case measure => simp [intOf]; omega
    · have hknz : ¬ (k : Int) < (n : Int) := by omega
      have hml : m ≤ 900000 := by
        rw [hm, List.take_of_length_le (by have := HN.out; have := HUL.out; omega)]; exact hl
      have KG1 := Lib.hid (KG.out w m (by omega))
      clear hm KG
      go_wp2_with fail
      refine KG1.out.mono ?_; rintro e9 w1 ⟨u1, rfl, hO, hb1⟩
      have HO := Lib.hid hO
      have HL := Lib.hid hb1
      clear hO hb1 KG1
      go_wp2_with fail
      go_loopw [6, 8, 27] (fun vs _ vk wq => ∃ (j : Nat), vk = .int .i64 j ∧ j ≤ n ∧ Hid (OwnI w.heap.size wq vs (Ls.take j).flatten) ∧ Hid (Below w.heap.size w wq)) (fun _ _ vk _ => n - (intOf vk).toNat)
      case atStart => exact ⟨0, rfl, Nat.zero_le _, HO, HL⟩
      case round =>
        obtain ⟨j, rfl, hj, HO2, HL2⟩ := hrel
        by_cases hjn : j < n
        · have hjnz : (j : Int) < (n : Int) := by omega
          have hju : j < us.length := by have := HN.out; omega
          have hPj := HP.out j hju
          have c0 := (HB.out.on HL2.out).cell (j := j) (List.getElem?_eq_getElem hju)
          obtain ⟨hT1, hT2⟩ := HT.out j hju
          have hLj : Ls[j]! = Ls[j]'(by have := HUL.out; omega) := getElem!_pos Ls j _
          obtain ⟨v2, w2, R2, O2, b2, _⟩ := append_Is HO2.out (hPj.below HL2.out) (by rw [← hLj]; omega) HL2.out.size
          obtain ⟨A, c, hu, hc, hnil, _⟩ := hPj
          rw [hu] at c0 R2
          have R1 := Lib.hid R2
          have HO3 : Hid (OwnI w.heap.size w2 v2 (Ls.take (j + 1)).flatten) := Lib.hid (by rw [hT1, hLj]; exact O2)
          have HL3 := Lib.hid (HL2.out.trans b2)
          clear hT1 hT2 hLj R2 O2 b2 hu hc hnil
          go_wp2_with (first
            | (at_builtin; refine wpList_append_run rfl (.tmp 31) (.tmp 32) _ _ rfl rfl _ _ _ _ rfl rfl R1.out ?_)
            | fail)
          go_roundw
          case rel => exact ⟨j + 1, by go_num, by omega, HO3, HL3⟩
          case measure => simp [intOf]; omega
        · have hjnz : ¬ (j : Int) < (n : Int) := by omega
          have HE : Hid ((Ls.take j).flatten = Ls.flatten) := Lib.hid (by rw [List.take_of_length_le (by have := HN.out; have := HUL.out; omega)])
          go_wp2_with fail
          go_ret
          exact ⟨_, rfl, by rw [← HE.out]; exact HO2.out, HL2.out⟩
theorem eql_nil_slice (a : Option Addr) (l c : Nat) (w : World) : (binOp .eql 35 (.slice a l c) (.slice none 0 0)).run Try.prog w = .ok (.bool a.isNone) w := by
  simp only [binOp]
  simp [run_equal_slice_nil w 35 32 a l c Try.underlying35]
set_option maxHeartbeats 4000000 in
theorem clone_any (v : Value) (l : List It) (w : World) (h : Items w v l) (hl : l.length ≤ 900000) :
    Calls Try.prog 22 #[v] w fun e w' => ∃ u, e = .returned u ∧ OwnI w.heap.size w' u l ∧ Below w.heap.size w w' := by
  have PW := Lib.hid h
  obtain ⟨A, c, rfl, hc, hnil, hcell⟩ := h
  clear hcell
  cases A with
  | none =>
    obtain rfl := hnil rfl
    have h0 : l = [] := List.eq_nil_of_length_eq_zero (by omega)
    subst h0
    clear hc hnil PW
    have EN := fun W => eql_nil_slice none 0 0 W
    go_enter Try.func22, Try.ntmps22
    go_wp2_with fail
    go_ret
    exact ⟨_, rfl, ⟨rfl, Or.inl ⟨rfl, rfl⟩⟩, Below.refl _ _⟩
  | some a =>
    obtain ⟨v2, w2, R2, O2, b2, _⟩ := append_Is (B := w.heap.size) (ownI_lit w (Nat.le_refl _)) (PW.out.below ((Below.refl _ _).alloc (Nat.le_refl _) (.cells #[] 32))) (by simp; omega) (by simp)
    have R1 := Lib.hid R2
    have HP := Lib.hid O2
    have HL : Hid (Below w.heap.size w w2) := Lib.hid (((Below.refl _ _).alloc (Nat.le_refl _) _).trans b2)
    clear R2 O2 b2 PW hnil
    have EN := fun W => eql_nil_slice (some a) l.length c W
    go_enter Try.func22, Try.ntmps22
    go_wp2_with (first
      | (at_builtin; refine wpList_append_run rfl (.tmp 5) (.tmp 6) _ _ rfl rfl _ _ _ _ rfl rfl R1.out ?_)
      | fail)
    go_ret
    exact ⟨_, rfl, HP.out, HL.out⟩
end Go.Proofs.Ytakldkolkdpcoaa.Hp
