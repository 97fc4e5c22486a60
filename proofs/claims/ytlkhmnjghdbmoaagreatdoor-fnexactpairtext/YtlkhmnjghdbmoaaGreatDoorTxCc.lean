/- What is proved here: what putting three lists of texts one behind the other answers. -/
import Derived.Test.YtlkhmnjghdbmoaaGreatDoorTxAt
import Derived.Lib.AppendZeros
import Derived.LoopN
import Derived.Maps.AppendAt
namespace Go.Proofs.YtlkhmnjghdbmoaaGreatDoor
open Go.RowKit Go.Sort
set_option linter.unusedVariables false
set_option linter.unusedSimpArgs false

section
variable {P : Program} {t e : TypeId} {i : TypeInfo}
/-- Cells put behind a row of the call's own. -/
theorem run_apG (w : World) (ty : TypeId) (base sz by' : Nat) (zero : Value) (ht : P.underlying t = some (.slice e)) (hi : P.info? e = some i) (hz : i.zero = some zero) (hs : i.size = sz) (hb : i.bytes = by') (hz1 : zero.cells.size = sz) (hsz : 0 < sz) (hby : by' ≤ 1000)
    (v : Value) (n : Nat) (xs : List Value) (hown : w.ownsRow base e sz v n xs)
    (A : Option Addr) (m c : Nat) (r : List Value) (hr : r.length = m * sz) (h1 : ∀ u ∈ r, u.oneCell' = true) (hA : A = none → m = 0 ∧ c = 0) (hsrc : ∀ a, A = some a → ∀ j u, r[j]? = some u → w.cell? (a.add j) = some u) (hle : n + m ≤ 4194304) (hbase : base ≤ w.heap.size) :
    ∃ v' w', (Builtin.append_ #[t, t] ty #[v, .slice A m c]).run P w = .ok v' w' ∧ w'.ownsRow base e sz v' (n + m) (xs ++ r) ∧ w.grownBy w' v.ownBlock := by
  cases A with
  | none =>
    obtain ⟨rfl, rfl⟩ := hA rfl
    obtain rfl : r = [] := List.eq_nil_of_length_eq_zero (by simpa using hr)
    have hrun := run_append_owned_none (P := P) w base t ty e i sz ht hi v n xs hown
    exact ⟨v, w, by simpa using hrun, by simpa using hown, World.grownBy.refl _ _⟩
  | some ad =>
    have hbb : (n + m) * by' ≤ 140737488355328 := Nat.le_trans (Nat.mul_le_mul hle hby) (by decide)
    obtain ⟨v', w', hrun, h2, h3, _, _⟩ := run_append_own_at (P := P) w base t ty e i zero sz by' ht hi hz hs hb hz1 hsz v n xs hown ad m c r hr (hsrc ad rfl) h1 (by unfold maxLen; omega) hbb hbase
    exact ⟨v', w', hrun, h2, h3⟩
theorem wp_apG (w : World) {o : Oper} {a : Act} {K : Act → World → Prop} {Q : Exit → Act → World → Prop} (s x : Operand)
    (ho : o.op = .call { callee := .builtin .append, args := #[s, x], argTypes := #[t, t] }) (base sz by' : Nat) (zero : Value) (ht : P.underlying t = some (.slice e)) (hi : P.info? e = some i) (hz : i.zero = some zero) (hs : i.size = sz) (hb : i.bytes = by') (hz1 : zero.cells.size = sz) (hsz : 0 < sz) (hby : by' ≤ 1000)
    (v : Value) (n : Nat) (xs : List Value) (hsv : a.eval s = v) (hown : w.ownsRow base e sz v n xs)
    (A : Option Addr) (m c : Nat) (r : List Value) (hxv : a.eval x = .slice A m c) (hr : r.length = m * sz) (h1 : ∀ u ∈ r, u.oneCell' = true) (hA : A = none → m = 0 ∧ c = 0) (hsrc : ∀ a, A = some a → ∀ j u, r[j]? = some u → w.cell? (a.add j) = some u) (hle : n + m ≤ 4194304) (hbase : base ≤ w.heap.size)
    (h : ∀ v' w', w'.ownsRow base e sz v' (n + m) (xs ++ r) → w.grownBy w' v.ownBlock → K (a.put o.dst v') w') : o.wp P a w K Q := by
  obtain ⟨v', w', hrun, h2, h3⟩ := run_apG (P := P) w o.type base sz by' zero ht hi hz hs hb hz1 hsz hby v n xs hown A m c r hr h1 hA hsrc hle hbase
  unfold Oper.wp execOp
  simp only [ho, resolve, invoke, builtin, Sem.run_bind, Sem.run_pure, Result.andThen_ok, List.map_toArray, List.map_cons, List.map_nil, hsv, hxv, hrun]
  exact h v' w' h2 h3
theorem wpList_apG (w : World) {ops : Array Oper} {rest : List Oper} {o : Oper} {a : Act} {Q : Exit → Act → World → Prop} (hgd : o.guard = none) (s x : Operand)
    (ho : o.op = .call { callee := .builtin .append, args := #[s, x], argTypes := #[t, t] }) (base sz by' : Nat) (zero : Value) (ht : P.underlying t = some (.slice e)) (hi : P.info? e = some i) (hz : i.zero = some zero) (hs : i.size = sz) (hb : i.bytes = by') (hz1 : zero.cells.size = sz) (hsz : 0 < sz) (hby : by' ≤ 1000)
    (v : Value) (n : Nat) (xs : List Value) (hsv : a.eval s = v) (hown : w.ownsRow base e sz v n xs)
    (A : Option Addr) (m c : Nat) (r : List Value) (hxv : a.eval x = .slice A m c) (hr : r.length = m * sz) (h1 : ∀ u ∈ r, u.oneCell' = true) (hA : A = none → m = 0 ∧ c = 0) (hsrc : ∀ a, A = some a → ∀ j u, r[j]? = some u → w.cell? (a.add j) = some u) (hle : n + m ≤ 4194304) (hbase : base ≤ w.heap.size)
    (h : ∀ v' w', w'.ownsRow base e sz v' (n + m) (xs ++ r) → w.grownBy w' v.ownBlock → wpList P ops Q rest (a.put o.dst v') w') : wpList P ops Q (o :: rest) a w :=
  wpList_plain hgd fun _ hK => wp_apG w s x ho base sz by' zero ht hi hz hs hb hz1 hsz hby v n xs hsv hown A m c r hxv hr h1 hA hsrc hle hbase fun v' w' h2 h3 => hK _ _ (h v' w' h2 h3)
theorem step_apG (w : World) {ops : Array Oper} {o : Oper} {a : Act} {K : Act → World → Prop} {Q : Exit → Act → World → Prop} {E : Prop} (hgd : o.guard = none) (s x : Operand)
    (ho : o.op = .call { callee := .builtin .append, args := #[s, x], argTypes := #[t, t] }) (base sz by' : Nat) (zero : Value) (ht : P.underlying t = some (.slice e)) (hi : P.info? e = some i) (hz : i.zero = some zero) (hs : i.size = sz) (hb : i.bytes = by') (hz1 : zero.cells.size = sz) (hsz : 0 < sz) (hby : by' ≤ 1000)
    (v : Value) (n : Nat) (xs : List Value) (hsv : a.eval s = v) (hown : w.ownsRow base e sz v n xs)
    (A : Option Addr) (m c : Nat) (r : List Value) (hxv : a.eval x = .slice A m c) (hr : r.length = m * sz) (h1 : ∀ u ∈ r, u.oneCell' = true) (hA : A = none → m = 0 ∧ c = 0) (hsrc : ∀ a, A = some a → ∀ j u, r[j]? = some u → w.cell? (a.add j) = some u) (hle : n + m ≤ 4194304) (hbase : base ≤ w.heap.size)
    (h : ∀ v' w', w'.ownsRow base e sz v' (n + m) (xs ++ r) → w.grownBy w' v.ownBlock → K (a.put o.dst v') w') :
    if Region.wanted o (yielded ops a.tmps) = true then Oper.wp P o a w K Q else E := by
  have hw : Region.wanted o (yielded ops a.tmps) = true := by simp [Region.wanted, hgd]
  rw [if_pos hw]
  exact wp_apG w s x ho base sz by' zero ht hi hz hs hb hz1 hsz hby v n xs hsv hown A m c r hxv hr h1 hA hsrc hle hbase h
end

set_option maxRecDepth 100000 in
set_option maxHeartbeats 1600000 in
theorem growS (N : Nat) (hN : N ≤ 4194304) (w : World) : Calls Tryz.prog 115 #[.slice none 0 0, .int .i64 N] w fun e w' => ∃ v, e = .returned v ∧ w'.ownsRow w.heap.size 9 1 v 0 [] ∧ New w w' := by
  obtain ⟨i0, hi, hz0, hz1, hz2⟩ := info_parts Tryz.infoStr
  by_cases h0 : N = 0
  · subst h0
    go_enter Tryz.func115, Tryz.ntmps115
    go_wp2
    go_ret
    exact ⟨_, rfl, ⟨rfl, .inl ⟨rfl, rfl⟩⟩, New.refl _⟩
  · have hr := Lib.run_append_nil_zeros (P := Tryz.prog) w 71 3 71 9 i0 (.string ⟨#[]⟩) .i64 .i64 Tryz.underlying71 Tryz.underlying3 hi hz0 N (by omega) (by omega) (by omega) (by rw [hz2]; omega)
    have hge := grownCap_ge w N 0 9
    have hle := grownCap_le_maxLen w N 0 9 (by unfold maxLen; omega)
    go_enter Tryz.func115, Tryz.ntmps115
    go_wp2_with (at_builtin; refine Lib.wpList_append_run _ rfl (.tmp 20) (.tmp 21) 71 3 rfl _ _ rfl rfl _ _ hr ?_)
    generalize hcap : grownCap w N 0 9 = cap at *
    go_wp2
    go_ret
    refine ⟨_, rfl, ⟨rfl, .inr ⟨w.heap.size, cap, _, rfl, Nat.le_refl _, heap_alloc_new _ _, Nat.zero_le _, hle, ?_, by simp⟩⟩, ((New.refl w).drew).alloc _⟩
    simp [Builtin.zeroCells, Value.cells]
    try omega
theorem growSz (z : Int) (h0 : 0 ≤ z) (h1 : z ≤ 4194304) (w : World) : Calls Tryz.prog 115 #[.slice none 0 0, .int .i64 z] w fun e w' => ∃ v, e = .returned v ∧ w'.ownsRow w.heap.size 9 1 v 0 [] ∧ New w w' := by
  obtain ⟨N, rfl⟩ : ∃ N : Nat, z = N := ⟨z.toNat, by omega⟩
  exact growS N (by omega) w

set_option maxRecDepth 100000 in
set_option maxHeartbeats 3200000 in
theorem concat3S (G : Nat) (x y z : Option Addr) (n c m d l e0 : Nat) (xs ys zs : List Value) (w : World) (g0 : w.cell? ⟨G, 0, none⟩ = some (.slice x n c)) (g1 : w.cell? ⟨G, 1, none⟩ = some (.slice y m d)) (g2 : w.cell? ⟨G, 2, none⟩ = some (.slice z l e0)) (h0 : ∀ X, New w X → ∀ a, x = some a → ∀ j u, xs[j]? = some u → X.cell? (a.add j) = some u) (l0 : xs.length = n) (o0 : ∀ u ∈ xs, u.oneCell' = true) (n0 : x = none → n = 0 ∧ c = 0) (m0 : n ≤ 100) (h1 : ∀ X, New w X → ∀ a, y = some a → ∀ j u, ys[j]? = some u → X.cell? (a.add j) = some u) (l1 : ys.length = m) (o1 : ∀ u ∈ ys, u.oneCell' = true) (n1 : y = none → m = 0 ∧ d = 0) (m1 : m ≤ 100) (h2 : ∀ X, New w X → ∀ a, z = some a → ∀ j u, zs[j]? = some u → X.cell? (a.add j) = some u) (l2 : zs.length = l) (o2 : ∀ u ∈ zs, u.oneCell' = true) (n2 : z = none → l = 0 ∧ e0 = 0) (m2 : l ≤ 100) :
    Calls Tryz.prog 87 #[.slice (some ⟨G, 0, none⟩) 3 3] w fun e w' => ∃ v, e = .returned v ∧ w'.ownsRow w.heap.size 9 1 v (n + m + l) (xs ++ ys ++ zs) ∧ New w w' := by
  obtain ⟨i0, hi, hz0, hz1, hz2⟩ := info_parts Tryz.infoStr
  have HX0 : Hid (∀ X, New w X → ∀ a, x = some a → ∀ j u, xs[j]? = some u → X.cell? (a.add j) = some u) := h0
  have HL0 : Hid (xs.length = n * 1) := by show _ = _; omega
  have HO0 : Hid (∀ u ∈ xs, u.oneCell' = true) := o0
  have HN0 : Hid (x = none → n = 0 ∧ c = 0) := n0
  have HX1 : Hid (∀ X, New w X → ∀ a, y = some a → ∀ j u, ys[j]? = some u → X.cell? (a.add j) = some u) := h1
  have HL1 : Hid (ys.length = m * 1) := by show _ = _; omega
  have HO1 : Hid (∀ u ∈ ys, u.oneCell' = true) := o1
  have HN1 : Hid (y = none → m = 0 ∧ d = 0) := n1
  have HX2 : Hid (∀ X, New w X → ∀ a, z = some a → ∀ j u, zs[j]? = some u → X.cell? (a.add j) = some u) := h2
  have HL2 : Hid (zs.length = l * 1) := by show _ = _; omega
  have HO2 : Hid (∀ u ∈ zs, u.oneCell' = true) := o2
  have HN2 : Hid (z = none → l = 0 ∧ e0 = 0) := n2
  have hG : G < w.heap.size := World.block_lt_of_cell? w _ g0
  clear h0 h1 h2 l0 l1 l2 o0 o1 o2 n0 n1 n2
  go_enter Tryz.func87, Tryz.ntmps87
  go_wp2
  refine wp_loop_rounds 4 ?_
  rw [rounds_succ]
  go_wp2
  rw [rounds_succ]
  go_wp2
  rw [rounds_succ]
  go_wp2
  rw [rounds_succ]
  go_wp2_with fail
  refine (growSz _ (by omega) (by omega) _).mono ?_
  rintro e w1 ⟨v1, rfl, ho1, hn1'⟩
  have K0 : w1.cell? ⟨G, 0, none⟩ = some (.slice x n c) := (World.cell?_of_block (hn1'.block G hG (fun f => f))).trans g0
  have K1 : w1.cell? ⟨G, 1, none⟩ = some (.slice y m d) := (World.cell?_of_block (hn1'.block G hG (fun f => f))).trans g1
  have K2 : w1.cell? ⟨G, 2, none⟩ = some (.slice z l e0) := (World.cell?_of_block (hn1'.block G hG (fun f => f))).trans g2
  have sz1 := hn1'.size
  have lt1 : G < w1.heap.size := by omega
  clear g0 g1 g2
  go_wp2_with fail
  refine wp_loop_rounds 4 ?_
  rw [rounds_succ]
  go_wp2_with (at_builtin; refine wpList_apG _ rfl (.tmp 31) (.tmp 32) rfl w.heap.size 1 16 _ Tryz.underlying71 hi hz0 hz1 hz2 rfl (by omega) (by omega) v1 0 [] rfl ho1 x n c xs rfl HL0.out HO0.out HN0.out (HX0.out _ hn1') (by omega) sz1 ?_)
  intro v2 w2 ho2 hg2
  have ob2 : ∀ q, v1.ownBlock = some q → w.heap.size ≤ q := own_blkS ho1
  have N2 : New w w2 := hn1'.growS hg2 ob2
  have K1 : w2.cell? ⟨G, 1, none⟩ = some (.slice y m d) := (World.cell?_of_block (hg2.block G lt1 (fun e => by have := ob2 G e.symm; omega))).trans K1
  have K2 : w2.cell? ⟨G, 2, none⟩ = some (.slice z l e0) := (World.cell?_of_block (hg2.block G lt1 (fun e => by have := ob2 G e.symm; omega))).trans K2
  have sz2 := N2.size
  have lt2 : G < w2.heap.size := by omega
  clear hg2 ho1 ob2
  replace ho2 : w2.ownsRow w.heap.size 9 1 v2 n xs := by simpa using ho2
  go_wp2_with fail
  rw [rounds_succ]
  go_wp2_with (at_builtin; refine wpList_apG _ rfl (.tmp 31) (.tmp 32) rfl w.heap.size 1 16 _ Tryz.underlying71 hi hz0 hz1 hz2 rfl (by omega) (by omega) v2 n xs rfl ho2 y m d ys rfl HL1.out HO1.out HN1.out (HX1.out _ N2) (by omega) sz2 ?_)
  intro v3 w3 ho3 hg3
  have ob3 : ∀ q, v2.ownBlock = some q → w.heap.size ≤ q := own_blkS ho2
  have N3 : New w w3 := N2.growS hg3 ob3
  have K2 : w3.cell? ⟨G, 2, none⟩ = some (.slice z l e0) := (World.cell?_of_block (hg3.block G lt2 (fun e => by have := ob3 G e.symm; omega))).trans K2
  have sz3 := N3.size
  have lt3 : G < w3.heap.size := by omega
  clear hg3 ho2 ob3
  go_wp2_with fail
  rw [rounds_succ]
  go_wp2_with (at_builtin; refine wpList_apG _ rfl (.tmp 31) (.tmp 32) rfl w.heap.size 1 16 _ Tryz.underlying71 hi hz0 hz1 hz2 rfl (by omega) (by omega) v3 (n + m) (xs ++ ys) rfl ho3 z l e0 zs rfl HL2.out HO2.out HN2.out (HX2.out _ N3) (by omega) sz3 ?_)
  intro v4 w4 ho4 hg4
  have ob4 : ∀ q, v3.ownBlock = some q → w.heap.size ≤ q := own_blkS ho3
  have N4 : New w w4 := N3.growS hg4 ob4
  have sz4 := N4.size
  have lt4 : G < w4.heap.size := by omega
  clear hg4 ho3 ob4
  go_wp2_with fail
  rw [rounds_succ]
  go_wp2
  go_ret
  exact ⟨v4, rfl, by rw [List.append_assoc]; exact ho4, N4⟩

end Go.Proofs.YtlkhmnjghdbmoaaGreatDoor
