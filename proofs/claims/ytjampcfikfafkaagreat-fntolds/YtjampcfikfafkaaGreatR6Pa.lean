/- What is proved here: what putting lists of numbers one behind the other answers, for lists of at most 1048576 numbers. -/
import Derived.Test.YtjampcfikfafkaaGreatAtLaw
import Derived.Test.YtjampcfikfafkaaGreatAp
import Derived.Lib.AppendZeros
import Derived.Lib.SmallJoins
import Derived.LoopN
namespace Go.Proofs.YtjampcfikfafkaaGreat
open Go.RowKit Go.Sort
set_option linter.unusedVariables false

/-- A list of numbers in memory of the call's own, from lo on, or nil for none. -/
def OvN (w : World) (lo : Nat) (v : Value) (xs : List Int) : Prop := w.ownsRow lo 2 1 v xs.length (xs.map (Value.int .i64))

theorem OvN.form {w : World} {lo : Nat} {v : Value} {xs : List Int} (h : OvN w lo v xs) : (v = .slice none 0 0 ∧ xs = []) ∨ ∃ g c, v = .slice (some ⟨g, 0, none⟩) xs.length c ∧ lo ≤ g ∧ OwN w g xs.length c xs := by
  rcases Joins.ownsRow_forms h with ⟨rfl, h0⟩ | ⟨g, cap, rfl⟩
  · exact .inl ⟨rfl, List.eq_nil_of_length_eq_zero h0⟩
  · exact .inr ⟨g, cap, rfl, (World.ownsRow.lt h g rfl).1, own_base h⟩
theorem OvN.turn {w w' : World} {lo : Nat} {v : Value} {xs : List Int} {S : Nat → Prop} (h : OvN w lo v xs) (t : Turn S w w') (hS : ∀ k, lo ≤ k → k < w.heap.size → ¬ S k) : OvN w' lo v xs := by
  refine ⟨h.1, ?_⟩
  rcases h.2 with h' | ⟨g', cap', cur, h', hb, hh, r⟩
  · exact .inl h'
  · have hlt : g' < w.heap.size := (Array.getElem?_eq_some_iff.1 hh).1
    exact .inr ⟨g', cap', cur, h', hb, (t.block g' hlt (hS g' hb hlt)).trans hh, r⟩
theorem OvN.new {w w' : World} {lo : Nat} {v : Value} {xs : List Int} (h : OvN w lo v xs) (t : New w w') : OvN w' lo v xs := h.turn t (fun _ _ _ f => f)
theorem OvN.blk {w : World} {lo : Nat} {v : Value} {xs : List Int} (h : OvN w lo v xs) : ∀ k, v.ownBlock = some k → lo ≤ k := by
  intro k hk
  rcases h.form with ⟨rfl, _⟩ | ⟨g, cap, rfl, hg, _⟩
  · simp [Value.ownBlock] at hk
  · simp [Value.ownBlock] at hk
    subst hk
    exact hg
theorem OvN.low {w : World} {lo lo' : Nat} {v : Value} {xs : List Int} (h : OvN w lo v xs) (hl : lo' ≤ lo) : OvN w lo' v xs := by
  refine ⟨h.1, ?_⟩
  rcases h.2 with h' | ⟨g', cap', cur, h', hb, hh, r⟩
  · exact .inl h'
  · exact .inr ⟨g', cap', cur, h', by omega, hh, r⟩
theorem OvN.ns {w : World} {lo : Nat} {v : Value} {xs : List Int} (h : OvN w lo v xs) (hb : ∀ z ∈ xs, In6 z) : ∃ a c, v = .slice a xs.length c ∧ NsAt w a xs ∧ (a = none → xs.length = 0 ∧ c = 0) ∧ (∀ x, a = some x → x.spot = none ∧ x.off = 0 ∧ lo ≤ x.block ∧ x.block < w.heap.size) := by
  rcases h.form with ⟨rfl, rfl⟩ | ⟨g, c, rfl, hg, ho⟩
  · exact ⟨none, 0, rfl, NsAt.nil _ _, fun _ => ⟨rfl, rfl⟩, by intro x hx; cases hx⟩
  · exact ⟨_, c, rfl, ho.ns hb, (by intro e; cases e), by intro x hx; obtain rfl := Option.some.inj hx; exact ⟨rfl, rfl, hg, ho.lt⟩⟩

section
variable {P : Program} {t e : TypeId} {i : TypeInfo}
/-- Appending numbers, whatever their make, to a list that the call owns. -/
theorem run_apN (w : World) (ty : TypeId) (base : Nat) (ht : P.underlying t = some (.slice e)) (hi : P.info? e = some i) (hz : i.zero = some (.int .i64 0)) (hs : i.size = 1) (hb : i.bytes = 8)
    (v : Value) (xs : List Int) (hown : w.ownsRow base e 1 v xs.length (xs.map (Value.int .i64)))
    (a : Option Addr) (m c : Nat) (zs : List Int) (hsrc : NsAt w a zs) (hm : zs.length = m) (hnone : a = none → m = 0 ∧ c = 0) (hle : xs.length + m ≤ 4194304) (hbase : base ≤ w.heap.size) :
    ∃ v' w', (Builtin.append_ #[t, t] ty #[v, .slice a m c]).run P w = .ok v' w' ∧ w'.ownsRow base e 1 v' (xs ++ zs).length ((xs ++ zs).map (Value.int .i64)) ∧ w.grownBy w' v.ownBlock := by
  cases a with
  | none =>
    obtain ⟨rfl, rfl⟩ := hnone rfl
    obtain rfl : zs = [] := List.eq_nil_of_length_eq_zero hm
    have hrun := run_append_owned_none (P := P) w base t ty e i 1 ht hi v xs.length _ hown
    exact ⟨v, w, by simpa using hrun, by simpa using hown, World.grownBy.refl _ _⟩
  | some ad =>
    have hnews : ∀ j u, (zs.map (Value.int .i64))[j]? = some u → w.cell? (ad.add j) = some u := by
      intro j u hu
      rw [List.getElem?_map] at hu
      obtain ⟨z, hz', rfl⟩ := Option.map_eq_some_iff.1 hu
      obtain ⟨b, off, ha, hc, _⟩ := hsrc j z hz'
      obtain rfl := Option.some.inj ha
      rw [Addr.add_lit]
      exact hc
    obtain ⟨v', w', hr, h2, h3, _, h5⟩ := run_append_own_at (P := P) w base t ty e i (.int .i64 0) 1 8 ht hi hz hs hb rfl (by decide) v xs.length _ hown ad m c (zs.map (Value.int .i64)) (by simp [hm]) hnews (ints_oneCell _ _) (by unfold maxLen; omega) (by omega) hbase
    exact ⟨v', w', hr, by simpa [hm] using h2, h3⟩

theorem wp_apN (w : World) {o : Oper} {a : Act} {K : Act → World → Prop} {Q : Exit → Act → World → Prop} (s x : Operand)
    (ho : o.op = .call { callee := .builtin .append, args := #[s, x], argTypes := #[t, t] }) (base : Nat) (ht : P.underlying t = some (.slice e)) (hi : P.info? e = some i) (hz : i.zero = some (.int .i64 0)) (hs : i.size = 1) (hb : i.bytes = 8)
    (v : Value) (xs : List Int) (hsv : a.eval s = v) (hown : w.ownsRow base e 1 v xs.length (xs.map (Value.int .i64)))
    (ao : Option Addr) (m c : Nat) (zs : List Int) (hxv : a.eval x = .slice ao m c) (hsrc : NsAt w ao zs) (hm : zs.length = m) (hnone : ao = none → m = 0 ∧ c = 0) (hle : xs.length + m ≤ 4194304) (hbase : base ≤ w.heap.size)
    (h : ∀ v' w', w'.ownsRow base e 1 v' (xs ++ zs).length ((xs ++ zs).map (Value.int .i64)) → w.grownBy w' v.ownBlock → K (a.put o.dst v') w') : o.wp P a w K Q := by
  obtain ⟨v', w', hr, h2, h3⟩ := run_apN (P := P) w o.type base ht hi hz hs hb v xs hown ao m c zs hsrc hm hnone hle hbase
  unfold Oper.wp execOp
  simp only [ho, resolve, invoke, builtin, Sem.run_bind, Sem.run_pure, Result.andThen_ok, List.map_toArray, List.map_cons, List.map_nil, hsv, hxv, hr]
  exact h v' w' h2 h3

theorem wpList_apN (w : World) {ops : Array Oper} {rest : List Oper} {o : Oper} {a : Act} {Q : Exit → Act → World → Prop} (hgd : o.guard = none) (s x : Operand)
    (ho : o.op = .call { callee := .builtin .append, args := #[s, x], argTypes := #[t, t] }) (base : Nat) (ht : P.underlying t = some (.slice e)) (hi : P.info? e = some i) (hz : i.zero = some (.int .i64 0)) (hs : i.size = 1) (hb : i.bytes = 8)
    (v : Value) (xs : List Int) (hsv : a.eval s = v) (hown : w.ownsRow base e 1 v xs.length (xs.map (Value.int .i64)))
    (ao : Option Addr) (m c : Nat) (zs : List Int) (hxv : a.eval x = .slice ao m c) (hsrc : NsAt w ao zs) (hm : zs.length = m) (hnone : ao = none → m = 0 ∧ c = 0) (hle : xs.length + m ≤ 4194304) (hbase : base ≤ w.heap.size)
    (h : ∀ v' w', w'.ownsRow base e 1 v' (xs ++ zs).length ((xs ++ zs).map (Value.int .i64)) → w.grownBy w' v.ownBlock → wpList P ops Q rest (a.put o.dst v') w') : wpList P ops Q (o :: rest) a w :=
  wpList_plain hgd fun _ hK => wp_apN w s x ho base ht hi hz hs hb v xs hsv hown ao m c zs hxv hsrc hm hnone hle hbase fun v' w' h2 h3 => hK _ _ (h v' w' h2 h3)

theorem step_apN (w : World) {ops : Array Oper} {o : Oper} {a : Act} {K : Act → World → Prop} {Q : Exit → Act → World → Prop} {E : Prop} (hgd : o.guard = none) (s x : Operand)
    (ho : o.op = .call { callee := .builtin .append, args := #[s, x], argTypes := #[t, t] }) (base : Nat) (ht : P.underlying t = some (.slice e)) (hi : P.info? e = some i) (hz : i.zero = some (.int .i64 0)) (hs : i.size = 1) (hb : i.bytes = 8)
    (v : Value) (xs : List Int) (hsv : a.eval s = v) (hown : w.ownsRow base e 1 v xs.length (xs.map (Value.int .i64)))
    (ao : Option Addr) (m c : Nat) (zs : List Int) (hxv : a.eval x = .slice ao m c) (hsrc : NsAt w ao zs) (hm : zs.length = m) (hnone : ao = none → m = 0 ∧ c = 0) (hle : xs.length + m ≤ 4194304) (hbase : base ≤ w.heap.size)
    (h : ∀ v' w', w'.ownsRow base e 1 v' (xs ++ zs).length ((xs ++ zs).map (Value.int .i64)) → w.grownBy w' v.ownBlock → K (a.put o.dst v') w') :
    if Region.wanted o (yielded ops a.tmps) = true then Oper.wp P o a w K Q else E := by
  have hw : Region.wanted o (yielded ops a.tmps) = true := by simp [Region.wanted, hgd]
  rw [if_pos hw]
  exact wp_apN w s x ho base ht hi hz hs hb v xs hsv hown ao m c zs hxv hsrc hm hnone hle hbase h
end

set_option maxRecDepth 100000 in
set_option maxHeartbeats 800000 in
theorem grow64 (N : Nat) (hN : N ≤ 4194304) (w : World) : Calls Tryz.prog 129 #[.slice none 0 0, .int .i64 N] w fun e w' => ∃ v, e = .returned v ∧ OvN w' w.heap.size v [] ∧ New w w' := by
  obtain ⟨i0, hi, hz0, hz1, hz2⟩ := info_parts Tryz.infoI64
  by_cases h0 : N = 0
  · subst h0
    go_enter Tryz.func129, Tryz.ntmps129
    go_wp2
    go_ret
    exact ⟨_, rfl, ⟨rfl, .inl ⟨rfl, rfl⟩⟩, New.refl _⟩
  · have hr := Lib.run_append_nil_zeros (P := Tryz.prog) w 34 3 34 2 i0 (.int .i64 0) .i64 .i64 Tryz.underlying34 Tryz.underlying3 hi hz0 N (by omega) (by omega) (by omega) (by rw [hz2]; omega)
    have hge := grownCap_ge w N 0 2
    have hle := grownCap_le_maxLen w N 0 2 (by unfold maxLen; omega)
    go_enter Tryz.func129, Tryz.ntmps129
    go_wp2_with (at_builtin; refine Lib.wpList_append_run _ rfl (.tmp 20) (.tmp 21) 34 3 rfl _ _ rfl rfl _ _ hr ?_)
    generalize hcap : grownCap w N 0 2 = cap at *
    go_wp2
    go_ret
    refine ⟨_, rfl, ⟨rfl, .inr ⟨w.heap.size, cap, _, rfl, Nat.le_refl _, heap_alloc_new _ _, Nat.zero_le _, hle, ?_, by simp⟩⟩, ((New.refl w).drew).alloc _⟩
    simp [Builtin.zeroCells]
    omega

theorem grow64z (z : Int) (h0 : 0 ≤ z) (h1 : z ≤ 4194304) (w : World) : Calls Tryz.prog 129 #[.slice none 0 0, .int .i64 z] w fun e w' => ∃ v, e = .returned v ∧ OvN w' w.heap.size v [] ∧ New w w' := by
  obtain ⟨N, rfl⟩ : ∃ N : Nat, z = N := ⟨z.toNat, by omega⟩
  exact grow64 N (by omega) w

set_option maxRecDepth 100000 in
set_option maxHeartbeats 1600000 in
theorem concat2 (G : Nat) (x y : Option Addr) (n c m d : Nat) (xs ys : List Int) (w : World) (g0 : w.cell? ⟨G, 0, none⟩ = some (.slice x n c)) (g1 : w.cell? ⟨G, 1, none⟩ = some (.slice y m d)) (hx : NsAt w x xs) (hy : NsAt w y ys) (hn : xs.length = n) (hm : ys.length = m) (hnx : x = none → n = 0 ∧ c = 0) (hny : y = none → m = 0 ∧ d = 0) (hn1 : n ≤ 1048576) (hm1 : m ≤ 1048576) :
    Calls Tryz.prog 123 #[.slice (some ⟨G, 0, none⟩) 2 2] w fun e w' => ∃ v, e = .returned v ∧ OvN w' w.heap.size v (xs ++ ys) ∧ New w w' := by
  obtain ⟨i0, hi, hz0, hz1, hz2⟩ := info_parts Tryz.infoI64
  have HX : Hid (xs.length = n) := hn
  have HY : Hid (ys.length = m) := hm
  have HNX : Hid (x = none → n = 0 ∧ c = 0) := hnx
  have HNY : Hid (y = none → m = 0 ∧ d = 0) := hny
  have hG : G < w.heap.size := World.block_lt_of_cell? w _ g0
  clear hn hm hnx hny
  go_enter Tryz.func123, Tryz.ntmps123
  go_wp2
  refine wp_loop_rounds 3 ?_
  rw [rounds_succ]
  go_wp2
  rw [rounds_succ]
  go_wp2
  rw [rounds_succ]
  go_wp2_with fail
  refine (grow64z _ (by omega) (by omega) _).mono ?_
  rintro e w1 ⟨v1, rfl, ho1, hn1'⟩
  have G0 : w1.cell? ⟨G, 0, none⟩ = some (.slice x n c) := (World.cell?_of_block (hn1'.block G hG (fun f => f))).trans g0
  have G1 : w1.cell? ⟨G, 1, none⟩ = some (.slice y m d) := (World.cell?_of_block (hn1'.block G hG (fun f => f))).trans g1
  have sz1 := hn1'.size
  have lt1 : G < w1.heap.size := by omega
  clear g0 g1
  go_wp2_with fail
  refine wp_loop_rounds 3 ?_
  rw [rounds_succ]
  go_wp2_with (at_builtin; refine wpList_apN _ rfl (.tmp 31) (.tmp 32) rfl w.heap.size Tryz.underlying34 hi hz0 hz1 hz2 v1 [] rfl ho1 x n c xs rfl (hx.new hn1') HX.out HNX.out (by simp; omega) sz1 ?_)
  intro v2 w2 ho2 hg2
  replace ho2 : OvN w2 w.heap.size v2 xs := by simpa [OvN] using ho2
  have N2 : New w w2 := hn1'.grow hg2 (fun k hk => ho1.blk k hk)
  have G2 : w2.cell? ⟨G, 1, none⟩ = some (.slice y m d) := (World.cell?_of_block (hg2.block G lt1 (fun e => by have := ho1.blk G e.symm; omega))).trans G1
  have sz2 := N2.size
  have lt2 : G < w2.heap.size := by omega
  have ob2 : ∀ k, v2.ownBlock = some k → w.heap.size ≤ k := fun k hk => ho2.blk k hk
  clear G0 G1 hg2 ho1
  go_wp2_with fail
  rw [rounds_succ]
  go_wp2_with (at_builtin; refine wpList_apN _ rfl (.tmp 31) (.tmp 32) rfl w.heap.size Tryz.underlying34 hi hz0 hz1 hz2 v2 xs rfl ho2 y m d ys rfl (hy.new N2) HY.out HNY.out (by rw [HX.out]; omega) sz2 ?_)
  intro v3 w3 ho3 hg3
  replace ho3 : OvN w3 w.heap.size v3 (xs ++ ys) := by simpa [OvN] using ho3
  have N3 : New w w3 := N2.grow hg3 ob2
  go_wp2_with fail
  rw [rounds_succ]
  go_wp2
  go_ret
  exact ⟨v3, rfl, ho3, N3⟩

set_option maxRecDepth 100000 in
set_option maxHeartbeats 1600000 in
theorem pathB (x y : Option Addr) (n c m d : Nat) (xs ys : List Int) (w : World) (hx : NsAt w x xs) (hy : NsAt w y ys) (hn : xs.length = n) (hm : ys.length = m) (hnx : x = none → n = 0 ∧ c = 0) (hny : y = none → m = 0 ∧ d = 0) (hn1 : n ≤ 1048576) (hm1 : m ≤ 1048576) :
    Calls Tryz.prog 100 #[.slice x n c, .slice y m d] w fun e w' => ∃ v, e = .returned v ∧ OvN w' w.heap.size v (ys ++ xs) ∧ New w w' := by
  have N0 : New w (w.alloc (.cells #[.slice y m d, .slice x n c] 34)) := (New.refl w).alloc _
  have b0 := Blk.mk w w.heap.size 34 #[.slice y m d, .slice x n c] rfl
  have c0 := b0.cells 0
  have c1 := b0.cells 1
  go_enter Tryz.func100, Tryz.ntmps100
  go_wp2_with fail
  refine (concat2 w.heap.size y x m d n c ys xs _ c0 c1 (hy.new N0) (hx.new N0) hm hn hny hnx hm1 hn1).mono ?_
  rintro e w1 ⟨v, rfl, ho, hn1⟩
  go_wp2
  go_ret
  exact ⟨_, rfl, ho.low N0.size, N0.trans hn1⟩

end Go.Proofs.YtjampcfikfafkaaGreat
