/- What is proved here: what putting lists of numbers one behind the other answers, for lists of at most 1048576 numbers. What is proved here: what the marking of numbers and the looking for marks answer, for lists of at most 1048576 numbers. What is proved here: what the program's growing, joining and copying of lists of rules answer, for lists of at most 1048576 rules. What is proved here: what the program's copying of settings answers, for rules of at most 1048576, and its copying of nothing. What is proved here: what appending one thing to a list of the call's own leaves, whatever the things are. -/
import Derived.Test.YtebkdaddndlmoaaGreatLS17
import Derived.Test.YtebkdaddndlmoaaGreatLS2
import Derived.Lib.AppendZeros
import Derived.Lib.SmallJoins
import Derived.LoopN
import Derived.Test.YtebkdaddndlmoaaGreatLS19
import Derived.Maps.AppendAt
import Derived.Deep.CutRange
namespace Go.Proofs.YtebkdaddndlmoaaGreat
open Go.RowKit Go.Sort
set_option linter.unusedVariables false

/-- A list of numbers in memory of the call's own, from lo on, or nil for none. -/
def OvN (w : World) (lo : Nat) (v : Value) (xs : List Int) : Prop := w.ownsRow lo 2 1 v xs.length (xs.map (Value.int .i64))

theorem OvN.form {w : World} {lo : Nat} {v : Value} {xs : List Int} (h : OvN w lo v xs) : (v = .slice none 0 0 ∧ xs = []) ∨ ∃ g c, v = .slice (some ⟨g, 0, none⟩) xs.length c ∧ lo ≤ g ∧ OwN w g xs.length c xs := by
  rcases Joins.ownsRow_forms h with ⟨rfl, h0⟩ | ⟨g, cap, rfl⟩
  · exact .inl ⟨rfl, List.eq_nil_of_length_eq_zero h0⟩
  · exact .inr ⟨g, cap, rfl, (World.ownsRow.lt h g rfl).1, own_base h⟩
theorem OvN.turn {w w' : World} {lo : Nat} {v : Value} {xs : List Int} {S : Nat → Prop} (h : OvN w lo v xs) (t : Turn S w w') (hS : ∀ k, lo ≤ k → k < w.heap.size → ¬ S k) : OvN w' lo v xs := by
  refine ⟨h.1, ?_⟩
  rcases h.2 with h' | ⟨g', cap', cur, h', hb, hh, r⟩
  · exact .inl h'
  · have hlt : g' < w.heap.size := (Array.getElem?_eq_some_iff.1 hh).1
    exact .inr ⟨g', cap', cur, h', hb, (t.block g' hlt (hS g' hb hlt)).trans hh, r⟩
theorem OvN.new {w w' : World} {lo : Nat} {v : Value} {xs : List Int} (h : OvN w lo v xs) (t : New w w') : OvN w' lo v xs := h.turn t (fun _ _ _ f => f)
theorem OvN.blk {w : World} {lo : Nat} {v : Value} {xs : List Int} (h : OvN w lo v xs) : ∀ k, v.ownBlock = some k → lo ≤ k := by
  intro k hk
  rcases h.form with ⟨rfl, _⟩ | ⟨g, cap, rfl, hg, _⟩
  · simp [Value.ownBlock] at hk
  · simp [Value.ownBlock] at hk
    subst hk
    exact hg
theorem OvN.low {w : World} {lo lo' : Nat} {v : Value} {xs : List Int} (h : OvN w lo v xs) (hl : lo' ≤ lo) : OvN w lo' v xs := by
  refine ⟨h.1, ?_⟩
  rcases h.2 with h' | ⟨g', cap', cur, h', hb, hh, r⟩
  · exact .inl h'
  · exact .inr ⟨g', cap', cur, h', by omega, hh, r⟩
section
variable {P : Program} {t e : TypeId} {i : TypeInfo}
/-- Appending numbers, whatever their make, to a list that the call owns. -/
theorem run_apN (w : World) (ty : TypeId) (base : Nat) (ht : P.underlying t = some (.slice e)) (hi : P.info? e = some i) (hz : i.zero = some (.int .i64 0)) (hs : i.size = 1) (hb : i.bytes = 8)
    (v : Value) (xs : List Int) (hown : w.ownsRow base e 1 v xs.length (xs.map (Value.int .i64)))
    (a : Option Addr) (m c : Nat) (zs : List Int) (hsrc : NsAt w a zs) (hm : zs.length = m) (hnone : a = none → m = 0 ∧ c = 0) (hle : xs.length + m ≤ 4194304) (hbase : base ≤ w.heap.size) :
    ∃ v' w', (Builtin.append_ #[t, t] ty #[v, .slice a m c]).run P w = .ok v' w' ∧ w'.ownsRow base e 1 v' (xs ++ zs).length ((xs ++ zs).map (Value.int .i64)) ∧ w.grownBy w' v.ownBlock := by
  cases a with
  | none =>
    obtain ⟨rfl, rfl⟩ := hnone rfl
    obtain rfl : zs = [] := List.eq_nil_of_length_eq_zero hm
    have hrun := run_append_owned_none (P := P) w base t ty e i 1 ht hi v xs.length _ hown
    exact ⟨v, w, by simpa using hrun, by simpa using hown, World.grownBy.refl _ _⟩
  | some ad =>
    have hnews : ∀ j u, (zs.map (Value.int .i64))[j]? = some u → w.cell? (ad.add j) = some u := by
      intro j u hu
      rw [List.getElem?_map] at hu
      obtain ⟨z, hz', rfl⟩ := Option.map_eq_some_iff.1 hu
      obtain ⟨b, off, ha, hc, _⟩ := hsrc j z hz'
      obtain rfl := Option.some.inj ha
      rw [Addr.add_lit]
      exact hc
    obtain ⟨v', w', hr, h2, h3, _, h5⟩ := run_append_own_at (P := P) w base t ty e i (.int .i64 0) 1 8 ht hi hz hs hb rfl (by decide) v xs.length _ hown ad m c (zs.map (Value.int .i64)) (by simp [hm]) hnews (ints_oneCell _ _) (by unfold maxLen; omega) (by omega) hbase
    exact ⟨v', w', hr, by simpa [hm] using h2, h3⟩

theorem wp_apN (w : World) {o : Oper} {a : Act} {K : Act → World → Prop} {Q : Exit → Act → World → Prop} (s x : Operand)
    (ho : o.op = .call { callee := .builtin .append, args := #[s, x], argTypes := #[t, t] }) (base : Nat) (ht : P.underlying t = some (.slice e)) (hi : P.info? e = some i) (hz : i.zero = some (.int .i64 0)) (hs : i.size = 1) (hb : i.bytes = 8)
    (v : Value) (xs : List Int) (hsv : a.eval s = v) (hown : w.ownsRow base e 1 v xs.length (xs.map (Value.int .i64)))
    (ao : Option Addr) (m c : Nat) (zs : List Int) (hxv : a.eval x = .slice ao m c) (hsrc : NsAt w ao zs) (hm : zs.length = m) (hnone : ao = none → m = 0 ∧ c = 0) (hle : xs.length + m ≤ 4194304) (hbase : base ≤ w.heap.size)
    (h : ∀ v' w', w'.ownsRow base e 1 v' (xs ++ zs).length ((xs ++ zs).map (Value.int .i64)) → w.grownBy w' v.ownBlock → K (a.put o.dst v') w') : o.wp P a w K Q := by
  obtain ⟨v', w', hr, h2, h3⟩ := run_apN (P := P) w o.type base ht hi hz hs hb v xs hown ao m c zs hsrc hm hnone hle hbase
  unfold Oper.wp execOp
  simp only [ho, resolve, invoke, builtin, Sem.run_bind, Sem.run_pure, Result.andThen_ok, List.map_toArray, List.map_cons, List.map_nil, hsv, hxv, hr]
  exact h v' w' h2 h3

theorem wpList_apN (w : World) {ops : Array Oper} {rest : List Oper} {o : Oper} {a : Act} {Q : Exit → Act → World → Prop} (hgd : o.guard = none) (s x : Operand)
    (ho : o.op = .call { callee := .builtin .append, args := #[s, x], argTypes := #[t, t] }) (base : Nat) (ht : P.underlying t = some (.slice e)) (hi : P.info? e = some i) (hz : i.zero = some (.int .i64 0)) (hs : i.size = 1) (hb : i.bytes = 8)
    (v : Value) (xs : List Int) (hsv : a.eval s = v) (hown : w.ownsRow base e 1 v xs.length (xs.map (Value.int .i64)))
    (ao : Option Addr) (m c : Nat) (zs : List Int) (hxv : a.eval x = .slice ao m c) (hsrc : NsAt w ao zs) (hm : zs.length = m) (hnone : ao = none → m = 0 ∧ c = 0) (hle : xs.length + m ≤ 4194304) (hbase : base ≤ w.heap.size)
    (h : ∀ v' w', w'.ownsRow base e 1 v' (xs ++ zs).length ((xs ++ zs).map (Value.int .i64)) → w.grownBy w' v.ownBlock → wpList P ops Q rest (a.put o.dst v') w') : wpList P ops Q (o :: rest) a w :=
  wpList_plain hgd fun _ hK => wp_apN w s x ho base ht hi hz hs hb v xs hsv hown ao m c zs hxv hsrc hm hnone hle hbase fun v' w' h2 h3 => hK _ _ (h v' w' h2 h3)

end

end Go.Proofs.YtebkdaddndlmoaaGreat

namespace Go.Proofs.YtebkdaddndlmoaaGreat
open Go.RowKit Go.Sort
set_option linter.unusedVariables false

end Go.Proofs.YtebkdaddndlmoaaGreat

namespace Go.Proofs.YtebkdaddndlmoaaGreat
open Go.RowKit Go.Sort
set_option linter.unusedVariables false

/-- The value is a list of rules of the call's own, from lo on. -/
def OvR (w : World) (lo : Nat) (v : Value) (rs : List Ru) : Prop := w.ownsRow lo 173 8 v rs.length (cellsR rs)

theorem OvR.nil (w : World) (lo : Nat) : OvR w lo (.slice none 0 0) [] := ⟨rfl, .inl ⟨rfl, rfl⟩⟩
theorem OvR.form {w : World} {lo : Nat} {v : Value} {rs : List Ru} (h : OvR w lo v rs) : (v = .slice none 0 0 ∧ rs = []) ∨ ∃ g c, v = .slice (some ⟨g, 0, none⟩) rs.length c ∧ lo ≤ g ∧ g < w.heap.size ∧ OwR w g rs.length c rs := by
  rcases h.2 with ⟨h1, h2⟩ | ⟨g, c, cur, h1, h2, h3, r⟩
  · exact .inl ⟨h1, List.eq_nil_of_length_eq_zero h2⟩
  · have hlt : g < w.heap.size := (Array.getElem?_eq_some_iff.1 h3).1
    exact .inr ⟨g, c, h1, h2, hlt, h.1, .inr ⟨g, c, cur, rfl, Nat.zero_le _, h3, r⟩⟩
theorem OvR.turn {w w' : World} {lo : Nat} {v : Value} {rs : List Ru} {S : Nat → Prop} (h : OvR w lo v rs) (t : Turn S w w') (hS : ∀ k, v.ownBlock = some k → ¬ S k) : OvR w' lo v rs := by
  refine ⟨h.1, ?_⟩
  rcases h.2 with h' | ⟨g', cap', cur, h', hb, hh, r⟩
  · exact .inl h'
  · have hlt : g' < w.heap.size := (Array.getElem?_eq_some_iff.1 hh).1
    exact .inr ⟨g', cap', cur, h', hb, (t.block g' hlt (hS g' (by rw [h']; rfl))).trans hh, r⟩
theorem OvR.new {w w' : World} {lo : Nat} {v : Value} {rs : List Ru} (h : OvR w lo v rs) (t : New w w') : OvR w' lo v rs := h.turn t (fun _ _ f => f)
theorem OvR.blk {w : World} {lo : Nat} {v : Value} {rs : List Ru} (h : OvR w lo v rs) : ∀ k, v.ownBlock = some k → lo ≤ k ∧ k < w.heap.size := by
  intro k hk
  rcases h.form with ⟨rfl, _⟩ | ⟨g, cap, rfl, hg, hlt, _⟩
  · simp [Value.ownBlock] at hk
  · simp [Value.ownBlock] at hk
    subst hk
    exact ⟨hg, hlt⟩
theorem OvR.low {w : World} {lo lo' : Nat} {v : Value} {rs : List Ru} (h : OvR w lo v rs) (hl : lo' ≤ lo) : OvR w lo' v rs := by
  refine ⟨h.1, ?_⟩
  rcases h.2 with h' | ⟨g', cap', cur, h', hb, hh, r⟩
  · exact .inl h'
  · exact .inr ⟨g', cap', cur, h', by omega, hh, r⟩
theorem OvR.rs {w : World} {lo : Nat} {v : Value} {rs : List Ru} (h : OvR w lo v rs) : ∃ a c, v = .slice a rs.length c ∧ RsAt w a rs ∧ (a = none → rs.length = 0 ∧ c = 0) := by
  rcases h.form with ⟨rfl, rfl⟩ | ⟨g, c, rfl, hg, hlt, ho⟩
  · exact ⟨none, 0, rfl, RsAt.nil _ _, fun _ => ⟨rfl, rfl⟩⟩
  · exact ⟨_, c, rfl, ho.rs, (by intro e; cases e)⟩

theorem RsAt.cells {w : World} {ad : Addr} {rs : List Ru} (h : RsAt w (some ad) rs) : ∀ j u, (cellsR rs)[j]? = some u → w.cell? (ad.add j) = some u := by
  intro j u hu
  have hj : j < rs.length * 8 := by
    have := (List.getElem?_eq_some_iff.1 hu).1
    rwa [cellsR_len] at this
  obtain ⟨b, off, ha, hc⟩ := h (j / 8) _ (List.getElem?_eq_getElem (show j / 8 < rs.length by omega))
  obtain rfl := Option.some.inj ha
  have h1 := cellsR_get rs (j / 8) _ (List.getElem?_eq_getElem (show j / 8 < rs.length by omega)) (j % 8) (by omega)
  have h2 := hc (j % 8) (by omega)
  rw [← h1, show j / 8 * 8 + j % 8 = j by omega, hu, Nat.add_assoc, show j / 8 * 8 + j % 8 = j by omega] at h2
  rw [Addr.add_lit]
  exact h2
theorem cellsR_append (xs ys : List Ru) : cellsR (xs ++ ys) = cellsR xs ++ cellsR ys := by simp [cellsR]
theorem cellsR_one (rs : List Ru) : ∀ u ∈ cellsR rs, u.oneCell' = true := by
  intro u hu
  simp only [cellsR, List.mem_flatMap] at hu
  obtain ⟨r, -, hr⟩ := hu
  simp [Ru.cs] at hr
  rcases hr with rfl | rfl | rfl | rfl | rfl | rfl | rfl | rfl <;> rfl

section
variable {P : Program} {t e : TypeId} {i : TypeInfo}
/-- Appending rules, whatever their make, to a list that the call owns. -/
theorem run_apRs (w : World) (ty : TypeId) (base : Nat) (zero : Value) (ht : P.underlying t = some (.slice e)) (hi : P.info? e = some i) (hz : i.zero = some zero) (hs : i.size = 8) (hb : i.bytes = 64) (hz1 : zero.cells.size = 8)
    (v : Value) (xs : List Ru) (hown : w.ownsRow base e 8 v xs.length (cellsR xs))
    (a : Option Addr) (m c : Nat) (zs : List Ru) (hsrc : RsAt w a zs) (hm : zs.length = m) (hnone : a = none → m = 0 ∧ c = 0) (hle : xs.length + m ≤ 4194304) (hbase : base ≤ w.heap.size) :
    ∃ v' w', (Builtin.append_ #[t, t] ty #[v, .slice a m c]).run P w = .ok v' w' ∧ w'.ownsRow base e 8 v' (xs ++ zs).length (cellsR (xs ++ zs)) ∧ w.grownBy w' v.ownBlock := by
  cases a with
  | none =>
    obtain ⟨rfl, rfl⟩ := hnone rfl
    obtain rfl : zs = [] := List.eq_nil_of_length_eq_zero hm
    have hrun := run_append_owned_none (P := P) w base t ty e i 8 ht hi v xs.length _ hown
    exact ⟨v, w, by simpa using hrun, by simpa using hown, World.grownBy.refl _ _⟩
  | some ad =>
    obtain ⟨v', w', hr, h2, h3, _, h5⟩ := run_append_own_at (P := P) w base t ty e i zero 8 64 ht hi hz hs hb hz1 (by decide) v xs.length _ hown ad m c (cellsR zs) (by rw [cellsR_len, hm]) hsrc.cells (cellsR_one zs) (by unfold maxLen; omega) (by omega) hbase
    exact ⟨v', w', hr, by rw [cellsR_append]; simpa [hm] using h2, h3⟩

theorem wpList_apRs (w : World) {ops : Array Oper} {rest : List Oper} {o : Oper} {a : Act} {Q : Exit → Act → World → Prop} (hgd : o.guard = none) (s x : Operand)
    (ho : o.op = .call { callee := .builtin .append, args := #[s, x], argTypes := #[t, t] }) (base : Nat) (zero : Value) (ht : P.underlying t = some (.slice e)) (hi : P.info? e = some i) (hz : i.zero = some zero) (hs : i.size = 8) (hb : i.bytes = 64) (hz1 : zero.cells.size = 8)
    (v : Value) (xs : List Ru) (hsv : a.eval s = v) (hown : w.ownsRow base e 8 v xs.length (cellsR xs))
    (ao : Option Addr) (m c : Nat) (zs : List Ru) (hxv : a.eval x = .slice ao m c) (hsrc : RsAt w ao zs) (hm : zs.length = m) (hnone : ao = none → m = 0 ∧ c = 0) (hle : xs.length + m ≤ 4194304) (hbase : base ≤ w.heap.size)
    (h : ∀ v' w', w'.ownsRow base e 8 v' (xs ++ zs).length (cellsR (xs ++ zs)) → w.grownBy w' v.ownBlock → wpList P ops Q rest (a.put o.dst v') w') : wpList P ops Q (o :: rest) a w := by
  refine wpList_plain hgd fun _ hK => ?_
  obtain ⟨v', w', hr, h2, h3⟩ := run_apRs (P := P) w o.type base zero ht hi hz hs hb hz1 v xs hown ao m c zs hsrc hm hnone hle hbase
  unfold Oper.wp execOp
  simp only [ho, resolve, invoke, builtin, Sem.run_bind, Sem.run_pure, Result.andThen_ok, List.map_toArray, List.map_cons, List.map_nil, hsv, hxv, hr]
  exact hK _ _ (h v' w' h2 h3)
end

set_option maxRecDepth 100000 in
set_option maxHeartbeats 800000 in
theorem growRu (N : Nat) (hN : N ≤ 1048576) (w : World) : Calls Tryz.prog 206 #[.slice none 0 0, .int .i64 N] w fun e w' => ∃ v, e = .returned v ∧ OvR w' w.heap.size v [] ∧ New w w' := by
  obtain ⟨i0, hi, hz0, hz1, hz2⟩ := info_parts Tryz.infoRu
  by_cases h0 : N = 0
  · subst h0
    go_enter Tryz.func206, Tryz.ntmps206
    go_wp2
    go_ret
    exact ⟨_, rfl, ⟨rfl, .inl ⟨rfl, rfl⟩⟩, New.refl _⟩
  · have hr := Lib.run_append_nil_zeros (P := Tryz.prog) w 36 3 36 173 i0 (.agg #[.int .i64 0, .int .i64 0, .int .i64 0, .int .i64 0, .int .i64 0, .bool false, .int .i64 0, .int .i64 0]) .i64 .i64 Tryz.underlying36 Tryz.underlying3 hi hz0 N (by omega) (by omega) (by omega) (by rw [hz2]; omega)
    have hge := grownCap_ge w N 0 173
    have hle := grownCap_le_maxLen w N 0 173 (by unfold maxLen; omega)
    go_enter Tryz.func206, Tryz.ntmps206
    go_wp2_with (at_builtin; refine Lib.wpList_append_run _ rfl (.tmp 20) (.tmp 21) 36 3 rfl _ _ rfl rfl _ _ hr ?_)
    generalize hcap : grownCap w N 0 173 = cap at *
    go_wp2
    go_ret
    refine ⟨_, rfl, ⟨rfl, .inr ⟨w.heap.size, cap, _, rfl, Nat.le_refl _, heap_alloc_new _ _, Nat.zero_le _, hle, ?_, by simp [cellsR]⟩⟩, ((New.refl w).drew).alloc _⟩
    simp [Builtin.zeroCells]
    omega

set_option maxRecDepth 100000 in
set_option maxHeartbeats 1600000 in
theorem concatRu (G : Nat) (x : Option Addr) (n c : Nat) (xs : List Ru) (w : World) (g0 : w.cell? ⟨G, 0, none⟩ = some (.slice x n c)) (hx : RsAt w x xs) (hn : xs.length = n) (hnx : x = none → n = 0 ∧ c = 0) (hn1 : n ≤ 1048576) :
    Calls Tryz.prog 186 #[.slice (some ⟨G, 0, none⟩) 1 1] w fun e w' => ∃ v, e = .returned v ∧ OvR w' w.heap.size v xs ∧ New w w' := by
  obtain ⟨i0, hi, hz0, hz1, hz2⟩ := info_parts Tryz.infoRu
  have HX : Hid (xs.length = n) := hn
  have HNX : Hid (x = none → n = 0 ∧ c = 0) := hnx
  have hG : G < w.heap.size := World.block_lt_of_cell? w _ g0
  clear hn hnx
  go_enter Tryz.func186, Tryz.ntmps186
  go_wp2
  refine wp_loop_rounds 2 ?_
  rw [rounds_succ]
  go_wp2
  rw [rounds_succ]
  go_wp2_with fail
  refine (growRu n (by omega) _).mono ?_
  rintro e w1 ⟨v1, rfl, ho1, hn1'⟩
  have G0 : w1.cell? ⟨G, 0, none⟩ = some (.slice x n c) := (World.cell?_of_block (hn1'.block G hG (fun f => f))).trans g0
  have sz1 := hn1'.size
  have lt1 : G < w1.heap.size := by omega
  clear g0
  go_wp2_with fail
  refine wp_loop_rounds 2 ?_
  rw [rounds_succ]
  go_wp2_with (at_builtin; refine wpList_apRs _ rfl (.tmp 31) (.tmp 32) rfl w.heap.size (.agg #[.int .i64 0, .int .i64 0, .int .i64 0, .int .i64 0, .int .i64 0, .bool false, .int .i64 0, .int .i64 0]) Tryz.underlying36 hi hz0 hz1 hz2 rfl v1 [] rfl ho1 x n c xs rfl (hx.new hn1') HX.out HNX.out (by simp; omega) sz1 ?_)
  intro v2 w2 ho2 hg2
  replace ho2 : OvR w2 w.heap.size v2 xs := by simpa [OvR] using ho2
  have N2 : New w w2 := hn1'.grow hg2 (fun k hk => (ho1.blk k hk).1)
  clear G0 hg2 ho1
  go_wp2_with fail
  rw [rounds_succ]
  go_wp2
  go_ret
  exact ⟨v2, rfl, ho2, N2⟩

end Go.Proofs.YtebkdaddndlmoaaGreat

namespace Go.Proofs.YtebkdaddndlmoaaGreat
open Go.RowKit Go.Sort
set_option linter.unusedVariables false

theorem concatRs (G : Nat) (x : Option Addr) (n c : Nat) (xs : List Ru) (w : World) (g0 : w.cell? ⟨G, 0, none⟩ = some (.slice x n c)) (hx : RsAt w x xs) (hn : xs.length = n) (hnx : x = none → n = 0 ∧ c = 0) (hn1 : n ≤ 1048576) :
    Calls Tryz.prog 186 #[.slice (some ⟨G, 0, none⟩) 1 1] w fun e w' => ∃ y d, e = .returned (.slice y n d) ∧ OvR w' w.heap.size (.slice y n d) xs ∧ New w w' :=
  (concatRu G x n c xs w g0 hx hn hnx hn1).mono fun e w' ⟨v, h1, h2, h3⟩ => by
    obtain ⟨y, d, hv, -, -⟩ := h2.rs
    subst hv
    rw [hn] at h1 h2
    exact ⟨y, d, h1, h2, h3⟩

set_option maxHeartbeats 3200000 in
theorem copySe (sa si ho nx : Int) (a1 a2 : Option Addr) (n1 c1 n2 c2 : Nat) (r1 r2 : List Ru) (w : World) (h1 : RsAt w a1 r1) (h2 : RsAt w a2 r2) (e1 : r1.length = n1) (e2 : r2.length = n2) (m1 : n1 ≤ 1048576) (m2 : n2 ≤ 1048576) (z1 : a1 = none → n1 = 0 ∧ c1 = 0) (z2 : a2 = none → n2 = 0 ∧ c2 = 0) :
    Calls Tryz.prog 150 #[.agg #[.int .i64 sa, .int .i64 si, .int .i64 ho, .int .i64 nx, .slice a1 n1 c1, .slice a2 n2 c2]] w fun e w' => ∃ x1 d1 x2 d2, e = .returned (.agg #[.int .i64 sa, .int .i64 si, .int .i64 ho, .int .i64 nx, .slice x1 n1 d1, .slice x2 n2 d2]) ∧ OvR w' w.heap.size (.slice x1 n1 d1) r1 ∧ OvR w' w.heap.size (.slice x2 n2 d2) r2 ∧ (∀ k, (Value.slice x1 n1 d1).ownBlock = some k → (Value.slice x2 n2 d2).ownBlock ≠ some k) ∧ New w w' := by
  have E1 : Hid (r1.length = n1) := e1
  have E2 : Hid (r2.length = n2) := e2
  have Z1 : Hid (a1 = none → n1 = 0 ∧ c1 = 0) := z1
  have Z2 : Hid (a2 = none → n2 = 0 ∧ c2 = 0) := z2
  have hw : New w ((w.alloc (.cells #[.int .i64 sa, .int .i64 si, .int .i64 ho, .int .i64 nx, .slice a1 n1 c1, .slice a2 n2 c2] 38)).alloc (.cells #[.int .i64 0, .int .i64 0, .int .i64 0, .int .i64 0, .slice none 0 0, .slice none 0 0] 38)) := ((New.refl w).alloc _).alloc _
  have bA : Blk ((w.alloc (.cells #[.int .i64 sa, .int .i64 si, .int .i64 ho, .int .i64 nx, .slice a1 n1 c1, .slice a2 n2 c2] 38)).alloc (.cells #[.int .i64 0, .int .i64 0, .int .i64 0, .int .i64 0, .slice none 0 0, .slice none 0 0] 38)) w.heap.size 38 #[.int .i64 sa, .int .i64 si, .int .i64 ho, .int .i64 nx, .slice a1 n1 c1, .slice a2 n2 c2] := (Blk.mk _ _ _ _ rfl).alloc _
  have bB : Blk ((w.alloc (.cells #[.int .i64 sa, .int .i64 si, .int .i64 ho, .int .i64 nx, .slice a1 n1 c1, .slice a2 n2 c2] 38)).alloc (.cells #[.int .i64 0, .int .i64 0, .int .i64 0, .int .i64 0, .slice none 0 0, .slice none 0 0] 38)) (w.heap.size + 1) 38 #[.int .i64 0, .int .i64 0, .int .i64 0, .int .i64 0, .slice none 0 0, .slice none 0 0] := Blk.mk _ _ _ _ (by simp)
  have SZ0 : Hid (((w.alloc (.cells #[.int .i64 sa, .int .i64 si, .int .i64 ho, .int .i64 nx, .slice a1 n1 c1, .slice a2 n2 c2] 38)).alloc (.cells #[.int .i64 0, .int .i64 0, .int .i64 0, .int .i64 0, .slice none 0 0, .slice none 0 0] 38)).heap.size = w.heap.size + 2) := by show _ = _; simp
  clear e1 e2 z1 z2
  go_enter Tryz.func150, Tryz.ntmps150
  go_upto_region 1 with fail
  generalize ((w.alloc (.cells #[.int .i64 sa, .int .i64 si, .int .i64 ho, .int .i64 nx, .slice a1 n1 c1, .slice a2 n2 c2] 38)).alloc (.cells #[.int .i64 0, .int .i64 0, .int .i64 0, .int .i64 0, .slice none 0 0, .slice none 0 0] 38)) = w0 at *
  have cA := bA.cells
  have al0 := (New.refl w0).alloc (.cells #[.slice a1 n1 c1] 36)
  have g0 : (w0.alloc (.cells #[.slice a1 n1 c1] 36)).cell? ⟨w0.heap.size, 0, none⟩ = some (.slice a1 n1 c1) := by go_simp
  go_wp2_with fail
  refine (concatRs w0.heap.size a1 n1 c1 r1 _ g0 ((h1.new hw).new al0) E1.out Z1.out m1).mono ?_
  rintro e w1 ⟨x1, d1, rfl, ho1, hn1⟩
  have sa0 : (w0.alloc (.cells #[.slice a1 n1 c1] 36)).heap.size = w0.heap.size + 1 := by simp
  have sz0 := SZ0.out
  have n01 := al0.trans hn1
  have bA1 := bA.new n01
  have bB1 := bB.new n01
  have hw1 := hw.trans n01
  have cA1 := bA1.cells
  have fA1 := bA1.frees
  have sz1 := n01.size
  have ho1' := ho1.low (lo' := w.heap.size + 2) (by omega)
  have t1 : Turn (fun k => k = w.heap.size) w1 (w1.setCell ⟨w.heap.size, 4, none⟩ (.slice x1 n1 d1)) := Turn.here9 (Turn.refl _ _) _
  have bA2 : Blk (w1.setCell ⟨w.heap.size, 4, none⟩ (.slice x1 n1 d1)) w.heap.size 38 #[.int .i64 sa, .int .i64 si, .int .i64 ho, .int .i64 nx, .slice x1 n1 d1, .slice a2 n2 c2] := bA1.set 4 (.slice x1 n1 d1)
  have bB2 := bB1.turn t1 (by omega)
  have hw2 := hw1.setCell (p := ⟨w.heap.size, 4, none⟩) (Nat.le_refl _) (.slice x1 n1 d1)
  have ho2 := ho1'.turn t1 (by intro k hk e; have := (ho1'.blk k hk).1; omega)
  have szh := hn1.size
  have sze : (w1.setCell ⟨w.heap.size, 4, none⟩ (.slice x1 n1 d1)).heap.size = w1.heap.size := by simp
  have SZ2 : Hid (w.heap.size + 3 ≤ (w1.setCell ⟨w.heap.size, 4, none⟩ (.slice x1 n1 d1)).heap.size) := (show w.heap.size + 3 ≤ (w1.setCell ⟨w.heap.size, 4, none⟩ (.slice x1 n1 d1)).heap.size by omega)
  clear szh sze
  clear cA bA bB bA1 bB1 hw1 ho1 ho1' g0 al0 hn1 n01 t1 sa0 sz0 sz1
  go_upto_region 2 with fail
  generalize (w1.setCell ⟨w.heap.size, 4, none⟩ (.slice x1 n1 d1)) = w2 at *
  clear cA1 fA1
  have cA := bA2.cells
  have al0 := (New.refl w2).alloc (.cells #[.slice a2 n2 c2] 36)
  have g0 : (w2.alloc (.cells #[.slice a2 n2 c2] 36)).cell? ⟨w2.heap.size, 0, none⟩ = some (.slice a2 n2 c2) := by go_simp
  go_wp2_with fail
  refine (concatRs w2.heap.size a2 n2 c2 r2 _ g0 ((h2.new hw2).new al0) E2.out Z2.out m2).mono ?_
  rintro e w3 ⟨x2, d2, rfl, ho3, hn3⟩
  have sa0 : (w2.alloc (.cells #[.slice a2 n2 c2] 36)).heap.size = w2.heap.size + 1 := by simp
  have sz2 := SZ2.out
  have n23 := al0.trans hn3
  have bA3 := bA2.new n23
  have bB3 := bB2.new n23
  have hw3 := hw2.trans n23
  have o13 := ho2.new n23
  have hap : Hid (∀ k, (Value.slice x1 n1 d1).ownBlock = some k → (Value.slice x2 n2 d2).ownBlock ≠ some k) := by
    intro k h1 h2
    have := (ho2.blk k h1).2
    have := (ho3.blk k h2).1
    omega
  have O1 : Hid (OvR w3 (w.heap.size + 2) (.slice x1 n1 d1) r1) := o13
  have O2 : Hid (OvR w3 (w.heap.size + 2) (.slice x2 n2 d2) r2) := ho3.low (by omega)
  have cA3 := bA3.cells
  have fA3 := bA3.frees
  have cB3 := bB3.cells
  have fB3 := bB3.frees
  have ge0 : w.heap.size ≤ w.heap.size := Nat.le_refl _
  have ge1 : w.heap.size ≤ w.heap.size + 1 := by omega
  have d01 : ¬ w.heap.size + 1 = w.heap.size := by omega
  clear cA bA2 bB2 ho2 ho3 o13 g0 al0 hn3 n23 sa0 sz2 hw2
  go_wp2
  refine bodyPost_ret (v := .agg #[.int .i64 sa, .int .i64 si, .int .i64 ho, .int .i64 nx, .slice x1 n1 d1, .slice x2 n2 d2]) (by simp [results, Tryz.results150, go_sem, cB3]) rfl ⟨x1, d1, x2, d2, rfl, ?_, ?_, hap.out, ?_⟩
  · refine (OvR.turn (S := fun k => k = w.heap.size ∨ k = w.heap.size + 1) O1.out ?_ ?_).low (by omega)
    · simp (disch := (first | exact Or.inl rfl | exact Or.inr rfl)) only [turn_set_iff]
      exact Turn.refl _ _
    · intro k hk e; have := (O1.out.blk k hk).1; omega
  · refine (OvR.turn (S := fun k => k = w.heap.size ∨ k = w.heap.size + 1) O2.out ?_ ?_).low (by omega)
    · simp (disch := (first | exact Or.inl rfl | exact Or.inr rfl)) only [turn_set_iff]
      exact Turn.refl _ _
    · intro k hk e; have := (O2.out.blk k hk).1; omega
  · simp (disch := (first | exact ge0 | exact ge1)) only [New.set_iff, hw3]

end Go.Proofs.YtebkdaddndlmoaaGreat

namespace Go.Proofs.YtebkdaddndlmoaaGreat
open Go.RowKit Go.Sort
set_option linter.unusedVariables false

section
variable {P : Program} {t e : TypeId} {i : TypeInfo}
end

end Go.Proofs.YtebkdaddndlmoaaGreat
