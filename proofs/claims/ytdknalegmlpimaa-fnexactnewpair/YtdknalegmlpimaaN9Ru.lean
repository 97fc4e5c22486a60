/- What is proved here: what the program's growing, joining and copying of lists of rules answer, for lists of at most 1048576 rules. -/
import Derived.Test.YtdknalegmlpimaaR6Law
import Derived.Test.YtdknalegmlpimaaR7Mk
import Derived.Maps.AppendAt
import Derived.Lib.AppendZeros
namespace Go.Proofs.Ytdknalegmlpimaa
open Go.RowKit Go.Sort
set_option linter.unusedVariables false

/-- The value is a list of rules of the call's own, from lo on. -/
def OvR (w : World) (lo : Nat) (v : Value) (rs : List Ru) : Prop := w.ownsRow lo 74 8 v rs.length (cellsR rs)

theorem OvR.nil (w : World) (lo : Nat) : OvR w lo (.slice none 0 0) [] := ⟨rfl, .inl ⟨rfl, rfl⟩⟩
theorem OvR.form {w : World} {lo : Nat} {v : Value} {rs : List Ru} (h : OvR w lo v rs) : (v = .slice none 0 0 ∧ rs = []) ∨ ∃ g c, v = .slice (some ⟨g, 0, none⟩) rs.length c ∧ lo ≤ g ∧ g < w.heap.size ∧ OwR w g rs.length c rs := by
  rcases h.2 with ⟨h1, h2⟩ | ⟨g, c, cur, h1, h2, h3, r⟩
  · exact .inl ⟨h1, List.eq_nil_of_length_eq_zero h2⟩
  · have hlt : g < w.heap.size := (Array.getElem?_eq_some_iff.1 h3).1
    exact .inr ⟨g, c, h1, h2, hlt, h.1, .inr ⟨g, c, cur, rfl, Nat.zero_le _, h3, r⟩⟩
theorem OvR.turn {w w' : World} {lo : Nat} {v : Value} {rs : List Ru} {S : Nat → Prop} (h : OvR w lo v rs) (t : Turn S w w') (hS : ∀ k, v.ownBlock = some k → ¬ S k) : OvR w' lo v rs := by
  refine ⟨h.1, ?_⟩
  rcases h.2 with h' | ⟨g', cap', cur, h', hb, hh, r⟩
  · exact .inl h'
  · have hlt : g' < w.heap.size := (Array.getElem?_eq_some_iff.1 hh).1
    exact .inr ⟨g', cap', cur, h', hb, (t.block g' hlt (hS g' (by rw [h']; rfl))).trans hh, r⟩
theorem OvR.new {w w' : World} {lo : Nat} {v : Value} {rs : List Ru} (h : OvR w lo v rs) (t : New w w') : OvR w' lo v rs := h.turn t (fun _ _ f => f)
theorem OvR.blk {w : World} {lo : Nat} {v : Value} {rs : List Ru} (h : OvR w lo v rs) : ∀ k, v.ownBlock = some k → lo ≤ k ∧ k < w.heap.size := by
  intro k hk
  rcases h.form with ⟨rfl, _⟩ | ⟨g, cap, rfl, hg, hlt, _⟩
  · simp [Value.ownBlock] at hk
  · simp [Value.ownBlock] at hk
    subst hk
    exact ⟨hg, hlt⟩
theorem OvR.low {w : World} {lo lo' : Nat} {v : Value} {rs : List Ru} (h : OvR w lo v rs) (hl : lo' ≤ lo) : OvR w lo' v rs := by
  refine ⟨h.1, ?_⟩
  rcases h.2 with h' | ⟨g', cap', cur, h', hb, hh, r⟩
  · exact .inl h'
  · exact .inr ⟨g', cap', cur, h', by omega, hh, r⟩
theorem OvR.rs {w : World} {lo : Nat} {v : Value} {rs : List Ru} (h : OvR w lo v rs) : ∃ a c, v = .slice a rs.length c ∧ RsAt w a rs ∧ (a = none → rs.length = 0 ∧ c = 0) := by
  rcases h.form with ⟨rfl, rfl⟩ | ⟨g, c, rfl, hg, hlt, ho⟩
  · exact ⟨none, 0, rfl, RsAt.nil _ _, fun _ => ⟨rfl, rfl⟩⟩
  · exact ⟨_, c, rfl, ho.rs, (by intro e; cases e)⟩

theorem RsAt.cells {w : World} {ad : Addr} {rs : List Ru} (h : RsAt w (some ad) rs) : ∀ j u, (cellsR rs)[j]? = some u → w.cell? (ad.add j) = some u := by
  intro j u hu
  have hj : j < rs.length * 8 := by
    have := (List.getElem?_eq_some_iff.1 hu).1
    rwa [cellsR_len] at this
  obtain ⟨b, off, ha, hc⟩ := h (j / 8) _ (List.getElem?_eq_getElem (show j / 8 < rs.length by omega))
  obtain rfl := Option.some.inj ha
  have h1 := cellsR_get rs (j / 8) _ (List.getElem?_eq_getElem (show j / 8 < rs.length by omega)) (j % 8) (by omega)
  have h2 := hc (j % 8) (by omega)
  rw [← h1, show j / 8 * 8 + j % 8 = j by omega, hu, Nat.add_assoc, show j / 8 * 8 + j % 8 = j by omega] at h2
  rw [Addr.add_lit]
  exact h2
theorem cellsR_append (xs ys : List Ru) : cellsR (xs ++ ys) = cellsR xs ++ cellsR ys := by simp [cellsR]
theorem cellsR_one (rs : List Ru) : ∀ u ∈ cellsR rs, u.oneCell' = true := by
  intro u hu
  simp only [cellsR, List.mem_flatMap] at hu
  obtain ⟨r, -, hr⟩ := hu
  simp [Ru.cs] at hr
  rcases hr with rfl | rfl | rfl | rfl | rfl | rfl | rfl | rfl <;> rfl

section
variable {P : Program} {t e : TypeId} {i : TypeInfo}
/-- Appending rules, whatever their make, to a list that the call owns. -/
theorem run_apRs (w : World) (ty : TypeId) (base : Nat) (zero : Value) (ht : P.underlying t = some (.slice e)) (hi : P.info? e = some i) (hz : i.zero = some zero) (hs : i.size = 8) (hb : i.bytes = 64) (hz1 : zero.cells.size = 8)
    (v : Value) (xs : List Ru) (hown : w.ownsRow base e 8 v xs.length (cellsR xs))
    (a : Option Addr) (m c : Nat) (zs : List Ru) (hsrc : RsAt w a zs) (hm : zs.length = m) (hnone : a = none → m = 0 ∧ c = 0) (hle : xs.length + m ≤ 4194304) (hbase : base ≤ w.heap.size) :
    ∃ v' w', (Builtin.append_ #[t, t] ty #[v, .slice a m c]).run P w = .ok v' w' ∧ w'.ownsRow base e 8 v' (xs ++ zs).length (cellsR (xs ++ zs)) ∧ w.grownBy w' v.ownBlock := by
  cases a with
  | none =>
    obtain ⟨rfl, rfl⟩ := hnone rfl
    obtain rfl : zs = [] := List.eq_nil_of_length_eq_zero hm
    have hrun := run_append_owned_none (P := P) w base t ty e i 8 ht hi v xs.length _ hown
    exact ⟨v, w, by simpa using hrun, by simpa using hown, World.grownBy.refl _ _⟩
  | some ad =>
    obtain ⟨v', w', hr, h2, h3, _, h5⟩ := run_append_own_at (P := P) w base t ty e i zero 8 64 ht hi hz hs hb hz1 (by decide) v xs.length _ hown ad m c (cellsR zs) (by rw [cellsR_len, hm]) hsrc.cells (cellsR_one zs) (by unfold maxLen; omega) (by omega) hbase
    exact ⟨v', w', hr, by rw [cellsR_append]; simpa [hm] using h2, h3⟩

theorem wpList_apRs (w : World) {ops : Array Oper} {rest : List Oper} {o : Oper} {a : Act} {Q : Exit → Act → World → Prop} (hgd : o.guard = none) (s x : Operand)
    (ho : o.op = .call { callee := .builtin .append, args := #[s, x], argTypes := #[t, t] }) (base : Nat) (zero : Value) (ht : P.underlying t = some (.slice e)) (hi : P.info? e = some i) (hz : i.zero = some zero) (hs : i.size = 8) (hb : i.bytes = 64) (hz1 : zero.cells.size = 8)
    (v : Value) (xs : List Ru) (hsv : a.eval s = v) (hown : w.ownsRow base e 8 v xs.length (cellsR xs))
    (ao : Option Addr) (m c : Nat) (zs : List Ru) (hxv : a.eval x = .slice ao m c) (hsrc : RsAt w ao zs) (hm : zs.length = m) (hnone : ao = none → m = 0 ∧ c = 0) (hle : xs.length + m ≤ 4194304) (hbase : base ≤ w.heap.size)
    (h : ∀ v' w', w'.ownsRow base e 8 v' (xs ++ zs).length (cellsR (xs ++ zs)) → w.grownBy w' v.ownBlock → wpList P ops Q rest (a.put o.dst v') w') : wpList P ops Q (o :: rest) a w := by
  refine wpList_plain hgd fun _ hK => ?_
  obtain ⟨v', w', hr, h2, h3⟩ := run_apRs (P := P) w o.type base zero ht hi hz hs hb hz1 v xs hown ao m c zs hsrc hm hnone hle hbase
  unfold Oper.wp execOp
  simp only [ho, resolve, invoke, builtin, Sem.run_bind, Sem.run_pure, Result.andThen_ok, List.map_toArray, List.map_cons, List.map_nil, hsv, hxv, hr]
  exact hK _ _ (h v' w' h2 h3)
end

set_option maxRecDepth 100000 in
set_option maxHeartbeats 800000 in
theorem growRu (N : Nat) (hN : N ≤ 1048576) (w : World) : Calls Try.prog 62 #[.slice none 0 0, .int .i64 N] w fun e w' => ∃ v, e = .returned v ∧ OvR w' w.heap.size v [] ∧ New w w' := by
  obtain ⟨i0, hi, hz0, hz1, hz2⟩ := info_parts Try.infoRu
  by_cases h0 : N = 0
  · subst h0
    go_enter Try.func62, Try.ntmps62
    go_wp2
    go_ret
    exact ⟨_, rfl, ⟨rfl, .inl ⟨rfl, rfl⟩⟩, New.refl _⟩
  · have hr := Lib.run_append_nil_zeros (P := Try.prog) w 30 3 30 74 i0 (.agg #[.int .i64 0, .int .i64 0, .int .i64 0, .int .i64 0, .int .i64 0, .bool false, .int .i64 0, .int .i64 0]) .i64 .i64 Try.underlying30 Try.underlying3 hi hz0 N (by omega) (by omega) (by omega) (by rw [hz2]; omega)
    have hge := grownCap_ge w N 0 74
    have hle := grownCap_le_maxLen w N 0 74 (by unfold maxLen; omega)
    go_enter Try.func62, Try.ntmps62
    go_wp2_with (at_builtin; refine Lib.wpList_append_run _ rfl (.tmp 20) (.tmp 21) 30 3 rfl _ _ rfl rfl _ _ hr ?_)
    generalize hcap : grownCap w N 0 74 = cap at *
    go_wp2
    go_ret
    refine ⟨_, rfl, ⟨rfl, .inr ⟨w.heap.size, cap, _, rfl, Nat.le_refl _, heap_alloc_new _ _, Nat.zero_le _, hle, ?_, by simp [cellsR]⟩⟩, ((New.refl w).drew).alloc _⟩
    simp [Builtin.zeroCells]
    omega

set_option maxRecDepth 100000 in
set_option maxHeartbeats 1600000 in
theorem concatRu (G : Nat) (x : Option Addr) (n c : Nat) (xs : List Ru) (w : World) (g0 : w.cell? ⟨G, 0, none⟩ = some (.slice x n c)) (hx : RsAt w x xs) (hn : xs.length = n) (hnx : x = none → n = 0 ∧ c = 0) (hn1 : n ≤ 1048576) :
    Calls Try.prog 38 #[.slice (some ⟨G, 0, none⟩) 1 1] w fun e w' => ∃ v, e = .returned v ∧ OvR w' w.heap.size v xs ∧ New w w' := by
  obtain ⟨i0, hi, hz0, hz1, hz2⟩ := info_parts Try.infoRu
  have HX : Hid (xs.length = n) := hn
  have HNX : Hid (x = none → n = 0 ∧ c = 0) := hnx
  have hG : G < w.heap.size := World.block_lt_of_cell? w _ g0
  clear hn hnx
  go_enter Try.func38, Try.ntmps38
  go_wp2
  refine wp_loop_rounds 2 ?_
  rw [rounds_succ]
  go_wp2
  rw [rounds_succ]
  go_wp2_with fail
  refine (growRu n (by omega) _).mono ?_
  rintro e w1 ⟨v1, rfl, ho1, hn1'⟩
  have G0 : w1.cell? ⟨G, 0, none⟩ = some (.slice x n c) := (World.cell?_of_block (hn1'.block G hG (fun f => f))).trans g0
  have sz1 := hn1'.size
  have lt1 : G < w1.heap.size := by omega
  clear g0
  go_wp2_with fail
  refine wp_loop_rounds 2 ?_
  rw [rounds_succ]
  go_wp2_with (at_builtin; refine wpList_apRs _ rfl (.tmp 31) (.tmp 32) rfl w.heap.size (.agg #[.int .i64 0, .int .i64 0, .int .i64 0, .int .i64 0, .int .i64 0, .bool false, .int .i64 0, .int .i64 0]) Try.underlying30 hi hz0 hz1 hz2 rfl v1 [] rfl ho1 x n c xs rfl (hx.new hn1') HX.out HNX.out (by simp; omega) sz1 ?_)
  intro v2 w2 ho2 hg2
  replace ho2 : OvR w2 w.heap.size v2 xs := by simpa [OvR] using ho2
  have N2 : New w w2 := hn1'.grow hg2 (fun k hk => (ho1.blk k hk).1)
  clear G0 hg2 ho1
  go_wp2_with fail
  rw [rounds_succ]
  go_wp2
  go_ret
  exact ⟨v2, rfl, ho2, N2⟩

end Go.Proofs.Ytdknalegmlpimaa
