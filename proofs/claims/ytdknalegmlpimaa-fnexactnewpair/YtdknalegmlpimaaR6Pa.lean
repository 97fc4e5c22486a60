/- What is proved here: what putting lists of numbers one behind the other answers, for lists of at most 1048576 numbers. -/
import Derived.Test.YtdknalegmlpimaaAtLaw
import Derived.Test.YtdknalegmlpimaaAp
import Derived.Lib.AppendZeros
import Derived.Lib.SmallJoins
import Derived.LoopN
namespace Go.Proofs.Ytdknalegmlpimaa
open Go.RowKit Go.Sort
set_option linter.unusedVariables false

/-- A list of numbers in memory of the call's own, from lo on, or nil for none. -/
def OvN (w : World) (lo : Nat) (v : Value) (xs : List Int) : Prop := w.ownsRow lo 2 1 v xs.length (xs.map (Value.int .i64))

theorem OvN.form {w : World} {lo : Nat} {v : Value} {xs : List Int} (h : OvN w lo v xs) : (v = .slice none 0 0 ∧ xs = []) ∨ ∃ g c, v = .slice (some ⟨g, 0, none⟩) xs.length c ∧ lo ≤ g ∧ OwN w g xs.length c xs := by
  rcases Joins.ownsRow_forms h with ⟨rfl, h0⟩ | ⟨g, cap, rfl⟩
  · exact .inl ⟨rfl, List.eq_nil_of_length_eq_zero h0⟩
  · exact .inr ⟨g, cap, rfl, (World.ownsRow.lt h g rfl).1, own_base h⟩
theorem OvN.turn {w w' : World} {lo : Nat} {v : Value} {xs : List Int} {S : Nat → Prop} (h : OvN w lo v xs) (t : Turn S w w') (hS : ∀ k, lo ≤ k → k < w.heap.size → ¬ S k) : OvN w' lo v xs := by
  refine ⟨h.1, ?_⟩
  rcases h.2 with h' | ⟨g', cap', cur, h', hb, hh, r⟩
  · exact .inl h'
  · have hlt : g' < w.heap.size := (Array.getElem?_eq_some_iff.1 hh).1
    exact .inr ⟨g', cap', cur, h', hb, (t.block g' hlt (hS g' hb hlt)).trans hh, r⟩
theorem OvN.new {w w' : World} {lo : Nat} {v : Value} {xs : List Int} (h : OvN w lo v xs) (t : New w w') : OvN w' lo v xs := h.turn t (fun _ _ _ f => f)
theorem OvN.blk {w : World} {lo : Nat} {v : Value} {xs : List Int} (h : OvN w lo v xs) : ∀ k, v.ownBlock = some k → lo ≤ k := by
  intro k hk
  rcases h.form with ⟨rfl, _⟩ | ⟨g, cap, rfl, hg, _⟩
  · simp [Value.ownBlock] at hk
  · simp [Value.ownBlock] at hk
    subst hk
    exact hg
theorem OvN.low {w : World} {lo lo' : Nat} {v : Value} {xs : List Int} (h : OvN w lo v xs) (hl : lo' ≤ lo) : OvN w lo' v xs := by
  refine ⟨h.1, ?_⟩
  rcases h.2 with h' | ⟨g', cap', cur, h', hb, hh, r⟩
  · exact .inl h'
  · exact .inr ⟨g', cap', cur, h', by omega, hh, r⟩
theorem OvN.ns {w : World} {lo : Nat} {v : Value} {xs : List Int} (h : OvN w lo v xs) (hb : ∀ z ∈ xs, In6 z) : ∃ a c, v = .slice a xs.length c ∧ NsAt w a xs ∧ (a = none → xs.length = 0 ∧ c = 0) ∧ (∀ x, a = some x → x.spot = none ∧ x.off = 0 ∧ lo ≤ x.block ∧ x.block < w.heap.size) := by
  rcases h.form with ⟨rfl, rfl⟩ | ⟨g, c, rfl, hg, ho⟩
  · exact ⟨none, 0, rfl, NsAt.nil _ _, fun _ => ⟨rfl, rfl⟩, by intro x hx; cases hx⟩
  · exact ⟨_, c, rfl, ho.ns hb, (by intro e; cases e), by intro x hx; obtain rfl := Option.some.inj hx; exact ⟨rfl, rfl, hg, ho.lt⟩⟩

section
variable {P : Program} {t e : TypeId} {i : TypeInfo}
/-- Appending numbers, whatever their make, to a list that the call owns. -/
theorem run_apN (w : World) (ty : TypeId) (base : Nat) (ht : P.underlying t = some (.slice e)) (hi : P.info? e = some i) (hz : i.zero = some (.int .i64 0)) (hs : i.size = 1) (hb : i.bytes = 8)
    (v : Value) (xs : List Int) (hown : w.ownsRow base e 1 v xs.length (xs.map (Value.int .i64)))
    (a : Option Addr) (m c : Nat) (zs : List Int) (hsrc : NsAt w a zs) (hm : zs.length = m) (hnone : a = none → m = 0 ∧ c = 0) (hle : xs.length + m ≤ 4194304) (hbase : base ≤ w.heap.size) :
    ∃ v' w', (Builtin.append_ #[t, t] ty #[v, .slice a m c]).run P w = .ok v' w' ∧ w'.ownsRow base e 1 v' (xs ++ zs).length ((xs ++ zs).map (Value.int .i64)) ∧ w.grownBy w' v.ownBlock := by
  cases a with
  | none =>
    obtain ⟨rfl, rfl⟩ := hnone rfl
    obtain rfl : zs = [] := List.eq_nil_of_length_eq_zero hm
    have hrun := run_append_owned_none (P := P) w base t ty e i 1 ht hi v xs.length _ hown
    exact ⟨v, w, by simpa using hrun, by simpa using hown, World.grownBy.refl _ _⟩
  | some ad =>
    have hnews : ∀ j u, (zs.map (Value.int .i64))[j]? = some u → w.cell? (ad.add j) = some u := by
      intro j u hu
      rw [List.getElem?_map] at hu
      obtain ⟨z, hz', rfl⟩ := Option.map_eq_some_iff.1 hu
      obtain ⟨b, off, ha, hc, _⟩ := hsrc j z hz'
      obtain rfl := Option.some.inj ha
      rw [Addr.add_lit]
      exact hc
    obtain ⟨v', w', hr, h2, h3, _, h5⟩ := run_append_own_at (P := P) w base t ty e i (.int .i64 0) 1 8 ht hi hz hs hb rfl (by decide) v xs.length _ hown ad m c (zs.map (Value.int .i64)) (by simp [hm]) hnews (ints_oneCell _ _) (by unfold maxLen; omega) (by omega) hbase
    exact ⟨v', w', hr, by simpa [hm] using h2, h3⟩

theorem wp_apN (w : World) {o : Oper} {a : Act} {K : Act → World → Prop} {Q : Exit → Act → World → Prop} (s x : Operand)
    (ho : o.op = .call { callee := .builtin .append, args := #[s, x], argTypes := #[t, t] }) (base : Nat) (ht : P.underlying t = some (.slice e)) (hi : P.info? e = some i) (hz : i.zero = some (.int .i64 0)) (hs : i.size = 1) (hb : i.bytes = 8)
    (v : Value) (xs : List Int) (hsv : a.eval s = v) (hown : w.ownsRow base e 1 v xs.length (xs.map (Value.int .i64)))
    (ao : Option Addr) (m c : Nat) (zs : List Int) (hxv : a.eval x = .slice ao m c) (hsrc : NsAt w ao zs) (hm : zs.length = m) (hnone : ao = none → m = 0 ∧ c = 0) (hle : xs.length + m ≤ 4194304) (hbase : base ≤ w.heap.size)
    (h : ∀ v' w', w'.ownsRow base e 1 v' (xs ++ zs).length ((xs ++ zs).map (Value.int .i64)) → w.grownBy w' v.ownBlock → K (a.put o.dst v') w') : o.wp P a w K Q := by
  obtain ⟨v', w', hr, h2, h3⟩ := run_apN (P := P) w o.type base ht hi hz hs hb v xs hown ao m c zs hsrc hm hnone hle hbase
  unfold Oper.wp execOp
  simp only [ho, resolve, invoke, builtin, Sem.run_bind, Sem.run_pure, Result.andThen_ok, List.map_toArray, List.map_cons, List.map_nil, hsv, hxv, hr]
  exact h v' w' h2 h3

theorem wpList_apN (w : World) {ops : Array Oper} {rest : List Oper} {o : Oper} {a : Act} {Q : Exit → Act → World → Prop} (hgd : o.guard = none) (s x : Operand)
    (ho : o.op = .call { callee := .builtin .append, args := #[s, x], argTypes := #[t, t] }) (base : Nat) (ht : P.underlying t = some (.slice e)) (hi : P.info? e = some i) (hz : i.zero = some (.int .i64 0)) (hs : i.size = 1) (hb : i.bytes = 8)
    (v : Value) (xs : List Int) (hsv : a.eval s = v) (hown : w.ownsRow base e 1 v xs.length (xs.map (Value.int .i64)))
    (ao : Option Addr) (m c : Nat) (zs : List Int) (hxv : a.eval x = .slice ao m c) (hsrc : NsAt w ao zs) (hm : zs.length = m) (hnone : ao = none → m = 0 ∧ c = 0) (hle : xs.length + m ≤ 4194304) (hbase : base ≤ w.heap.size)
    (h : ∀ v' w', w'.ownsRow base e 1 v' (xs ++ zs).length ((xs ++ zs).map (Value.int .i64)) → w.grownBy w' v.ownBlock → wpList P ops Q rest (a.put o.dst v') w') : wpList P ops Q (o :: rest) a w :=
  wpList_plain hgd fun _ hK => wp_apN w s x ho base ht hi hz hs hb v xs hsv hown ao m c zs hxv hsrc hm hnone hle hbase fun v' w' h2 h3 => hK _ _ (h v' w' h2 h3)

theorem step_apN (w : World) {ops : Array Oper} {o : Oper} {a : Act} {K : Act → World → Prop} {Q : Exit → Act → World → Prop} {E : Prop} (hgd : o.guard = none) (s x : Operand)
    (ho : o.op = .call { callee := .builtin .append, args := #[s, x], argTypes := #[t, t] }) (base : Nat) (ht : P.underlying t = some (.slice e)) (hi : P.info? e = some i) (hz : i.zero = some (.int .i64 0)) (hs : i.size = 1) (hb : i.bytes = 8)
    (v : Value) (xs : List Int) (hsv : a.eval s = v) (hown : w.ownsRow base e 1 v xs.length (xs.map (Value.int .i64)))
    (ao : Option Addr) (m c : Nat) (zs : List Int) (hxv : a.eval x = .slice ao m c) (hsrc : NsAt w ao zs) (hm : zs.length = m) (hnone : ao = none → m = 0 ∧ c = 0) (hle : xs.length + m ≤ 4194304) (hbase : base ≤ w.heap.size)
    (h : ∀ v' w', w'.ownsRow base e 1 v' (xs ++ zs).length ((xs ++ zs).map (Value.int .i64)) → w.grownBy w' v.ownBlock → K (a.put o.dst v') w') :
    if Region.wanted o (yielded ops a.tmps) = true then Oper.wp P o a w K Q else E := by
  have hw : Region.wanted o (yielded ops a.tmps) = true := by simp [Region.wanted, hgd]
  rw [if_pos hw]
  exact wp_apN w s x ho base ht hi hz hs hb v xs hsv hown ao m c zs hxv hsrc hm hnone hle hbase h
end

end Go.Proofs.Ytdknalegmlpimaa
