/- What is proved here: what putting lists of bytes one behind the other answers, for lists of at most 1048576 bytes. -/
import Derived.Test.YtlkhmnjghdbmoaaGreatDoorPackLib
import Derived.Test.YtlkhmnjghdbmoaaGreatDoorAp
import Derived.Lib.AppendZeros
import Derived.Lib.SmallJoins
import Derived.LoopN
namespace Go.Proofs.YtlkhmnjghdbmoaaGreatDoor
open Go.RowKit Go.Sort
set_option linter.unusedVariables false

/-- A list of bytes in memory of the call's own, from lo on, or nil for none. -/
def OvB (w : World) (lo : Nat) (v : Value) (xs : List Int) : Prop := w.ownsRow lo 5 1 v xs.length (xs.map (Value.int .u8))

theorem OvB.form {w : World} {lo : Nat} {v : Value} {xs : List Int} (h : OvB w lo v xs) : (v = .slice none 0 0 ∧ xs = []) ∨ ∃ g c, v = .slice (some ⟨g, 0, none⟩) xs.length c ∧ lo ≤ g ∧ xs.length ≤ c ∧ w.ownsRow 0 5 1 (.slice (some ⟨g, 0, none⟩) xs.length c) xs.length (xs.map (Value.int .u8)) := by
  rcases Joins.ownsRow_forms h with ⟨rfl, h0⟩ | ⟨g, cap, rfl⟩
  · exact .inl ⟨rfl, List.eq_nil_of_length_eq_zero h0⟩
  · refine .inr ⟨g, cap, rfl, (World.ownsRow.lt h g rfl).1, ?_, own_base h⟩
    rcases h.2 with ⟨h1, _⟩ | ⟨g', cap', cur, h', hb, hh, hc, r⟩
    · cases h1
    · simp at h'
      omega
theorem OvB.turn {w w' : World} {lo : Nat} {v : Value} {xs : List Int} {S : Nat → Prop} (h : OvB w lo v xs) (t : Turn S w w') (hS : ∀ k, lo ≤ k → k < w.heap.size → ¬ S k) : OvB w' lo v xs := by
  refine ⟨h.1, ?_⟩
  rcases h.2 with h' | ⟨g', cap', cur, h', hb, hh, r⟩
  · exact .inl h'
  · have hlt : g' < w.heap.size := (Array.getElem?_eq_some_iff.1 hh).1
    exact .inr ⟨g', cap', cur, h', hb, (t.block g' hlt (hS g' hb hlt)).trans hh, r⟩
theorem OvB.new {w w' : World} {lo : Nat} {v : Value} {xs : List Int} (h : OvB w lo v xs) (t : New w w') : OvB w' lo v xs := h.turn t (fun _ _ _ f => f)
theorem OvB.blk {w : World} {lo : Nat} {v : Value} {xs : List Int} (h : OvB w lo v xs) : ∀ k, v.ownBlock = some k → lo ≤ k := by
  intro k hk
  rcases h.form with ⟨rfl, _⟩ | ⟨g, cap, rfl, hg, _, _⟩
  · simp [Value.ownBlock] at hk
  · simp [Value.ownBlock] at hk
    subst hk
    exact hg
theorem OvB.low {w : World} {lo lo' : Nat} {v : Value} {xs : List Int} (h : OvB w lo v xs) (hl : lo' ≤ lo) : OvB w lo' v xs := by
  refine ⟨h.1, ?_⟩
  rcases h.2 with h' | ⟨g', cap', cur, h', hb, hh, r⟩
  · exact .inl h'
  · exact .inr ⟨g', cap', cur, h', by omega, hh, r⟩
theorem OvB.bs {w : World} {lo : Nat} {v : Value} {xs : List Int} (h : OvB w lo v xs) (hb : ∀ z ∈ xs, 0 ≤ z ∧ z ≤ 255) : ∃ a c, v = .slice a xs.length c ∧ BsAt w a xs ∧ xs.length ≤ c ∧ ((a = none ∧ xs.length = 0 ∧ c = 0) ∨ ∃ g, a = some ⟨g, 0, none⟩ ∧ lo ≤ g ∧ g < w.heap.size) ∧ OwAt w a xs.length c xs := by
  rcases h.form with ⟨rfl, rfl⟩ | ⟨g, c, rfl, hg, hc, ho⟩
  · exact ⟨none, 0, rfl, BsAt.nil _ _, Nat.le_refl _, .inl ⟨rfl, rfl, rfl⟩, ⟨rfl, fun h => by simp at h⟩⟩
  · exact ⟨_, c, rfl, BsAt.of_own ho hb, hc, .inr ⟨g, rfl, hg, (ho.lt g rfl).2⟩, OwAt.of_own ho⟩

section
variable {P : Program} {t e : TypeId} {i : TypeInfo}
/-- Appending bytes, whatever their make, to a list that the call owns. -/
theorem run_apB (w : World) (ty : TypeId) (base : Nat) (ht : P.underlying t = some (.slice e)) (hi : P.info? e = some i) (hz : i.zero = some (.int .u8 0)) (hs : i.size = 1) (hb : i.bytes = 1)
    (v : Value) (xs : List Int) (hown : w.ownsRow base e 1 v xs.length (xs.map (Value.int .u8)))
    (a : Option Addr) (m c : Nat) (zs : List Int) (hsrc : BsAt w a zs) (hm : zs.length = m) (hnone : a = none → m = 0 ∧ c = 0) (hle : xs.length + m ≤ 4194304) (hbase : base ≤ w.heap.size) :
    ∃ v' w', (Builtin.append_ #[t, t] ty #[v, .slice a m c]).run P w = .ok v' w' ∧ w'.ownsRow base e 1 v' (xs ++ zs).length ((xs ++ zs).map (Value.int .u8)) ∧ w.grownBy w' v.ownBlock := by
  cases a with
  | none =>
    obtain ⟨rfl, rfl⟩ := hnone rfl
    obtain rfl : zs = [] := List.eq_nil_of_length_eq_zero hm
    have hrun := run_append_owned_none (P := P) w base t ty e i 1 ht hi v xs.length _ hown
    exact ⟨v, w, by simpa using hrun, by simpa using hown, World.grownBy.refl _ _⟩
  | some ad =>
    have hnews : ∀ j u, (zs.map (Value.int .u8))[j]? = some u → w.cell? (ad.add j) = some u := by
      intro j u hu
      rw [List.getElem?_map] at hu
      obtain ⟨z, hz', rfl⟩ := Option.map_eq_some_iff.1 hu
      obtain ⟨b, off, ha, hc, _⟩ := hsrc j z hz'
      obtain rfl := Option.some.inj ha
      rw [Addr.add_lit]
      exact hc
    obtain ⟨v', w', hr, h2, h3, _, h5⟩ := run_append_own_at (P := P) w base t ty e i (.int .u8 0) 1 1 ht hi hz hs hb rfl (by decide) v xs.length _ hown ad m c (zs.map (Value.int .u8)) (by simp [hm]) hnews (ints_oneCell _ _) (by unfold maxLen; omega) (by omega) hbase
    exact ⟨v', w', hr, by simpa [hm] using h2, h3⟩

theorem wp_apB (w : World) {o : Oper} {a : Act} {K : Act → World → Prop} {Q : Exit → Act → World → Prop} (s x : Operand)
    (ho : o.op = .call { callee := .builtin .append, args := #[s, x], argTypes := #[t, t] }) (base : Nat) (ht : P.underlying t = some (.slice e)) (hi : P.info? e = some i) (hz : i.zero = some (.int .u8 0)) (hs : i.size = 1) (hb : i.bytes = 1)
    (v : Value) (xs : List Int) (hsv : a.eval s = v) (hown : w.ownsRow base e 1 v xs.length (xs.map (Value.int .u8)))
    (ao : Option Addr) (m c : Nat) (zs : List Int) (hxv : a.eval x = .slice ao m c) (hsrc : BsAt w ao zs) (hm : zs.length = m) (hnone : ao = none → m = 0 ∧ c = 0) (hle : xs.length + m ≤ 4194304) (hbase : base ≤ w.heap.size)
    (h : ∀ v' w', w'.ownsRow base e 1 v' (xs ++ zs).length ((xs ++ zs).map (Value.int .u8)) → w.grownBy w' v.ownBlock → K (a.put o.dst v') w') : o.wp P a w K Q := by
  obtain ⟨v', w', hr, h2, h3⟩ := run_apB (P := P) w o.type base ht hi hz hs hb v xs hown ao m c zs hsrc hm hnone hle hbase
  unfold Oper.wp execOp
  simp only [ho, resolve, invoke, builtin, Sem.run_bind, Sem.run_pure, Result.andThen_ok, List.map_toArray, List.map_cons, List.map_nil, hsv, hxv, hr]
  exact h v' w' h2 h3

theorem wpList_apB (w : World) {ops : Array Oper} {rest : List Oper} {o : Oper} {a : Act} {Q : Exit → Act → World → Prop} (hgd : o.guard = none) (s x : Operand)
    (ho : o.op = .call { callee := .builtin .append, args := #[s, x], argTypes := #[t, t] }) (base : Nat) (ht : P.underlying t = some (.slice e)) (hi : P.info? e = some i) (hz : i.zero = some (.int .u8 0)) (hs : i.size = 1) (hb : i.bytes = 1)
    (v : Value) (xs : List Int) (hsv : a.eval s = v) (hown : w.ownsRow base e 1 v xs.length (xs.map (Value.int .u8)))
    (ao : Option Addr) (m c : Nat) (zs : List Int) (hxv : a.eval x = .slice ao m c) (hsrc : BsAt w ao zs) (hm : zs.length = m) (hnone : ao = none → m = 0 ∧ c = 0) (hle : xs.length + m ≤ 4194304) (hbase : base ≤ w.heap.size)
    (h : ∀ v' w', w'.ownsRow base e 1 v' (xs ++ zs).length ((xs ++ zs).map (Value.int .u8)) → w.grownBy w' v.ownBlock → wpList P ops Q rest (a.put o.dst v') w') : wpList P ops Q (o :: rest) a w :=
  wpList_plain hgd fun _ hK => wp_apB w s x ho base ht hi hz hs hb v xs hsv hown ao m c zs hxv hsrc hm hnone hle hbase fun v' w' h2 h3 => hK _ _ (h v' w' h2 h3)

theorem step_apB (w : World) {ops : Array Oper} {o : Oper} {a : Act} {K : Act → World → Prop} {Q : Exit → Act → World → Prop} {E : Prop} (hgd : o.guard = none) (s x : Operand)
    (ho : o.op = .call { callee := .builtin .append, args := #[s, x], argTypes := #[t, t] }) (base : Nat) (ht : P.underlying t = some (.slice e)) (hi : P.info? e = some i) (hz : i.zero = some (.int .u8 0)) (hs : i.size = 1) (hb : i.bytes = 1)
    (v : Value) (xs : List Int) (hsv : a.eval s = v) (hown : w.ownsRow base e 1 v xs.length (xs.map (Value.int .u8)))
    (ao : Option Addr) (m c : Nat) (zs : List Int) (hxv : a.eval x = .slice ao m c) (hsrc : BsAt w ao zs) (hm : zs.length = m) (hnone : ao = none → m = 0 ∧ c = 0) (hle : xs.length + m ≤ 4194304) (hbase : base ≤ w.heap.size)
    (h : ∀ v' w', w'.ownsRow base e 1 v' (xs ++ zs).length ((xs ++ zs).map (Value.int .u8)) → w.grownBy w' v.ownBlock → K (a.put o.dst v') w') :
    if Region.wanted o (yielded ops a.tmps) = true then Oper.wp P o a w K Q else E := by
  have hw : Region.wanted o (yielded ops a.tmps) = true := by simp [Region.wanted, hgd]
  rw [if_pos hw]
  exact wp_apB w s x ho base ht hi hz hs hb v xs hsv hown ao m c zs hxv hsrc hm hnone hle hbase h
end

end Go.Proofs.YtlkhmnjghdbmoaaGreatDoor
