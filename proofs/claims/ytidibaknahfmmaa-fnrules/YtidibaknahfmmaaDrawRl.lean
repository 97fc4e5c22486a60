/- What is proved here: what the drawing of a list of rules answers. -/
import Derived.Test.YtidibaknahfmmaaDrawRb
import Derived.Test.YtidibaknahfmmaaR6Lib
import Derived.Maps.AppendAt
namespace Go.Proofs.Ytidibaknahfmmaa
open Go.RowKit Go.Sort
set_option linter.unusedVariables false

/-- A list of rules in memory of the call's own, from lo on. -/
def OvR (w : World) (lo : Nat) (v : Value) (rs : List Ru) : Prop := w.ownsRow lo 40 8 v rs.length (cellsR rs)
theorem OvR.turn {w w' : World} {lo : Nat} {v : Value} {rs : List Ru} {S : Nat → Prop} (h : OvR w lo v rs) (t : Turn S w w') (hS : ∀ k, lo ≤ k → k < w.heap.size → ¬ S k) : OvR w' lo v rs := by
  refine ⟨h.1, ?_⟩
  rcases h.2 with h' | ⟨g', cap', cur, h', hb, hh, r⟩
  · exact .inl h'
  · have hlt : g' < w.heap.size := (Array.getElem?_eq_some_iff.1 hh).1
    exact .inr ⟨g', cap', cur, h', hb, (t.block g' hlt (hS g' hb hlt)).trans hh, r⟩
theorem OvR.form {w : World} {lo : Nat} {v : Value} {rs : List Ru} (h : OvR w lo v rs) : (v = .slice none 0 0 ∧ rs = []) ∨ ∃ g c, v = .slice (some ⟨g, 0, none⟩) rs.length c ∧ lo ≤ g ∧ g < w.heap.size ∧ OwR w g rs.length c rs := by
  rcases h.2 with ⟨h1, h2⟩ | ⟨g, c, cur, h1, h2, h3, r⟩
  · exact .inl ⟨h1, List.eq_nil_of_length_eq_zero h2⟩
  · have hlt : g < w.heap.size := (Array.getElem?_eq_some_iff.1 h3).1
    exact .inr ⟨g, c, h1, h2, hlt, h.1, .inr ⟨g, c, cur, rfl, Nat.zero_le _, h3, r⟩⟩
theorem OvR.of {w : World} {lo g c : Nat} {rs : List Ru} (h : OwR w g rs.length c rs) (hl : lo ≤ g) : OvR w lo (.slice (some ⟨g, 0, none⟩) rs.length c) rs := by
  refine ⟨h.1, ?_⟩
  rcases h.2 with h' | ⟨g', cap', cur, h', r⟩
  · exact .inl h'
  · have e2 := congrArg Value.ownBlock h'
    have e3 : g = g' := by simpa [Value.ownBlock] using e2
    exact .inr ⟨g', cap', cur, h', by omega, r.2⟩

theorem cellsR_snoc (rs : List Ru) (r : Ru) : cellsR (rs ++ [r]) = cellsR rs ++ r.cs := by simp [cellsR]

section
variable {P : Program} {t e : TypeId} {i : TypeInfo}
/-- Appending a rule to a list that the call owns. -/
theorem wpList_apR (w : World) {ops : Array Oper} {rest : List Oper} {o : Oper} {a : Act} {Q : Exit → Act → World → Prop} (hgd : o.guard = none) (s x : Operand)
    (ho : o.op = .call { callee := .builtin .append, args := #[s, x], argTypes := #[t, t] }) (base : Nat) (zero : Value) (ht : P.underlying t = some (.slice e)) (hi : P.info? e = some i) (hz : i.zero = some zero) (hs : i.size = 8) (hb : i.bytes = 64) (hz1 : zero.cells.size = 8)
    (v : Value) (rs : List Ru) (hsv : a.eval s = v) (hown : w.ownsRow base e 8 v rs.length (cellsR rs))
    (L : Nat) (r : Ru) (hxv : a.eval x = .slice (some ⟨L, 0, none⟩) 1 1) (hsrc : ∀ j, w.cell? ⟨L, j, none⟩ = r.cs[j]?) (hle : rs.length + 1 ≤ 1000) (hbase : base ≤ w.heap.size)
    (h : ∀ v' w', w'.ownsRow base e 8 v' (rs ++ [r]).length (cellsR (rs ++ [r])) → w.grownBy w' v.ownBlock → (v'.ownBlock = v.ownBlock ∨ v'.ownBlock = some w.heap.size) → wpList P ops Q rest (a.put o.dst v') w') : wpList P ops Q (o :: rest) a w := by
  refine wpList_plain hgd fun _ hK => ?_
  have hnews : ∀ j u, r.cs[j]? = some u → w.cell? ((⟨L, 0, none⟩ : Addr).add j) = some u := by
    intro j u hu
    rw [Addr.add_lit, Nat.zero_add, hsrc j, hu]
  obtain ⟨v', w', hr, h2, h3, _, h5⟩ := run_append_own_at (P := P) w base t o.type e i zero 8 64 ht hi hz hs hb hz1 (by decide) v rs.length (cellsR rs) hown ⟨L, 0, none⟩ 1 1 r.cs rfl hnews (by simp [Ru.cs, Value.oneCell']) (by unfold maxLen; omega) (by omega) hbase
  unfold Oper.wp execOp
  simp only [ho, resolve, invoke, builtin, Sem.run_bind, Sem.run_pure, Result.andThen_ok, List.map_toArray, List.map_cons, List.map_nil, hsv, hxv, hr]
  exact hK _ _ (h v' w' (by rw [cellsR_snoc]; simpa using h2) h3 h5)
end

end Go.Proofs.Ytidibaknahfmmaa
