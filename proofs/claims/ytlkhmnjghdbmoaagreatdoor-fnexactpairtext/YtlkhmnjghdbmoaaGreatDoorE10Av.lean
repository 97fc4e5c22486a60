/- What is proved here: what appending one thing to a list of the call's own leaves, whatever the things are. -/
import Derived.Test.YtlkhmnjghdbmoaaGreatDoorAp
import Derived.Maps.AppendAt
namespace Go.Proofs.YtlkhmnjghdbmoaaGreatDoor
open Go.RowKit
set_option linter.unusedVariables false

theorem row9_form {w : World} {lo sz n : Nat} {e : TypeId} {u : Value} {xs : List Value} (h : w.ownsRow lo e sz u n xs) : ∃ y d, u = .slice y n d ∧ (y = none → n = 0 ∧ d = 0) ∧ ∀ k, u.ownBlock = some k → lo ≤ k ∧ k < w.heap.size := by
  rcases h.2 with ⟨h1, h2⟩ | ⟨g, c, cur, h1, h2, h3, r⟩
  · subst h1; subst h2
    exact ⟨none, 0, rfl, fun _ => ⟨rfl, rfl⟩, by intro k hk; simp [Value.ownBlock] at hk⟩
  · have hlt : g < w.heap.size := (Array.getElem?_eq_some_iff.1 h3).1
    subst h1
    refine ⟨some ⟨g, 0, none⟩, c, rfl, (by intro e; cases e), ?_⟩
    intro k hk
    simp [Value.ownBlock] at hk
    omega
theorem row9_turn {w w' : World} {lo sz n : Nat} {e : TypeId} {u : Value} {xs : List Value} {S : Nat → Prop} (h : w.ownsRow lo e sz u n xs) (t : Turn S w w') (hS : ∀ k, u.ownBlock = some k → ¬ S k) : w'.ownsRow lo e sz u n xs := by
  refine ⟨h.1, ?_⟩
  rcases h.2 with h' | ⟨g', cap', cur, h', hb, hh, r⟩
  · exact .inl h'
  · have hlt : g' < w.heap.size := (Array.getElem?_eq_some_iff.1 hh).1
    exact .inr ⟨g', cap', cur, h', hb, (t.block g' hlt (hS g' (by rw [h']; rfl))).trans hh, r⟩
theorem row9_new {w w' : World} {lo sz n : Nat} {e : TypeId} {u : Value} {xs : List Value} (h : w.ownsRow lo e sz u n xs) (t : New w w') : w'.ownsRow lo e sz u n xs := row9_turn h t (fun _ _ f => f)
theorem turn_of_grown {w w' : World} {b : Option Nat} (h : w.grownBy w' b) : Turn (fun k => b = some k) w w' := ⟨h.os, h.tape, h.output, h.size, fun k hk hs => h.block k hk (fun e => hs e.symm)⟩

section
variable {P : Program} {t e : TypeId} {i : TypeInfo}
theorem wpList_apV (w : World) {ops : Array Oper} {rest : List Oper} {o : Oper} {a : Act} {Q : Exit → Act → World → Prop} (hgd : o.guard = none) (s x : Operand)
    (ho : o.op = .call { callee := .builtin .append, args := #[s, x], argTypes := #[t, t] }) (base sz by' : Nat) (zero : Value) (ht : P.underlying t = some (.slice e)) (hi : P.info? e = some i) (hz : i.zero = some zero) (hs : i.size = sz) (hb : i.bytes = by') (hz1 : zero.cells.size = sz) (hsz : 0 < sz) (hby : by' ≤ 1000)
    (v : Value) (n : Nat) (xs : List Value) (hsv : a.eval s = v) (hown : w.ownsRow base e sz v n xs)
    (L : Nat) (r : List Value) (hr : r.length = sz) (h1 : ∀ u ∈ r, u.oneCell' = true) (hxv : a.eval x = .slice (some ⟨L, 0, none⟩) 1 1) (hsrc : ∀ j u, r[j]? = some u → w.cell? ⟨L, j, none⟩ = some u) (hle : n + 1 ≤ 4194304) (hbase : base ≤ w.heap.size)
    (h : ∀ v' w', w'.ownsRow base e sz v' (n + 1) (xs ++ r) → w.grownBy w' v.ownBlock → (v'.ownBlock = v.ownBlock ∨ v'.ownBlock = some w.heap.size) → wpList P ops Q rest (a.put o.dst v') w') : wpList P ops Q (o :: rest) a w := by
  refine wpList_plain hgd fun _ hK => ?_
  have hnews : ∀ j u, r[j]? = some u → w.cell? ((⟨L, 0, none⟩ : Addr).add j) = some u := by
    intro j u hu
    rw [Addr.add_lit, Nat.zero_add]
    exact hsrc j u hu
  have hbb : (n + 1) * by' ≤ 140737488355328 := Nat.le_trans (Nat.mul_le_mul hle hby) (by decide)
  obtain ⟨v', w', hr, h2, h3, _, h5⟩ := run_append_own_at (P := P) w base t o.type e i zero sz by' ht hi hz hs hb hz1 hsz v n xs hown ⟨L, 0, none⟩ 1 1 r (by omega) hnews h1 (by unfold maxLen; omega) hbb hbase
  unfold Oper.wp execOp
  simp only [ho, resolve, invoke, builtin, Sem.run_bind, Sem.run_pure, Result.andThen_ok, List.map_toArray, List.map_cons, List.map_nil, hsv, hxv, hr]
  exact hK _ _ (h v' w' h2 h3 h5)
end

end Go.Proofs.YtlkhmnjghdbmoaaGreatDoor
