/- What is proved here: what the copies of logs and of nodes answer, both sides, for logs of at most 1048576 entries and bytes. -/
import Derived.Test.YtkbdmcimgepakaaGreatK12Ng
namespace Go.Proofs.YtkbdmcimgepakaaGreat
open Go.RowKit Go.Sort
set_option linter.unusedVariables false
set_option linter.unusedSimpArgs false
set_option maxRecDepth 100000

theorem PaK.turnP {w w' : World} {lo hi : Nat} {V : List EkV} {S : Nat → Prop} (h : PaK w lo hi V) (t : Turn S w w') (hS : ∀ v ∈ V, ∀ k, v.pv.ownBlock = some k → ¬ S k) : PaK w' lo hi V :=
  ⟨fun v hv => (h.own v hv).turnK t (hS v hv), h.bd, h.lies, h.apart⟩
theorem rowv_neK {w : World} {lo lo' n k sz : Nat} {ty : TypeId} {u v : Value} {cs : List Value} {xs : List Int} (h : w.ownsRow lo ty sz u n cs) (hty : ¬ ty = 5) (ho : OvB w lo' v xs) (hu : u.ownBlock = some k) : v.ownBlock ≠ some k := by
  intro e
  rcases ho.2 with ⟨h', _⟩ | ⟨g1, c1, cur1, h1, _, hb1, _⟩
  · rw [h'] at e; simp [Value.ownBlock] at e
  · rw [h1] at e
    simp [Value.ownBlock] at e
    subst e
    rcases h.2 with ⟨h', _⟩ | ⟨g2, _, cur2, h2, _, hb2, _⟩
    · rw [h'] at hu; simp [Value.ownBlock] at hu
    · rw [h2] at hu
      simp [Value.ownBlock] at hu
      subst hu
      rw [hb1] at hb2
      simp only [Option.some.injEq, Obj.cells.injEq] at hb2
      exact hty hb2.2.1.symm

/-- An entry put behind a list of the call's own. -/
theorem OwL.appended {w2 w3 w4 w5 : World} {lo : Nat} {u v' : Value} {V : List EkV} {v : EkV} (h : OwL w2 lo w2.heap.size u V) (hlo : lo ≤ w2.heap.size) (n3 : New w2 w3) (ho : OvB w3 w2.heap.size v.pv v.r.xs) (hb : ∀ z ∈ v.r.xs, By z) (hm : v.r.xs.length ≤ 1048576) (n4 : New w3 w4)
    (hr : w5.ownsRow lo 95 4 v' (V ++ [v]).length (cellsK (V ++ [v]))) (hg : w4.grownBy w5 u.ownBlock) : OwL w5 lo w5.heap.size v' (V ++ [v]) := by
  have P4 := ((h.path.new n3).snoc v ho hb hm hlo n3.size (Nat.le_refl _)).new n4
  have r4 := row9_new h.row (n3.trans n4)
  obtain ⟨y, d, -, -, hrn⟩ := row9_form hr
  refine ⟨hr, fun k hk => (hrn k hk).2, (P4.turnP (turn_of_grown hg) ?_).up (Nat.le_trans n4.size hg.size)⟩
  intro q hq k hk e
  exact rowv_neK r4 (by decide) (P4.own q hq) e hk

/-- Entries without bytes have no room. -/
def NlK (V : List EkV) : Prop := ∀ v ∈ V, v.a = none → v.r.xs.length = 0 ∧ v.c = 0
theorem OwL.nl {w : World} {lo hi : Nat} {u : Value} {V : List EkV} (h : OwL w lo hi u V) : NlK V := fun v hv => (h.path.here v hv).2.1

end Go.Proofs.YtkbdmcimgepakaaGreat
