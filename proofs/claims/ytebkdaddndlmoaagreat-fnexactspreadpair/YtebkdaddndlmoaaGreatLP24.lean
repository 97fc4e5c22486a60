/- Lemmas and contracts of one law. -/
import Derived.Test.YtebkdaddndlmoaaGreatLP8
import Derived.Test.YtebkdaddndlmoaaGreatLP23
namespace Go.Proofs.YtebkdaddndlmoaaGreat
open Go.RowKit Go.Sort
set_option linter.unusedVariables false
set_option linter.unusedSimpArgs false
set_option maxRecDepth 100000
set_option maxHeartbeats 25600000

/-- A mail without an entry. -/
def mlv0 (k t e a : Int) : MlV := ⟨⟨k, t, e, a, 0, false, ⟨0, 0, 0, []⟩⟩, none, 0⟩
theorem SdOw.row0 {w : World} {g cs : Nat} {k t e a : Int} (h : w.ownsRow 0 137 10 (.slice (some ⟨g, 0, none⟩) 1 cs) 1 (mlv0 k t e a).cs) : SdOw w (fun i => i = g) (some ⟨g, 0, none⟩) 1 cs [mlv0 k t e a] :=
  .inr ⟨mlv0 k t e a, g, rfl, rfl, rfl, rfl, h, ⟨rfl, fun h => absurd h (Nat.lt_irrefl 0)⟩, fun z hz => (by cases hz), Nat.zero_le _, fun x hx => (by cases hx)⟩
theorem row_of_blk {w : World} {g : Nat} {cs : Array Value} (h : Blk w g 137 cs) (hs : cs.size = 10) : w.ownsRow 0 137 10 (.slice (some ⟨g, 0, none⟩) 1 1) 1 cs.toList :=
  ⟨by simp [hs], .inr ⟨g, 1, cs, rfl, Nat.zero_le _, h, Nat.le_refl _, by unfold maxLen; omega, by omega, by rw [List.take_of_length_le (by simp [hs])]⟩⟩
/-- A log and a mail without an entry, of the call's own. -/
theorem NrOw.one {w : World} {b0 b1 lo hi n c g cs : Nat} {A : Option Addr} {U : List EkV} {k t e a : Int} (h : OwL w lo hi (.slice A n c) U) (h0 : b0 ≤ lo) (h1 : hi ≤ b1) (hr : w.ownsRow 0 137 10 (.slice (some ⟨g, 0, none⟩) 1 cs) 1 (mlv0 k t e a).cs) (hg : ¬ (lo ≤ g ∧ g < hi)) (hg0 : b0 ≤ g) (hg1 : g < b1) : NrOw w b0 b1 A n c U (some ⟨g, 0, none⟩) 1 cs [mlv0 k t e a] :=
  ⟨lo, hi, fun i => i = g, h, SdOw.row0 hr, fun i e => by rw [e]; exact hg, fun i e => by rw [e]; exact ⟨hg0, hg1⟩, h0, h1⟩

section
variable {P : Program} {t e : TypeId} {i : TypeInfo}
theorem wp_apV (w : World) {o : Oper} {a : Act} {K : Act → World → Prop} {Q : Exit → Act → World → Prop} (s x : Operand)
    (ho : o.op = .call { callee := .builtin .append, args := #[s, x], argTypes := #[t, t] }) (base sz by' : Nat) (zero : Value) (ht : P.underlying t = some (.slice e)) (hi : P.info? e = some i) (hz : i.zero = some zero) (hs : i.size = sz) (hb : i.bytes = by') (hz1 : zero.cells.size = sz) (hsz : 0 < sz) (hby : by' ≤ 1000)
    (v : Value) (n : Nat) (xs : List Value) (hsv : a.eval s = v) (hown : w.ownsRow base e sz v n xs)
    (L : Nat) (r : List Value) (hr : r.length = sz) (h1 : ∀ u ∈ r, u.oneCell' = true) (hxv : a.eval x = .slice (some ⟨L, 0, none⟩) 1 1) (hsrc : ∀ j u, r[j]? = some u → w.cell? ⟨L, j, none⟩ = some u) (hle : n + 1 ≤ 4194304) (hbase : base ≤ w.heap.size)
    (h : ∀ v' w', w'.ownsRow base e sz v' (n + 1) (xs ++ r) → w.grownBy w' v.ownBlock → (v'.ownBlock = v.ownBlock ∨ v'.ownBlock = some w.heap.size) → K (a.put o.dst v') w') : o.wp P a w K Q := by
  have hnews : ∀ j u, r[j]? = some u → w.cell? ((⟨L, 0, none⟩ : Addr).add j) = some u := by
    intro j u hu
    rw [Addr.add_lit, Nat.zero_add]
    exact hsrc j u hu
  have hbb : (n + 1) * by' ≤ 140737488355328 := Nat.le_trans (Nat.mul_le_mul hle hby) (by decide)
  obtain ⟨v', w', hr, h2, h3, _, h5⟩ := run_append_own_at (P := P) w base t o.type e i zero sz by' ht hi hz hs hb hz1 hsz v n xs hown ⟨L, 0, none⟩ 1 1 r (by omega) hnews h1 (by unfold maxLen; omega) hbb hbase
  unfold Oper.wp execOp
  simp only [ho, resolve, invoke, builtin, Sem.run_bind, Sem.run_pure, Result.andThen_ok, List.map_toArray, List.map_cons, List.map_nil, hsv, hxv, hr]
  exact h v' w' h2 h3 h5
end
end Go.Proofs.YtebkdaddndlmoaaGreat
