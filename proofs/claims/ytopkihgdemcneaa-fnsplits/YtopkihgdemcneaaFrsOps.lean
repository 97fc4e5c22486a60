/- What is proved here: what the comparing, the marking of lists of frames and the looking for marks answer. -/
import Derived.Test.YtopkihgdemcneaaSplit
import Derived.Deep.RegionHeld3
namespace Go.Proofs.Ytopkihgdemcneaa
open Go.RowKit

theorem OwF.at {w : World} {lo hi n c : Nat} {a : Option Addr} {F : List Fr} (h : OwF w lo hi a n c F) (i : Nat) (hi' : i < n) :
    ∃ (g : Nat) (f : Fr), a = some ⟨g, 0, none⟩ ∧ F[i]? = some f ∧ w.cell? ⟨g, i * 2, none⟩ = some (.int .i64 f.k) ∧ w.cell? ⟨g, i * 2 + 1, none⟩ = some (.slice f.a f.zs.length f.c) ∧ BsAt w f.a f.zs ∧ OwAt w f.a f.zs.length f.c f.zs ∧ w.frozen? ⟨g, i * 2, none⟩ = false := by
  have hl : i < F.length := by rw [h.len]; exact hi'
  have hf := List.getElem?_eq_getElem hl
  cases a with
  | none => have := (h.anil rfl).1; omega
  | some x =>
    obtain ⟨g, rfl, _, _, ho⟩ := h.row x rfl
    exact ⟨g, _, rfl, hf, by rw [ho.cellAt (i * 2) (by omega)]; exact cellsF_get0 hf, by rw [ho.cellAt (i * 2 + 1) (by omega)]; exact cellsF_get1 hf, (h.body i _ hf).bs (h.bd i _ hf), h.body i _ hf, ho.frozenAt _⟩

end Go.Proofs.Ytopkihgdemcneaa
