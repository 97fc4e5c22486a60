/- What is proved here: what the counting, the copying and the comparing of lists of things told answer, for every list of at most 1048576 things told with paths of at most 1048576 numbers. -/
import Derived.Test.YtdknalegmlpimaaT8Own
import Derived.Test.YtdknalegmlpimaaT8Open
import Derived.Deep.CutRange
namespace Go.Proofs.Ytdknalegmlpimaa
open Go.RowKit Go.Sort
set_option linter.unusedVariables false

theorem set7 (w : World) (B j : Nat) (v0 v1 v2 v3 v4 v5 v6 : Value) : Turn (fun k => k = B) w (((((((w.setCell ⟨B, j, none⟩ v0).setCell ⟨B, j + 1, none⟩ v1).setCell ⟨B, j + 2, none⟩ v2).setCell ⟨B, j + 3, none⟩ v3).setCell ⟨B, j + 4, none⟩ v4).setCell ⟨B, j + 5, none⟩ v5).setCell ⟨B, j + 6, none⟩ v6) :=
  (((((((Turn.refl (fun k => k = B) w).set (p := ⟨B, j, none⟩) rfl v0).set (p := ⟨B, j + 1, none⟩) rfl v1).set (p := ⟨B, j + 2, none⟩) rfl v2).set (p := ⟨B, j + 3, none⟩) rfl v3).set (p := ⟨B, j + 4, none⟩) rfl v4).set (p := ⟨B, j + 5, none⟩) rfl v5).set (p := ⟨B, j + 6, none⟩) rfl v6

theorem TdCame.new {w w' : World} {A : Option Addr} {V : List Tv} (h : TdCame w A V) (t : New w w') : TdCame w' A V := by
  intro i v hv
  obtain ⟨⟨b, off, ha, hc⟩, h1, h2⟩ := h i v hv
  have h0 : w.cell? ⟨b, off + i * 7, none⟩ = some (.int .i64 v.r.a) := hc 0 (by omega)
  have hb' := t.block b (World.block_lt_of_cell? w _ h0) (fun f => f)
  exact ⟨⟨b, off, ha, fun j hj => (World.cell?_of_block hb').trans (hc j hj)⟩, h1.new t, h2⟩
theorem TdCame.at {w : World} {A : Option Addr} {V : List Tv} (h : TdCame w A V) (i : Nat) (hi : i < V.length) :
    ∃ (b off : Nat) (a l o nx md lc : Int) (x : Option Addr) (n c : Nat) (xs : List Int), A = some ⟨b, off, none⟩ ∧ V[i]? = some ⟨⟨a, l, o, xs, nx, md, lc⟩, x, c⟩ ∧ xs.length = n ∧ NsAt w x xs ∧ (x = none → n = 0 ∧ c = 0) ∧ n ≤ maxLen ∧ w.cell? ⟨b, off + i * 7, none⟩ = some (.int .i64 a) ∧ w.cell? ⟨b, off + i * 7 + 1, none⟩ = some (.int .i64 l) ∧ w.cell? ⟨b, off + i * 7 + 2, none⟩ = some (.int .i64 o) ∧ w.cell? ⟨b, off + i * 7 + 3, none⟩ = some (.slice x n c) ∧ w.cell? ⟨b, off + i * 7 + 4, none⟩ = some (.int .i64 nx) ∧ w.cell? ⟨b, off + i * 7 + 5, none⟩ = some (.int .i64 md) ∧ w.cell? ⟨b, off + i * 7 + 6, none⟩ = some (.int .i64 lc) := by
  obtain ⟨⟨b, off, h1, h2⟩, hh⟩ := h i _ (List.getElem?_eq_getElem hi)
  exact ⟨b, off, _, _, _, _, _, _, _, _, _, _, h1, List.getElem?_eq_getElem hi, rfl, hh.1, hh.2.1, hh.2.2, h2 0 (by omega), h2 1 (by omega), h2 2 (by omega), h2 3 (by omega), h2 4 (by omega), h2 5 (by omega), h2 6 (by omega)⟩
theorem TdCame.rt {w : World} {A : Option Addr} {V : List Tv} (h : TdCame w A V) (hb : ∀ v ∈ V, v.r.xs.length ≤ 1048576) : TdAt w A V := by
  intro i v hv
  obtain ⟨h1, h2, h3, -⟩ := h i v hv
  exact ⟨h1, h2, h3, hb v (List.mem_of_getElem? hv)⟩

end Go.Proofs.Ytdknalegmlpimaa
