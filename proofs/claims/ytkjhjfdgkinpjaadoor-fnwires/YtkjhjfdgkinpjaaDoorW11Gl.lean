/- What is proved here: what the condition on the package-level variables gives, and that a world meets it. No condition. -/
import Derived.Test.YtkjhjfdgkinpjaaDoorW11Sf
import Derived.Test.YtkjhjfdgkinpjaaDoorOpen
import Derived.ChangeVars
import Derived.JoinedOf
import Derived.LaidLaws
import Derived.LaidHandle
import Derived.OpenVars
import Derived.Stop.Joined
namespace Go.Proofs.YtkjhjfdgkinpjaaDoor
open Go.ChangeShapes Go.WideShapes Go.RowKit
set_option linter.unusedVariables false
set_option maxRecDepth 100000

/-- The laid variables. -/
abbrev laid11 : List (String × DataW Unit) := Rows.fnWiresRow.laid
/-- The names of the two. -/
abbrev nameE : String := (laid11.headD ("", .nil)).1
abbrev nameN : String := Rows.fnWiresSpec.vars.headD ""

theorem Tryd.gE11 : Tryd.prog.globalNamed nameE = some 1 := by kernel_rfl
theorem Tryd.gN11 : Tryd.prog.globalNamed nameN = some 0 := by kernel_rfl
theorem Tryd.tN11 : (Tryd.prog.globals[0]?).map (·.type) = some 58 := by kernel_rfl
theorem Tryd.hE11 : typeHandle Tryd.prog 58 = .pointer (some ⟨2, 58, none⟩) := by kernel_rfl
theorem Tryd.c11 : Tryd.prog.cellsOf 116 = 1 := by kernel_rfl
theorem Tryd.s11 : Tryd.prog.cellsOf 9 = 1 := by kernel_rfl
theorem star11 : "*" ++ "errors.errorString" = "*errors.errorString" := by decide
theorem Tryd.row11 (u : TypeId) (h : Tryd.prog.typeName? 3 u = some "*errors.errorString") : u = 94 :=
  typeName_ptr_named (nm := "errors.errorString") (by rw [star11]; kernel_rfl) (by kernel_rfl) (by decide) u (by rw [star11]; exact h)
theorem Tryd.oneRow11 : ((List.range Tryd.prog.types.size).filter fun t => Tryd.prog.rowNamed t [101, 114, 114, 111, 114]) = [58] := by kernel_rfl

theorem glob_of_laid {W : World} (h : laidMetH Tryd.prog laid11 W) : Glob W := by
  have h' : laidMet Tryd.prog (laid11.filter fun x => x.2.handleName?.isNone) W ∧ handlesMet Tryd.prog (laid11.filter fun x => x.2.handleName?.isSome) W := h
  constructor
  · obtain ⟨name, u, ty, e1, e2, e3, e4, e5⟩ := h'.2 (laid11.headD ("", .nil)) (List.mem_singleton.2 rfl)
    have en : name = [101, 114, 114, 111, 114] := (Option.some.inj e1).symm
    subst en
    have e2' : some 81 = some u := e2
    obtain rfl := Option.some.inj e2'
    have hm : ty ∈ (List.range Tryd.prog.types.size).filter fun t => Tryd.prog.rowNamed t [101, 114, 114, 111, 114] := List.mem_filter.2 ⟨List.mem_range.2 e3, e4⟩
    rw [Tryd.oneRow11] at hm
    obtain rfl := List.mem_singleton.1 hm
    rw [Tryd.hE11] at e5
    simpa using World.var?_cell Tryd.gE11 e5 0
  · obtain ⟨ps, ⟨g0, t0, cs0, f0, p0, q0, hg0, ht0, hv0, hd0, hq, e0⟩, hnd, hrows⟩ := h'.1
    obtain rfl := Option.some.inj (Tryd.gN11.symm.trans hg0)
    obtain rfl := Option.some.inj (Tryd.tN11.symm.trans ht0)
    subst e0
    obtain ⟨l0⟩ := cs0
    have ok0 : ∀ u v, l0 = [.iface u v] → Value.okWide Tryd.prog W .any 0 u v := fun u v e => by
      subst e
      exact (hrows 0 0 (by simp [MemPlace.row])).2 u v (by simpa using World.var?_cell hg0 hv0 0)
    obtain ⟨a0, s0, rfl, hc0, hs0, hz0, rfl⟩ := errorString_of_trod Tryd.underlying58 Tryd.row11 Tryd.underlying94 Tryd.underlying116 rfl rfl Tryd.underlying9 Tryd.c11 Tryd.s11 hd0 ok0
    exact ⟨a0, by simpa using World.var?_cell hg0 hv0 0⟩

/-- The text of errNoEpoch. -/
abbrev noneS11 : ByteArray := { data := #[116, 104, 101, 32, 101, 112, 111, 99, 104, 32, 105, 115, 32, 110, 111, 110, 101] }
noncomputable def low11 : Nat := (World.holding Tryd.prog default ⟨#[], #[], []⟩).heap.size
/-- A world that meets the condition. -/
noncomputable def laidWorld11 (os : Os) : World :=
  let w0 := World.holding Tryd.prog os ⟨#[.cells #[.string noneS11] 116], #[], []⟩
  { w0 with heap := (w0.heap.modify 0 fun
      | .cells _ t frozen => .cells #[.iface 94 (.pointer (some ⟨low11, 0, none⟩))] t frozen
      | o => o).modify 1 fun
      | .cells _ t frozen => .cells #[.iface 81 (.agg #[.pointer (some ⟨2, 58, none⟩)])] t frozen
      | o => o }
theorem laidWorld11_met (os : Os) (args : Array Value) : laidMetH Tryd.prog laid11 ((laidWorld11 os).forCall (fun _ _ => 0) ⟨#[], args, []⟩).memory :=
  laidMetH_of_parts (laidMet_of_run (ps := [.cell 0 0, .cell low11 0]) 8 (by kernel_rfl) (by kernel_rfl) (by kernel_rfl)) (by kernel_rfl)

end Go.Proofs.YtkjhjfdgkinpjaaDoor
