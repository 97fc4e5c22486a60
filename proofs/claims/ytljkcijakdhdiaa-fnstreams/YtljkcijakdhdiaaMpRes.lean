/- What is proved here: how a struct that lies in a block is stored and read, whole. -/
import Derived.Test.YtljkcijakdhdiaaUpLaw
namespace Go.Proofs.Ytljkcijakdhdiaa
open Go.RowKit

theorem results_row {fn : Func} {t : Tmp} {ty : TypeId} {P : Program} {w : World} {tmps : Array Value} {B : Nat} {cs : Array Value} (h : fn.results = #[.cell t ty])
    (ht : tmps[t]? = some (.pointer (some ⟨B, 0, none⟩))) (hb : Blk w B ty cs) (hu : ∃ fs, P.underlying ty = some (.struct fs)) (hi : (P.info? ty).map (·.size) = some cs.size) :
    (results fn tmps).run P w = .ok (.agg cs) w := by
  obtain ⟨fs, hu⟩ := hu
  have hl := run_loadVar_row (P := P) w B ty ty cs (0, 0) (.struct fs) hb hu rfl hi
  simp [results, h, ht, asAddr, hl]

theorem Turn.row {a w : World} {B : Nat} (h : Turn (fun k => k = B) a w) (cs : Array Value) : Turn (fun k => k = B) a (w.setRow B cs) :=
  ⟨h.os, h.tape, h.output, by simpa [World.setRow] using h.size, fun k hk hs => (setRow_other w B k cs hs).trans (h.block k hk hs)⟩
theorem Blk.row {w : World} {B : Nat} {t : TypeId} {old : Array Value} (h : Blk w B t old) (cs : Array Value) : Blk (w.setRow B cs) B t cs := setRow_heap w B old cs t (0, 0) h
theorem New.row {a w : World} {B : Nat} (h : New a w) (hB : a.heap.size ≤ B) (cs : Array Value) : New a (w.setRow B cs) :=
  h.before (Turn.row (Turn.refl _ w) cs) (fun i hi e => by omega)

end Go.Proofs.Ytljkcijakdhdiaa
