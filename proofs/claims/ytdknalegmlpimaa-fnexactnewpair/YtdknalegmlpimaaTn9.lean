/- What is proved here: two facts on storing into a block. No condition. -/
import Derived.Test.YtdknalegmlpimaaAtLaw
namespace Go.Proofs.Ytdknalegmlpimaa
open Go.RowKit Go.Sort

theorem Turn.here9 {B j : Nat} {a w : World} (h : Turn (fun k => k = B) a w) (u : Value) : Turn (fun k => k = B) a (w.setCell ⟨B, j, none⟩ u) := h.set (p := ⟨B, j, none⟩) rfl u

theorem turn_set_iff {S : Nat → Prop} {a w : World} {p : Addr} {u : Value} (hp : S p.block) : Turn S a (w.setCell p u) ↔ Turn S a w :=
  ⟨fun h => ⟨h.os, h.tape, h.output, by simpa [World.setCell] using h.size, fun k hk hs => (Below.heap_setCell w p u k (fun e => hs (e ▸ hp))).symm.trans (h.block k hk hs)⟩, fun h => h.set hp u⟩

end Go.Proofs.Ytdknalegmlpimaa
