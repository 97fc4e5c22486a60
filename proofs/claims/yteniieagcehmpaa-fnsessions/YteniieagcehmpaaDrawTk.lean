/- What is proved here: what the drawing of a configuration with a session leaves: some numbers, in new memory. -/
import Derived.Test.YteniieagcehmpaaDrawSs
import Derived.Deep.RegionHeld3
namespace Go.Proofs.Yteniieagcehmpaa
open Go.RowKit Go.Sort
set_option linter.unusedVariables false
set_option linter.unusedSimpArgs false

theorem cellD {w : World} {p : Addr} {u : Value} {B j : Nat} (h : ¬ p.block = B) : (w.setCell p u).cell? ⟨B, j, none⟩ = w.cell? ⟨B, j, none⟩ := World.cell?_of_block (Below.heap_setCell w p u B (fun e => h e.symm))
theorem New.setD {a w : World} {p : Addr} {u : Value} (hp : a.heap.size ≤ p.block) : New a (w.setCell p u) ↔ New a w :=
  ⟨fun h => ⟨h.os, h.tape, h.output, by simpa [World.setCell] using h.size, fun k hk hs => (Below.heap_setCell w p u k (by omega)).symm.trans (h.block k hk hs)⟩, fun h => h.setCell hp u⟩

set_option maxHeartbeats 3200000 in
theorem l5With_any (a : Option Addr) (n c : Nat) (zs : List Int) (w : World) (h : BsAt w a zs) (hn : zs.length = n) (hm : n ≤ 2097152) (ha : ∀ x, zs ≠ [] → a = some x → x.block < w.heap.size) : Calls Try.prog 11 #[.slice a n c] w fun e w' => ∃ x1 x2 x3 y1 y2 y3 y4 y5 : Int, e = .returned (.tuple #[.agg #[.int .i64 x1, .int .i64 x2, .int .i64 x3], .agg #[.int .i64 y1, .int .i64 y2, .int .i64 y3, .int .i64 y4, .int .i64 y5]]) ∧ New w w' := by
  have HN : Hid (zs.length = n) := hn
  clear hn
  have N0 : New w ((w.alloc (.cells #[.int .i64 0, .int .i64 0, .int .i64 0] 25)).alloc (.cells #[.int .i64 0, .int .i64 0, .int .i64 0, .int .i64 0, .int .i64 0] 27)) := ((New.refl w).alloc _).alloc _
  have A0 : Blk ((w.alloc (.cells #[.int .i64 0, .int .i64 0, .int .i64 0] 25)).alloc (.cells #[.int .i64 0, .int .i64 0, .int .i64 0, .int .i64 0, .int .i64 0] 27)) w.heap.size 25 #[.int .i64 0, .int .i64 0, .int .i64 0] := (Blk.mk _ _ _ _ rfl).alloc _
  have D0 : Blk ((w.alloc (.cells #[.int .i64 0, .int .i64 0, .int .i64 0] 25)).alloc (.cells #[.int .i64 0, .int .i64 0, .int .i64 0, .int .i64 0, .int .i64 0] 27)) (w.heap.size + 1) 27 #[.int .i64 0, .int .i64 0, .int .i64 0, .int .i64 0, .int .i64 0] := Blk.mk _ _ _ _ (by simp)
  go_enter Try.func11, Try.ntmps11
  go_wp2_with fail
  refine (source_any a n c zs _ (h.new N0) HN.out hm (by intro x hz hx; have := ha x hz hx; simp; omega)).mono ?_
  rintro e w1 ⟨B, rfl, hB, hs1, hn1⟩
  simp at hB
  have N1 := N0.trans hn1
  have A1 := A0.new hn1
  have D1 := D0.new hn1
  have lB := hs1.blk.lt
  clear A0 D0 N0
  go_wp2_with fail
  refine (l5Config_sc hs1 (by omega)).mono ?_
  rintro e w2 ⟨x1, x2, x3, t2, rfl, ht2, hs2, htn2⟩
  have N2 := N1.before htn2 (fun i hi e => by omega)
  have A2 := A1.turn htn2 (by omega)
  have D2 := D1.turn htn2 (by omega)
  have lB2 := hs2.blk.lt
  have lD2 := D2.lt
  go_upto_region 3 with fail
  have hal := (New.refl w2).alloc (.cells #[.int .i64 x1, .int .i64 x2, .int .i64 x3] 25)
  have C3 : Blk (w2.alloc (.cells #[.int .i64 x1, .int .i64 x2, .int .i64 x3] 25)) w2.heap.size 25 #[.int .i64 x1, .int .i64 x2, .int .i64 x3] := Blk.mk _ _ _ _ rfl
  have N3 := N2.trans hal
  have A3 := A2.new hal
  have D3 := D2.new hal
  have hs3 := hs2.new hal
  clear A1 A2 D1 D2 N1 N2 hs1 hs2 htn2 hn1 hal
  generalize w2.alloc (.cells #[.int .i64 x1, .int .i64 x2, .int .i64 x3] 25) = w3 at *
  have cC := C3.cells
  have n1 : ¬ w.heap.size = w2.heap.size := by omega
  have n2 : ¬ w.heap.size + 1 = w2.heap.size := by omega
  have n3 : ¬ w2.heap.size = B := by omega
  have g1 : w.heap.size ≤ w.heap.size + 1 := by omega
  have g0 : w.heap.size ≤ w.heap.size := by omega
  go_region_held3 (fun W => ∀ j, W.cell? ⟨w2.heap.size, j, none⟩ = #[Value.int .i64 x1, .int .i64 x2, .int .i64 x3][j]?) (exact (by intro j; (try simp (disch := first | exact n1 | exact n2) only [cellD]); first | exact cC j | exact cC4 j))
    ((go_at_call 31; refine (l5Session_sc (hs3.new ((New.refl _).drew)) (by omega)).mono ?_; rintro e w4 ⟨y1, y2, y3, y4, y5, t4, rfl, ht4, hs4, htn4⟩; have C4 := (C3.new ((New.refl _).drew)).turn htn4 n3; have A4 := (A3.new ((New.refl _).drew)).turn htn4 (by omega); have D4 := (D3.new ((New.refl _).drew)).turn htn4 (by omega); have N4 := (N3.drew).before htn4 (fun i hi e => by omega); have cC4 := C4.cells; have cA := A4.cells; have fA := A4.frees; have lA := A4.lt; have cD := D4.cells; have fD := D4.frees; have lD := D4.lt))
  all_goals
    go_wp2
    refine bodyPost_ret (v := .tuple #[.agg #[.int .i64 x1, .int .i64 x2, .int .i64 x3], .agg #[.int .i64 y1, .int .i64 y2, .int .i64 y3, .int .i64 y4, .int .i64 y5]]) (by simp [results, Try.results11, go_sem, cA, cD]) rfl ⟨x1, x2, x3, y1, y2, y3, y4, y5, rfl, ?_⟩
    simp (disch := first | exact g0 | exact g1) only [New.setD, N4]

end Go.Proofs.Yteniieagcehmpaa
