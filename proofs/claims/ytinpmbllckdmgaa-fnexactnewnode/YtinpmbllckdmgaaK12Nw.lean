/- What is proved here: what NewNode answers, both sides. -/
import Derived.Test.YtinpmbllckdmgaaK12Up
namespace Go.Proofs.Ytinpmbllckdmgaa
open Go.RowKit Go.Sort
set_option linter.unusedVariables false
set_option linter.unusedSimpArgs false
set_option maxRecDepth 100000

set_option maxHeartbeats 1600000 in
theorem iNew_bad (id : Int) (w : World) (hid : ¬ (id = 0 ∨ id = 1)) :
    Calls Try.prog 24 #[.int .i64 id] w (NrAns w 3 0 false 0 0 0 0 0 0 [] []) := by
  have hw := (New.refl w).alloc (.cells #[.int .i64 0, .int .i64 0, .bool false, .int .i64 0, .int .i64 0, .slice none 0 0, .int .i64 0, .int .i64 0, .int .i64 0, .int .i64 0, .slice none 0 0] 52)
  have b1 := Blk.mk w w.heap.size 52 #[.int .i64 0, .int .i64 0, .bool false, .int .i64 0, .int .i64 0, .slice none 0 0, .int .i64 0, .int .i64 0, .int .i64 0, .int .i64 0, .slice none 0 0] rfl
  go_enter Try.func24, Try.ntmps24
  go_upto_region 1 with fail
  generalize w.alloc (.cells #[.int .i64 0, .int .i64 0, .bool false, .int .i64 0, .int .i64 0, .slice none 0 0, .int .i64 0, .int .i64 0, .int .i64 0, .int .i64 0, .slice none 0 0] 52) = w0 at *
  have c1 := b1.cells
  have f1 := b1.frees
  go_wp2_with fail
  refine (isNode_no _ _ hid).mono ?_
  rintro e w1 ⟨rfl, hwz⟩
  obtain rfl := hwz.symm
  have c1 := (b1).cells
  have f1 := (b1).frees
  go_wp2
  refine bodyPost_ret (v := .agg #[.int .i64 3, .int .i64 0, .bool false, .int .i64 0, .int .i64 0, .slice none 0 0, .int .i64 0, .int .i64 0, .int .i64 0, .int .i64 0, .slice none 0 0]) (by simp [results, Try.results24, go_sem, c1]) rfl (nrAns_bad 3 ?_)
  exact ((((((((((((hw)).setCell (by simp; try omega) _).setCell (by simp; try omega) _).setCell (by simp; try omega) _).setCell (by simp; try omega) _).setCell (by simp; try omega) _).setCell (by simp; try omega) _).setCell (by simp; try omega) _).setCell (by simp; try omega) _).setCell (by simp; try omega) _).setCell (by simp; try omega) _).setCell (by simp; try omega) _

set_option maxHeartbeats 1600000 in
theorem iNew_ok (id : Int) (w : World) (hid : id = 0 ∨ id = 1) :
    Calls Try.prog 24 #[.int .i64 id] w (NrAns w 0 id true 0 0 0 0 0 0 [] []) := by
  have hw := (New.refl w).alloc (.cells #[.int .i64 0, .int .i64 0, .bool false, .int .i64 0, .int .i64 0, .slice none 0 0, .int .i64 0, .int .i64 0, .int .i64 0, .int .i64 0, .slice none 0 0] 52)
  have b1 := Blk.mk w w.heap.size 52 #[.int .i64 0, .int .i64 0, .bool false, .int .i64 0, .int .i64 0, .slice none 0 0, .int .i64 0, .int .i64 0, .int .i64 0, .int .i64 0, .slice none 0 0] rfl
  go_enter Try.func24, Try.ntmps24
  go_upto_region 1 with fail
  generalize w.alloc (.cells #[.int .i64 0, .int .i64 0, .bool false, .int .i64 0, .int .i64 0, .slice none 0 0, .int .i64 0, .int .i64 0, .int .i64 0, .int .i64 0, .slice none 0 0] 52) = w0 at *
  have c1 := b1.cells
  have f1 := b1.frees
  go_wp2_with fail
  refine (isNode_yes _ _ hid).mono ?_
  rintro e w1 ⟨rfl, hwz⟩
  obtain rfl := hwz.symm
  go_wp2
  refine bodyPost_ret (v := .agg #[.int .i64 0, .int .i64 id, .bool true, .int .i64 0, .int .i64 0, .slice none 0 0, .int .i64 0, .int .i64 0, .int .i64 0, .int .i64 0, .slice none 0 0]) (by simp [results, Try.results24, go_sem, c1]) rfl (nrAns_mk (U := []) (Ms := []) rfl rfl rfl rfl ⟨w.heap.size, _, fun _ => False, OwL.nil _ _ _, SdOw.nil _ _, fun _ f => f.elim, fun _ f => f.elim, Nat.le_refl _, Nat.le_refl _⟩ ?_)
  exact (((((((((((hw).setCell (by simp; try omega) _).setCell (by simp; try omega) _).setCell (by simp; try omega) _).setCell (by simp; try omega) _).setCell (by simp; try omega) _).setCell (by simp; try omega) _).setCell (by simp; try omega) _).setCell (by simp; try omega) _).setCell (by simp; try omega) _).setCell (by simp; try omega) _).setCell (by simp; try omega) _

set_option maxHeartbeats 1600000 in
theorem sNew_bad (id : Int) (w : World) (hid : ¬ (id = 0 ∨ id = 1)) :
    Calls Try.prog 23 #[.int .i64 id] w (NrAns w 3 0 false 0 0 0 0 0 0 [] []) := by
  have hw := (New.refl w).alloc (.cells #[.int .i64 0, .int .i64 0, .bool false, .int .i64 0, .int .i64 0, .slice none 0 0, .int .i64 0, .int .i64 0, .int .i64 0, .int .i64 0, .slice none 0 0] 52)
  have b1 := Blk.mk w w.heap.size 52 #[.int .i64 0, .int .i64 0, .bool false, .int .i64 0, .int .i64 0, .slice none 0 0, .int .i64 0, .int .i64 0, .int .i64 0, .int .i64 0, .slice none 0 0] rfl
  go_enter Try.func23, Try.ntmps23
  go_upto_region 1 with fail
  generalize w.alloc (.cells #[.int .i64 0, .int .i64 0, .bool false, .int .i64 0, .int .i64 0, .slice none 0 0, .int .i64 0, .int .i64 0, .int .i64 0, .int .i64 0, .slice none 0 0] 52) = w0 at *
  have c1 := b1.cells
  have f1 := b1.frees
  go_wp2_with fail
  refine (in_no id 0 1 _ (by omega)).mono ?_
  rintro e w1 ⟨rfl, hwz⟩
  obtain rfl := hwz.symm
  have c1 := (b1).cells
  have f1 := (b1).frees
  go_wp2_with fail
  refine (bad12 3 _).mono ?_
  rintro e wq ⟨rfl, hnq⟩
  have c1 := ((b1).new hnq).cells
  have f1 := ((b1).new hnq).frees
  go_wp2
  refine bodyPost_ret (v := .agg #[.int .i64 3, .int .i64 0, .bool false, .int .i64 0, .int .i64 0, .slice none 0 0, .int .i64 0, .int .i64 0, .int .i64 0, .int .i64 0, .slice none 0 0]) (by simp [results, Try.results23, go_sem, c1]) rfl (nrAns_bad 3 ?_)
  exact ((((((((((((hw.trans hnq)).setCell (by simp; try omega) _).setCell (by simp; try omega) _).setCell (by simp; try omega) _).setCell (by simp; try omega) _).setCell (by simp; try omega) _).setCell (by simp; try omega) _).setCell (by simp; try omega) _).setCell (by simp; try omega) _).setCell (by simp; try omega) _).setCell (by simp; try omega) _).setCell (by simp; try omega) _

set_option maxHeartbeats 1600000 in
theorem sNew_ok (id : Int) (w : World) (hid : id = 0 ∨ id = 1) :
    Calls Try.prog 23 #[.int .i64 id] w (NrAns w 0 id true 0 0 0 0 0 0 [] []) := by
  have hw := (New.refl w).alloc (.cells #[.int .i64 0, .int .i64 0, .bool false, .int .i64 0, .int .i64 0, .slice none 0 0, .int .i64 0, .int .i64 0, .int .i64 0, .int .i64 0, .slice none 0 0] 52)
  have b1 := Blk.mk w w.heap.size 52 #[.int .i64 0, .int .i64 0, .bool false, .int .i64 0, .int .i64 0, .slice none 0 0, .int .i64 0, .int .i64 0, .int .i64 0, .int .i64 0, .slice none 0 0] rfl
  go_enter Try.func23, Try.ntmps23
  go_upto_region 1 with fail
  generalize w.alloc (.cells #[.int .i64 0, .int .i64 0, .bool false, .int .i64 0, .int .i64 0, .slice none 0 0, .int .i64 0, .int .i64 0, .int .i64 0, .int .i64 0, .slice none 0 0] 52) = w0 at *
  have c1 := b1.cells
  have f1 := b1.frees
  go_wp2_with fail
  refine (in_yes id 0 1 _ (by omega)).mono ?_
  rintro e w1 ⟨rfl, hwz⟩
  obtain rfl := hwz.symm
  go_wp2
  refine bodyPost_ret (v := .agg #[.int .i64 0, .int .i64 id, .bool true, .int .i64 0, .int .i64 0, .slice none 0 0, .int .i64 0, .int .i64 0, .int .i64 0, .int .i64 0, .slice none 0 0]) (by simp [results, Try.results23, go_sem, c1]) rfl (nrAns_mk (U := []) (Ms := []) rfl rfl rfl rfl ⟨w.heap.size, _, fun _ => False, OwL.nil _ _ _, SdOw.nil _ _, fun _ f => f.elim, fun _ f => f.elim, Nat.le_refl _, Nat.le_refl _⟩ ?_)
  exact (((((((((((hw).setCell (by simp; try omega) _).setCell (by simp; try omega) _).setCell (by simp; try omega) _).setCell (by simp; try omega) _).setCell (by simp; try omega) _).setCell (by simp; try omega) _).setCell (by simp; try omega) _).setCell (by simp; try omega) _).setCell (by simp; try omega) _).setCell (by simp; try omega) _).setCell (by simp; try omega) _

end Go.Proofs.Ytinpmbllckdmgaa
