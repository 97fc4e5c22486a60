/- What is proved here: what the reading of a notify answers, in the program, for every list of at most 1048576 bytes. What is proved here: what the reading of a message that is an update answers, in the program, for every list of at most 1048576 bytes. What is proved here: what the reading of a frame as a message answers, in the program, for every frame with at most 1048576 bytes. What is proved here: what the reading of a notify and of an update answers, in the model, for every list of at most 1048576 bytes. What is proved here: what ParseMessage answers, in the model, for every frame with a body of at most 1048576 bytes. -/
import Derived.Test.YtnhkmgibppiimaaMpFn
import Derived.Test.YtnhkmgibppiimaaPuLaw2
import Derived.Test.YtnhkmgibppiimaaPackFn
import Derived.Test.YtnhkmgibppiimaaMpSd
import Derived.Test.YtnhkmgibppiimaaSdAll
namespace Go.Proofs.Ytnhkmgibppiimaa
open Go.RowKit Go.Sort
set_option linter.unusedVariables false

set_option maxHeartbeats 1600000 in
theorem nfrom_size (a : Option Addr) (n c : Nat) (w : World) (h : n ≠ 2) (hm : n ≤ 1048576) : Calls Try.prog 31 #[.slice a n c] w fun e w' => e = .returned (mrV (mhB 5 1 2) (puZ 0) (.slice none 0 0) (.slice none 0 0) (.slice none 0 0)) ∧ New w w' := by
  have e1 : ((n : Int) != 2) = true := by simp; omega
  clear h
  have hw := (New.refl w).alloc (.cells #[.int .i64 0, .int .i64 0, .int .i64 0, .int .i64 0, .int .i64 0, .int .i64 0, .int .i64 0, .int .i64 0, .int .i64 0, .slice none 0 0, .bool false, .int .i64 0, .slice none 0 0, .int .i64 0, .int .i64 0, .int .i64 0, .slice none 0 0] 35)
  have bR := Blk.mk w w.heap.size 35 #[.int .i64 0, .int .i64 0, .int .i64 0, .int .i64 0, .int .i64 0, .int .i64 0, .int .i64 0, .int .i64 0, .int .i64 0, .slice none 0 0, .bool false, .int .i64 0, .slice none 0 0, .int .i64 0, .int .i64 0, .int .i64 0, .slice none 0 0] rfl
  have ge0 : w.heap.size ≤ w.heap.size := Nat.le_refl _
  go_enter Try.func31, Try.ntmps31
  go_upto_region 1 with fail
  generalize w.alloc (.cells #[.int .i64 0, .int .i64 0, .int .i64 0, .int .i64 0, .int .i64 0, .int .i64 0, .int .i64 0, .int .i64 0, .int .i64 0, .slice none 0 0, .bool false, .int .i64 0, .slice none 0 0, .int .i64 0, .int .i64 0, .int .i64 0, .slice none 0 0] 35) = w0 at *
  have cR := bR.cells
  have fR := bR.frees
  go_upto_region 2 with fail
  apply wp_region_lit
  refine wpList_build rfl 35 _ rfl (by kernel_rfl) ?_
  refine wpList_store_row rfl 35 (.tmp 2) (.tmp 7) rfl w.heap.size #[.int .i64 5, .int .i64 1, .int .i64 2, .int .i64 0, .int .i64 0, .int .i64 0, .int .i64 0, .int .i64 0, .int .i64 0, .slice none 0 0, .bool false, .int .i64 0, .slice none 0 0, .int .i64 0, .int .i64 0, .int .i64 0, .slice none 0 0] rfl (by kernel_rfl) 35 #[.int .i64 0, .int .i64 0, .int .i64 0, .int .i64 0, .int .i64 0, .int .i64 0, .int .i64 0, .int .i64 0, .int .i64 0, .slice none 0 0, .bool false, .int .i64 0, .slice none 0 0, .int .i64 0, .int .i64 0, .int .i64 0, .slice none 0 0] bR (by kernel_rfl) rfl (by kernel_rfl) ?_
  go_wp2
  refine bodyPost_ret (v := .agg #[.int .i64 5, .int .i64 1, .int .i64 2, .int .i64 0, .int .i64 0, .int .i64 0, .int .i64 0, .int .i64 0, .int .i64 0, .slice none 0 0, .bool false, .int .i64 0, .slice none 0 0, .int .i64 0, .int .i64 0, .int .i64 0, .slice none 0 0]) ?_ rfl ⟨rfl, hw.row (Nat.le_refl _) _⟩
  exact results_row (B := w.heap.size) (cs := #[.int .i64 5, .int .i64 1, .int .i64 2, .int .i64 0, .int .i64 0, .int .i64 0, .int .i64 0, .int .i64 0, .int .i64 0, .slice none 0 0, .bool false, .int .i64 0, .slice none 0 0, .int .i64 0, .int .i64 0, .int .i64 0, .slice none 0 0]) rfl rfl (bR.row _) ⟨_, Try.underlying35⟩ (by kernel_rfl)

set_option maxHeartbeats 3200000 in
theorem nfrom_why (b off c : Nat) (z0 z1 : Int) (w : World) (h0 : w.cell? ⟨b, off, none⟩ = some (.int .u8 z0)) (h1' : w.cell? ⟨b, off + 1, none⟩ = some (.int .u8 z1)) (b0 : 0 ≤ z0) (b0' : z0 ≤ 255) (b1 : 0 ≤ z1) (b1' : z1 ≤ 255) (h1 : ¬ (1 ≤ z0 ∧ z0 ≤ 6)) :
    Calls Try.prog 31 #[.slice (some ⟨b, off, none⟩) 2 c] w fun e w' => e = .returned (.agg #[.int .i64 3, .int .i64 1, .int .i64 2, .int .i64 0, .int .i64 0, .int .i64 0, .int .i64 0, .int .i64 0, .int .i64 0, .slice none 0 0, .bool false, .int .i64 0, .slice none 0 0, .int .i64 0, .int .i64 0, .int .i64 0, .slice none 0 0]) ∧ New w w' := by
  have hw := (New.refl w).alloc (.cells #[.int .i64 0, .int .i64 0, .int .i64 0, .int .i64 0, .int .i64 0, .int .i64 0, .int .i64 0, .int .i64 0, .int .i64 0, .slice none 0 0, .bool false, .int .i64 0, .slice none 0 0, .int .i64 0, .int .i64 0, .int .i64 0, .slice none 0 0] 35)
  have bR := Blk.mk w w.heap.size 35 #[.int .i64 0, .int .i64 0, .int .i64 0, .int .i64 0, .int .i64 0, .int .i64 0, .int .i64 0, .int .i64 0, .int .i64 0, .slice none 0 0, .bool false, .int .i64 0, .slice none 0 0, .int .i64 0, .int .i64 0, .int .i64 0, .slice none 0 0] rfl
  have ge0 : w.heap.size ≤ w.heap.size := Nat.le_refl _
  have hz0 : IntKind.i64.wrap z0 = z0 := by simp [IntKind.wrap, IntKind.signed, IntKind.bits]; omega
  have hz1 : IntKind.i64.wrap z1 = z1 := by simp [IntKind.wrap, IntKind.signed, IntKind.bits]; omega
  have hlt := World.block_lt_of_cell? w _ h0
  have d0 := (World.cell?_of_block (hw.block b hlt (fun f => f))).trans h0
  have d1 := (World.cell?_of_block (hw.block b hlt (fun f => f))).trans h1'
  clear h0 h1'
  go_enter Try.func31, Try.ntmps31
  go_upto_region 1 with fail
  generalize w.alloc (.cells #[.int .i64 0, .int .i64 0, .int .i64 0, .int .i64 0, .int .i64 0, .int .i64 0, .int .i64 0, .int .i64 0, .int .i64 0, .slice none 0 0, .bool false, .int .i64 0, .slice none 0 0, .int .i64 0, .int .i64 0, .int .i64 0, .slice none 0 0] 35) = w0 at *
  have cR := bR.cells
  have fR := bR.frees
  have hl0 : b < w0.heap.size := World.block_lt_of_cell? w0 _ d0
  have dA0 : ∀ o, (w0.alloc o).cell? ⟨b, off, none⟩ = some (.int .u8 z0) := fun o => (World.cell?_of_block (((New.refl w0).alloc o).block b hl0 (fun f => f))).trans d0
  have dA1 : ∀ o, (w0.alloc o).cell? ⟨b, off + 1, none⟩ = some (.int .u8 z1) := fun o => (World.cell?_of_block (((New.refl w0).alloc o).block b hl0 (fun f => f))).trans d1
  go_upto_region 3 with fail
  go_region_held3 (fun W => W.cell? ⟨b, off, none⟩ = some (.int .u8 z0) ∧ W.cell? ⟨b, off + 1, none⟩ = some (.int .u8 z1)) (first | exact ⟨d0, d1⟩ | exact ⟨dA0 _, dA1 _⟩) (fail)
  have bM : Blk ((w0.alloc (.cells #[.int .i64 3, .int .i64 0, .int .i64 0, .int .i64 0, .int .i64 z0, .int .i64 z1, .slice none 0 0, .bool false, .int .i64 0, .slice none 0 0, .int .i64 0, .int .i64 0, .int .i64 0, .slice none 0 0] 33)).drew) w0.heap.size 33 #[.int .i64 3, .int .i64 0, .int .i64 0, .int .i64 0, .int .i64 z0, .int .i64 z1, .slice none 0 0, .bool false, .int .i64 0, .slice none 0 0, .int .i64 0, .int .i64 0, .int .i64 0, .slice none 0 0] := (Blk.mk w0 w0.heap.size 33 #[.int .i64 3, .int .i64 0, .int .i64 0, .int .i64 0, .int .i64 z0, .int .i64 z1, .slice none 0 0, .bool false, .int .i64 0, .slice none 0 0, .int .i64 0, .int .i64 0, .int .i64 0, .slice none 0 0] rfl).new ((New.refl _).drew)
  have r2 := (bR.alloc (.cells #[.int .i64 3, .int .i64 0, .int .i64 0, .int .i64 0, .int .i64 z0, .int .i64 z1, .slice none 0 0, .bool false, .int .i64 0, .slice none 0 0, .int .i64 0, .int .i64 0, .int .i64 0, .slice none 0 0] 33)).new ((New.refl _).drew)
  have hw2 := (hw.alloc (.cells #[.int .i64 3, .int .i64 0, .int .i64 0, .int .i64 0, .int .i64 z0, .int .i64 z1, .slice none 0 0, .bool false, .int .i64 0, .slice none 0 0, .int .i64 0, .int .i64 0, .int .i64 0, .slice none 0 0] 33)).drew
  generalize (w0.alloc (.cells #[.int .i64 3, .int .i64 0, .int .i64 0, .int .i64 0, .int .i64 z0, .int .i64 z1, .slice none 0 0, .bool false, .int .i64 0, .slice none 0 0, .int .i64 0, .int .i64 0, .int .i64 0, .slice none 0 0] 33)).drew = w2 at *
  have cM := bM.cells
  clear cR fR d0 d1 dA0 dA1 bR hw
  go_wp2_with fail
  refine (isWhy_no z0 _ h1).mono ?_
  rintro e w4 ⟨rfl, rfl⟩
  go_upto_region 5 with fail
  apply wp_region_lit
  refine wpList_build rfl 35 _ rfl (by kernel_rfl) ?_
  refine wpList_store_row rfl 35 (.tmp 2) (.tmp 27) rfl w.heap.size #[.int .i64 3, .int .i64 1, .int .i64 2, .int .i64 0, .int .i64 0, .int .i64 0, .int .i64 0, .int .i64 0, .int .i64 0, .slice none 0 0, .bool false, .int .i64 0, .slice none 0 0, .int .i64 0, .int .i64 0, .int .i64 0, .slice none 0 0] rfl (by kernel_rfl) 35 #[.int .i64 0, .int .i64 0, .int .i64 0, .int .i64 0, .int .i64 0, .int .i64 0, .int .i64 0, .int .i64 0, .int .i64 0, .slice none 0 0, .bool false, .int .i64 0, .slice none 0 0, .int .i64 0, .int .i64 0, .int .i64 0, .slice none 0 0] r2 (by kernel_rfl) rfl (by kernel_rfl) ?_
  go_wp2
  refine bodyPost_ret (v := .agg #[.int .i64 3, .int .i64 1, .int .i64 2, .int .i64 0, .int .i64 0, .int .i64 0, .int .i64 0, .int .i64 0, .int .i64 0, .slice none 0 0, .bool false, .int .i64 0, .slice none 0 0, .int .i64 0, .int .i64 0, .int .i64 0, .slice none 0 0]) ?_ rfl ⟨rfl, hw2.row (Nat.le_refl _) _⟩
  exact results_row (B := w.heap.size) (cs := #[.int .i64 3, .int .i64 1, .int .i64 2, .int .i64 0, .int .i64 0, .int .i64 0, .int .i64 0, .int .i64 0, .int .i64 0, .slice none 0 0, .bool false, .int .i64 0, .slice none 0 0, .int .i64 0, .int .i64 0, .int .i64 0, .slice none 0 0]) rfl rfl (r2.row _) ⟨_, Try.underlying35⟩ (by kernel_rfl)

set_option maxHeartbeats 3200000 in
theorem nfrom_sub (b off c : Nat) (z0 z1 : Int) (w : World) (h0 : w.cell? ⟨b, off, none⟩ = some (.int .u8 z0)) (h1' : w.cell? ⟨b, off + 1, none⟩ = some (.int .u8 z1)) (b0 : 0 ≤ z0) (b0' : z0 ≤ 255) (b1 : 0 ≤ z1) (b1' : z1 ≤ 255) (h1 : 1 ≤ z0 ∧ z0 ≤ 6) (h2 : ¬ (0 ≤ z1 ∧ z1 ≤ 20)) :
    Calls Try.prog 31 #[.slice (some ⟨b, off, none⟩) 2 c] w fun e w' => e = .returned (.agg #[.int .i64 3, .int .i64 1, .int .i64 2, .int .i64 0, .int .i64 0, .int .i64 0, .int .i64 0, .int .i64 0, .int .i64 0, .slice none 0 0, .bool false, .int .i64 0, .slice none 0 0, .int .i64 0, .int .i64 0, .int .i64 0, .slice none 0 0]) ∧ New w w' := by
  have hw := (New.refl w).alloc (.cells #[.int .i64 0, .int .i64 0, .int .i64 0, .int .i64 0, .int .i64 0, .int .i64 0, .int .i64 0, .int .i64 0, .int .i64 0, .slice none 0 0, .bool false, .int .i64 0, .slice none 0 0, .int .i64 0, .int .i64 0, .int .i64 0, .slice none 0 0] 35)
  have bR := Blk.mk w w.heap.size 35 #[.int .i64 0, .int .i64 0, .int .i64 0, .int .i64 0, .int .i64 0, .int .i64 0, .int .i64 0, .int .i64 0, .int .i64 0, .slice none 0 0, .bool false, .int .i64 0, .slice none 0 0, .int .i64 0, .int .i64 0, .int .i64 0, .slice none 0 0] rfl
  have ge0 : w.heap.size ≤ w.heap.size := Nat.le_refl _
  have hz0 : IntKind.i64.wrap z0 = z0 := by simp [IntKind.wrap, IntKind.signed, IntKind.bits]; omega
  have hz1 : IntKind.i64.wrap z1 = z1 := by simp [IntKind.wrap, IntKind.signed, IntKind.bits]; omega
  have hlt := World.block_lt_of_cell? w _ h0
  have d0 := (World.cell?_of_block (hw.block b hlt (fun f => f))).trans h0
  have d1 := (World.cell?_of_block (hw.block b hlt (fun f => f))).trans h1'
  clear h0 h1'
  go_enter Try.func31, Try.ntmps31
  go_upto_region 1 with fail
  generalize w.alloc (.cells #[.int .i64 0, .int .i64 0, .int .i64 0, .int .i64 0, .int .i64 0, .int .i64 0, .int .i64 0, .int .i64 0, .int .i64 0, .slice none 0 0, .bool false, .int .i64 0, .slice none 0 0, .int .i64 0, .int .i64 0, .int .i64 0, .slice none 0 0] 35) = w0 at *
  have cR := bR.cells
  have fR := bR.frees
  have hl0 : b < w0.heap.size := World.block_lt_of_cell? w0 _ d0
  have dA0 : ∀ o, (w0.alloc o).cell? ⟨b, off, none⟩ = some (.int .u8 z0) := fun o => (World.cell?_of_block (((New.refl w0).alloc o).block b hl0 (fun f => f))).trans d0
  have dA1 : ∀ o, (w0.alloc o).cell? ⟨b, off + 1, none⟩ = some (.int .u8 z1) := fun o => (World.cell?_of_block (((New.refl w0).alloc o).block b hl0 (fun f => f))).trans d1
  go_upto_region 3 with fail
  go_region_held3 (fun W => W.cell? ⟨b, off, none⟩ = some (.int .u8 z0) ∧ W.cell? ⟨b, off + 1, none⟩ = some (.int .u8 z1)) (first | exact ⟨d0, d1⟩ | exact ⟨dA0 _, dA1 _⟩) (fail)
  have bM : Blk ((w0.alloc (.cells #[.int .i64 3, .int .i64 0, .int .i64 0, .int .i64 0, .int .i64 z0, .int .i64 z1, .slice none 0 0, .bool false, .int .i64 0, .slice none 0 0, .int .i64 0, .int .i64 0, .int .i64 0, .slice none 0 0] 33)).drew) w0.heap.size 33 #[.int .i64 3, .int .i64 0, .int .i64 0, .int .i64 0, .int .i64 z0, .int .i64 z1, .slice none 0 0, .bool false, .int .i64 0, .slice none 0 0, .int .i64 0, .int .i64 0, .int .i64 0, .slice none 0 0] := (Blk.mk w0 w0.heap.size 33 #[.int .i64 3, .int .i64 0, .int .i64 0, .int .i64 0, .int .i64 z0, .int .i64 z1, .slice none 0 0, .bool false, .int .i64 0, .slice none 0 0, .int .i64 0, .int .i64 0, .int .i64 0, .slice none 0 0] rfl).new ((New.refl _).drew)
  have r2 := (bR.alloc (.cells #[.int .i64 3, .int .i64 0, .int .i64 0, .int .i64 0, .int .i64 z0, .int .i64 z1, .slice none 0 0, .bool false, .int .i64 0, .slice none 0 0, .int .i64 0, .int .i64 0, .int .i64 0, .slice none 0 0] 33)).new ((New.refl _).drew)
  have hw2 := (hw.alloc (.cells #[.int .i64 3, .int .i64 0, .int .i64 0, .int .i64 0, .int .i64 z0, .int .i64 z1, .slice none 0 0, .bool false, .int .i64 0, .slice none 0 0, .int .i64 0, .int .i64 0, .int .i64 0, .slice none 0 0] 33)).drew
  generalize (w0.alloc (.cells #[.int .i64 3, .int .i64 0, .int .i64 0, .int .i64 0, .int .i64 z0, .int .i64 z1, .slice none 0 0, .bool false, .int .i64 0, .slice none 0 0, .int .i64 0, .int .i64 0, .int .i64 0, .slice none 0 0] 33)).drew = w2 at *
  have cM := bM.cells
  clear cR fR d0 d1 dA0 dA1 bR hw
  go_wp2_with fail
  refine (isWhy_yes z0 _ h1).mono ?_
  rintro e w4 ⟨rfl, rfl⟩
  go_wp2_with fail
  refine (isSub_no z1 _ h2).mono ?_
  rintro e w4 ⟨rfl, rfl⟩
  go_upto_region 5 with fail
  apply wp_region_lit
  refine wpList_build rfl 35 _ rfl (by kernel_rfl) ?_
  refine wpList_store_row rfl 35 (.tmp 2) (.tmp 27) rfl w.heap.size #[.int .i64 3, .int .i64 1, .int .i64 2, .int .i64 0, .int .i64 0, .int .i64 0, .int .i64 0, .int .i64 0, .int .i64 0, .slice none 0 0, .bool false, .int .i64 0, .slice none 0 0, .int .i64 0, .int .i64 0, .int .i64 0, .slice none 0 0] rfl (by kernel_rfl) 35 #[.int .i64 0, .int .i64 0, .int .i64 0, .int .i64 0, .int .i64 0, .int .i64 0, .int .i64 0, .int .i64 0, .int .i64 0, .slice none 0 0, .bool false, .int .i64 0, .slice none 0 0, .int .i64 0, .int .i64 0, .int .i64 0, .slice none 0 0] r2 (by kernel_rfl) rfl (by kernel_rfl) ?_
  go_wp2
  refine bodyPost_ret (v := .agg #[.int .i64 3, .int .i64 1, .int .i64 2, .int .i64 0, .int .i64 0, .int .i64 0, .int .i64 0, .int .i64 0, .int .i64 0, .slice none 0 0, .bool false, .int .i64 0, .slice none 0 0, .int .i64 0, .int .i64 0, .int .i64 0, .slice none 0 0]) ?_ rfl ⟨rfl, hw2.row (Nat.le_refl _) _⟩
  exact results_row (B := w.heap.size) (cs := #[.int .i64 3, .int .i64 1, .int .i64 2, .int .i64 0, .int .i64 0, .int .i64 0, .int .i64 0, .int .i64 0, .int .i64 0, .slice none 0 0, .bool false, .int .i64 0, .slice none 0 0, .int .i64 0, .int .i64 0, .int .i64 0, .slice none 0 0]) rfl rfl (r2.row _) ⟨_, Try.underlying35⟩ (by kernel_rfl)

set_option maxHeartbeats 3200000 in
theorem nfrom_ok (b off c : Nat) (z0 z1 : Int) (w : World) (h0 : w.cell? ⟨b, off, none⟩ = some (.int .u8 z0)) (h1' : w.cell? ⟨b, off + 1, none⟩ = some (.int .u8 z1)) (b0 : 0 ≤ z0) (b0' : z0 ≤ 255) (b1 : 0 ≤ z1) (b1' : z1 ≤ 255) (h1 : 1 ≤ z0 ∧ z0 ≤ 6) (h2 : 0 ≤ z1 ∧ z1 ≤ 20) :
    Calls Try.prog 31 #[.slice (some ⟨b, off, none⟩) 2 c] w fun e w' => e = .returned (.agg #[.int .i64 0, .int .i64 0, .int .i64 0, .int .i64 3, .int .i64 0, .int .i64 0, .int .i64 0, .int .i64 z0, .int .i64 z1, .slice none 0 0, .bool false, .int .i64 0, .slice none 0 0, .int .i64 0, .int .i64 0, .int .i64 0, .slice none 0 0]) ∧ New w w' := by
  have hw := (New.refl w).alloc (.cells #[.int .i64 0, .int .i64 0, .int .i64 0, .int .i64 0, .int .i64 0, .int .i64 0, .int .i64 0, .int .i64 0, .int .i64 0, .slice none 0 0, .bool false, .int .i64 0, .slice none 0 0, .int .i64 0, .int .i64 0, .int .i64 0, .slice none 0 0] 35)
  have bR := Blk.mk w w.heap.size 35 #[.int .i64 0, .int .i64 0, .int .i64 0, .int .i64 0, .int .i64 0, .int .i64 0, .int .i64 0, .int .i64 0, .int .i64 0, .slice none 0 0, .bool false, .int .i64 0, .slice none 0 0, .int .i64 0, .int .i64 0, .int .i64 0, .slice none 0 0] rfl
  have ge0 : w.heap.size ≤ w.heap.size := Nat.le_refl _
  have hz0 : IntKind.i64.wrap z0 = z0 := by simp [IntKind.wrap, IntKind.signed, IntKind.bits]; omega
  have hz1 : IntKind.i64.wrap z1 = z1 := by simp [IntKind.wrap, IntKind.signed, IntKind.bits]; omega
  have hlt := World.block_lt_of_cell? w _ h0
  have d0 := (World.cell?_of_block (hw.block b hlt (fun f => f))).trans h0
  have d1 := (World.cell?_of_block (hw.block b hlt (fun f => f))).trans h1'
  clear h0 h1'
  go_enter Try.func31, Try.ntmps31
  go_upto_region 1 with fail
  generalize w.alloc (.cells #[.int .i64 0, .int .i64 0, .int .i64 0, .int .i64 0, .int .i64 0, .int .i64 0, .int .i64 0, .int .i64 0, .int .i64 0, .slice none 0 0, .bool false, .int .i64 0, .slice none 0 0, .int .i64 0, .int .i64 0, .int .i64 0, .slice none 0 0] 35) = w0 at *
  have cR := bR.cells
  have fR := bR.frees
  have hl0 : b < w0.heap.size := World.block_lt_of_cell? w0 _ d0
  have dA0 : ∀ o, (w0.alloc o).cell? ⟨b, off, none⟩ = some (.int .u8 z0) := fun o => (World.cell?_of_block (((New.refl w0).alloc o).block b hl0 (fun f => f))).trans d0
  have dA1 : ∀ o, (w0.alloc o).cell? ⟨b, off + 1, none⟩ = some (.int .u8 z1) := fun o => (World.cell?_of_block (((New.refl w0).alloc o).block b hl0 (fun f => f))).trans d1
  go_upto_region 3 with fail
  go_region_held3 (fun W => W.cell? ⟨b, off, none⟩ = some (.int .u8 z0) ∧ W.cell? ⟨b, off + 1, none⟩ = some (.int .u8 z1)) (first | exact ⟨d0, d1⟩ | exact ⟨dA0 _, dA1 _⟩) (fail)
  have bM : Blk ((w0.alloc (.cells #[.int .i64 3, .int .i64 0, .int .i64 0, .int .i64 0, .int .i64 z0, .int .i64 z1, .slice none 0 0, .bool false, .int .i64 0, .slice none 0 0, .int .i64 0, .int .i64 0, .int .i64 0, .slice none 0 0] 33)).drew) w0.heap.size 33 #[.int .i64 3, .int .i64 0, .int .i64 0, .int .i64 0, .int .i64 z0, .int .i64 z1, .slice none 0 0, .bool false, .int .i64 0, .slice none 0 0, .int .i64 0, .int .i64 0, .int .i64 0, .slice none 0 0] := (Blk.mk w0 w0.heap.size 33 #[.int .i64 3, .int .i64 0, .int .i64 0, .int .i64 0, .int .i64 z0, .int .i64 z1, .slice none 0 0, .bool false, .int .i64 0, .slice none 0 0, .int .i64 0, .int .i64 0, .int .i64 0, .slice none 0 0] rfl).new ((New.refl _).drew)
  have r2 := (bR.alloc (.cells #[.int .i64 3, .int .i64 0, .int .i64 0, .int .i64 0, .int .i64 z0, .int .i64 z1, .slice none 0 0, .bool false, .int .i64 0, .slice none 0 0, .int .i64 0, .int .i64 0, .int .i64 0, .slice none 0 0] 33)).new ((New.refl _).drew)
  have hw2 := (hw.alloc (.cells #[.int .i64 3, .int .i64 0, .int .i64 0, .int .i64 0, .int .i64 z0, .int .i64 z1, .slice none 0 0, .bool false, .int .i64 0, .slice none 0 0, .int .i64 0, .int .i64 0, .int .i64 0, .slice none 0 0] 33)).drew
  generalize (w0.alloc (.cells #[.int .i64 3, .int .i64 0, .int .i64 0, .int .i64 0, .int .i64 z0, .int .i64 z1, .slice none 0 0, .bool false, .int .i64 0, .slice none 0 0, .int .i64 0, .int .i64 0, .int .i64 0, .slice none 0 0] 33)).drew = w2 at *
  have cM := bM.cells
  clear cR fR d0 d1 dA0 dA1 bR hw
  go_wp2_with fail
  refine (isWhy_yes z0 _ h1).mono ?_
  rintro e w4 ⟨rfl, rfl⟩
  go_wp2_with fail
  refine (isSub_yes z1 _ h2).mono ?_
  rintro e w4 ⟨rfl, rfl⟩
  go_upto_region 6 with fail
  apply wp_region_lit
  refine wpList_load_row rfl 33 (.tmp 3) rfl w0.heap.size rfl 33 #[.int .i64 3, .int .i64 0, .int .i64 0, .int .i64 0, .int .i64 z0, .int .i64 z1, .slice none 0 0, .bool false, .int .i64 0, .slice none 0 0, .int .i64 0, .int .i64 0, .int .i64 0, .slice none 0 0] (0, 0) _ bM Try.underlying33 rfl (by kernel_rfl) ?_
  refine wpList_build rfl 35 _ rfl (by kernel_rfl) ?_
  refine wpList_store_row rfl 35 (.tmp 2) (.tmp 29) rfl w.heap.size #[.int .i64 0, .int .i64 0, .int .i64 0, .int .i64 3, .int .i64 0, .int .i64 0, .int .i64 0, .int .i64 z0, .int .i64 z1, .slice none 0 0, .bool false, .int .i64 0, .slice none 0 0, .int .i64 0, .int .i64 0, .int .i64 0, .slice none 0 0] rfl (by kernel_rfl) 35 #[.int .i64 0, .int .i64 0, .int .i64 0, .int .i64 0, .int .i64 0, .int .i64 0, .int .i64 0, .int .i64 0, .int .i64 0, .slice none 0 0, .bool false, .int .i64 0, .slice none 0 0, .int .i64 0, .int .i64 0, .int .i64 0, .slice none 0 0] r2 (by kernel_rfl) rfl (by kernel_rfl) ?_
  go_wp2
  refine bodyPost_ret (v := .agg #[.int .i64 0, .int .i64 0, .int .i64 0, .int .i64 3, .int .i64 0, .int .i64 0, .int .i64 0, .int .i64 z0, .int .i64 z1, .slice none 0 0, .bool false, .int .i64 0, .slice none 0 0, .int .i64 0, .int .i64 0, .int .i64 0, .slice none 0 0]) ?_ rfl ⟨rfl, hw2.row (Nat.le_refl _) _⟩
  exact results_row (B := w.heap.size) (cs := #[.int .i64 0, .int .i64 0, .int .i64 0, .int .i64 3, .int .i64 0, .int .i64 0, .int .i64 0, .int .i64 z0, .int .i64 z1, .slice none 0 0, .bool false, .int .i64 0, .slice none 0 0, .int .i64 0, .int .i64 0, .int .i64 0, .slice none 0 0]) rfl rfl (r2.row _) ⟨_, Try.underlying35⟩ (by kernel_rfl)

theorem mhN_size {zs : List Int} (h : zs.length ≠ 2) : mhN zs = mhB 5 1 2 := if_pos h
theorem mhN_bad {zs : List Int} (h : zs.length = 2) (h1 : ¬ Nty (zs.getD 0 0) (zs.getD 1 0)) : mhN zs = mhB 3 1 2 := by unfold mhN; rw [if_neg (by simp [h]), if_pos h1]
theorem mhN_ok {zs : List Int} (h : zs.length = 2) (h1 : Nty (zs.getD 0 0) (zs.getD 1 0)) : mhN zs = ⟨0, 0, 0, 3, 0, 0, 0, zs.getD 0 0, zs.getD 1 0⟩ := by unfold mhN; rw [if_neg (by simp [h]), if_neg (fun q => q h1)]

theorem notifyFrom_any (a : Option Addr) (n c : Nat) (zs : List Int) (w : World) (h : BsAt w a zs) (hn : zs.length = n) (hm : n ≤ 1048576) :
    Calls Try.prog 31 #[.slice a n c] w fun e w' => e = .returned (mrV (mhN zs) (puZ 0) (.slice none 0 0) (.slice none 0 0) (.slice none 0 0)) ∧ New w w' := by
  by_cases h2 : n = 2
  case neg =>
    rw [mhN_size (by omega)]
    exact nfrom_size a n c w h2 hm
  subst h2
  obtain ⟨b, off, z0, rfl, hz0, hc0, b0, b0'⟩ := h.at 0 (by omega)
  obtain ⟨b', off', z1, e, hz1, hc1, b1, b1'⟩ := h.at 1 (by omega)
  simp only [Option.some.injEq, Addr.mk.injEq, and_true] at e
  obtain ⟨rfl, rfl⟩ := e
  by_cases g1 : 1 ≤ z0 ∧ z0 ≤ 6
  · by_cases g2 : 0 ≤ z1 ∧ z1 ≤ 20
    · rw [mhN_ok hn (by rw [getD_at hz0, getD_at hz1]; exact ⟨g1, g2⟩), getD_at hz0, getD_at hz1]
      exact nfrom_ok b off c z0 z1 w hc0 hc1 b0 b0' b1 b1' g1 g2
    · rw [mhN_bad hn (by rw [getD_at hz0, getD_at hz1]; exact fun q => g2 q.2)]
      exact nfrom_sub b off c z0 z1 w hc0 hc1 b0 b0' b1 b1' g1 g2
  · rw [mhN_bad hn (by rw [getD_at hz0, getD_at hz1]; exact fun q => g1 q.1)]
    exact nfrom_why b off c z0 z1 w hc0 hc1 b0 b0' b1 b1' g1

end Go.Proofs.Ytnhkmgibppiimaa

namespace Go.Proofs.Ytnhkmgibppiimaa
open Go.RowKit Go.Sort
set_option linter.unusedVariables false

theorem mhU_bad {p : PU} (h : p.code ≠ 0) (hs : p.soft = false) : mhU p = mhB p.code 3 1 ∧ mpU p = puZ 0 := ⟨if_pos ⟨h, hs⟩, if_pos ⟨h, hs⟩⟩
theorem mhU_ok {p : PU} (h : ¬ (p.code ≠ 0 ∧ p.soft = false)) : mhU p = ⟨0, 0, 0, 2, 0, 0, 0, 0, 0⟩ ∧ mpU p = p := ⟨if_neg h, if_neg h⟩
theorem got_none (w : World) (lo : Nat) : Got w lo (puZ 0) (.slice none 0 0) (.slice none 0 0) (.slice none 0 0) := Got.one (OwQ.nil _ _) rfl rfl

set_option maxHeartbeats 3200000 in
theorem updateFrom_any (a : Option Addr) (n c : Nat) (zs : List Int) (w : World) (h : BsAt w a zs) (hn : zs.length = n) (hcc : n ≤ c) (hm : n ≤ 1048576) :
    Calls Try.prog 30 #[.slice a n c] w fun e w' => ∃ x y z, e = .returned (mrV (mhU (pu zs)) (mpU (pu zs)) x y z) ∧ Got w' w.heap.size (mpU (pu zs)) x y z ∧ New w w' := by
  have hw := (New.refl w).alloc (.cells #[.int .i64 0, .int .i64 0, .int .i64 0, .int .i64 0, .int .i64 0, .int .i64 0, .int .i64 0, .int .i64 0, .int .i64 0, .slice none 0 0, .bool false, .int .i64 0, .slice none 0 0, .int .i64 0, .int .i64 0, .int .i64 0, .slice none 0 0] 35)
  have bR := Blk.mk w w.heap.size 35 #[.int .i64 0, .int .i64 0, .int .i64 0, .int .i64 0, .int .i64 0, .int .i64 0, .int .i64 0, .int .i64 0, .int .i64 0, .slice none 0 0, .bool false, .int .i64 0, .slice none 0 0, .int .i64 0, .int .i64 0, .int .i64 0, .slice none 0 0] rfl
  have sz : (w.alloc (.cells #[.int .i64 0, .int .i64 0, .int .i64 0, .int .i64 0, .int .i64 0, .int .i64 0, .int .i64 0, .int .i64 0, .int .i64 0, .slice none 0 0, .bool false, .int .i64 0, .slice none 0 0, .int .i64 0, .int .i64 0, .int .i64 0, .slice none 0 0] 35)).heap.size = w.heap.size + 1 := by simp
  generalize hP : pu zs = p
  have HP : Hid (pu zs = p) := hP
  clear hP
  go_enter Try.func30, Try.ntmps30
  go_upto_region 1 with fail
  generalize w.alloc (.cells #[.int .i64 0, .int .i64 0, .int .i64 0, .int .i64 0, .int .i64 0, .int .i64 0, .int .i64 0, .int .i64 0, .int .i64 0, .slice none 0 0, .bool false, .int .i64 0, .slice none 0 0, .int .i64 0, .int .i64 0, .int .i64 0, .slice none 0 0] 35) = w0 at *
  go_wp2_with fail
  refine (implParse a n c zs _ (h.new hw) hn hcc hm).mono ?_
  rintro e w1 ⟨x, y, z, rfl, hG, hn1⟩
  rw [HP.out] at hG ⊢
  clear h hn HP
  obtain ⟨code, soft, gs, has, o, xs, nx, md, lc, rs⟩ := p
  obtain ⟨ga, gc, ex⟩ := hG.g.slice
  obtain ⟨xa, xc, ey⟩ := hG.n.slice
  obtain ⟨ra, rc, ez⟩ := hG.r.slice
  subst ex
  subst ey
  subst ez
  simp only at hG
  unfold puV
  simp only
  have bR1 := bR.new hn1
  have hw1 := hw.trans hn1
  rw [sz] at hG
  clear bR hw hn1 sz
  by_cases g0 : code = 0
  · have HM := mhU_ok (p := ⟨code, soft, gs, has, o, xs, nx, md, lc, rs⟩) (fun q => q.1 g0)
    have e1 : (code != 0) = false := by simpa using g0
    clear g0
    have bR2 := bR1.alloc (.cells #[.int .i64 code, .bool soft, .slice ga gs.length gc, .bool has, .int .i64 o, .slice xa xs.length xc, .int .i64 nx, .int .i64 md, .int .i64 lc, .slice ra rs.length rc] 71)
    have hw2 := hw1.alloc (.cells #[.int .i64 code, .bool soft, .slice ga gs.length gc, .bool has, .int .i64 o, .slice xa xs.length xc, .int .i64 nx, .int .i64 md, .int .i64 lc, .slice ra rs.length rc] 71)
    have hG2 := hG.new ((New.refl w1).alloc (.cells #[.int .i64 code, .bool soft, .slice ga gs.length gc, .bool has, .int .i64 o, .slice xa xs.length xc, .int .i64 nx, .int .i64 md, .int .i64 lc, .slice ra rs.length rc] 71))
    go_wp2_with (refine wpList_store_row rfl 35 (.tmp 2) (.tmp 20) rfl w.heap.size #[.int .i64 0, .int .i64 0, .int .i64 0, .int .i64 2, .int .i64 0, .int .i64 0, .int .i64 0, .int .i64 0, .int .i64 0, .slice ga gs.length gc, .bool has, .int .i64 o, .slice xa xs.length xc, .int .i64 nx, .int .i64 md, .int .i64 lc, .slice ra rs.length rc] rfl rfl 35 #[.int .i64 0, .int .i64 0, .int .i64 0, .int .i64 0, .int .i64 0, .int .i64 0, .int .i64 0, .int .i64 0, .int .i64 0, .slice none 0 0, .bool false, .int .i64 0, .slice none 0 0, .int .i64 0, .int .i64 0, .int .i64 0, .slice none 0 0] bR2 (by kernel_rfl) rfl (by kernel_rfl) ?_)
    go_wp2
    refine bodyPost_ret (v := .agg #[.int .i64 0, .int .i64 0, .int .i64 0, .int .i64 2, .int .i64 0, .int .i64 0, .int .i64 0, .int .i64 0, .int .i64 0, .slice ga gs.length gc, .bool has, .int .i64 o, .slice xa xs.length xc, .int .i64 nx, .int .i64 md, .int .i64 lc, .slice ra rs.length rc]) ?_ rfl ⟨_, _, _, by rw [HM.1, HM.2]; rfl, by rw [HM.2]; exact (hG2.turn (S := fun k => k = w.heap.size) (Turn.row (Turn.refl _ _) _) (fun g hg e => by omega)).low (Nat.le_succ _), hw2.row (Nat.le_refl _) _⟩
    exact results_row (B := w.heap.size) (cs := #[.int .i64 0, .int .i64 0, .int .i64 0, .int .i64 2, .int .i64 0, .int .i64 0, .int .i64 0, .int .i64 0, .int .i64 0, .slice ga gs.length gc, .bool has, .int .i64 o, .slice xa xs.length xc, .int .i64 nx, .int .i64 md, .int .i64 lc, .slice ra rs.length rc]) rfl rfl (bR2.row _) ⟨_, Try.underlying35⟩ (by kernel_rfl)
  have e1 : (code != 0) = true := by simpa using g0
  cases soft with
  | true =>
    have HM := mhU_ok (p := ⟨code, true, gs, has, o, xs, nx, md, lc, rs⟩) (fun q => by cases q.2)
    clear g0
    have bR2 := bR1.alloc (.cells #[.int .i64 code, .bool true, .slice ga gs.length gc, .bool has, .int .i64 o, .slice xa xs.length xc, .int .i64 nx, .int .i64 md, .int .i64 lc, .slice ra rs.length rc] 71)
    have hw2 := hw1.alloc (.cells #[.int .i64 code, .bool true, .slice ga gs.length gc, .bool has, .int .i64 o, .slice xa xs.length xc, .int .i64 nx, .int .i64 md, .int .i64 lc, .slice ra rs.length rc] 71)
    have hG2 := hG.new ((New.refl w1).alloc (.cells #[.int .i64 code, .bool true, .slice ga gs.length gc, .bool has, .int .i64 o, .slice xa xs.length xc, .int .i64 nx, .int .i64 md, .int .i64 lc, .slice ra rs.length rc] 71))
    go_wp2_with (refine wpList_store_row rfl 35 (.tmp 2) (.tmp 20) rfl w.heap.size #[.int .i64 0, .int .i64 0, .int .i64 0, .int .i64 2, .int .i64 0, .int .i64 0, .int .i64 0, .int .i64 0, .int .i64 0, .slice ga gs.length gc, .bool has, .int .i64 o, .slice xa xs.length xc, .int .i64 nx, .int .i64 md, .int .i64 lc, .slice ra rs.length rc] rfl rfl 35 #[.int .i64 0, .int .i64 0, .int .i64 0, .int .i64 0, .int .i64 0, .int .i64 0, .int .i64 0, .int .i64 0, .int .i64 0, .slice none 0 0, .bool false, .int .i64 0, .slice none 0 0, .int .i64 0, .int .i64 0, .int .i64 0, .slice none 0 0] bR2 (by kernel_rfl) rfl (by kernel_rfl) ?_)
    go_wp2
    refine bodyPost_ret (v := .agg #[.int .i64 0, .int .i64 0, .int .i64 0, .int .i64 2, .int .i64 0, .int .i64 0, .int .i64 0, .int .i64 0, .int .i64 0, .slice ga gs.length gc, .bool has, .int .i64 o, .slice xa xs.length xc, .int .i64 nx, .int .i64 md, .int .i64 lc, .slice ra rs.length rc]) ?_ rfl ⟨_, _, _, by rw [HM.1, HM.2]; rfl, by rw [HM.2]; exact (hG2.turn (S := fun k => k = w.heap.size) (Turn.row (Turn.refl _ _) _) (fun g hg e => by omega)).low (Nat.le_succ _), hw2.row (Nat.le_refl _) _⟩
    exact results_row (B := w.heap.size) (cs := #[.int .i64 0, .int .i64 0, .int .i64 0, .int .i64 2, .int .i64 0, .int .i64 0, .int .i64 0, .int .i64 0, .int .i64 0, .slice ga gs.length gc, .bool has, .int .i64 o, .slice xa xs.length xc, .int .i64 nx, .int .i64 md, .int .i64 lc, .slice ra rs.length rc]) rfl rfl (bR2.row _) ⟨_, Try.underlying35⟩ (by kernel_rfl)
  | false =>
    have HM := mhU_bad (p := ⟨code, false, gs, has, o, xs, nx, md, lc, rs⟩) g0 rfl
    clear g0
    have bR2 := bR1.alloc (.cells #[.int .i64 code, .bool false, .slice ga gs.length gc, .bool has, .int .i64 o, .slice xa xs.length xc, .int .i64 nx, .int .i64 md, .int .i64 lc, .slice ra rs.length rc] 71)
    have hw2 := hw1.alloc (.cells #[.int .i64 code, .bool false, .slice ga gs.length gc, .bool has, .int .i64 o, .slice xa xs.length xc, .int .i64 nx, .int .i64 md, .int .i64 lc, .slice ra rs.length rc] 71)
    go_wp2_with (refine wpList_store_row rfl 35 (.tmp 2) (.tmp 16) rfl w.heap.size #[.int .i64 code, .int .i64 3, .int .i64 1, .int .i64 0, .int .i64 0, .int .i64 0, .int .i64 0, .int .i64 0, .int .i64 0, .slice none 0 0, .bool false, .int .i64 0, .slice none 0 0, .int .i64 0, .int .i64 0, .int .i64 0, .slice none 0 0] rfl rfl 35 #[.int .i64 0, .int .i64 0, .int .i64 0, .int .i64 0, .int .i64 0, .int .i64 0, .int .i64 0, .int .i64 0, .int .i64 0, .slice none 0 0, .bool false, .int .i64 0, .slice none 0 0, .int .i64 0, .int .i64 0, .int .i64 0, .slice none 0 0] bR2 (by kernel_rfl) rfl (by kernel_rfl) ?_)
    go_wp2
    refine bodyPost_ret (v := .agg #[.int .i64 code, .int .i64 3, .int .i64 1, .int .i64 0, .int .i64 0, .int .i64 0, .int .i64 0, .int .i64 0, .int .i64 0, .slice none 0 0, .bool false, .int .i64 0, .slice none 0 0, .int .i64 0, .int .i64 0, .int .i64 0, .slice none 0 0]) ?_ rfl ⟨_, _, _, by first | rfl | (rw [HM.1, HM.2]; rfl), by first | exact got_none _ _ | (rw [HM.2]; exact got_none _ _), hw2.row (Nat.le_refl _) _⟩
    exact results_row (B := w.heap.size) (cs := #[.int .i64 code, .int .i64 3, .int .i64 1, .int .i64 0, .int .i64 0, .int .i64 0, .int .i64 0, .int .i64 0, .int .i64 0, .slice none 0 0, .bool false, .int .i64 0, .slice none 0 0, .int .i64 0, .int .i64 0, .int .i64 0, .slice none 0 0]) rfl rfl (bR2.row _) ⟨_, Try.underlying35⟩ (by kernel_rfl)

end Go.Proofs.Ytnhkmgibppiimaa

namespace Go.Proofs.Ytnhkmgibppiimaa
open Go.RowKit Go.Sort
set_option linter.unusedVariables false

/-- What the reading of a frame as a message tells: its numbers. -/
def mh (k : Int) (zs : List Int) : MH := if ff k zs.length ≠ 0 then mhB (ff k zs.length) 1 3 else if k = 1 then mhO zs else if k = 2 then mhU (pu zs) else if k = 3 then mhN zs else mhK zs
/-- What the reading of a frame as a message tells: its update. -/
def mp (k : Int) (zs : List Int) : PU := if ff k zs.length ≠ 0 then puZ 0 else if k = 2 then mpU (pu zs) else puZ 0

theorem mh_bad {k : Int} {zs : List Int} (h : ff k zs.length ≠ 0) : mh k zs = mhB (ff k zs.length) 1 3 ∧ mp k zs = puZ 0 := ⟨if_pos h, if_pos h⟩
theorem mh_1 {zs : List Int} (h : ¬ ff 1 zs.length ≠ 0) : mh 1 zs = mhO zs ∧ mp 1 zs = puZ 0 := ⟨by unfold mh; rw [if_neg h, if_pos rfl], by unfold mp; rw [if_neg h, if_neg (by omega)]⟩
theorem mh_2 {zs : List Int} (h : ¬ ff 2 zs.length ≠ 0) : mh 2 zs = mhU (pu zs) ∧ mp 2 zs = mpU (pu zs) := ⟨by unfold mh; rw [if_neg h, if_neg (by omega), if_pos rfl], by unfold mp; rw [if_neg h, if_pos rfl]⟩
theorem mh_3 {zs : List Int} (h : ¬ ff 3 zs.length ≠ 0) : mh 3 zs = mhN zs ∧ mp 3 zs = puZ 0 := ⟨by unfold mh; rw [if_neg h, if_neg (by omega), if_neg (by omega), if_pos rfl], by unfold mp; rw [if_neg h, if_neg (by omega)]⟩
theorem mh_4 {zs : List Int} (h : ¬ ff 4 zs.length ≠ 0) : mh 4 zs = mhK zs ∧ mp 4 zs = puZ 0 := ⟨by unfold mh; rw [if_neg h, if_neg (by omega), if_neg (by omega), if_neg (by omega)], by unfold mp; rw [if_neg h, if_neg (by omega)]⟩

set_option maxHeartbeats 3200000 in
theorem parse_1 (a : Option Addr) (n c : Nat) (H : MH) (p : PU) (w : World) (hm : n ≤ 1048576) (hff : ff 1 n = 0)
    (hcall : ∀ W, New w W → Calls Try.prog 29 #[.slice a n c] W fun e w' => ∃ x y z, e = .returned (mrV H p x y z) ∧ Got w' W.heap.size p x y z ∧ New W w') :
    Calls Try.prog 8 #[.agg #[.int .i64 1, .slice a n c]] w fun e w' => ∃ x y z, e = .returned (mrV H p x y z) ∧ Got w' w.heap.size p x y z ∧ New w w' := by
  have hw := ((New.refl w).alloc (.cells #[.int .i64 1, .slice a n c] 37)).alloc (.cells #[.int .i64 0, .int .i64 0, .int .i64 0, .int .i64 0, .int .i64 0, .int .i64 0, .int .i64 0, .int .i64 0, .int .i64 0, .slice none 0 0, .bool false, .int .i64 0, .slice none 0 0, .int .i64 0, .int .i64 0, .int .i64 0, .slice none 0 0] 35)
  have bF : Blk ((w.alloc (.cells #[.int .i64 1, .slice a n c] 37)).alloc (.cells #[.int .i64 0, .int .i64 0, .int .i64 0, .int .i64 0, .int .i64 0, .int .i64 0, .int .i64 0, .int .i64 0, .int .i64 0, .slice none 0 0, .bool false, .int .i64 0, .slice none 0 0, .int .i64 0, .int .i64 0, .int .i64 0, .slice none 0 0] 35)) w.heap.size 37 #[.int .i64 1, .slice a n c] := (Blk.mk _ _ _ _ rfl).alloc _
  have bR : Blk ((w.alloc (.cells #[.int .i64 1, .slice a n c] 37)).alloc (.cells #[.int .i64 0, .int .i64 0, .int .i64 0, .int .i64 0, .int .i64 0, .int .i64 0, .int .i64 0, .int .i64 0, .int .i64 0, .slice none 0 0, .bool false, .int .i64 0, .slice none 0 0, .int .i64 0, .int .i64 0, .int .i64 0, .slice none 0 0] 35)) (w.heap.size + 1) 35 #[.int .i64 0, .int .i64 0, .int .i64 0, .int .i64 0, .int .i64 0, .int .i64 0, .int .i64 0, .int .i64 0, .int .i64 0, .slice none 0 0, .bool false, .int .i64 0, .slice none 0 0, .int .i64 0, .int .i64 0, .int .i64 0, .slice none 0 0] := Blk.mk _ _ _ _ (by simp)
  have sz : ((w.alloc (.cells #[.int .i64 1, .slice a n c] 37)).alloc (.cells #[.int .i64 0, .int .i64 0, .int .i64 0, .int .i64 0, .int .i64 0, .int .i64 0, .int .i64 0, .int .i64 0, .int .i64 0, .slice none 0 0, .bool false, .int .i64 0, .slice none 0 0, .int .i64 0, .int .i64 0, .int .i64 0, .slice none 0 0] 35)).heap.size = w.heap.size + 2 := by simp
  have ge1 : w.heap.size ≤ w.heap.size + 1 := by omega
  have HF : Hid (ff 1 n = 0) := hff
  clear hff
  go_enter Try.func8, Try.ntmps8
  go_upto_region 1 with fail
  generalize ((w.alloc (.cells #[.int .i64 1, .slice a n c] 37)).alloc (.cells #[.int .i64 0, .int .i64 0, .int .i64 0, .int .i64 0, .int .i64 0, .int .i64 0, .int .i64 0, .int .i64 0, .int .i64 0, .slice none 0 0, .bool false, .int .i64 0, .slice none 0 0, .int .i64 0, .int .i64 0, .int .i64 0, .slice none 0 0] 35)) = w0 at *
  have cF0 := bF.cells
  go_wp2_with fail
  refine (implFF 1 a n c _ hm).mono ?_
  rintro e w1 ⟨rfl, hn1⟩
  rw [HF.out]
  have hw1 := hw.trans hn1
  have bF1 := bF.new hn1
  have bR1 := bR.new hn1
  have s1 := hn1.size
  have cF := bF1.cells
  clear cF0
  have key := hcall w1 hw1
  clear hcall
  go_wp2_with fail
  refine key.mono ?_
  rintro e w2 ⟨x, y, z, rfl, hG, hn2⟩
  obtain ⟨ga, gc, ex⟩ := hG.g.slice
  obtain ⟨xa, xc, ey⟩ := hG.n.slice
  obtain ⟨ra, rc, ez⟩ := hG.r.slice
  subst ex
  subst ey
  subst ez
  have hw2 := hw1.trans hn2
  have bR2 := bR1.new hn2
  unfold mrV
  go_wp2_with (refine wpList_store_row rfl 35 (.tmp 2) (.tmp 16) rfl (w.heap.size + 1) #[.int .i64 H.code, .int .i64 H.why, .int .i64 H.sub, .int .i64 H.kd, .int .i64 H.sa, .int .i64 H.ho, .int .i64 H.si, .int .i64 H.wh, .int .i64 H.su, .slice ga p.gs.length gc, .bool p.has, .int .i64 p.o, .slice xa p.xs.length xc, .int .i64 p.nx, .int .i64 p.md, .int .i64 p.lc, .slice ra p.rs.length rc] rfl rfl 35 #[.int .i64 0, .int .i64 0, .int .i64 0, .int .i64 0, .int .i64 0, .int .i64 0, .int .i64 0, .int .i64 0, .int .i64 0, .slice none 0 0, .bool false, .int .i64 0, .slice none 0 0, .int .i64 0, .int .i64 0, .int .i64 0, .slice none 0 0] bR2 (by kernel_rfl) rfl (by kernel_rfl) ?_)
  go_wp2
  refine bodyPost_ret (v := .agg #[.int .i64 H.code, .int .i64 H.why, .int .i64 H.sub, .int .i64 H.kd, .int .i64 H.sa, .int .i64 H.ho, .int .i64 H.si, .int .i64 H.wh, .int .i64 H.su, .slice ga p.gs.length gc, .bool p.has, .int .i64 p.o, .slice xa p.xs.length xc, .int .i64 p.nx, .int .i64 p.md, .int .i64 p.lc, .slice ra p.rs.length rc]) ?_ rfl ⟨_, _, _, rfl, (hG.turn (S := fun k => k = w.heap.size + 1) (Turn.row (Turn.refl _ _) _) (fun g hg e => by omega)).low hw1.size, hw2.row ge1 _⟩
  exact results_row (B := w.heap.size + 1) (cs := #[.int .i64 H.code, .int .i64 H.why, .int .i64 H.sub, .int .i64 H.kd, .int .i64 H.sa, .int .i64 H.ho, .int .i64 H.si, .int .i64 H.wh, .int .i64 H.su, .slice ga p.gs.length gc, .bool p.has, .int .i64 p.o, .slice xa p.xs.length xc, .int .i64 p.nx, .int .i64 p.md, .int .i64 p.lc, .slice ra p.rs.length rc]) rfl rfl (bR2.row _) ⟨_, Try.underlying35⟩ (by kernel_rfl)

set_option maxHeartbeats 3200000 in
theorem parse_2 (a : Option Addr) (n c : Nat) (H : MH) (p : PU) (w : World) (hm : n ≤ 1048576) (hff : ff 2 n = 0)
    (hcall : ∀ W, New w W → Calls Try.prog 30 #[.slice a n c] W fun e w' => ∃ x y z, e = .returned (mrV H p x y z) ∧ Got w' W.heap.size p x y z ∧ New W w') :
    Calls Try.prog 8 #[.agg #[.int .i64 2, .slice a n c]] w fun e w' => ∃ x y z, e = .returned (mrV H p x y z) ∧ Got w' w.heap.size p x y z ∧ New w w' := by
  have hw := ((New.refl w).alloc (.cells #[.int .i64 2, .slice a n c] 37)).alloc (.cells #[.int .i64 0, .int .i64 0, .int .i64 0, .int .i64 0, .int .i64 0, .int .i64 0, .int .i64 0, .int .i64 0, .int .i64 0, .slice none 0 0, .bool false, .int .i64 0, .slice none 0 0, .int .i64 0, .int .i64 0, .int .i64 0, .slice none 0 0] 35)
  have bF : Blk ((w.alloc (.cells #[.int .i64 2, .slice a n c] 37)).alloc (.cells #[.int .i64 0, .int .i64 0, .int .i64 0, .int .i64 0, .int .i64 0, .int .i64 0, .int .i64 0, .int .i64 0, .int .i64 0, .slice none 0 0, .bool false, .int .i64 0, .slice none 0 0, .int .i64 0, .int .i64 0, .int .i64 0, .slice none 0 0] 35)) w.heap.size 37 #[.int .i64 2, .slice a n c] := (Blk.mk _ _ _ _ rfl).alloc _
  have bR : Blk ((w.alloc (.cells #[.int .i64 2, .slice a n c] 37)).alloc (.cells #[.int .i64 0, .int .i64 0, .int .i64 0, .int .i64 0, .int .i64 0, .int .i64 0, .int .i64 0, .int .i64 0, .int .i64 0, .slice none 0 0, .bool false, .int .i64 0, .slice none 0 0, .int .i64 0, .int .i64 0, .int .i64 0, .slice none 0 0] 35)) (w.heap.size + 1) 35 #[.int .i64 0, .int .i64 0, .int .i64 0, .int .i64 0, .int .i64 0, .int .i64 0, .int .i64 0, .int .i64 0, .int .i64 0, .slice none 0 0, .bool false, .int .i64 0, .slice none 0 0, .int .i64 0, .int .i64 0, .int .i64 0, .slice none 0 0] := Blk.mk _ _ _ _ (by simp)
  have sz : ((w.alloc (.cells #[.int .i64 2, .slice a n c] 37)).alloc (.cells #[.int .i64 0, .int .i64 0, .int .i64 0, .int .i64 0, .int .i64 0, .int .i64 0, .int .i64 0, .int .i64 0, .int .i64 0, .slice none 0 0, .bool false, .int .i64 0, .slice none 0 0, .int .i64 0, .int .i64 0, .int .i64 0, .slice none 0 0] 35)).heap.size = w.heap.size + 2 := by simp
  have ge1 : w.heap.size ≤ w.heap.size + 1 := by omega
  have HF : Hid (ff 2 n = 0) := hff
  clear hff
  go_enter Try.func8, Try.ntmps8
  go_upto_region 1 with fail
  generalize ((w.alloc (.cells #[.int .i64 2, .slice a n c] 37)).alloc (.cells #[.int .i64 0, .int .i64 0, .int .i64 0, .int .i64 0, .int .i64 0, .int .i64 0, .int .i64 0, .int .i64 0, .int .i64 0, .slice none 0 0, .bool false, .int .i64 0, .slice none 0 0, .int .i64 0, .int .i64 0, .int .i64 0, .slice none 0 0] 35)) = w0 at *
  have cF0 := bF.cells
  go_wp2_with fail
  refine (implFF 2 a n c _ hm).mono ?_
  rintro e w1 ⟨rfl, hn1⟩
  rw [HF.out]
  have hw1 := hw.trans hn1
  have bF1 := bF.new hn1
  have bR1 := bR.new hn1
  have s1 := hn1.size
  have cF := bF1.cells
  clear cF0
  have key := hcall w1 hw1
  clear hcall
  go_wp2_with fail
  refine key.mono ?_
  rintro e w2 ⟨x, y, z, rfl, hG, hn2⟩
  obtain ⟨ga, gc, ex⟩ := hG.g.slice
  obtain ⟨xa, xc, ey⟩ := hG.n.slice
  obtain ⟨ra, rc, ez⟩ := hG.r.slice
  subst ex
  subst ey
  subst ez
  have hw2 := hw1.trans hn2
  have bR2 := bR1.new hn2
  unfold mrV
  go_wp2_with (refine wpList_store_row rfl 35 (.tmp 2) (.tmp 21) rfl (w.heap.size + 1) #[.int .i64 H.code, .int .i64 H.why, .int .i64 H.sub, .int .i64 H.kd, .int .i64 H.sa, .int .i64 H.ho, .int .i64 H.si, .int .i64 H.wh, .int .i64 H.su, .slice ga p.gs.length gc, .bool p.has, .int .i64 p.o, .slice xa p.xs.length xc, .int .i64 p.nx, .int .i64 p.md, .int .i64 p.lc, .slice ra p.rs.length rc] rfl rfl 35 #[.int .i64 0, .int .i64 0, .int .i64 0, .int .i64 0, .int .i64 0, .int .i64 0, .int .i64 0, .int .i64 0, .int .i64 0, .slice none 0 0, .bool false, .int .i64 0, .slice none 0 0, .int .i64 0, .int .i64 0, .int .i64 0, .slice none 0 0] bR2 (by kernel_rfl) rfl (by kernel_rfl) ?_)
  go_wp2
  refine bodyPost_ret (v := .agg #[.int .i64 H.code, .int .i64 H.why, .int .i64 H.sub, .int .i64 H.kd, .int .i64 H.sa, .int .i64 H.ho, .int .i64 H.si, .int .i64 H.wh, .int .i64 H.su, .slice ga p.gs.length gc, .bool p.has, .int .i64 p.o, .slice xa p.xs.length xc, .int .i64 p.nx, .int .i64 p.md, .int .i64 p.lc, .slice ra p.rs.length rc]) ?_ rfl ⟨_, _, _, rfl, (hG.turn (S := fun k => k = w.heap.size + 1) (Turn.row (Turn.refl _ _) _) (fun g hg e => by omega)).low hw1.size, hw2.row ge1 _⟩
  exact results_row (B := w.heap.size + 1) (cs := #[.int .i64 H.code, .int .i64 H.why, .int .i64 H.sub, .int .i64 H.kd, .int .i64 H.sa, .int .i64 H.ho, .int .i64 H.si, .int .i64 H.wh, .int .i64 H.su, .slice ga p.gs.length gc, .bool p.has, .int .i64 p.o, .slice xa p.xs.length xc, .int .i64 p.nx, .int .i64 p.md, .int .i64 p.lc, .slice ra p.rs.length rc]) rfl rfl (bR2.row _) ⟨_, Try.underlying35⟩ (by kernel_rfl)

set_option maxHeartbeats 3200000 in
theorem parse_3 (a : Option Addr) (n c : Nat) (H : MH) (p : PU) (w : World) (hm : n ≤ 1048576) (hff : ff 3 n = 0)
    (hcall : ∀ W, New w W → Calls Try.prog 31 #[.slice a n c] W fun e w' => ∃ x y z, e = .returned (mrV H p x y z) ∧ Got w' W.heap.size p x y z ∧ New W w') :
    Calls Try.prog 8 #[.agg #[.int .i64 3, .slice a n c]] w fun e w' => ∃ x y z, e = .returned (mrV H p x y z) ∧ Got w' w.heap.size p x y z ∧ New w w' := by
  have hw := ((New.refl w).alloc (.cells #[.int .i64 3, .slice a n c] 37)).alloc (.cells #[.int .i64 0, .int .i64 0, .int .i64 0, .int .i64 0, .int .i64 0, .int .i64 0, .int .i64 0, .int .i64 0, .int .i64 0, .slice none 0 0, .bool false, .int .i64 0, .slice none 0 0, .int .i64 0, .int .i64 0, .int .i64 0, .slice none 0 0] 35)
  have bF : Blk ((w.alloc (.cells #[.int .i64 3, .slice a n c] 37)).alloc (.cells #[.int .i64 0, .int .i64 0, .int .i64 0, .int .i64 0, .int .i64 0, .int .i64 0, .int .i64 0, .int .i64 0, .int .i64 0, .slice none 0 0, .bool false, .int .i64 0, .slice none 0 0, .int .i64 0, .int .i64 0, .int .i64 0, .slice none 0 0] 35)) w.heap.size 37 #[.int .i64 3, .slice a n c] := (Blk.mk _ _ _ _ rfl).alloc _
  have bR : Blk ((w.alloc (.cells #[.int .i64 3, .slice a n c] 37)).alloc (.cells #[.int .i64 0, .int .i64 0, .int .i64 0, .int .i64 0, .int .i64 0, .int .i64 0, .int .i64 0, .int .i64 0, .int .i64 0, .slice none 0 0, .bool false, .int .i64 0, .slice none 0 0, .int .i64 0, .int .i64 0, .int .i64 0, .slice none 0 0] 35)) (w.heap.size + 1) 35 #[.int .i64 0, .int .i64 0, .int .i64 0, .int .i64 0, .int .i64 0, .int .i64 0, .int .i64 0, .int .i64 0, .int .i64 0, .slice none 0 0, .bool false, .int .i64 0, .slice none 0 0, .int .i64 0, .int .i64 0, .int .i64 0, .slice none 0 0] := Blk.mk _ _ _ _ (by simp)
  have sz : ((w.alloc (.cells #[.int .i64 3, .slice a n c] 37)).alloc (.cells #[.int .i64 0, .int .i64 0, .int .i64 0, .int .i64 0, .int .i64 0, .int .i64 0, .int .i64 0, .int .i64 0, .int .i64 0, .slice none 0 0, .bool false, .int .i64 0, .slice none 0 0, .int .i64 0, .int .i64 0, .int .i64 0, .slice none 0 0] 35)).heap.size = w.heap.size + 2 := by simp
  have ge1 : w.heap.size ≤ w.heap.size + 1 := by omega
  have HF : Hid (ff 3 n = 0) := hff
  clear hff
  go_enter Try.func8, Try.ntmps8
  go_upto_region 1 with fail
  generalize ((w.alloc (.cells #[.int .i64 3, .slice a n c] 37)).alloc (.cells #[.int .i64 0, .int .i64 0, .int .i64 0, .int .i64 0, .int .i64 0, .int .i64 0, .int .i64 0, .int .i64 0, .int .i64 0, .slice none 0 0, .bool false, .int .i64 0, .slice none 0 0, .int .i64 0, .int .i64 0, .int .i64 0, .slice none 0 0] 35)) = w0 at *
  have cF0 := bF.cells
  go_wp2_with fail
  refine (implFF 3 a n c _ hm).mono ?_
  rintro e w1 ⟨rfl, hn1⟩
  rw [HF.out]
  have hw1 := hw.trans hn1
  have bF1 := bF.new hn1
  have bR1 := bR.new hn1
  have s1 := hn1.size
  have cF := bF1.cells
  clear cF0
  have key := hcall w1 hw1
  clear hcall
  go_wp2_with fail
  refine key.mono ?_
  rintro e w2 ⟨x, y, z, rfl, hG, hn2⟩
  obtain ⟨ga, gc, ex⟩ := hG.g.slice
  obtain ⟨xa, xc, ey⟩ := hG.n.slice
  obtain ⟨ra, rc, ez⟩ := hG.r.slice
  subst ex
  subst ey
  subst ez
  have hw2 := hw1.trans hn2
  have bR2 := bR1.new hn2
  unfold mrV
  go_wp2_with (refine wpList_store_row rfl 35 (.tmp 2) (.tmp 26) rfl (w.heap.size + 1) #[.int .i64 H.code, .int .i64 H.why, .int .i64 H.sub, .int .i64 H.kd, .int .i64 H.sa, .int .i64 H.ho, .int .i64 H.si, .int .i64 H.wh, .int .i64 H.su, .slice ga p.gs.length gc, .bool p.has, .int .i64 p.o, .slice xa p.xs.length xc, .int .i64 p.nx, .int .i64 p.md, .int .i64 p.lc, .slice ra p.rs.length rc] rfl rfl 35 #[.int .i64 0, .int .i64 0, .int .i64 0, .int .i64 0, .int .i64 0, .int .i64 0, .int .i64 0, .int .i64 0, .int .i64 0, .slice none 0 0, .bool false, .int .i64 0, .slice none 0 0, .int .i64 0, .int .i64 0, .int .i64 0, .slice none 0 0] bR2 (by kernel_rfl) rfl (by kernel_rfl) ?_)
  go_wp2
  refine bodyPost_ret (v := .agg #[.int .i64 H.code, .int .i64 H.why, .int .i64 H.sub, .int .i64 H.kd, .int .i64 H.sa, .int .i64 H.ho, .int .i64 H.si, .int .i64 H.wh, .int .i64 H.su, .slice ga p.gs.length gc, .bool p.has, .int .i64 p.o, .slice xa p.xs.length xc, .int .i64 p.nx, .int .i64 p.md, .int .i64 p.lc, .slice ra p.rs.length rc]) ?_ rfl ⟨_, _, _, rfl, (hG.turn (S := fun k => k = w.heap.size + 1) (Turn.row (Turn.refl _ _) _) (fun g hg e => by omega)).low hw1.size, hw2.row ge1 _⟩
  exact results_row (B := w.heap.size + 1) (cs := #[.int .i64 H.code, .int .i64 H.why, .int .i64 H.sub, .int .i64 H.kd, .int .i64 H.sa, .int .i64 H.ho, .int .i64 H.si, .int .i64 H.wh, .int .i64 H.su, .slice ga p.gs.length gc, .bool p.has, .int .i64 p.o, .slice xa p.xs.length xc, .int .i64 p.nx, .int .i64 p.md, .int .i64 p.lc, .slice ra p.rs.length rc]) rfl rfl (bR2.row _) ⟨_, Try.underlying35⟩ (by kernel_rfl)

set_option maxHeartbeats 3200000 in
theorem parse_4 (a : Option Addr) (n c : Nat) (H : MH) (p : PU) (w : World) (hm : n ≤ 1048576) (hff : ff 4 n = 0)
    (hcall : ∀ W, New w W → Calls Try.prog 32 #[.slice a n c] W fun e w' => ∃ x y z, e = .returned (mrV H p x y z) ∧ Got w' W.heap.size p x y z ∧ New W w') :
    Calls Try.prog 8 #[.agg #[.int .i64 4, .slice a n c]] w fun e w' => ∃ x y z, e = .returned (mrV H p x y z) ∧ Got w' w.heap.size p x y z ∧ New w w' := by
  have hw := ((New.refl w).alloc (.cells #[.int .i64 4, .slice a n c] 37)).alloc (.cells #[.int .i64 0, .int .i64 0, .int .i64 0, .int .i64 0, .int .i64 0, .int .i64 0, .int .i64 0, .int .i64 0, .int .i64 0, .slice none 0 0, .bool false, .int .i64 0, .slice none 0 0, .int .i64 0, .int .i64 0, .int .i64 0, .slice none 0 0] 35)
  have bF : Blk ((w.alloc (.cells #[.int .i64 4, .slice a n c] 37)).alloc (.cells #[.int .i64 0, .int .i64 0, .int .i64 0, .int .i64 0, .int .i64 0, .int .i64 0, .int .i64 0, .int .i64 0, .int .i64 0, .slice none 0 0, .bool false, .int .i64 0, .slice none 0 0, .int .i64 0, .int .i64 0, .int .i64 0, .slice none 0 0] 35)) w.heap.size 37 #[.int .i64 4, .slice a n c] := (Blk.mk _ _ _ _ rfl).alloc _
  have bR : Blk ((w.alloc (.cells #[.int .i64 4, .slice a n c] 37)).alloc (.cells #[.int .i64 0, .int .i64 0, .int .i64 0, .int .i64 0, .int .i64 0, .int .i64 0, .int .i64 0, .int .i64 0, .int .i64 0, .slice none 0 0, .bool false, .int .i64 0, .slice none 0 0, .int .i64 0, .int .i64 0, .int .i64 0, .slice none 0 0] 35)) (w.heap.size + 1) 35 #[.int .i64 0, .int .i64 0, .int .i64 0, .int .i64 0, .int .i64 0, .int .i64 0, .int .i64 0, .int .i64 0, .int .i64 0, .slice none 0 0, .bool false, .int .i64 0, .slice none 0 0, .int .i64 0, .int .i64 0, .int .i64 0, .slice none 0 0] := Blk.mk _ _ _ _ (by simp)
  have sz : ((w.alloc (.cells #[.int .i64 4, .slice a n c] 37)).alloc (.cells #[.int .i64 0, .int .i64 0, .int .i64 0, .int .i64 0, .int .i64 0, .int .i64 0, .int .i64 0, .int .i64 0, .int .i64 0, .slice none 0 0, .bool false, .int .i64 0, .slice none 0 0, .int .i64 0, .int .i64 0, .int .i64 0, .slice none 0 0] 35)).heap.size = w.heap.size + 2 := by simp
  have ge1 : w.heap.size ≤ w.heap.size + 1 := by omega
  have HF : Hid (ff 4 n = 0) := hff
  clear hff
  go_enter Try.func8, Try.ntmps8
  go_upto_region 1 with fail
  generalize ((w.alloc (.cells #[.int .i64 4, .slice a n c] 37)).alloc (.cells #[.int .i64 0, .int .i64 0, .int .i64 0, .int .i64 0, .int .i64 0, .int .i64 0, .int .i64 0, .int .i64 0, .int .i64 0, .slice none 0 0, .bool false, .int .i64 0, .slice none 0 0, .int .i64 0, .int .i64 0, .int .i64 0, .slice none 0 0] 35)) = w0 at *
  have cF0 := bF.cells
  go_wp2_with fail
  refine (implFF 4 a n c _ hm).mono ?_
  rintro e w1 ⟨rfl, hn1⟩
  rw [HF.out]
  have hw1 := hw.trans hn1
  have bF1 := bF.new hn1
  have bR1 := bR.new hn1
  have s1 := hn1.size
  have cF := bF1.cells
  clear cF0
  have key := hcall w1 hw1
  clear hcall
  go_wp2_with fail
  refine key.mono ?_
  rintro e w2 ⟨x, y, z, rfl, hG, hn2⟩
  obtain ⟨ga, gc, ex⟩ := hG.g.slice
  obtain ⟨xa, xc, ey⟩ := hG.n.slice
  obtain ⟨ra, rc, ez⟩ := hG.r.slice
  subst ex
  subst ey
  subst ez
  have hw2 := hw1.trans hn2
  have bR2 := bR1.new hn2
  unfold mrV
  go_wp2_with (refine wpList_store_row rfl 35 (.tmp 2) (.tmp 29) rfl (w.heap.size + 1) #[.int .i64 H.code, .int .i64 H.why, .int .i64 H.sub, .int .i64 H.kd, .int .i64 H.sa, .int .i64 H.ho, .int .i64 H.si, .int .i64 H.wh, .int .i64 H.su, .slice ga p.gs.length gc, .bool p.has, .int .i64 p.o, .slice xa p.xs.length xc, .int .i64 p.nx, .int .i64 p.md, .int .i64 p.lc, .slice ra p.rs.length rc] rfl rfl 35 #[.int .i64 0, .int .i64 0, .int .i64 0, .int .i64 0, .int .i64 0, .int .i64 0, .int .i64 0, .int .i64 0, .int .i64 0, .slice none 0 0, .bool false, .int .i64 0, .slice none 0 0, .int .i64 0, .int .i64 0, .int .i64 0, .slice none 0 0] bR2 (by kernel_rfl) rfl (by kernel_rfl) ?_)
  go_wp2
  refine bodyPost_ret (v := .agg #[.int .i64 H.code, .int .i64 H.why, .int .i64 H.sub, .int .i64 H.kd, .int .i64 H.sa, .int .i64 H.ho, .int .i64 H.si, .int .i64 H.wh, .int .i64 H.su, .slice ga p.gs.length gc, .bool p.has, .int .i64 p.o, .slice xa p.xs.length xc, .int .i64 p.nx, .int .i64 p.md, .int .i64 p.lc, .slice ra p.rs.length rc]) ?_ rfl ⟨_, _, _, rfl, (hG.turn (S := fun k => k = w.heap.size + 1) (Turn.row (Turn.refl _ _) _) (fun g hg e => by omega)).low hw1.size, hw2.row ge1 _⟩
  exact results_row (B := w.heap.size + 1) (cs := #[.int .i64 H.code, .int .i64 H.why, .int .i64 H.sub, .int .i64 H.kd, .int .i64 H.sa, .int .i64 H.ho, .int .i64 H.si, .int .i64 H.wh, .int .i64 H.su, .slice ga p.gs.length gc, .bool p.has, .int .i64 p.o, .slice xa p.xs.length xc, .int .i64 p.nx, .int .i64 p.md, .int .i64 p.lc, .slice ra p.rs.length rc]) rfl rfl (bR2.row _) ⟨_, Try.underlying35⟩ (by kernel_rfl)

set_option maxHeartbeats 3200000 in
theorem parse_bad (k : Int) (a : Option Addr) (n c : Nat) (w : World) (hm : n ≤ 1048576) (hff : ff k n ≠ 0) :
    Calls Try.prog 8 #[.agg #[.int .i64 k, .slice a n c]] w fun e w' => e = .returned (mrV (mhB (ff k n) 1 3) (puZ 0) (.slice none 0 0) (.slice none 0 0) (.slice none 0 0)) ∧ New w w' := by
  have hw := ((New.refl w).alloc (.cells #[.int .i64 k, .slice a n c] 37)).alloc (.cells #[.int .i64 0, .int .i64 0, .int .i64 0, .int .i64 0, .int .i64 0, .int .i64 0, .int .i64 0, .int .i64 0, .int .i64 0, .slice none 0 0, .bool false, .int .i64 0, .slice none 0 0, .int .i64 0, .int .i64 0, .int .i64 0, .slice none 0 0] 35)
  have bF : Blk ((w.alloc (.cells #[.int .i64 k, .slice a n c] 37)).alloc (.cells #[.int .i64 0, .int .i64 0, .int .i64 0, .int .i64 0, .int .i64 0, .int .i64 0, .int .i64 0, .int .i64 0, .int .i64 0, .slice none 0 0, .bool false, .int .i64 0, .slice none 0 0, .int .i64 0, .int .i64 0, .int .i64 0, .slice none 0 0] 35)) w.heap.size 37 #[.int .i64 k, .slice a n c] := (Blk.mk _ _ _ _ rfl).alloc _
  have bR : Blk ((w.alloc (.cells #[.int .i64 k, .slice a n c] 37)).alloc (.cells #[.int .i64 0, .int .i64 0, .int .i64 0, .int .i64 0, .int .i64 0, .int .i64 0, .int .i64 0, .int .i64 0, .int .i64 0, .slice none 0 0, .bool false, .int .i64 0, .slice none 0 0, .int .i64 0, .int .i64 0, .int .i64 0, .slice none 0 0] 35)) (w.heap.size + 1) 35 #[.int .i64 0, .int .i64 0, .int .i64 0, .int .i64 0, .int .i64 0, .int .i64 0, .int .i64 0, .int .i64 0, .int .i64 0, .slice none 0 0, .bool false, .int .i64 0, .slice none 0 0, .int .i64 0, .int .i64 0, .int .i64 0, .slice none 0 0] := Blk.mk _ _ _ _ (by simp)
  have sz : ((w.alloc (.cells #[.int .i64 k, .slice a n c] 37)).alloc (.cells #[.int .i64 0, .int .i64 0, .int .i64 0, .int .i64 0, .int .i64 0, .int .i64 0, .int .i64 0, .int .i64 0, .int .i64 0, .slice none 0 0, .bool false, .int .i64 0, .slice none 0 0, .int .i64 0, .int .i64 0, .int .i64 0, .slice none 0 0] 35)).heap.size = w.heap.size + 2 := by simp
  have ge1 : w.heap.size ≤ w.heap.size + 1 := by omega
  generalize hq : ff k n = q at hff ⊢
  have HQ : Hid (ff k n = q) := hq
  clear hq
  have e1 : (q != 0) = true := by simpa using hff
  clear hff
  go_enter Try.func8, Try.ntmps8
  go_upto_region 1 with fail
  generalize ((w.alloc (.cells #[.int .i64 k, .slice a n c] 37)).alloc (.cells #[.int .i64 0, .int .i64 0, .int .i64 0, .int .i64 0, .int .i64 0, .int .i64 0, .int .i64 0, .int .i64 0, .int .i64 0, .slice none 0 0, .bool false, .int .i64 0, .slice none 0 0, .int .i64 0, .int .i64 0, .int .i64 0, .slice none 0 0] 35)) = w0 at *
  have cF0 := bF.cells
  go_wp2_with fail
  refine (implFF k a n c _ hm).mono ?_
  rintro e w1 ⟨rfl, hn1⟩
  have hw1 := hw.trans hn1
  have bR1 := bR.new hn1
  rw [HQ.out]
  go_wp2_with (refine wpList_store_row rfl 35 (.tmp 2) (.tmp 9) rfl (w.heap.size + 1) #[.int .i64 q, .int .i64 1, .int .i64 3, .int .i64 0, .int .i64 0, .int .i64 0, .int .i64 0, .int .i64 0, .int .i64 0, .slice none 0 0, .bool false, .int .i64 0, .slice none 0 0, .int .i64 0, .int .i64 0, .int .i64 0, .slice none 0 0] rfl rfl 35 #[.int .i64 0, .int .i64 0, .int .i64 0, .int .i64 0, .int .i64 0, .int .i64 0, .int .i64 0, .int .i64 0, .int .i64 0, .slice none 0 0, .bool false, .int .i64 0, .slice none 0 0, .int .i64 0, .int .i64 0, .int .i64 0, .slice none 0 0] bR1 (by kernel_rfl) rfl (by kernel_rfl) ?_)
  go_wp2
  refine bodyPost_ret (v := .agg #[.int .i64 q, .int .i64 1, .int .i64 3, .int .i64 0, .int .i64 0, .int .i64 0, .int .i64 0, .int .i64 0, .int .i64 0, .slice none 0 0, .bool false, .int .i64 0, .slice none 0 0, .int .i64 0, .int .i64 0, .int .i64 0, .slice none 0 0]) ?_ rfl ⟨rfl, hw1.row ge1 _⟩
  exact results_row (B := w.heap.size + 1) (cs := #[.int .i64 q, .int .i64 1, .int .i64 3, .int .i64 0, .int .i64 0, .int .i64 0, .int .i64 0, .int .i64 0, .int .i64 0, .slice none 0 0, .bool false, .int .i64 0, .slice none 0 0, .int .i64 0, .int .i64 0, .int .i64 0, .slice none 0 0]) rfl rfl (bR1.row _) ⟨_, Try.underlying35⟩ (by kernel_rfl)

theorem implPMsg (k : Int) (a : Option Addr) (n c : Nat) (zs : List Int) (w : World) (h : BsAt w a zs) (hn : zs.length = n) (hcc : n ≤ c) (hm : n ≤ 1048576) :
    Calls Try.prog 8 #[.agg #[.int .i64 k, .slice a n c]] w fun e w' => ∃ x y z, e = .returned (mrV (mh k zs) (mp k zs) x y z) ∧ Got w' w.heap.size (mp k zs) x y z ∧ New w w' := by
  by_cases hf : ff k n = 0
  case neg =>
    have hb := mh_bad (k := k) (zs := zs) (by rw [hn]; exact hf)
    rw [hb.1, hb.2, hn]
    refine (parse_bad k a n c w hm hf).mono ?_
    rintro e w' ⟨rfl, hN⟩
    exact ⟨_, _, _, rfl, got_none _ _, hN⟩
  obtain ⟨k1, k4, -⟩ := ff_zero hf
  have hz : ¬ ff k zs.length ≠ 0 := by rw [hn]; exact fun q => q hf
  have one : ∀ {F : Nat} {H : MH}, (∀ W, New w W → Calls Try.prog F #[.slice a n c] W fun e w' => e = .returned (mrV H (puZ 0) (.slice none 0 0) (.slice none 0 0) (.slice none 0 0)) ∧ New W w') → ∀ W, New w W → Calls Try.prog F #[.slice a n c] W fun e w' => ∃ x y z, e = .returned (mrV H (puZ 0) x y z) ∧ Got w' W.heap.size (puZ 0) x y z ∧ New W w' := by
    intro F H hq W hW
    refine (hq W hW).mono ?_
    rintro e w' ⟨rfl, hN⟩
    exact ⟨_, _, _, rfl, got_none _ _, hN⟩
  rcases (show k = 1 ∨ k = 2 ∨ k = 3 ∨ k = 4 by omega) with rfl | rfl | rfl | rfl
  · rw [(mh_1 hz).1, (mh_1 hz).2]
    exact parse_1 a n c _ _ w hm hf (one fun W hW => openFrom_any a n c zs W (h.new hW) hn hcc hm)
  · rw [(mh_2 hz).1, (mh_2 hz).2]
    exact parse_2 a n c _ _ w hm hf (fun W hW => updateFrom_any a n c zs W (h.new hW) hn hcc hm)
  · rw [(mh_3 hz).1, (mh_3 hz).2]
    exact parse_3 a n c _ _ w hm hf (one fun W hW => notifyFrom_any a n c zs W (h.new hW) hn hm)
  · rw [(mh_4 hz).1, (mh_4 hz).2]
    exact parse_4 a n c _ _ w hm hf (one fun W hW => keepFrom_any a n c zs W hn hm)

end Go.Proofs.Ytnhkmgibppiimaa

namespace Go.Proofs.Ytnhkmgibppiimaa
open Go.RowKit Go.Sort
set_option linter.unusedVariables false

theorem openS_any (a : Option Addr) (n c : Nat) (zs : List Int) (w : World) (h : BsAt w a zs) (hn : zs.length = n) (hc : n ≤ c) (hm : n ≤ 1048576) :
    Calls Try.prog 25 #[.slice a n c] w fun e w' => e = .returned (mrV (mhO zs) (puZ 0) (.slice none 0 0) (.slice none 0 0) (.slice none 0 0)) ∧ New w w' := by
  by_cases h5 : n = 5
  case neg =>
    rw [mhO_size (by omega)]
    exact open4_size a n c w h5 hm
  subst h5
  have h5 : zs.length = 5 := hn
  obtain ⟨b, off, ho, rfl, hho, -, -⟩ := h.at 2 (by omega)
  have hb := h.lt
  have b1 := numAt_bd2 zs hb 0
  have b2 := numAt_bd2 zs hb 3
  by_cases g1 : numAt zs 0 2 = 0
  · rw [mhO_as h5 g1]
    exact open4_as b off c zs (numAt zs 0 2) ho (numAt zs 3 2) w h h5 rfl hho rfl g1
  by_cases g2 : numAt zs 3 2 = 0
  · rw [mhO_id h5 g1 g2]
    exact open4_id b off c zs (numAt zs 0 2) ho (numAt zs 3 2) w h h5 rfl hho rfl g1 g2
  by_cases g3 : Hl (zs.getD 2 0)
  · rw [mhO_ok h5 g1 g2 g3, getD_at hho]
    rw [getD_at hho] at g3
    exact open4_ok b off c zs (numAt zs 0 2) ho (numAt zs 3 2) w h h5 rfl hho rfl g1 g2 g3
  · rw [mhO_hold h5 g1 g2 g3]
    rw [getD_at hho] at g3
    exact open4_hold b off c zs (numAt zs 0 2) ho (numAt zs 3 2) w h h5 rfl hho rfl g1 g2 g3


set_option maxHeartbeats 1600000 in
theorem nt4_size (a : Option Addr) (n c : Nat) (w : World) (h : n ≠ 2) (hm : n ≤ 1048576) : Calls Try.prog 26 #[.slice a n c] w fun e w' => e = .returned (mrV (mhB 5 1 2) (puZ 0) (.slice none 0 0) (.slice none 0 0) (.slice none 0 0)) ∧ New w w' := by
  have e1 : ((n : Int) != 2) = true := by simp; omega
  clear h
  have hw := (New.refl w).alloc (.cells #[.int .i64 0, .int .i64 0, .int .i64 0, .int .i64 0, .int .i64 0, .int .i64 0, .int .i64 0, .int .i64 0, .int .i64 0, .slice none 0 0, .bool false, .int .i64 0, .slice none 0 0, .int .i64 0, .int .i64 0, .int .i64 0, .slice none 0 0] 35)
  have bR := Blk.mk w w.heap.size 35 #[.int .i64 0, .int .i64 0, .int .i64 0, .int .i64 0, .int .i64 0, .int .i64 0, .int .i64 0, .int .i64 0, .int .i64 0, .slice none 0 0, .bool false, .int .i64 0, .slice none 0 0, .int .i64 0, .int .i64 0, .int .i64 0, .slice none 0 0] rfl
  have ge0 : w.heap.size ≤ w.heap.size := Nat.le_refl _
  go_enter Try.func26, Try.ntmps26
  go_upto_region 1 with fail
  generalize w.alloc (.cells #[.int .i64 0, .int .i64 0, .int .i64 0, .int .i64 0, .int .i64 0, .int .i64 0, .int .i64 0, .int .i64 0, .int .i64 0, .slice none 0 0, .bool false, .int .i64 0, .slice none 0 0, .int .i64 0, .int .i64 0, .int .i64 0, .slice none 0 0] 35) = w0 at *
  have cR := bR.cells
  have fR := bR.frees
  clear cR fR
  go_wp2_with fail
  refine (bad4 5 1 2 _).mono ?_
  rintro e w9 ⟨rfl, hn9⟩
  have b9 := bR.new hn9
  have hw9 := hw.trans hn9
  go_wp2_with (refine wpList_store_row rfl 35 (.tmp 2) (.tmp 7) rfl w.heap.size #[.int .i64 5, .int .i64 1, .int .i64 2, .int .i64 0, .int .i64 0, .int .i64 0, .int .i64 0, .int .i64 0, .int .i64 0, .slice none 0 0, .bool false, .int .i64 0, .slice none 0 0, .int .i64 0, .int .i64 0, .int .i64 0, .slice none 0 0] rfl rfl 35 #[.int .i64 0, .int .i64 0, .int .i64 0, .int .i64 0, .int .i64 0, .int .i64 0, .int .i64 0, .int .i64 0, .int .i64 0, .slice none 0 0, .bool false, .int .i64 0, .slice none 0 0, .int .i64 0, .int .i64 0, .int .i64 0, .slice none 0 0] b9 (by kernel_rfl) rfl (by kernel_rfl) ?_)
  go_wp2
  refine bodyPost_ret (v := .agg #[.int .i64 5, .int .i64 1, .int .i64 2, .int .i64 0, .int .i64 0, .int .i64 0, .int .i64 0, .int .i64 0, .int .i64 0, .slice none 0 0, .bool false, .int .i64 0, .slice none 0 0, .int .i64 0, .int .i64 0, .int .i64 0, .slice none 0 0]) ?_ rfl ⟨rfl, hw9.row (Nat.le_refl _) _⟩
  exact results_row (B := w.heap.size) (cs := #[.int .i64 5, .int .i64 1, .int .i64 2, .int .i64 0, .int .i64 0, .int .i64 0, .int .i64 0, .int .i64 0, .int .i64 0, .slice none 0 0, .bool false, .int .i64 0, .slice none 0 0, .int .i64 0, .int .i64 0, .int .i64 0, .slice none 0 0]) rfl rfl (b9.row _) ⟨_, Try.underlying35⟩ (by kernel_rfl)


set_option maxRecDepth 100000 in
set_option maxHeartbeats 3200000 in
theorem nt4_bad (b off c : Nat) (z0 z1 : Int) (w : World) (h0 : w.cell? ⟨b, off, none⟩ = some (.int .u8 z0)) (h1' : w.cell? ⟨b, off + 1, none⟩ = some (.int .u8 z1)) (b0 : 0 ≤ z0) (b0' : z0 ≤ 255) (b1 : 0 ≤ z1) (b1' : z1 ≤ 255) (h1 : ¬ Nty z0 z1) :
    Calls Try.prog 26 #[.slice (some ⟨b, off, none⟩) 2 c] w fun e w' => e = .returned (.agg #[.int .i64 3, .int .i64 1, .int .i64 2, .int .i64 0, .int .i64 0, .int .i64 0, .int .i64 0, .int .i64 0, .int .i64 0, .slice none 0 0, .bool false, .int .i64 0, .slice none 0 0, .int .i64 0, .int .i64 0, .int .i64 0, .slice none 0 0]) ∧ New w w' := by
  have hw := (New.refl w).alloc (.cells #[.int .i64 0, .int .i64 0, .int .i64 0, .int .i64 0, .int .i64 0, .int .i64 0, .int .i64 0, .int .i64 0, .int .i64 0, .slice none 0 0, .bool false, .int .i64 0, .slice none 0 0, .int .i64 0, .int .i64 0, .int .i64 0, .slice none 0 0] 35)
  have bR := Blk.mk w w.heap.size 35 #[.int .i64 0, .int .i64 0, .int .i64 0, .int .i64 0, .int .i64 0, .int .i64 0, .int .i64 0, .int .i64 0, .int .i64 0, .slice none 0 0, .bool false, .int .i64 0, .slice none 0 0, .int .i64 0, .int .i64 0, .int .i64 0, .slice none 0 0] rfl
  have ge0 : w.heap.size ≤ w.heap.size := Nat.le_refl _
  have HMF : Hid (mf 3 0 0 0 z0 z1 [] false 0 [] 0 0 0 [] = 3) := by show _ = _; unfold mf; rw [if_neg (by omega), if_neg (by omega), if_pos ⟨rfl, h1⟩]
  have q0 : IntKind.i64.wrap z0 = z0 := by simp [IntKind.wrap, IntKind.signed, IntKind.bits]; omega
  have q1 : IntKind.i64.wrap z1 = z1 := by simp [IntKind.wrap, IntKind.signed, IntKind.bits]; omega
  have g0 := (hw.below.cell (World.block_lt_of_cell? _ _ h0)).trans h0
  have g1 := (hw.below.cell (World.block_lt_of_cell? _ _ h1')).trans h1'
  clear h0 h1' h1
  go_enter Try.func26, Try.ntmps26
  go_upto_region 1 with fail
  generalize w.alloc (.cells #[.int .i64 0, .int .i64 0, .int .i64 0, .int .i64 0, .int .i64 0, .int .i64 0, .int .i64 0, .int .i64 0, .int .i64 0, .slice none 0 0, .bool false, .int .i64 0, .slice none 0 0, .int .i64 0, .int .i64 0, .int .i64 0, .slice none 0 0] 35) = w0 at *
  have cR := bR.cells
  have fR := bR.frees
  clear cR fR
  have hcell0 : ∀ X, New w0 X → X.cell? ⟨b, off, none⟩ = some (.int .u8 z0) := fun X hX => (hX.below.cell (World.block_lt_of_cell? _ _ g0)).trans g0
  have hcell1 : ∀ X, New w0 X → X.cell? ⟨b, off + 1, none⟩ = some (.int .u8 z1) := fun X hX => (hX.below.cell (World.block_lt_of_cell? _ _ g1)).trans g1
  go_upto_region 3 with fail
  refine hw_start (n := 11) (S := fun X => New w0 X) rfl (by kernel_rfl) ((New.refl _).drew) (fun hH => ?_)
  refine' hw_take 0 (some 8) _ rfl rfl (by kernel_rfl) (by kernel_rfl) (by kernel_rfl) (fun _ _ _ h => h) (by rfl) hH ?hy1 ?rest1
  case hy1 =>
    intro X hX
    have hX0 := hcell0 X hX
    have hX1 := hcell1 X hX
    go_simp
    try rfl
  simp only [Act.put, List.setIfInBounds_toArray, List.set_cons_zero, List.set_cons_succ]
  refine' hw_take 1 (some 9) _ rfl rfl (by kernel_rfl) (by kernel_rfl) (by kernel_rfl) (fun _ _ _ h => h) (by rfl) hH ?hy2 ?rest2
  case hy2 =>
    intro X hX
    have hX0 := hcell0 X hX
    have hX1 := hcell1 X hX
    go_simp
    try rfl
  simp only [Act.put, List.setIfInBounds_toArray, List.set_cons_zero, List.set_cons_succ]
  refine' hw_take 2 (some 10) _ rfl rfl (by kernel_rfl) (by kernel_rfl) (by kernel_rfl) (fun _ _ _ h => h) (by rfl) hH ?hy3 ?rest3
  case hy3 =>
    intro X hX
    have hX0 := hcell0 X hX
    have hX1 := hcell1 X hX
    go_simp
    try rfl
  simp only [Act.put, List.setIfInBounds_toArray, List.set_cons_zero, List.set_cons_succ]
  refine' hw_take 3 (some 11) _ rfl rfl (by kernel_rfl) (by kernel_rfl) (by kernel_rfl) (fun _ _ _ h => h) (by rfl) hH ?hy4 ?rest4
  case hy4 =>
    intro X hX
    have hX0 := hcell0 X hX
    have hX1 := hcell1 X hX
    go_simp
    try rfl
  simp only [Act.put, List.setIfInBounds_toArray, List.set_cons_zero, List.set_cons_succ]
  refine' hw_take 4 (some 12) _ rfl rfl (by kernel_rfl) (by kernel_rfl) (by kernel_rfl) (fun _ _ _ h => h) (by rfl) hH ?hy5 ?rest5
  case hy5 =>
    intro X hX
    have hX0 := hcell0 X hX
    have hX1 := hcell1 X hX
    go_simp
    try rfl
  simp only [Act.put, List.setIfInBounds_toArray, List.set_cons_zero, List.set_cons_succ]
  refine' hw_take 5 (some 13) _ rfl rfl (by kernel_rfl) (by kernel_rfl) (by kernel_rfl) (fun _ _ _ h => h) (by rfl) hH ?hy6 ?rest6
  case hy6 =>
    intro X hX
    have hX0 := hcell0 X hX
    have hX1 := hcell1 X hX
    go_simp
    try rfl
  simp only [Act.put, List.setIfInBounds_toArray, List.set_cons_zero, List.set_cons_succ]
  refine' hw_take 6 (some 14) _ rfl rfl (by kernel_rfl) (by kernel_rfl) (by kernel_rfl) (fun _ _ _ h => h) (by rfl) hH ?hy7 ?rest7
  case hy7 =>
    intro X hX
    have hX0 := hcell0 X hX
    have hX1 := hcell1 X hX
    go_simp
    try rfl
  simp only [Act.put, List.setIfInBounds_toArray, List.set_cons_zero, List.set_cons_succ]
  refine' hw_take 7 (some 15) _ rfl rfl (by kernel_rfl) (by kernel_rfl) (by kernel_rfl) (fun _ _ _ h => h) (by rfl) hH ?hy8 ?rest8
  case hy8 =>
    intro X hX
    have hX0 := hcell0 X hX
    have hX1 := hcell1 X hX
    go_simp
    try rfl
  simp only [Act.put, List.setIfInBounds_toArray, List.set_cons_zero, List.set_cons_succ]
  refine' hw_take 8 (some 16) _ rfl rfl (by kernel_rfl) (by kernel_rfl) (by kernel_rfl) (fun _ _ _ h => h) (by rfl) hH ?hy9 ?rest9
  case hy9 =>
    intro X hX
    have hX0 := hcell0 X hX
    have hX1 := hcell1 X hX
    go_simp
    try rfl
  simp only [Act.put, List.setIfInBounds_toArray, List.set_cons_zero, List.set_cons_succ]
  refine hw_call 9 (some 3) rfl rfl (by kernel_rfl) (by rfl) (fun K hK => ?_)
  go_simp
  refine hK.out _ _ (hH.alloc _) (fun hH => ?_)
  simp only [Act.put, List.setIfInBounds_toArray, List.set_cons_zero, List.set_cons_succ]
  refine hw_call 10 none rfl rfl (by kernel_rfl) (by rfl) (fun K hK => ?_)
  have qb := Blk.mk w0.drew w0.heap.size 33 #[.int .i64 0, .int .i64 0, .int .i64 0, .int .i64 0, .int .i64 0, .int .i64 0, .slice none 0 0, .bool false, .int .i64 0, .slice none 0 0, .int .i64 0, .int .i64 0, .int .i64 0, .slice none 0 0] rfl
  refine hw_store 33 (.tmp 3) (.tmp 16) rfl rfl w0.heap.size #[.int .i64 3, .int .i64 0, .int .i64 0, .int .i64 0, .int .i64 z0, .int .i64 z1, .slice none 0 0, .bool false, .int .i64 0, .slice none 0 0, .int .i64 0, .int .i64 0, .int .i64 0, .slice none 0 0] #[.int .i64 0, .int .i64 0, .int .i64 0, .int .i64 0, .int .i64 0, .int .i64 0, .slice none 0 0, .bool false, .int .i64 0, .slice none 0 0, .int .i64 0, .int .i64 0, .int .i64 0, .slice none 0 0] rfl rfl qb (by kernel_rfl) rfl (by kernel_rfl) ?_
  have bM := qb.rowW #[.int .i64 3, .int .i64 0, .int .i64 0, .int .i64 0, .int .i64 z0, .int .i64 z1, .slice none 0 0, .bool false, .int .i64 0, .slice none 0 0, .int .i64 0, .int .i64 0, .int .i64 0, .slice none 0 0]
  have hNz : New w0 (World.setRow (w0.drew.alloc (.cells #[.int .i64 0, .int .i64 0, .int .i64 0, .int .i64 0, .int .i64 0, .int .i64 0, .slice none 0 0, .bool false, .int .i64 0, .slice none 0 0, .int .i64 0, .int .i64 0, .int .i64 0, .slice none 0 0] 33)) w0.heap.size #[.int .i64 3, .int .i64 0, .int .i64 0, .int .i64 0, .int .i64 z0, .int .i64 z1, .slice none 0 0, .bool false, .int .i64 0, .slice none 0 0, .int .i64 0, .int .i64 0, .int .i64 0, .slice none 0 0]) := hH.before (Turn.rowW (S := fun k => k = w0.heap.size) (Turn.refl _ _) (show w0.heap.size = w0.heap.size from rfl) #[.int .i64 3, .int .i64 0, .int .i64 0, .int .i64 0, .int .i64 z0, .int .i64 z1, .slice none 0 0, .bool false, .int .i64 0, .slice none 0 0, .int .i64 0, .int .i64 0, .int .i64 0, .slice none 0 0]) (fun i hi e => by omega)
  refine hK.out _ _ hNz (fun hH => ?_)
  simp only [Act.put]
  refine wpAnyH_done (by kernel_rfl) ?_ _
  clear hH qb
  have bRz := bR.new hNz
  have hwz := hw.trans hNz
  try rw [show ((w0.alloc (.cells #[.int .i64 0, .int .i64 0, .int .i64 0, .int .i64 0, .int .i64 0, .int .i64 0, .slice none 0 0, .bool false, .int .i64 0, .slice none 0 0, .int .i64 0, .int .i64 0, .int .i64 0, .slice none 0 0] 33)).drew.setRow w0.heap.size #[.int .i64 3, .int .i64 0, .int .i64 0, .int .i64 0, .int .i64 z0, .int .i64 z1, .slice none 0 0, .bool false, .int .i64 0, .slice none 0 0, .int .i64 0, .int .i64 0, .int .i64 0, .slice none 0 0]) = ((w0.drew.alloc (.cells #[.int .i64 0, .int .i64 0, .int .i64 0, .int .i64 0, .int .i64 0, .int .i64 0, .slice none 0 0, .bool false, .int .i64 0, .slice none 0 0, .int .i64 0, .int .i64 0, .int .i64 0, .slice none 0 0] 33)).setRow w0.heap.size #[.int .i64 3, .int .i64 0, .int .i64 0, .int .i64 0, .int .i64 z0, .int .i64 z1, .slice none 0 0, .bool false, .int .i64 0, .slice none 0 0, .int .i64 0, .int .i64 0, .int .i64 0, .slice none 0 0]) from rfl]
  generalize ((w0.drew.alloc (.cells #[.int .i64 0, .int .i64 0, .int .i64 0, .int .i64 0, .int .i64 0, .int .i64 0, .slice none 0 0, .bool false, .int .i64 0, .slice none 0 0, .int .i64 0, .int .i64 0, .int .i64 0, .slice none 0 0] 33)).setRow w0.heap.size #[.int .i64 3, .int .i64 0, .int .i64 0, .int .i64 0, .int .i64 z0, .int .i64 z1, .slice none 0 0, .bool false, .int .i64 0, .slice none 0 0, .int .i64 0, .int .i64 0, .int .i64 0, .slice none 0 0]) = wz at *
  have cM := bM.cells
  go_wp2_with fail
  refine (specMF none none none 0 0 0 0 0 0 false 0 0 0 0 [] [] [] 3 0 0 0 z0 z1 _ (PsAt.nil _ _) (NsAt.nil _ _) (PsAt.nil _ _) rfl rfl rfl (by omega) (by omega) (by omega)).mono ?_
  rintro e wy ⟨rfl, hny⟩
  have bM := bM.new hny
  have bRz := bRz.new hny
  have hwz := hwz.trans hny
  rw [HMF.out]
  clear cM
  go_wp2_with fail
  refine (bad4 3 1 2 _).mono ?_
  rintro e w9 ⟨rfl, hn9⟩
  have b9 := bRz.new hn9
  have hw9 := hwz.trans hn9
  go_wp2_with (refine wpList_store_row rfl 35 (.tmp 2) (.tmp 20) rfl w.heap.size #[.int .i64 3, .int .i64 1, .int .i64 2, .int .i64 0, .int .i64 0, .int .i64 0, .int .i64 0, .int .i64 0, .int .i64 0, .slice none 0 0, .bool false, .int .i64 0, .slice none 0 0, .int .i64 0, .int .i64 0, .int .i64 0, .slice none 0 0] rfl rfl 35 #[.int .i64 0, .int .i64 0, .int .i64 0, .int .i64 0, .int .i64 0, .int .i64 0, .int .i64 0, .int .i64 0, .int .i64 0, .slice none 0 0, .bool false, .int .i64 0, .slice none 0 0, .int .i64 0, .int .i64 0, .int .i64 0, .slice none 0 0] b9 (by kernel_rfl) rfl (by kernel_rfl) ?_)
  go_wp2
  refine bodyPost_ret (v := .agg #[.int .i64 3, .int .i64 1, .int .i64 2, .int .i64 0, .int .i64 0, .int .i64 0, .int .i64 0, .int .i64 0, .int .i64 0, .slice none 0 0, .bool false, .int .i64 0, .slice none 0 0, .int .i64 0, .int .i64 0, .int .i64 0, .slice none 0 0]) ?_ rfl ⟨rfl, hw9.row (Nat.le_refl _) _⟩
  exact results_row (B := w.heap.size) (cs := #[.int .i64 3, .int .i64 1, .int .i64 2, .int .i64 0, .int .i64 0, .int .i64 0, .int .i64 0, .int .i64 0, .int .i64 0, .slice none 0 0, .bool false, .int .i64 0, .slice none 0 0, .int .i64 0, .int .i64 0, .int .i64 0, .slice none 0 0]) rfl rfl (b9.row _) ⟨_, Try.underlying35⟩ (by kernel_rfl)


set_option maxRecDepth 100000 in
set_option maxHeartbeats 3200000 in
theorem nt4_ok (b off c : Nat) (z0 z1 : Int) (w : World) (h0 : w.cell? ⟨b, off, none⟩ = some (.int .u8 z0)) (h1' : w.cell? ⟨b, off + 1, none⟩ = some (.int .u8 z1)) (b0 : 0 ≤ z0) (b0' : z0 ≤ 255) (b1 : 0 ≤ z1) (b1' : z1 ≤ 255) (h1 : Nty z0 z1) :
    Calls Try.prog 26 #[.slice (some ⟨b, off, none⟩) 2 c] w fun e w' => e = .returned (.agg #[.int .i64 0, .int .i64 0, .int .i64 0, .int .i64 3, .int .i64 0, .int .i64 0, .int .i64 0, .int .i64 z0, .int .i64 z1, .slice none 0 0, .bool false, .int .i64 0, .slice none 0 0, .int .i64 0, .int .i64 0, .int .i64 0, .slice none 0 0]) ∧ New w w' := by
  have hw := (New.refl w).alloc (.cells #[.int .i64 0, .int .i64 0, .int .i64 0, .int .i64 0, .int .i64 0, .int .i64 0, .int .i64 0, .int .i64 0, .int .i64 0, .slice none 0 0, .bool false, .int .i64 0, .slice none 0 0, .int .i64 0, .int .i64 0, .int .i64 0, .slice none 0 0] 35)
  have bR := Blk.mk w w.heap.size 35 #[.int .i64 0, .int .i64 0, .int .i64 0, .int .i64 0, .int .i64 0, .int .i64 0, .int .i64 0, .int .i64 0, .int .i64 0, .slice none 0 0, .bool false, .int .i64 0, .slice none 0 0, .int .i64 0, .int .i64 0, .int .i64 0, .slice none 0 0] rfl
  have ge0 : w.heap.size ≤ w.heap.size := Nat.le_refl _
  have HMF : Hid (mf 3 0 0 0 z0 z1 [] false 0 [] 0 0 0 [] = 0) := by show _ = _; unfold mf; rw [if_neg (by omega), if_neg (by omega), if_neg (fun q => q.2 h1), if_neg (fun q => q ⟨fun _ => ⟨rfl, rfl, rfl⟩, fun q => absurd rfl q, fun _ => ⟨rfl, rfl, rfl, rfl, rfl, rfl, rfl, rfl⟩⟩), if_neg (by omega)]
  have q0 : IntKind.i64.wrap z0 = z0 := by simp [IntKind.wrap, IntKind.signed, IntKind.bits]; omega
  have q1 : IntKind.i64.wrap z1 = z1 := by simp [IntKind.wrap, IntKind.signed, IntKind.bits]; omega
  have g0 := (hw.below.cell (World.block_lt_of_cell? _ _ h0)).trans h0
  have g1 := (hw.below.cell (World.block_lt_of_cell? _ _ h1')).trans h1'
  clear h0 h1' h1
  go_enter Try.func26, Try.ntmps26
  go_upto_region 1 with fail
  generalize w.alloc (.cells #[.int .i64 0, .int .i64 0, .int .i64 0, .int .i64 0, .int .i64 0, .int .i64 0, .int .i64 0, .int .i64 0, .int .i64 0, .slice none 0 0, .bool false, .int .i64 0, .slice none 0 0, .int .i64 0, .int .i64 0, .int .i64 0, .slice none 0 0] 35) = w0 at *
  have cR := bR.cells
  have fR := bR.frees
  clear cR fR
  have hcell0 : ∀ X, New w0 X → X.cell? ⟨b, off, none⟩ = some (.int .u8 z0) := fun X hX => (hX.below.cell (World.block_lt_of_cell? _ _ g0)).trans g0
  have hcell1 : ∀ X, New w0 X → X.cell? ⟨b, off + 1, none⟩ = some (.int .u8 z1) := fun X hX => (hX.below.cell (World.block_lt_of_cell? _ _ g1)).trans g1
  go_upto_region 3 with fail
  refine hw_start (n := 11) (S := fun X => New w0 X) rfl (by kernel_rfl) ((New.refl _).drew) (fun hH => ?_)
  refine' hw_take 0 (some 8) _ rfl rfl (by kernel_rfl) (by kernel_rfl) (by kernel_rfl) (fun _ _ _ h => h) (by rfl) hH ?hy10 ?rest10
  case hy10 =>
    intro X hX
    have hX0 := hcell0 X hX
    have hX1 := hcell1 X hX
    go_simp
    try rfl
  simp only [Act.put, List.setIfInBounds_toArray, List.set_cons_zero, List.set_cons_succ]
  refine' hw_take 1 (some 9) _ rfl rfl (by kernel_rfl) (by kernel_rfl) (by kernel_rfl) (fun _ _ _ h => h) (by rfl) hH ?hy11 ?rest11
  case hy11 =>
    intro X hX
    have hX0 := hcell0 X hX
    have hX1 := hcell1 X hX
    go_simp
    try rfl
  simp only [Act.put, List.setIfInBounds_toArray, List.set_cons_zero, List.set_cons_succ]
  refine' hw_take 2 (some 10) _ rfl rfl (by kernel_rfl) (by kernel_rfl) (by kernel_rfl) (fun _ _ _ h => h) (by rfl) hH ?hy12 ?rest12
  case hy12 =>
    intro X hX
    have hX0 := hcell0 X hX
    have hX1 := hcell1 X hX
    go_simp
    try rfl
  simp only [Act.put, List.setIfInBounds_toArray, List.set_cons_zero, List.set_cons_succ]
  refine' hw_take 3 (some 11) _ rfl rfl (by kernel_rfl) (by kernel_rfl) (by kernel_rfl) (fun _ _ _ h => h) (by rfl) hH ?hy13 ?rest13
  case hy13 =>
    intro X hX
    have hX0 := hcell0 X hX
    have hX1 := hcell1 X hX
    go_simp
    try rfl
  simp only [Act.put, List.setIfInBounds_toArray, List.set_cons_zero, List.set_cons_succ]
  refine' hw_take 4 (some 12) _ rfl rfl (by kernel_rfl) (by kernel_rfl) (by kernel_rfl) (fun _ _ _ h => h) (by rfl) hH ?hy14 ?rest14
  case hy14 =>
    intro X hX
    have hX0 := hcell0 X hX
    have hX1 := hcell1 X hX
    go_simp
    try rfl
  simp only [Act.put, List.setIfInBounds_toArray, List.set_cons_zero, List.set_cons_succ]
  refine' hw_take 5 (some 13) _ rfl rfl (by kernel_rfl) (by kernel_rfl) (by kernel_rfl) (fun _ _ _ h => h) (by rfl) hH ?hy15 ?rest15
  case hy15 =>
    intro X hX
    have hX0 := hcell0 X hX
    have hX1 := hcell1 X hX
    go_simp
    try rfl
  simp only [Act.put, List.setIfInBounds_toArray, List.set_cons_zero, List.set_cons_succ]
  refine' hw_take 6 (some 14) _ rfl rfl (by kernel_rfl) (by kernel_rfl) (by kernel_rfl) (fun _ _ _ h => h) (by rfl) hH ?hy16 ?rest16
  case hy16 =>
    intro X hX
    have hX0 := hcell0 X hX
    have hX1 := hcell1 X hX
    go_simp
    try rfl
  simp only [Act.put, List.setIfInBounds_toArray, List.set_cons_zero, List.set_cons_succ]
  refine' hw_take 7 (some 15) _ rfl rfl (by kernel_rfl) (by kernel_rfl) (by kernel_rfl) (fun _ _ _ h => h) (by rfl) hH ?hy17 ?rest17
  case hy17 =>
    intro X hX
    have hX0 := hcell0 X hX
    have hX1 := hcell1 X hX
    go_simp
    try rfl
  simp only [Act.put, List.setIfInBounds_toArray, List.set_cons_zero, List.set_cons_succ]
  refine' hw_take 8 (some 16) _ rfl rfl (by kernel_rfl) (by kernel_rfl) (by kernel_rfl) (fun _ _ _ h => h) (by rfl) hH ?hy18 ?rest18
  case hy18 =>
    intro X hX
    have hX0 := hcell0 X hX
    have hX1 := hcell1 X hX
    go_simp
    try rfl
  simp only [Act.put, List.setIfInBounds_toArray, List.set_cons_zero, List.set_cons_succ]
  refine hw_call 9 (some 3) rfl rfl (by kernel_rfl) (by rfl) (fun K hK => ?_)
  go_simp
  refine hK.out _ _ (hH.alloc _) (fun hH => ?_)
  simp only [Act.put, List.setIfInBounds_toArray, List.set_cons_zero, List.set_cons_succ]
  refine hw_call 10 none rfl rfl (by kernel_rfl) (by rfl) (fun K hK => ?_)
  have qb := Blk.mk w0.drew w0.heap.size 33 #[.int .i64 0, .int .i64 0, .int .i64 0, .int .i64 0, .int .i64 0, .int .i64 0, .slice none 0 0, .bool false, .int .i64 0, .slice none 0 0, .int .i64 0, .int .i64 0, .int .i64 0, .slice none 0 0] rfl
  refine hw_store 33 (.tmp 3) (.tmp 16) rfl rfl w0.heap.size #[.int .i64 3, .int .i64 0, .int .i64 0, .int .i64 0, .int .i64 z0, .int .i64 z1, .slice none 0 0, .bool false, .int .i64 0, .slice none 0 0, .int .i64 0, .int .i64 0, .int .i64 0, .slice none 0 0] #[.int .i64 0, .int .i64 0, .int .i64 0, .int .i64 0, .int .i64 0, .int .i64 0, .slice none 0 0, .bool false, .int .i64 0, .slice none 0 0, .int .i64 0, .int .i64 0, .int .i64 0, .slice none 0 0] rfl rfl qb (by kernel_rfl) rfl (by kernel_rfl) ?_
  have bM := qb.rowW #[.int .i64 3, .int .i64 0, .int .i64 0, .int .i64 0, .int .i64 z0, .int .i64 z1, .slice none 0 0, .bool false, .int .i64 0, .slice none 0 0, .int .i64 0, .int .i64 0, .int .i64 0, .slice none 0 0]
  have hNz : New w0 (World.setRow (w0.drew.alloc (.cells #[.int .i64 0, .int .i64 0, .int .i64 0, .int .i64 0, .int .i64 0, .int .i64 0, .slice none 0 0, .bool false, .int .i64 0, .slice none 0 0, .int .i64 0, .int .i64 0, .int .i64 0, .slice none 0 0] 33)) w0.heap.size #[.int .i64 3, .int .i64 0, .int .i64 0, .int .i64 0, .int .i64 z0, .int .i64 z1, .slice none 0 0, .bool false, .int .i64 0, .slice none 0 0, .int .i64 0, .int .i64 0, .int .i64 0, .slice none 0 0]) := hH.before (Turn.rowW (S := fun k => k = w0.heap.size) (Turn.refl _ _) (show w0.heap.size = w0.heap.size from rfl) #[.int .i64 3, .int .i64 0, .int .i64 0, .int .i64 0, .int .i64 z0, .int .i64 z1, .slice none 0 0, .bool false, .int .i64 0, .slice none 0 0, .int .i64 0, .int .i64 0, .int .i64 0, .slice none 0 0]) (fun i hi e => by omega)
  refine hK.out _ _ hNz (fun hH => ?_)
  simp only [Act.put]
  refine wpAnyH_done (by kernel_rfl) ?_ _
  clear hH qb
  have bRz := bR.new hNz
  have hwz := hw.trans hNz
  try rw [show ((w0.alloc (.cells #[.int .i64 0, .int .i64 0, .int .i64 0, .int .i64 0, .int .i64 0, .int .i64 0, .slice none 0 0, .bool false, .int .i64 0, .slice none 0 0, .int .i64 0, .int .i64 0, .int .i64 0, .slice none 0 0] 33)).drew.setRow w0.heap.size #[.int .i64 3, .int .i64 0, .int .i64 0, .int .i64 0, .int .i64 z0, .int .i64 z1, .slice none 0 0, .bool false, .int .i64 0, .slice none 0 0, .int .i64 0, .int .i64 0, .int .i64 0, .slice none 0 0]) = ((w0.drew.alloc (.cells #[.int .i64 0, .int .i64 0, .int .i64 0, .int .i64 0, .int .i64 0, .int .i64 0, .slice none 0 0, .bool false, .int .i64 0, .slice none 0 0, .int .i64 0, .int .i64 0, .int .i64 0, .slice none 0 0] 33)).setRow w0.heap.size #[.int .i64 3, .int .i64 0, .int .i64 0, .int .i64 0, .int .i64 z0, .int .i64 z1, .slice none 0 0, .bool false, .int .i64 0, .slice none 0 0, .int .i64 0, .int .i64 0, .int .i64 0, .slice none 0 0]) from rfl]
  generalize ((w0.drew.alloc (.cells #[.int .i64 0, .int .i64 0, .int .i64 0, .int .i64 0, .int .i64 0, .int .i64 0, .slice none 0 0, .bool false, .int .i64 0, .slice none 0 0, .int .i64 0, .int .i64 0, .int .i64 0, .slice none 0 0] 33)).setRow w0.heap.size #[.int .i64 3, .int .i64 0, .int .i64 0, .int .i64 0, .int .i64 z0, .int .i64 z1, .slice none 0 0, .bool false, .int .i64 0, .slice none 0 0, .int .i64 0, .int .i64 0, .int .i64 0, .slice none 0 0]) = wz at *
  have cM := bM.cells
  go_wp2_with fail
  refine (specMF none none none 0 0 0 0 0 0 false 0 0 0 0 [] [] [] 3 0 0 0 z0 z1 _ (PsAt.nil _ _) (NsAt.nil _ _) (PsAt.nil _ _) rfl rfl rfl (by omega) (by omega) (by omega)).mono ?_
  rintro e wy ⟨rfl, hny⟩
  have bM := bM.new hny
  have bRz := bRz.new hny
  have hwz := hwz.trans hny
  rw [HMF.out]
  clear cM
  go_upto_region 6 with fail
  apply wp_region_lit
  refine wpList_load_row rfl 33 (.tmp 3) rfl w0.heap.size rfl 33 #[.int .i64 3, .int .i64 0, .int .i64 0, .int .i64 0, .int .i64 z0, .int .i64 z1, .slice none 0 0, .bool false, .int .i64 0, .slice none 0 0, .int .i64 0, .int .i64 0, .int .i64 0, .slice none 0 0] (0, 0) _ bM Try.underlying33 rfl (by kernel_rfl) ?_
  refine wpList_build rfl 35 _ rfl (by kernel_rfl) ?_
  refine wpList_store_row rfl 35 (.tmp 2) (.tmp 22) rfl w.heap.size #[.int .i64 0, .int .i64 0, .int .i64 0, .int .i64 3, .int .i64 0, .int .i64 0, .int .i64 0, .int .i64 z0, .int .i64 z1, .slice none 0 0, .bool false, .int .i64 0, .slice none 0 0, .int .i64 0, .int .i64 0, .int .i64 0, .slice none 0 0] rfl (by kernel_rfl) 35 #[.int .i64 0, .int .i64 0, .int .i64 0, .int .i64 0, .int .i64 0, .int .i64 0, .int .i64 0, .int .i64 0, .int .i64 0, .slice none 0 0, .bool false, .int .i64 0, .slice none 0 0, .int .i64 0, .int .i64 0, .int .i64 0, .slice none 0 0] bRz (by kernel_rfl) rfl (by kernel_rfl) ?_
  go_wp2
  refine bodyPost_ret (v := .agg #[.int .i64 0, .int .i64 0, .int .i64 0, .int .i64 3, .int .i64 0, .int .i64 0, .int .i64 0, .int .i64 z0, .int .i64 z1, .slice none 0 0, .bool false, .int .i64 0, .slice none 0 0, .int .i64 0, .int .i64 0, .int .i64 0, .slice none 0 0]) ?_ rfl ⟨rfl, hwz.row (Nat.le_refl _) _⟩
  exact results_row (B := w.heap.size) (cs := #[.int .i64 0, .int .i64 0, .int .i64 0, .int .i64 3, .int .i64 0, .int .i64 0, .int .i64 0, .int .i64 z0, .int .i64 z1, .slice none 0 0, .bool false, .int .i64 0, .slice none 0 0, .int .i64 0, .int .i64 0, .int .i64 0, .slice none 0 0]) rfl rfl (bRz.row _) ⟨_, Try.underlying35⟩ (by kernel_rfl)


theorem notifyS_any (a : Option Addr) (n c : Nat) (zs : List Int) (w : World) (h : BsAt w a zs) (hn : zs.length = n) (hm : n ≤ 1048576) :
    Calls Try.prog 26 #[.slice a n c] w fun e w' => e = .returned (mrV (mhN zs) (puZ 0) (.slice none 0 0) (.slice none 0 0) (.slice none 0 0)) ∧ New w w' := by
  by_cases h2 : n = 2
  case neg =>
    rw [mhN_size (by omega)]
    exact nt4_size a n c w h2 hm
  subst h2
  obtain ⟨b, off, z0, rfl, hz0, hc0, b0, b0'⟩ := h.at 0 (by omega)
  obtain ⟨b', off', z1, e, hz1, hc1, b1, b1'⟩ := h.at 1 (by omega)
  simp only [Option.some.injEq, Addr.mk.injEq, and_true] at e
  obtain ⟨rfl, rfl⟩ := e
  by_cases g1 : 1 ≤ z0 ∧ z0 ≤ 6
  · by_cases g2 : 0 ≤ z1 ∧ z1 ≤ 20
    · rw [mhN_ok hn (by rw [getD_at hz0, getD_at hz1]; exact ⟨g1, g2⟩), getD_at hz0, getD_at hz1]
      exact nt4_ok b off c z0 z1 w hc0 hc1 b0 b0' b1 b1' ⟨g1, g2⟩
    · rw [mhN_bad hn (by rw [getD_at hz0, getD_at hz1]; exact fun q => g2 q.2)]
      exact nt4_bad b off c z0 z1 w hc0 hc1 b0 b0' b1 b1' (fun q => g2 q.2)
  · rw [mhN_bad hn (by rw [getD_at hz0, getD_at hz1]; exact fun q => g1 q.1)]
    exact nt4_bad b off c z0 z1 w hc0 hc1 b0 b0' b1 b1' (fun q => g1 q.1)


set_option maxHeartbeats 3200000 in
theorem updateS_any (a : Option Addr) (n c : Nat) (zs : List Int) (w : World) (h : BsAt w a zs) (hn : zs.length = n) (hcc : n ≤ c) (hm : n ≤ 1048576) :
    Calls Try.prog 27 #[.slice a n c] w fun e w' => ∃ x y z, e = .returned (mrV (mhU (pu zs)) (mpU (pu zs)) x y z) ∧ Got w' w.heap.size (mpU (pu zs)) x y z ∧ New w w' := by
  have hw := (New.refl w).alloc (.cells #[.int .i64 0, .int .i64 0, .int .i64 0, .int .i64 0, .int .i64 0, .int .i64 0, .int .i64 0, .int .i64 0, .int .i64 0, .slice none 0 0, .bool false, .int .i64 0, .slice none 0 0, .int .i64 0, .int .i64 0, .int .i64 0, .slice none 0 0] 35)
  have bR := Blk.mk w w.heap.size 35 #[.int .i64 0, .int .i64 0, .int .i64 0, .int .i64 0, .int .i64 0, .int .i64 0, .int .i64 0, .int .i64 0, .int .i64 0, .slice none 0 0, .bool false, .int .i64 0, .slice none 0 0, .int .i64 0, .int .i64 0, .int .i64 0, .slice none 0 0] rfl
  have sz : (w.alloc (.cells #[.int .i64 0, .int .i64 0, .int .i64 0, .int .i64 0, .int .i64 0, .int .i64 0, .int .i64 0, .int .i64 0, .int .i64 0, .slice none 0 0, .bool false, .int .i64 0, .slice none 0 0, .int .i64 0, .int .i64 0, .int .i64 0, .slice none 0 0] 35)).heap.size = w.heap.size + 1 := by simp
  generalize hP : pu zs = p
  have HP : Hid (pu zs = p) := hP
  clear hP
  go_enter Try.func27, Try.ntmps27
  go_upto_region 1 with fail
  generalize w.alloc (.cells #[.int .i64 0, .int .i64 0, .int .i64 0, .int .i64 0, .int .i64 0, .int .i64 0, .int .i64 0, .int .i64 0, .int .i64 0, .slice none 0 0, .bool false, .int .i64 0, .slice none 0 0, .int .i64 0, .int .i64 0, .int .i64 0, .slice none 0 0] 35) = w0 at *
  go_wp2_with fail
  refine (specParse a n c zs _ (h.new hw) hn hcc hm).mono ?_
  rintro e w1 ⟨x, y, z, rfl, hG, hn1⟩
  rw [HP.out] at hG ⊢
  clear h hn HP
  obtain ⟨code, soft, gs, has, o, xs, nx, md, lc, rs⟩ := p
  obtain ⟨ga, gc, ex⟩ := hG.g.slice
  obtain ⟨xa, xc, ey⟩ := hG.n.slice
  obtain ⟨ra, rc, ez⟩ := hG.r.slice
  subst ex
  subst ey
  subst ez
  simp only at hG
  unfold puV
  simp only
  have bR1 := bR.new hn1
  have hw1 := hw.trans hn1
  rw [sz] at hG
  clear bR hw hn1 sz
  by_cases g0 : code = 0
  · have HM := mhU_ok (p := ⟨code, soft, gs, has, o, xs, nx, md, lc, rs⟩) (fun q => q.1 g0)
    have e1 : (code != 0) = false := by simpa using g0
    clear g0
    have bR2 := bR1.alloc (.cells #[.int .i64 code, .bool soft, .slice ga gs.length gc, .bool has, .int .i64 o, .slice xa xs.length xc, .int .i64 nx, .int .i64 md, .int .i64 lc, .slice ra rs.length rc] 71)
    have hw2 := hw1.alloc (.cells #[.int .i64 code, .bool soft, .slice ga gs.length gc, .bool has, .int .i64 o, .slice xa xs.length xc, .int .i64 nx, .int .i64 md, .int .i64 lc, .slice ra rs.length rc] 71)
    have hG2 := hG.new ((New.refl w1).alloc (.cells #[.int .i64 code, .bool soft, .slice ga gs.length gc, .bool has, .int .i64 o, .slice xa xs.length xc, .int .i64 nx, .int .i64 md, .int .i64 lc, .slice ra rs.length rc] 71))
    go_wp2_with (refine wpList_store_row rfl 35 (.tmp 2) (.tmp 20) rfl w.heap.size #[.int .i64 0, .int .i64 0, .int .i64 0, .int .i64 2, .int .i64 0, .int .i64 0, .int .i64 0, .int .i64 0, .int .i64 0, .slice ga gs.length gc, .bool has, .int .i64 o, .slice xa xs.length xc, .int .i64 nx, .int .i64 md, .int .i64 lc, .slice ra rs.length rc] rfl rfl 35 #[.int .i64 0, .int .i64 0, .int .i64 0, .int .i64 0, .int .i64 0, .int .i64 0, .int .i64 0, .int .i64 0, .int .i64 0, .slice none 0 0, .bool false, .int .i64 0, .slice none 0 0, .int .i64 0, .int .i64 0, .int .i64 0, .slice none 0 0] bR2 (by kernel_rfl) rfl (by kernel_rfl) ?_)
    go_wp2
    refine bodyPost_ret (v := .agg #[.int .i64 0, .int .i64 0, .int .i64 0, .int .i64 2, .int .i64 0, .int .i64 0, .int .i64 0, .int .i64 0, .int .i64 0, .slice ga gs.length gc, .bool has, .int .i64 o, .slice xa xs.length xc, .int .i64 nx, .int .i64 md, .int .i64 lc, .slice ra rs.length rc]) ?_ rfl ⟨_, _, _, by rw [HM.1, HM.2]; rfl, by rw [HM.2]; exact (hG2.turn (S := fun k => k = w.heap.size) (Turn.row (Turn.refl _ _) _) (fun g hg e => by omega)).low (Nat.le_succ _), hw2.row (Nat.le_refl _) _⟩
    exact results_row (B := w.heap.size) (cs := #[.int .i64 0, .int .i64 0, .int .i64 0, .int .i64 2, .int .i64 0, .int .i64 0, .int .i64 0, .int .i64 0, .int .i64 0, .slice ga gs.length gc, .bool has, .int .i64 o, .slice xa xs.length xc, .int .i64 nx, .int .i64 md, .int .i64 lc, .slice ra rs.length rc]) rfl rfl (bR2.row _) ⟨_, Try.underlying35⟩ (by kernel_rfl)
  have e1 : (code != 0) = true := by simpa using g0
  cases soft with
  | true =>
    have HM := mhU_ok (p := ⟨code, true, gs, has, o, xs, nx, md, lc, rs⟩) (fun q => by cases q.2)
    clear g0
    have bR2 := bR1.alloc (.cells #[.int .i64 code, .bool true, .slice ga gs.length gc, .bool has, .int .i64 o, .slice xa xs.length xc, .int .i64 nx, .int .i64 md, .int .i64 lc, .slice ra rs.length rc] 71)
    have hw2 := hw1.alloc (.cells #[.int .i64 code, .bool true, .slice ga gs.length gc, .bool has, .int .i64 o, .slice xa xs.length xc, .int .i64 nx, .int .i64 md, .int .i64 lc, .slice ra rs.length rc] 71)
    have hG2 := hG.new ((New.refl w1).alloc (.cells #[.int .i64 code, .bool true, .slice ga gs.length gc, .bool has, .int .i64 o, .slice xa xs.length xc, .int .i64 nx, .int .i64 md, .int .i64 lc, .slice ra rs.length rc] 71))
    go_wp2_with (refine wpList_store_row rfl 35 (.tmp 2) (.tmp 20) rfl w.heap.size #[.int .i64 0, .int .i64 0, .int .i64 0, .int .i64 2, .int .i64 0, .int .i64 0, .int .i64 0, .int .i64 0, .int .i64 0, .slice ga gs.length gc, .bool has, .int .i64 o, .slice xa xs.length xc, .int .i64 nx, .int .i64 md, .int .i64 lc, .slice ra rs.length rc] rfl rfl 35 #[.int .i64 0, .int .i64 0, .int .i64 0, .int .i64 0, .int .i64 0, .int .i64 0, .int .i64 0, .int .i64 0, .int .i64 0, .slice none 0 0, .bool false, .int .i64 0, .slice none 0 0, .int .i64 0, .int .i64 0, .int .i64 0, .slice none 0 0] bR2 (by kernel_rfl) rfl (by kernel_rfl) ?_)
    go_wp2
    refine bodyPost_ret (v := .agg #[.int .i64 0, .int .i64 0, .int .i64 0, .int .i64 2, .int .i64 0, .int .i64 0, .int .i64 0, .int .i64 0, .int .i64 0, .slice ga gs.length gc, .bool has, .int .i64 o, .slice xa xs.length xc, .int .i64 nx, .int .i64 md, .int .i64 lc, .slice ra rs.length rc]) ?_ rfl ⟨_, _, _, by rw [HM.1, HM.2]; rfl, by rw [HM.2]; exact (hG2.turn (S := fun k => k = w.heap.size) (Turn.row (Turn.refl _ _) _) (fun g hg e => by omega)).low (Nat.le_succ _), hw2.row (Nat.le_refl _) _⟩
    exact results_row (B := w.heap.size) (cs := #[.int .i64 0, .int .i64 0, .int .i64 0, .int .i64 2, .int .i64 0, .int .i64 0, .int .i64 0, .int .i64 0, .int .i64 0, .slice ga gs.length gc, .bool has, .int .i64 o, .slice xa xs.length xc, .int .i64 nx, .int .i64 md, .int .i64 lc, .slice ra rs.length rc]) rfl rfl (bR2.row _) ⟨_, Try.underlying35⟩ (by kernel_rfl)
  | false =>
    have HM := mhU_bad (p := ⟨code, false, gs, has, o, xs, nx, md, lc, rs⟩) g0 rfl
    clear g0
    have bR2 := bR1.alloc (.cells #[.int .i64 code, .bool false, .slice ga gs.length gc, .bool has, .int .i64 o, .slice xa xs.length xc, .int .i64 nx, .int .i64 md, .int .i64 lc, .slice ra rs.length rc] 71)
    have hw2 := hw1.alloc (.cells #[.int .i64 code, .bool false, .slice ga gs.length gc, .bool has, .int .i64 o, .slice xa xs.length xc, .int .i64 nx, .int .i64 md, .int .i64 lc, .slice ra rs.length rc] 71)
    go_wp2_with fail
    refine (bad4 code 3 1 _).mono ?_
    rintro e w9 ⟨rfl, hn9⟩
    have bR2 := bR2.new hn9
    have hw2 := hw2.trans hn9
    go_wp2_with (refine wpList_store_row rfl 35 (.tmp 2) (.tmp 16) rfl w.heap.size #[.int .i64 code, .int .i64 3, .int .i64 1, .int .i64 0, .int .i64 0, .int .i64 0, .int .i64 0, .int .i64 0, .int .i64 0, .slice none 0 0, .bool false, .int .i64 0, .slice none 0 0, .int .i64 0, .int .i64 0, .int .i64 0, .slice none 0 0] rfl rfl 35 #[.int .i64 0, .int .i64 0, .int .i64 0, .int .i64 0, .int .i64 0, .int .i64 0, .int .i64 0, .int .i64 0, .int .i64 0, .slice none 0 0, .bool false, .int .i64 0, .slice none 0 0, .int .i64 0, .int .i64 0, .int .i64 0, .slice none 0 0] bR2 (by kernel_rfl) rfl (by kernel_rfl) ?_)
    go_wp2
    refine bodyPost_ret (v := .agg #[.int .i64 code, .int .i64 3, .int .i64 1, .int .i64 0, .int .i64 0, .int .i64 0, .int .i64 0, .int .i64 0, .int .i64 0, .slice none 0 0, .bool false, .int .i64 0, .slice none 0 0, .int .i64 0, .int .i64 0, .int .i64 0, .slice none 0 0]) ?_ rfl ⟨_, _, _, by first | rfl | (rw [HM.1, HM.2]; rfl), by first | exact got_none _ _ | (rw [HM.2]; exact got_none _ _), hw2.row (Nat.le_refl _) _⟩
    exact results_row (B := w.heap.size) (cs := #[.int .i64 code, .int .i64 3, .int .i64 1, .int .i64 0, .int .i64 0, .int .i64 0, .int .i64 0, .int .i64 0, .int .i64 0, .slice none 0 0, .bool false, .int .i64 0, .slice none 0 0, .int .i64 0, .int .i64 0, .int .i64 0, .slice none 0 0]) rfl rfl (bR2.row _) ⟨_, Try.underlying35⟩ (by kernel_rfl)


end Go.Proofs.Ytnhkmgibppiimaa

namespace Go.Proofs.Ytnhkmgibppiimaa
open Go.RowKit Go.Sort
set_option linter.unusedVariables false

set_option maxHeartbeats 3200000 in
theorem sparse_1 (a : Option Addr) (n c : Nat) (H : MH) (p : PU) (w : World) (hm : n ≤ 1048576) (hff : ff 1 n = 0)
    (hcall : ∀ W, New w W → Calls Try.prog 25 #[.slice a n c] W fun e w' => ∃ x y z, e = .returned (mrV H p x y z) ∧ Got w' W.heap.size p x y z ∧ New W w') :
    Calls Try.prog 6 #[.agg #[.int .i64 1, .slice a n c]] w fun e w' => ∃ x y z, e = .returned (mrV H p x y z) ∧ Got w' w.heap.size p x y z ∧ New w w' := by
  have hw := ((New.refl w).alloc (.cells #[.int .i64 1, .slice a n c] 37)).alloc (.cells #[.int .i64 0, .int .i64 0, .int .i64 0, .int .i64 0, .int .i64 0, .int .i64 0, .int .i64 0, .int .i64 0, .int .i64 0, .slice none 0 0, .bool false, .int .i64 0, .slice none 0 0, .int .i64 0, .int .i64 0, .int .i64 0, .slice none 0 0] 35)
  have bF : Blk ((w.alloc (.cells #[.int .i64 1, .slice a n c] 37)).alloc (.cells #[.int .i64 0, .int .i64 0, .int .i64 0, .int .i64 0, .int .i64 0, .int .i64 0, .int .i64 0, .int .i64 0, .int .i64 0, .slice none 0 0, .bool false, .int .i64 0, .slice none 0 0, .int .i64 0, .int .i64 0, .int .i64 0, .slice none 0 0] 35)) w.heap.size 37 #[.int .i64 1, .slice a n c] := (Blk.mk _ _ _ _ rfl).alloc _
  have bR : Blk ((w.alloc (.cells #[.int .i64 1, .slice a n c] 37)).alloc (.cells #[.int .i64 0, .int .i64 0, .int .i64 0, .int .i64 0, .int .i64 0, .int .i64 0, .int .i64 0, .int .i64 0, .int .i64 0, .slice none 0 0, .bool false, .int .i64 0, .slice none 0 0, .int .i64 0, .int .i64 0, .int .i64 0, .slice none 0 0] 35)) (w.heap.size + 1) 35 #[.int .i64 0, .int .i64 0, .int .i64 0, .int .i64 0, .int .i64 0, .int .i64 0, .int .i64 0, .int .i64 0, .int .i64 0, .slice none 0 0, .bool false, .int .i64 0, .slice none 0 0, .int .i64 0, .int .i64 0, .int .i64 0, .slice none 0 0] := Blk.mk _ _ _ _ (by simp)
  have sz : ((w.alloc (.cells #[.int .i64 1, .slice a n c] 37)).alloc (.cells #[.int .i64 0, .int .i64 0, .int .i64 0, .int .i64 0, .int .i64 0, .int .i64 0, .int .i64 0, .int .i64 0, .int .i64 0, .slice none 0 0, .bool false, .int .i64 0, .slice none 0 0, .int .i64 0, .int .i64 0, .int .i64 0, .slice none 0 0] 35)).heap.size = w.heap.size + 2 := by simp
  have ge1 : w.heap.size ≤ w.heap.size + 1 := by omega
  have HF : Hid (ff 1 n = 0) := hff
  clear hff
  go_enter Try.func6, Try.ntmps6
  go_upto_region 1 with fail
  generalize ((w.alloc (.cells #[.int .i64 1, .slice a n c] 37)).alloc (.cells #[.int .i64 0, .int .i64 0, .int .i64 0, .int .i64 0, .int .i64 0, .int .i64 0, .int .i64 0, .int .i64 0, .int .i64 0, .slice none 0 0, .bool false, .int .i64 0, .slice none 0 0, .int .i64 0, .int .i64 0, .int .i64 0, .slice none 0 0] 35)) = w0 at *
  have cF0 := bF.cells
  go_wp2_with fail
  refine (specFF 1 a n c _ hm).mono ?_
  rintro e w1 ⟨rfl, hn1⟩
  rw [HF.out]
  have hw1 := hw.trans hn1
  have bF1 := bF.new hn1
  have bR1 := bR.new hn1
  have s1 := hn1.size
  have cF := bF1.cells
  clear cF0
  have key := hcall w1 hw1
  clear hcall
  go_wp2_with fail
  refine key.mono ?_
  rintro e w2 ⟨x, y, z, rfl, hG, hn2⟩
  obtain ⟨ga, gc, ex⟩ := hG.g.slice
  obtain ⟨xa, xc, ey⟩ := hG.n.slice
  obtain ⟨ra, rc, ez⟩ := hG.r.slice
  subst ex
  subst ey
  subst ez
  have hw2 := hw1.trans hn2
  have bR2 := bR1.new hn2
  unfold mrV
  go_wp2_with (refine wpList_store_row rfl 35 (.tmp 2) (.tmp 16) rfl (w.heap.size + 1) #[.int .i64 H.code, .int .i64 H.why, .int .i64 H.sub, .int .i64 H.kd, .int .i64 H.sa, .int .i64 H.ho, .int .i64 H.si, .int .i64 H.wh, .int .i64 H.su, .slice ga p.gs.length gc, .bool p.has, .int .i64 p.o, .slice xa p.xs.length xc, .int .i64 p.nx, .int .i64 p.md, .int .i64 p.lc, .slice ra p.rs.length rc] rfl rfl 35 #[.int .i64 0, .int .i64 0, .int .i64 0, .int .i64 0, .int .i64 0, .int .i64 0, .int .i64 0, .int .i64 0, .int .i64 0, .slice none 0 0, .bool false, .int .i64 0, .slice none 0 0, .int .i64 0, .int .i64 0, .int .i64 0, .slice none 0 0] bR2 (by kernel_rfl) rfl (by kernel_rfl) ?_)
  go_wp2
  refine bodyPost_ret (v := .agg #[.int .i64 H.code, .int .i64 H.why, .int .i64 H.sub, .int .i64 H.kd, .int .i64 H.sa, .int .i64 H.ho, .int .i64 H.si, .int .i64 H.wh, .int .i64 H.su, .slice ga p.gs.length gc, .bool p.has, .int .i64 p.o, .slice xa p.xs.length xc, .int .i64 p.nx, .int .i64 p.md, .int .i64 p.lc, .slice ra p.rs.length rc]) ?_ rfl ⟨_, _, _, rfl, (hG.turn (S := fun k => k = w.heap.size + 1) (Turn.row (Turn.refl _ _) _) (fun g hg e => by omega)).low hw1.size, hw2.row ge1 _⟩
  exact results_row (B := w.heap.size + 1) (cs := #[.int .i64 H.code, .int .i64 H.why, .int .i64 H.sub, .int .i64 H.kd, .int .i64 H.sa, .int .i64 H.ho, .int .i64 H.si, .int .i64 H.wh, .int .i64 H.su, .slice ga p.gs.length gc, .bool p.has, .int .i64 p.o, .slice xa p.xs.length xc, .int .i64 p.nx, .int .i64 p.md, .int .i64 p.lc, .slice ra p.rs.length rc]) rfl rfl (bR2.row _) ⟨_, Try.underlying35⟩ (by kernel_rfl)

set_option maxHeartbeats 3200000 in
theorem sparse_2 (a : Option Addr) (n c : Nat) (H : MH) (p : PU) (w : World) (hm : n ≤ 1048576) (hff : ff 2 n = 0)
    (hcall : ∀ W, New w W → Calls Try.prog 27 #[.slice a n c] W fun e w' => ∃ x y z, e = .returned (mrV H p x y z) ∧ Got w' W.heap.size p x y z ∧ New W w') :
    Calls Try.prog 6 #[.agg #[.int .i64 2, .slice a n c]] w fun e w' => ∃ x y z, e = .returned (mrV H p x y z) ∧ Got w' w.heap.size p x y z ∧ New w w' := by
  have hw := ((New.refl w).alloc (.cells #[.int .i64 2, .slice a n c] 37)).alloc (.cells #[.int .i64 0, .int .i64 0, .int .i64 0, .int .i64 0, .int .i64 0, .int .i64 0, .int .i64 0, .int .i64 0, .int .i64 0, .slice none 0 0, .bool false, .int .i64 0, .slice none 0 0, .int .i64 0, .int .i64 0, .int .i64 0, .slice none 0 0] 35)
  have bF : Blk ((w.alloc (.cells #[.int .i64 2, .slice a n c] 37)).alloc (.cells #[.int .i64 0, .int .i64 0, .int .i64 0, .int .i64 0, .int .i64 0, .int .i64 0, .int .i64 0, .int .i64 0, .int .i64 0, .slice none 0 0, .bool false, .int .i64 0, .slice none 0 0, .int .i64 0, .int .i64 0, .int .i64 0, .slice none 0 0] 35)) w.heap.size 37 #[.int .i64 2, .slice a n c] := (Blk.mk _ _ _ _ rfl).alloc _
  have bR : Blk ((w.alloc (.cells #[.int .i64 2, .slice a n c] 37)).alloc (.cells #[.int .i64 0, .int .i64 0, .int .i64 0, .int .i64 0, .int .i64 0, .int .i64 0, .int .i64 0, .int .i64 0, .int .i64 0, .slice none 0 0, .bool false, .int .i64 0, .slice none 0 0, .int .i64 0, .int .i64 0, .int .i64 0, .slice none 0 0] 35)) (w.heap.size + 1) 35 #[.int .i64 0, .int .i64 0, .int .i64 0, .int .i64 0, .int .i64 0, .int .i64 0, .int .i64 0, .int .i64 0, .int .i64 0, .slice none 0 0, .bool false, .int .i64 0, .slice none 0 0, .int .i64 0, .int .i64 0, .int .i64 0, .slice none 0 0] := Blk.mk _ _ _ _ (by simp)
  have sz : ((w.alloc (.cells #[.int .i64 2, .slice a n c] 37)).alloc (.cells #[.int .i64 0, .int .i64 0, .int .i64 0, .int .i64 0, .int .i64 0, .int .i64 0, .int .i64 0, .int .i64 0, .int .i64 0, .slice none 0 0, .bool false, .int .i64 0, .slice none 0 0, .int .i64 0, .int .i64 0, .int .i64 0, .slice none 0 0] 35)).heap.size = w.heap.size + 2 := by simp
  have ge1 : w.heap.size ≤ w.heap.size + 1 := by omega
  have HF : Hid (ff 2 n = 0) := hff
  clear hff
  go_enter Try.func6, Try.ntmps6
  go_upto_region 1 with fail
  generalize ((w.alloc (.cells #[.int .i64 2, .slice a n c] 37)).alloc (.cells #[.int .i64 0, .int .i64 0, .int .i64 0, .int .i64 0, .int .i64 0, .int .i64 0, .int .i64 0, .int .i64 0, .int .i64 0, .slice none 0 0, .bool false, .int .i64 0, .slice none 0 0, .int .i64 0, .int .i64 0, .int .i64 0, .slice none 0 0] 35)) = w0 at *
  have cF0 := bF.cells
  go_wp2_with fail
  refine (specFF 2 a n c _ hm).mono ?_
  rintro e w1 ⟨rfl, hn1⟩
  rw [HF.out]
  have hw1 := hw.trans hn1
  have bF1 := bF.new hn1
  have bR1 := bR.new hn1
  have s1 := hn1.size
  have cF := bF1.cells
  clear cF0
  have key := hcall w1 hw1
  clear hcall
  go_wp2_with fail
  refine key.mono ?_
  rintro e w2 ⟨x, y, z, rfl, hG, hn2⟩
  obtain ⟨ga, gc, ex⟩ := hG.g.slice
  obtain ⟨xa, xc, ey⟩ := hG.n.slice
  obtain ⟨ra, rc, ez⟩ := hG.r.slice
  subst ex
  subst ey
  subst ez
  have hw2 := hw1.trans hn2
  have bR2 := bR1.new hn2
  unfold mrV
  go_wp2_with (refine wpList_store_row rfl 35 (.tmp 2) (.tmp 26) rfl (w.heap.size + 1) #[.int .i64 H.code, .int .i64 H.why, .int .i64 H.sub, .int .i64 H.kd, .int .i64 H.sa, .int .i64 H.ho, .int .i64 H.si, .int .i64 H.wh, .int .i64 H.su, .slice ga p.gs.length gc, .bool p.has, .int .i64 p.o, .slice xa p.xs.length xc, .int .i64 p.nx, .int .i64 p.md, .int .i64 p.lc, .slice ra p.rs.length rc] rfl rfl 35 #[.int .i64 0, .int .i64 0, .int .i64 0, .int .i64 0, .int .i64 0, .int .i64 0, .int .i64 0, .int .i64 0, .int .i64 0, .slice none 0 0, .bool false, .int .i64 0, .slice none 0 0, .int .i64 0, .int .i64 0, .int .i64 0, .slice none 0 0] bR2 (by kernel_rfl) rfl (by kernel_rfl) ?_)
  go_wp2
  refine bodyPost_ret (v := .agg #[.int .i64 H.code, .int .i64 H.why, .int .i64 H.sub, .int .i64 H.kd, .int .i64 H.sa, .int .i64 H.ho, .int .i64 H.si, .int .i64 H.wh, .int .i64 H.su, .slice ga p.gs.length gc, .bool p.has, .int .i64 p.o, .slice xa p.xs.length xc, .int .i64 p.nx, .int .i64 p.md, .int .i64 p.lc, .slice ra p.rs.length rc]) ?_ rfl ⟨_, _, _, rfl, (hG.turn (S := fun k => k = w.heap.size + 1) (Turn.row (Turn.refl _ _) _) (fun g hg e => by omega)).low hw1.size, hw2.row ge1 _⟩
  exact results_row (B := w.heap.size + 1) (cs := #[.int .i64 H.code, .int .i64 H.why, .int .i64 H.sub, .int .i64 H.kd, .int .i64 H.sa, .int .i64 H.ho, .int .i64 H.si, .int .i64 H.wh, .int .i64 H.su, .slice ga p.gs.length gc, .bool p.has, .int .i64 p.o, .slice xa p.xs.length xc, .int .i64 p.nx, .int .i64 p.md, .int .i64 p.lc, .slice ra p.rs.length rc]) rfl rfl (bR2.row _) ⟨_, Try.underlying35⟩ (by kernel_rfl)

set_option maxHeartbeats 3200000 in
theorem sparse_3 (a : Option Addr) (n c : Nat) (H : MH) (p : PU) (w : World) (hm : n ≤ 1048576) (hff : ff 3 n = 0)
    (hcall : ∀ W, New w W → Calls Try.prog 26 #[.slice a n c] W fun e w' => ∃ x y z, e = .returned (mrV H p x y z) ∧ Got w' W.heap.size p x y z ∧ New W w') :
    Calls Try.prog 6 #[.agg #[.int .i64 3, .slice a n c]] w fun e w' => ∃ x y z, e = .returned (mrV H p x y z) ∧ Got w' w.heap.size p x y z ∧ New w w' := by
  have hw := ((New.refl w).alloc (.cells #[.int .i64 3, .slice a n c] 37)).alloc (.cells #[.int .i64 0, .int .i64 0, .int .i64 0, .int .i64 0, .int .i64 0, .int .i64 0, .int .i64 0, .int .i64 0, .int .i64 0, .slice none 0 0, .bool false, .int .i64 0, .slice none 0 0, .int .i64 0, .int .i64 0, .int .i64 0, .slice none 0 0] 35)
  have bF : Blk ((w.alloc (.cells #[.int .i64 3, .slice a n c] 37)).alloc (.cells #[.int .i64 0, .int .i64 0, .int .i64 0, .int .i64 0, .int .i64 0, .int .i64 0, .int .i64 0, .int .i64 0, .int .i64 0, .slice none 0 0, .bool false, .int .i64 0, .slice none 0 0, .int .i64 0, .int .i64 0, .int .i64 0, .slice none 0 0] 35)) w.heap.size 37 #[.int .i64 3, .slice a n c] := (Blk.mk _ _ _ _ rfl).alloc _
  have bR : Blk ((w.alloc (.cells #[.int .i64 3, .slice a n c] 37)).alloc (.cells #[.int .i64 0, .int .i64 0, .int .i64 0, .int .i64 0, .int .i64 0, .int .i64 0, .int .i64 0, .int .i64 0, .int .i64 0, .slice none 0 0, .bool false, .int .i64 0, .slice none 0 0, .int .i64 0, .int .i64 0, .int .i64 0, .slice none 0 0] 35)) (w.heap.size + 1) 35 #[.int .i64 0, .int .i64 0, .int .i64 0, .int .i64 0, .int .i64 0, .int .i64 0, .int .i64 0, .int .i64 0, .int .i64 0, .slice none 0 0, .bool false, .int .i64 0, .slice none 0 0, .int .i64 0, .int .i64 0, .int .i64 0, .slice none 0 0] := Blk.mk _ _ _ _ (by simp)
  have sz : ((w.alloc (.cells #[.int .i64 3, .slice a n c] 37)).alloc (.cells #[.int .i64 0, .int .i64 0, .int .i64 0, .int .i64 0, .int .i64 0, .int .i64 0, .int .i64 0, .int .i64 0, .int .i64 0, .slice none 0 0, .bool false, .int .i64 0, .slice none 0 0, .int .i64 0, .int .i64 0, .int .i64 0, .slice none 0 0] 35)).heap.size = w.heap.size + 2 := by simp
  have ge1 : w.heap.size ≤ w.heap.size + 1 := by omega
  have HF : Hid (ff 3 n = 0) := hff
  clear hff
  go_enter Try.func6, Try.ntmps6
  go_upto_region 1 with fail
  generalize ((w.alloc (.cells #[.int .i64 3, .slice a n c] 37)).alloc (.cells #[.int .i64 0, .int .i64 0, .int .i64 0, .int .i64 0, .int .i64 0, .int .i64 0, .int .i64 0, .int .i64 0, .int .i64 0, .slice none 0 0, .bool false, .int .i64 0, .slice none 0 0, .int .i64 0, .int .i64 0, .int .i64 0, .slice none 0 0] 35)) = w0 at *
  have cF0 := bF.cells
  go_wp2_with fail
  refine (specFF 3 a n c _ hm).mono ?_
  rintro e w1 ⟨rfl, hn1⟩
  rw [HF.out]
  have hw1 := hw.trans hn1
  have bF1 := bF.new hn1
  have bR1 := bR.new hn1
  have s1 := hn1.size
  have cF := bF1.cells
  clear cF0
  have key := hcall w1 hw1
  clear hcall
  go_wp2_with fail
  refine key.mono ?_
  rintro e w2 ⟨x, y, z, rfl, hG, hn2⟩
  obtain ⟨ga, gc, ex⟩ := hG.g.slice
  obtain ⟨xa, xc, ey⟩ := hG.n.slice
  obtain ⟨ra, rc, ez⟩ := hG.r.slice
  subst ex
  subst ey
  subst ez
  have hw2 := hw1.trans hn2
  have bR2 := bR1.new hn2
  unfold mrV
  go_wp2_with (refine wpList_store_row rfl 35 (.tmp 2) (.tmp 21) rfl (w.heap.size + 1) #[.int .i64 H.code, .int .i64 H.why, .int .i64 H.sub, .int .i64 H.kd, .int .i64 H.sa, .int .i64 H.ho, .int .i64 H.si, .int .i64 H.wh, .int .i64 H.su, .slice ga p.gs.length gc, .bool p.has, .int .i64 p.o, .slice xa p.xs.length xc, .int .i64 p.nx, .int .i64 p.md, .int .i64 p.lc, .slice ra p.rs.length rc] rfl rfl 35 #[.int .i64 0, .int .i64 0, .int .i64 0, .int .i64 0, .int .i64 0, .int .i64 0, .int .i64 0, .int .i64 0, .int .i64 0, .slice none 0 0, .bool false, .int .i64 0, .slice none 0 0, .int .i64 0, .int .i64 0, .int .i64 0, .slice none 0 0] bR2 (by kernel_rfl) rfl (by kernel_rfl) ?_)
  go_wp2
  refine bodyPost_ret (v := .agg #[.int .i64 H.code, .int .i64 H.why, .int .i64 H.sub, .int .i64 H.kd, .int .i64 H.sa, .int .i64 H.ho, .int .i64 H.si, .int .i64 H.wh, .int .i64 H.su, .slice ga p.gs.length gc, .bool p.has, .int .i64 p.o, .slice xa p.xs.length xc, .int .i64 p.nx, .int .i64 p.md, .int .i64 p.lc, .slice ra p.rs.length rc]) ?_ rfl ⟨_, _, _, rfl, (hG.turn (S := fun k => k = w.heap.size + 1) (Turn.row (Turn.refl _ _) _) (fun g hg e => by omega)).low hw1.size, hw2.row ge1 _⟩
  exact results_row (B := w.heap.size + 1) (cs := #[.int .i64 H.code, .int .i64 H.why, .int .i64 H.sub, .int .i64 H.kd, .int .i64 H.sa, .int .i64 H.ho, .int .i64 H.si, .int .i64 H.wh, .int .i64 H.su, .slice ga p.gs.length gc, .bool p.has, .int .i64 p.o, .slice xa p.xs.length xc, .int .i64 p.nx, .int .i64 p.md, .int .i64 p.lc, .slice ra p.rs.length rc]) rfl rfl (bR2.row _) ⟨_, Try.underlying35⟩ (by kernel_rfl)

set_option maxHeartbeats 3200000 in
theorem sparse_bad (k : Int) (a : Option Addr) (n c : Nat) (w : World) (hm : n ≤ 1048576) (hff : ff k n ≠ 0) :
    Calls Try.prog 6 #[.agg #[.int .i64 k, .slice a n c]] w fun e w' => e = .returned (mrV (mhB (ff k n) 1 3) (puZ 0) (.slice none 0 0) (.slice none 0 0) (.slice none 0 0)) ∧ New w w' := by
  have hw := ((New.refl w).alloc (.cells #[.int .i64 k, .slice a n c] 37)).alloc (.cells #[.int .i64 0, .int .i64 0, .int .i64 0, .int .i64 0, .int .i64 0, .int .i64 0, .int .i64 0, .int .i64 0, .int .i64 0, .slice none 0 0, .bool false, .int .i64 0, .slice none 0 0, .int .i64 0, .int .i64 0, .int .i64 0, .slice none 0 0] 35)
  have bF : Blk ((w.alloc (.cells #[.int .i64 k, .slice a n c] 37)).alloc (.cells #[.int .i64 0, .int .i64 0, .int .i64 0, .int .i64 0, .int .i64 0, .int .i64 0, .int .i64 0, .int .i64 0, .int .i64 0, .slice none 0 0, .bool false, .int .i64 0, .slice none 0 0, .int .i64 0, .int .i64 0, .int .i64 0, .slice none 0 0] 35)) w.heap.size 37 #[.int .i64 k, .slice a n c] := (Blk.mk _ _ _ _ rfl).alloc _
  have bR : Blk ((w.alloc (.cells #[.int .i64 k, .slice a n c] 37)).alloc (.cells #[.int .i64 0, .int .i64 0, .int .i64 0, .int .i64 0, .int .i64 0, .int .i64 0, .int .i64 0, .int .i64 0, .int .i64 0, .slice none 0 0, .bool false, .int .i64 0, .slice none 0 0, .int .i64 0, .int .i64 0, .int .i64 0, .slice none 0 0] 35)) (w.heap.size + 1) 35 #[.int .i64 0, .int .i64 0, .int .i64 0, .int .i64 0, .int .i64 0, .int .i64 0, .int .i64 0, .int .i64 0, .int .i64 0, .slice none 0 0, .bool false, .int .i64 0, .slice none 0 0, .int .i64 0, .int .i64 0, .int .i64 0, .slice none 0 0] := Blk.mk _ _ _ _ (by simp)
  have sz : ((w.alloc (.cells #[.int .i64 k, .slice a n c] 37)).alloc (.cells #[.int .i64 0, .int .i64 0, .int .i64 0, .int .i64 0, .int .i64 0, .int .i64 0, .int .i64 0, .int .i64 0, .int .i64 0, .slice none 0 0, .bool false, .int .i64 0, .slice none 0 0, .int .i64 0, .int .i64 0, .int .i64 0, .slice none 0 0] 35)).heap.size = w.heap.size + 2 := by simp
  have ge1 : w.heap.size ≤ w.heap.size + 1 := by omega
  generalize hq : ff k n = q at hff ⊢
  have HQ : Hid (ff k n = q) := hq
  clear hq
  have e1 : (q != 0) = true := by simpa using hff
  clear hff
  go_enter Try.func6, Try.ntmps6
  go_upto_region 1 with fail
  generalize ((w.alloc (.cells #[.int .i64 k, .slice a n c] 37)).alloc (.cells #[.int .i64 0, .int .i64 0, .int .i64 0, .int .i64 0, .int .i64 0, .int .i64 0, .int .i64 0, .int .i64 0, .int .i64 0, .slice none 0 0, .bool false, .int .i64 0, .slice none 0 0, .int .i64 0, .int .i64 0, .int .i64 0, .slice none 0 0] 35)) = w0 at *
  have cF0 := bF.cells
  go_wp2_with fail
  refine (specFF k a n c _ hm).mono ?_
  rintro e w1 ⟨rfl, hn1⟩
  have hw1 := hw.trans hn1
  have bR1 := bR.new hn1
  rw [HQ.out]
  go_wp2_with fail
  refine (bad4 q 1 3 _).mono ?_
  rintro e w9 ⟨rfl, hn9⟩
  have bR1 := bR1.new hn9
  have hw1 := hw1.trans hn9
  go_wp2_with (refine wpList_store_row rfl 35 (.tmp 2) (.tmp 9) rfl (w.heap.size + 1) #[.int .i64 q, .int .i64 1, .int .i64 3, .int .i64 0, .int .i64 0, .int .i64 0, .int .i64 0, .int .i64 0, .int .i64 0, .slice none 0 0, .bool false, .int .i64 0, .slice none 0 0, .int .i64 0, .int .i64 0, .int .i64 0, .slice none 0 0] rfl rfl 35 #[.int .i64 0, .int .i64 0, .int .i64 0, .int .i64 0, .int .i64 0, .int .i64 0, .int .i64 0, .int .i64 0, .int .i64 0, .slice none 0 0, .bool false, .int .i64 0, .slice none 0 0, .int .i64 0, .int .i64 0, .int .i64 0, .slice none 0 0] bR1 (by kernel_rfl) rfl (by kernel_rfl) ?_)
  go_wp2
  refine bodyPost_ret (v := .agg #[.int .i64 q, .int .i64 1, .int .i64 3, .int .i64 0, .int .i64 0, .int .i64 0, .int .i64 0, .int .i64 0, .int .i64 0, .slice none 0 0, .bool false, .int .i64 0, .slice none 0 0, .int .i64 0, .int .i64 0, .int .i64 0, .slice none 0 0]) ?_ rfl ⟨rfl, hw1.row ge1 _⟩
  exact results_row (B := w.heap.size + 1) (cs := #[.int .i64 q, .int .i64 1, .int .i64 3, .int .i64 0, .int .i64 0, .int .i64 0, .int .i64 0, .int .i64 0, .int .i64 0, .slice none 0 0, .bool false, .int .i64 0, .slice none 0 0, .int .i64 0, .int .i64 0, .int .i64 0, .slice none 0 0]) rfl rfl (bR1.row _) ⟨_, Try.underlying35⟩ (by kernel_rfl)

set_option maxHeartbeats 3200000 in
theorem sparse_4n (a : Option Addr) (n c : Nat) (w : World) (hm : n ≤ 1048576) (hff : ff 4 n = 0) (hn0 : n ≠ 0) :
    Calls Try.prog 6 #[.agg #[.int .i64 4, .slice a n c]] w fun e w' => e = .returned (mrV (mhB 5 1 2) (puZ 0) (.slice none 0 0) (.slice none 0 0) (.slice none 0 0)) ∧ New w w' := by
  have en : ((n : Int) != 0) = true := by simp; omega
  clear hn0
  have hw := ((New.refl w).alloc (.cells #[.int .i64 4, .slice a n c] 37)).alloc (.cells #[.int .i64 0, .int .i64 0, .int .i64 0, .int .i64 0, .int .i64 0, .int .i64 0, .int .i64 0, .int .i64 0, .int .i64 0, .slice none 0 0, .bool false, .int .i64 0, .slice none 0 0, .int .i64 0, .int .i64 0, .int .i64 0, .slice none 0 0] 35)
  have bF : Blk ((w.alloc (.cells #[.int .i64 4, .slice a n c] 37)).alloc (.cells #[.int .i64 0, .int .i64 0, .int .i64 0, .int .i64 0, .int .i64 0, .int .i64 0, .int .i64 0, .int .i64 0, .int .i64 0, .slice none 0 0, .bool false, .int .i64 0, .slice none 0 0, .int .i64 0, .int .i64 0, .int .i64 0, .slice none 0 0] 35)) w.heap.size 37 #[.int .i64 4, .slice a n c] := (Blk.mk _ _ _ _ rfl).alloc _
  have bR : Blk ((w.alloc (.cells #[.int .i64 4, .slice a n c] 37)).alloc (.cells #[.int .i64 0, .int .i64 0, .int .i64 0, .int .i64 0, .int .i64 0, .int .i64 0, .int .i64 0, .int .i64 0, .int .i64 0, .slice none 0 0, .bool false, .int .i64 0, .slice none 0 0, .int .i64 0, .int .i64 0, .int .i64 0, .slice none 0 0] 35)) (w.heap.size + 1) 35 #[.int .i64 0, .int .i64 0, .int .i64 0, .int .i64 0, .int .i64 0, .int .i64 0, .int .i64 0, .int .i64 0, .int .i64 0, .slice none 0 0, .bool false, .int .i64 0, .slice none 0 0, .int .i64 0, .int .i64 0, .int .i64 0, .slice none 0 0] := Blk.mk _ _ _ _ (by simp)
  have sz : ((w.alloc (.cells #[.int .i64 4, .slice a n c] 37)).alloc (.cells #[.int .i64 0, .int .i64 0, .int .i64 0, .int .i64 0, .int .i64 0, .int .i64 0, .int .i64 0, .int .i64 0, .int .i64 0, .slice none 0 0, .bool false, .int .i64 0, .slice none 0 0, .int .i64 0, .int .i64 0, .int .i64 0, .slice none 0 0] 35)).heap.size = w.heap.size + 2 := by simp
  have ge1 : w.heap.size ≤ w.heap.size + 1 := by omega
  have HF : Hid (ff 4 n = 0) := hff
  clear hff
  go_enter Try.func6, Try.ntmps6
  go_upto_region 1 with fail
  generalize ((w.alloc (.cells #[.int .i64 4, .slice a n c] 37)).alloc (.cells #[.int .i64 0, .int .i64 0, .int .i64 0, .int .i64 0, .int .i64 0, .int .i64 0, .int .i64 0, .int .i64 0, .int .i64 0, .slice none 0 0, .bool false, .int .i64 0, .slice none 0 0, .int .i64 0, .int .i64 0, .int .i64 0, .slice none 0 0] 35)) = w0 at *
  have cF0 := bF.cells
  go_wp2_with fail
  refine (specFF 4 a n c _ hm).mono ?_
  rintro e w1 ⟨rfl, hn1⟩
  rw [HF.out]
  have hw1 := hw.trans hn1
  have bF1 := bF.new hn1
  have bR1 := bR.new hn1
  have s1 := hn1.size
  have cF := bF1.cells
  clear cF0
  go_wp2_with fail
  refine (bad4 5 1 2 _).mono ?_
  rintro e w9 ⟨rfl, hn9⟩
  have b9 := bR1.new hn9
  have hw9 := hw1.trans hn9
  go_wp2_with (refine wpList_store_row rfl 35 (.tmp 2) (.tmp 31) rfl (w.heap.size + 1) #[.int .i64 5, .int .i64 1, .int .i64 2, .int .i64 0, .int .i64 0, .int .i64 0, .int .i64 0, .int .i64 0, .int .i64 0, .slice none 0 0, .bool false, .int .i64 0, .slice none 0 0, .int .i64 0, .int .i64 0, .int .i64 0, .slice none 0 0] rfl rfl 35 #[.int .i64 0, .int .i64 0, .int .i64 0, .int .i64 0, .int .i64 0, .int .i64 0, .int .i64 0, .int .i64 0, .int .i64 0, .slice none 0 0, .bool false, .int .i64 0, .slice none 0 0, .int .i64 0, .int .i64 0, .int .i64 0, .slice none 0 0] b9 (by kernel_rfl) rfl (by kernel_rfl) ?_)
  go_wp2
  refine bodyPost_ret (v := .agg #[.int .i64 5, .int .i64 1, .int .i64 2, .int .i64 0, .int .i64 0, .int .i64 0, .int .i64 0, .int .i64 0, .int .i64 0, .slice none 0 0, .bool false, .int .i64 0, .slice none 0 0, .int .i64 0, .int .i64 0, .int .i64 0, .slice none 0 0]) ?_ rfl ⟨rfl, hw9.row ge1 _⟩
  exact results_row (B := (w.heap.size + 1)) (cs := #[.int .i64 5, .int .i64 1, .int .i64 2, .int .i64 0, .int .i64 0, .int .i64 0, .int .i64 0, .int .i64 0, .int .i64 0, .slice none 0 0, .bool false, .int .i64 0, .slice none 0 0, .int .i64 0, .int .i64 0, .int .i64 0, .slice none 0 0]) rfl rfl (b9.row _) ⟨_, Try.underlying35⟩ (by kernel_rfl)

set_option maxHeartbeats 3200000 in
theorem sparse_40 (a : Option Addr) (c : Nat) (w : World) (hff : ff 4 0 = 0) :
    Calls Try.prog 6 #[.agg #[.int .i64 4, .slice a 0 c]] w fun e w' => e = .returned (.agg #[.int .i64 0, .int .i64 0, .int .i64 0, .int .i64 4, .int .i64 0, .int .i64 0, .int .i64 0, .int .i64 0, .int .i64 0, .slice none 0 0, .bool false, .int .i64 0, .slice none 0 0, .int .i64 0, .int .i64 0, .int .i64 0, .slice none 0 0]) ∧ New w w' := by
  have hw := ((New.refl w).alloc (.cells #[.int .i64 4, .slice a 0 c] 37)).alloc (.cells #[.int .i64 0, .int .i64 0, .int .i64 0, .int .i64 0, .int .i64 0, .int .i64 0, .int .i64 0, .int .i64 0, .int .i64 0, .slice none 0 0, .bool false, .int .i64 0, .slice none 0 0, .int .i64 0, .int .i64 0, .int .i64 0, .slice none 0 0] 35)
  have bF : Blk ((w.alloc (.cells #[.int .i64 4, .slice a 0 c] 37)).alloc (.cells #[.int .i64 0, .int .i64 0, .int .i64 0, .int .i64 0, .int .i64 0, .int .i64 0, .int .i64 0, .int .i64 0, .int .i64 0, .slice none 0 0, .bool false, .int .i64 0, .slice none 0 0, .int .i64 0, .int .i64 0, .int .i64 0, .slice none 0 0] 35)) w.heap.size 37 #[.int .i64 4, .slice a 0 c] := (Blk.mk _ _ _ _ rfl).alloc _
  have bR : Blk ((w.alloc (.cells #[.int .i64 4, .slice a 0 c] 37)).alloc (.cells #[.int .i64 0, .int .i64 0, .int .i64 0, .int .i64 0, .int .i64 0, .int .i64 0, .int .i64 0, .int .i64 0, .int .i64 0, .slice none 0 0, .bool false, .int .i64 0, .slice none 0 0, .int .i64 0, .int .i64 0, .int .i64 0, .slice none 0 0] 35)) (w.heap.size + 1) 35 #[.int .i64 0, .int .i64 0, .int .i64 0, .int .i64 0, .int .i64 0, .int .i64 0, .int .i64 0, .int .i64 0, .int .i64 0, .slice none 0 0, .bool false, .int .i64 0, .slice none 0 0, .int .i64 0, .int .i64 0, .int .i64 0, .slice none 0 0] := Blk.mk _ _ _ _ (by simp)
  have sz : ((w.alloc (.cells #[.int .i64 4, .slice a 0 c] 37)).alloc (.cells #[.int .i64 0, .int .i64 0, .int .i64 0, .int .i64 0, .int .i64 0, .int .i64 0, .int .i64 0, .int .i64 0, .int .i64 0, .slice none 0 0, .bool false, .int .i64 0, .slice none 0 0, .int .i64 0, .int .i64 0, .int .i64 0, .slice none 0 0] 35)).heap.size = w.heap.size + 2 := by simp
  have ge1 : w.heap.size ≤ w.heap.size + 1 := by omega
  have HF : Hid (ff 4 0 = 0) := hff
  clear hff
  go_enter Try.func6, Try.ntmps6
  go_upto_region 1 with fail
  generalize ((w.alloc (.cells #[.int .i64 4, .slice a 0 c] 37)).alloc (.cells #[.int .i64 0, .int .i64 0, .int .i64 0, .int .i64 0, .int .i64 0, .int .i64 0, .int .i64 0, .int .i64 0, .int .i64 0, .slice none 0 0, .bool false, .int .i64 0, .slice none 0 0, .int .i64 0, .int .i64 0, .int .i64 0, .slice none 0 0] 35)) = w0 at *
  have cF0 := bF.cells
  go_wp2_with fail
  refine (specFF 4 a 0 c _ (by omega)).mono ?_
  rintro e w1 ⟨rfl, hn1⟩
  rw [HF.out]
  have hw1 := hw.trans hn1
  have bF1 := bF.new hn1
  have bR1 := bR.new hn1
  have s1 := hn1.size
  have cF := bF1.cells
  clear cF0
  go_upto_region 13 with fail
  apply wp_region_lit
  refine wpList_build rfl 33 _ rfl (by kernel_rfl) ?_
  refine wpList_build rfl 35 _ rfl (by kernel_rfl) ?_
  refine wpList_store_row rfl 35 (.tmp 2) (.tmp 33) rfl (w.heap.size + 1) #[.int .i64 0, .int .i64 0, .int .i64 0, .int .i64 4, .int .i64 0, .int .i64 0, .int .i64 0, .int .i64 0, .int .i64 0, .slice none 0 0, .bool false, .int .i64 0, .slice none 0 0, .int .i64 0, .int .i64 0, .int .i64 0, .slice none 0 0] rfl (by kernel_rfl) 35 #[.int .i64 0, .int .i64 0, .int .i64 0, .int .i64 0, .int .i64 0, .int .i64 0, .int .i64 0, .int .i64 0, .int .i64 0, .slice none 0 0, .bool false, .int .i64 0, .slice none 0 0, .int .i64 0, .int .i64 0, .int .i64 0, .slice none 0 0] bR1 (by kernel_rfl) rfl (by kernel_rfl) ?_
  go_wp2
  refine bodyPost_ret (v := .agg #[.int .i64 0, .int .i64 0, .int .i64 0, .int .i64 4, .int .i64 0, .int .i64 0, .int .i64 0, .int .i64 0, .int .i64 0, .slice none 0 0, .bool false, .int .i64 0, .slice none 0 0, .int .i64 0, .int .i64 0, .int .i64 0, .slice none 0 0]) ?_ rfl ⟨rfl, hw1.row ge1 _⟩
  exact results_row (B := w.heap.size + 1) (cs := #[.int .i64 0, .int .i64 0, .int .i64 0, .int .i64 4, .int .i64 0, .int .i64 0, .int .i64 0, .int .i64 0, .int .i64 0, .slice none 0 0, .bool false, .int .i64 0, .slice none 0 0, .int .i64 0, .int .i64 0, .int .i64 0, .slice none 0 0]) rfl rfl (bR1.row _) ⟨_, Try.underlying35⟩ (by kernel_rfl)

theorem specPMsg (k : Int) (a : Option Addr) (n c : Nat) (zs : List Int) (w : World) (h : BsAt w a zs) (hn : zs.length = n) (hcc : n ≤ c) (hm : n ≤ 1048576) :
    Calls Try.prog 6 #[.agg #[.int .i64 k, .slice a n c]] w fun e w' => ∃ x y z, e = .returned (mrV (mh k zs) (mp k zs) x y z) ∧ Got w' w.heap.size (mp k zs) x y z ∧ New w w' := by
  by_cases hf : ff k n = 0
  case neg =>
    have hb := mh_bad (k := k) (zs := zs) (by rw [hn]; exact hf)
    rw [hb.1, hb.2, hn]
    refine (sparse_bad k a n c w hm hf).mono ?_
    rintro e w' ⟨rfl, hN⟩
    exact ⟨_, _, _, rfl, got_none _ _, hN⟩
  obtain ⟨k1, k4, -⟩ := ff_zero hf
  have hz : ¬ ff k zs.length ≠ 0 := by rw [hn]; exact fun q => q hf
  have one : ∀ {F : Nat} {H : MH}, (∀ W, New w W → Calls Try.prog F #[.slice a n c] W fun e w' => e = .returned (mrV H (puZ 0) (.slice none 0 0) (.slice none 0 0) (.slice none 0 0)) ∧ New W w') → ∀ W, New w W → Calls Try.prog F #[.slice a n c] W fun e w' => ∃ x y z, e = .returned (mrV H (puZ 0) x y z) ∧ Got w' W.heap.size (puZ 0) x y z ∧ New W w' := by
    intro F H hq W hW
    refine (hq W hW).mono ?_
    rintro e w' ⟨rfl, hN⟩
    exact ⟨_, _, _, rfl, got_none _ _, hN⟩
  rcases (show k = 1 ∨ k = 2 ∨ k = 3 ∨ k = 4 by omega) with rfl | rfl | rfl | rfl
  · rw [(mh_1 hz).1, (mh_1 hz).2]
    exact sparse_1 a n c _ _ w hm hf (one fun W hW => openS_any a n c zs W (h.new hW) hn hcc hm)
  · rw [(mh_2 hz).1, (mh_2 hz).2]
    exact sparse_2 a n c _ _ w hm hf (fun W hW => updateS_any a n c zs W (h.new hW) hn hcc hm)
  · rw [(mh_3 hz).1, (mh_3 hz).2]
    exact sparse_3 a n c _ _ w hm hf (one fun W hW => notifyS_any a n c zs W (h.new hW) hn hm)
  · rw [(mh_4 hz).1, (mh_4 hz).2]
    by_cases h0 : n = 0
    · subst h0
      rw [show mhK zs = ⟨0, 0, 0, 4, 0, 0, 0, 0, 0⟩ by unfold mhK; rw [if_neg (by simp [hn])]]
      refine (sparse_40 a c w hf).mono ?_
      rintro e w' ⟨rfl, hN⟩
      exact ⟨_, _, _, rfl, got_none _ _, hN⟩
    · rw [show mhK zs = mhB 5 1 2 by unfold mhK; rw [if_pos (by omega)]]
      refine (sparse_4n a n c w hm hf h0).mono ?_
      rintro e w' ⟨rfl, hN⟩
      exact ⟨_, _, _, rfl, got_none _ _, hN⟩

end Go.Proofs.Ytnhkmgibppiimaa
