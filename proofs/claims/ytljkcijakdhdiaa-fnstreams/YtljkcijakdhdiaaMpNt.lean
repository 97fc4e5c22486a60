/- What is proved here: what the reading of a notify answers, in the program, for every list of at most 1048576 bytes. -/
import Derived.Test.YtljkcijakdhdiaaMpFn
namespace Go.Proofs.Ytljkcijakdhdiaa
open Go.RowKit Go.Sort
set_option linter.unusedVariables false

set_option maxHeartbeats 1600000 in
theorem nfrom_size (a : Option Addr) (n c : Nat) (w : World) (h : n ≠ 2) (hm : n ≤ 1048576) : Calls Try.prog 35 #[.slice a n c] w fun e w' => e = .returned (mrV (mhB 5 1 2) (puZ 0) (.slice none 0 0) (.slice none 0 0) (.slice none 0 0)) ∧ New w w' := by
  have e1 : ((n : Int) != 2) = true := by simp; omega
  clear h
  have hw := (New.refl w).alloc (.cells #[.int .i64 0, .int .i64 0, .int .i64 0, .int .i64 0, .int .i64 0, .int .i64 0, .int .i64 0, .int .i64 0, .int .i64 0, .slice none 0 0, .bool false, .int .i64 0, .slice none 0 0, .int .i64 0, .int .i64 0, .int .i64 0, .slice none 0 0] 53)
  have bR := Blk.mk w w.heap.size 53 #[.int .i64 0, .int .i64 0, .int .i64 0, .int .i64 0, .int .i64 0, .int .i64 0, .int .i64 0, .int .i64 0, .int .i64 0, .slice none 0 0, .bool false, .int .i64 0, .slice none 0 0, .int .i64 0, .int .i64 0, .int .i64 0, .slice none 0 0] rfl
  have ge0 : w.heap.size ≤ w.heap.size := Nat.le_refl _
  go_enter Try.func35, Try.ntmps35
  go_upto_region 1 with fail
  generalize w.alloc (.cells #[.int .i64 0, .int .i64 0, .int .i64 0, .int .i64 0, .int .i64 0, .int .i64 0, .int .i64 0, .int .i64 0, .int .i64 0, .slice none 0 0, .bool false, .int .i64 0, .slice none 0 0, .int .i64 0, .int .i64 0, .int .i64 0, .slice none 0 0] 53) = w0 at *
  have cR := bR.cells
  have fR := bR.frees
  go_upto_region 2 with fail
  apply wp_region_lit
  refine wpList_build rfl 53 _ rfl (by kernel_rfl) ?_
  refine wpList_store_row rfl 53 (.tmp 2) (.tmp 7) rfl w.heap.size #[.int .i64 5, .int .i64 1, .int .i64 2, .int .i64 0, .int .i64 0, .int .i64 0, .int .i64 0, .int .i64 0, .int .i64 0, .slice none 0 0, .bool false, .int .i64 0, .slice none 0 0, .int .i64 0, .int .i64 0, .int .i64 0, .slice none 0 0] rfl (by kernel_rfl) 53 #[.int .i64 0, .int .i64 0, .int .i64 0, .int .i64 0, .int .i64 0, .int .i64 0, .int .i64 0, .int .i64 0, .int .i64 0, .slice none 0 0, .bool false, .int .i64 0, .slice none 0 0, .int .i64 0, .int .i64 0, .int .i64 0, .slice none 0 0] bR (by kernel_rfl) rfl (by kernel_rfl) ?_
  go_wp2
  refine bodyPost_ret (v := .agg #[.int .i64 5, .int .i64 1, .int .i64 2, .int .i64 0, .int .i64 0, .int .i64 0, .int .i64 0, .int .i64 0, .int .i64 0, .slice none 0 0, .bool false, .int .i64 0, .slice none 0 0, .int .i64 0, .int .i64 0, .int .i64 0, .slice none 0 0]) ?_ rfl ⟨rfl, hw.row (Nat.le_refl _) _⟩
  exact results_row (B := w.heap.size) (cs := #[.int .i64 5, .int .i64 1, .int .i64 2, .int .i64 0, .int .i64 0, .int .i64 0, .int .i64 0, .int .i64 0, .int .i64 0, .slice none 0 0, .bool false, .int .i64 0, .slice none 0 0, .int .i64 0, .int .i64 0, .int .i64 0, .slice none 0 0]) rfl rfl (bR.row _) ⟨_, Try.underlying53⟩ (by kernel_rfl)

set_option maxHeartbeats 3200000 in
theorem nfrom_why (b off c : Nat) (z0 z1 : Int) (w : World) (h0 : w.cell? ⟨b, off, none⟩ = some (.int .u8 z0)) (h1' : w.cell? ⟨b, off + 1, none⟩ = some (.int .u8 z1)) (b0 : 0 ≤ z0) (b0' : z0 ≤ 255) (b1 : 0 ≤ z1) (b1' : z1 ≤ 255) (h1 : ¬ (1 ≤ z0 ∧ z0 ≤ 6)) :
    Calls Try.prog 35 #[.slice (some ⟨b, off, none⟩) 2 c] w fun e w' => e = .returned (.agg #[.int .i64 3, .int .i64 1, .int .i64 2, .int .i64 0, .int .i64 0, .int .i64 0, .int .i64 0, .int .i64 0, .int .i64 0, .slice none 0 0, .bool false, .int .i64 0, .slice none 0 0, .int .i64 0, .int .i64 0, .int .i64 0, .slice none 0 0]) ∧ New w w' := by
  have hw := (New.refl w).alloc (.cells #[.int .i64 0, .int .i64 0, .int .i64 0, .int .i64 0, .int .i64 0, .int .i64 0, .int .i64 0, .int .i64 0, .int .i64 0, .slice none 0 0, .bool false, .int .i64 0, .slice none 0 0, .int .i64 0, .int .i64 0, .int .i64 0, .slice none 0 0] 53)
  have bR := Blk.mk w w.heap.size 53 #[.int .i64 0, .int .i64 0, .int .i64 0, .int .i64 0, .int .i64 0, .int .i64 0, .int .i64 0, .int .i64 0, .int .i64 0, .slice none 0 0, .bool false, .int .i64 0, .slice none 0 0, .int .i64 0, .int .i64 0, .int .i64 0, .slice none 0 0] rfl
  have ge0 : w.heap.size ≤ w.heap.size := Nat.le_refl _
  have hz0 : IntKind.i64.wrap z0 = z0 := by simp [IntKind.wrap, IntKind.signed, IntKind.bits]; omega
  have hz1 : IntKind.i64.wrap z1 = z1 := by simp [IntKind.wrap, IntKind.signed, IntKind.bits]; omega
  have hlt := World.block_lt_of_cell? w _ h0
  have d0 := (World.cell?_of_block (hw.block b hlt (fun f => f))).trans h0
  have d1 := (World.cell?_of_block (hw.block b hlt (fun f => f))).trans h1'
  clear h0 h1'
  go_enter Try.func35, Try.ntmps35
  go_upto_region 1 with fail
  generalize w.alloc (.cells #[.int .i64 0, .int .i64 0, .int .i64 0, .int .i64 0, .int .i64 0, .int .i64 0, .int .i64 0, .int .i64 0, .int .i64 0, .slice none 0 0, .bool false, .int .i64 0, .slice none 0 0, .int .i64 0, .int .i64 0, .int .i64 0, .slice none 0 0] 53) = w0 at *
  have cR := bR.cells
  have fR := bR.frees
  have hl0 : b < w0.heap.size := World.block_lt_of_cell? w0 _ d0
  have dA0 : ∀ o, (w0.alloc o).cell? ⟨b, off, none⟩ = some (.int .u8 z0) := fun o => (World.cell?_of_block (((New.refl w0).alloc o).block b hl0 (fun f => f))).trans d0
  have dA1 : ∀ o, (w0.alloc o).cell? ⟨b, off + 1, none⟩ = some (.int .u8 z1) := fun o => (World.cell?_of_block (((New.refl w0).alloc o).block b hl0 (fun f => f))).trans d1
  go_upto_region 3 with fail
  go_region_held3 (fun W => W.cell? ⟨b, off, none⟩ = some (.int .u8 z0) ∧ W.cell? ⟨b, off + 1, none⟩ = some (.int .u8 z1)) (first | exact ⟨d0, d1⟩ | exact ⟨dA0 _, dA1 _⟩) (fail)
  have bM : Blk ((w0.alloc (.cells #[.int .i64 3, .int .i64 0, .int .i64 0, .int .i64 0, .int .i64 z0, .int .i64 z1, .slice none 0 0, .bool false, .int .i64 0, .slice none 0 0, .int .i64 0, .int .i64 0, .int .i64 0, .slice none 0 0] 51)).drew) w0.heap.size 51 #[.int .i64 3, .int .i64 0, .int .i64 0, .int .i64 0, .int .i64 z0, .int .i64 z1, .slice none 0 0, .bool false, .int .i64 0, .slice none 0 0, .int .i64 0, .int .i64 0, .int .i64 0, .slice none 0 0] := (Blk.mk w0 w0.heap.size 51 #[.int .i64 3, .int .i64 0, .int .i64 0, .int .i64 0, .int .i64 z0, .int .i64 z1, .slice none 0 0, .bool false, .int .i64 0, .slice none 0 0, .int .i64 0, .int .i64 0, .int .i64 0, .slice none 0 0] rfl).new ((New.refl _).drew)
  have r2 := (bR.alloc (.cells #[.int .i64 3, .int .i64 0, .int .i64 0, .int .i64 0, .int .i64 z0, .int .i64 z1, .slice none 0 0, .bool false, .int .i64 0, .slice none 0 0, .int .i64 0, .int .i64 0, .int .i64 0, .slice none 0 0] 51)).new ((New.refl _).drew)
  have hw2 := (hw.alloc (.cells #[.int .i64 3, .int .i64 0, .int .i64 0, .int .i64 0, .int .i64 z0, .int .i64 z1, .slice none 0 0, .bool false, .int .i64 0, .slice none 0 0, .int .i64 0, .int .i64 0, .int .i64 0, .slice none 0 0] 51)).drew
  generalize (w0.alloc (.cells #[.int .i64 3, .int .i64 0, .int .i64 0, .int .i64 0, .int .i64 z0, .int .i64 z1, .slice none 0 0, .bool false, .int .i64 0, .slice none 0 0, .int .i64 0, .int .i64 0, .int .i64 0, .slice none 0 0] 51)).drew = w2 at *
  have cM := bM.cells
  clear cR fR d0 d1 dA0 dA1 bR hw
  go_wp2_with fail
  refine (isWhy_no z0 _ h1).mono ?_
  rintro e w4 ⟨rfl, rfl⟩
  go_upto_region 5 with fail
  apply wp_region_lit
  refine wpList_build rfl 53 _ rfl (by kernel_rfl) ?_
  refine wpList_store_row rfl 53 (.tmp 2) (.tmp 27) rfl w.heap.size #[.int .i64 3, .int .i64 1, .int .i64 2, .int .i64 0, .int .i64 0, .int .i64 0, .int .i64 0, .int .i64 0, .int .i64 0, .slice none 0 0, .bool false, .int .i64 0, .slice none 0 0, .int .i64 0, .int .i64 0, .int .i64 0, .slice none 0 0] rfl (by kernel_rfl) 53 #[.int .i64 0, .int .i64 0, .int .i64 0, .int .i64 0, .int .i64 0, .int .i64 0, .int .i64 0, .int .i64 0, .int .i64 0, .slice none 0 0, .bool false, .int .i64 0, .slice none 0 0, .int .i64 0, .int .i64 0, .int .i64 0, .slice none 0 0] r2 (by kernel_rfl) rfl (by kernel_rfl) ?_
  go_wp2
  refine bodyPost_ret (v := .agg #[.int .i64 3, .int .i64 1, .int .i64 2, .int .i64 0, .int .i64 0, .int .i64 0, .int .i64 0, .int .i64 0, .int .i64 0, .slice none 0 0, .bool false, .int .i64 0, .slice none 0 0, .int .i64 0, .int .i64 0, .int .i64 0, .slice none 0 0]) ?_ rfl ⟨rfl, hw2.row (Nat.le_refl _) _⟩
  exact results_row (B := w.heap.size) (cs := #[.int .i64 3, .int .i64 1, .int .i64 2, .int .i64 0, .int .i64 0, .int .i64 0, .int .i64 0, .int .i64 0, .int .i64 0, .slice none 0 0, .bool false, .int .i64 0, .slice none 0 0, .int .i64 0, .int .i64 0, .int .i64 0, .slice none 0 0]) rfl rfl (r2.row _) ⟨_, Try.underlying53⟩ (by kernel_rfl)

set_option maxHeartbeats 3200000 in
theorem nfrom_sub (b off c : Nat) (z0 z1 : Int) (w : World) (h0 : w.cell? ⟨b, off, none⟩ = some (.int .u8 z0)) (h1' : w.cell? ⟨b, off + 1, none⟩ = some (.int .u8 z1)) (b0 : 0 ≤ z0) (b0' : z0 ≤ 255) (b1 : 0 ≤ z1) (b1' : z1 ≤ 255) (h1 : 1 ≤ z0 ∧ z0 ≤ 6) (h2 : ¬ (0 ≤ z1 ∧ z1 ≤ 20)) :
    Calls Try.prog 35 #[.slice (some ⟨b, off, none⟩) 2 c] w fun e w' => e = .returned (.agg #[.int .i64 3, .int .i64 1, .int .i64 2, .int .i64 0, .int .i64 0, .int .i64 0, .int .i64 0, .int .i64 0, .int .i64 0, .slice none 0 0, .bool false, .int .i64 0, .slice none 0 0, .int .i64 0, .int .i64 0, .int .i64 0, .slice none 0 0]) ∧ New w w' := by
  have hw := (New.refl w).alloc (.cells #[.int .i64 0, .int .i64 0, .int .i64 0, .int .i64 0, .int .i64 0, .int .i64 0, .int .i64 0, .int .i64 0, .int .i64 0, .slice none 0 0, .bool false, .int .i64 0, .slice none 0 0, .int .i64 0, .int .i64 0, .int .i64 0, .slice none 0 0] 53)
  have bR := Blk.mk w w.heap.size 53 #[.int .i64 0, .int .i64 0, .int .i64 0, .int .i64 0, .int .i64 0, .int .i64 0, .int .i64 0, .int .i64 0, .int .i64 0, .slice none 0 0, .bool false, .int .i64 0, .slice none 0 0, .int .i64 0, .int .i64 0, .int .i64 0, .slice none 0 0] rfl
  have ge0 : w.heap.size ≤ w.heap.size := Nat.le_refl _
  have hz0 : IntKind.i64.wrap z0 = z0 := by simp [IntKind.wrap, IntKind.signed, IntKind.bits]; omega
  have hz1 : IntKind.i64.wrap z1 = z1 := by simp [IntKind.wrap, IntKind.signed, IntKind.bits]; omega
  have hlt := World.block_lt_of_cell? w _ h0
  have d0 := (World.cell?_of_block (hw.block b hlt (fun f => f))).trans h0
  have d1 := (World.cell?_of_block (hw.block b hlt (fun f => f))).trans h1'
  clear h0 h1'
  go_enter Try.func35, Try.ntmps35
  go_upto_region 1 with fail
  generalize w.alloc (.cells #[.int .i64 0, .int .i64 0, .int .i64 0, .int .i64 0, .int .i64 0, .int .i64 0, .int .i64 0, .int .i64 0, .int .i64 0, .slice none 0 0, .bool false, .int .i64 0, .slice none 0 0, .int .i64 0, .int .i64 0, .int .i64 0, .slice none 0 0] 53) = w0 at *
  have cR := bR.cells
  have fR := bR.frees
  have hl0 : b < w0.heap.size := World.block_lt_of_cell? w0 _ d0
  have dA0 : ∀ o, (w0.alloc o).cell? ⟨b, off, none⟩ = some (.int .u8 z0) := fun o => (World.cell?_of_block (((New.refl w0).alloc o).block b hl0 (fun f => f))).trans d0
  have dA1 : ∀ o, (w0.alloc o).cell? ⟨b, off + 1, none⟩ = some (.int .u8 z1) := fun o => (World.cell?_of_block (((New.refl w0).alloc o).block b hl0 (fun f => f))).trans d1
  go_upto_region 3 with fail
  go_region_held3 (fun W => W.cell? ⟨b, off, none⟩ = some (.int .u8 z0) ∧ W.cell? ⟨b, off + 1, none⟩ = some (.int .u8 z1)) (first | exact ⟨d0, d1⟩ | exact ⟨dA0 _, dA1 _⟩) (fail)
  have bM : Blk ((w0.alloc (.cells #[.int .i64 3, .int .i64 0, .int .i64 0, .int .i64 0, .int .i64 z0, .int .i64 z1, .slice none 0 0, .bool false, .int .i64 0, .slice none 0 0, .int .i64 0, .int .i64 0, .int .i64 0, .slice none 0 0] 51)).drew) w0.heap.size 51 #[.int .i64 3, .int .i64 0, .int .i64 0, .int .i64 0, .int .i64 z0, .int .i64 z1, .slice none 0 0, .bool false, .int .i64 0, .slice none 0 0, .int .i64 0, .int .i64 0, .int .i64 0, .slice none 0 0] := (Blk.mk w0 w0.heap.size 51 #[.int .i64 3, .int .i64 0, .int .i64 0, .int .i64 0, .int .i64 z0, .int .i64 z1, .slice none 0 0, .bool false, .int .i64 0, .slice none 0 0, .int .i64 0, .int .i64 0, .int .i64 0, .slice none 0 0] rfl).new ((New.refl _).drew)
  have r2 := (bR.alloc (.cells #[.int .i64 3, .int .i64 0, .int .i64 0, .int .i64 0, .int .i64 z0, .int .i64 z1, .slice none 0 0, .bool false, .int .i64 0, .slice none 0 0, .int .i64 0, .int .i64 0, .int .i64 0, .slice none 0 0] 51)).new ((New.refl _).drew)
  have hw2 := (hw.alloc (.cells #[.int .i64 3, .int .i64 0, .int .i64 0, .int .i64 0, .int .i64 z0, .int .i64 z1, .slice none 0 0, .bool false, .int .i64 0, .slice none 0 0, .int .i64 0, .int .i64 0, .int .i64 0, .slice none 0 0] 51)).drew
  generalize (w0.alloc (.cells #[.int .i64 3, .int .i64 0, .int .i64 0, .int .i64 0, .int .i64 z0, .int .i64 z1, .slice none 0 0, .bool false, .int .i64 0, .slice none 0 0, .int .i64 0, .int .i64 0, .int .i64 0, .slice none 0 0] 51)).drew = w2 at *
  have cM := bM.cells
  clear cR fR d0 d1 dA0 dA1 bR hw
  go_wp2_with fail
  refine (isWhy_yes z0 _ h1).mono ?_
  rintro e w4 ⟨rfl, rfl⟩
  go_wp2_with fail
  refine (isSub_no z1 _ h2).mono ?_
  rintro e w4 ⟨rfl, rfl⟩
  go_upto_region 5 with fail
  apply wp_region_lit
  refine wpList_build rfl 53 _ rfl (by kernel_rfl) ?_
  refine wpList_store_row rfl 53 (.tmp 2) (.tmp 27) rfl w.heap.size #[.int .i64 3, .int .i64 1, .int .i64 2, .int .i64 0, .int .i64 0, .int .i64 0, .int .i64 0, .int .i64 0, .int .i64 0, .slice none 0 0, .bool false, .int .i64 0, .slice none 0 0, .int .i64 0, .int .i64 0, .int .i64 0, .slice none 0 0] rfl (by kernel_rfl) 53 #[.int .i64 0, .int .i64 0, .int .i64 0, .int .i64 0, .int .i64 0, .int .i64 0, .int .i64 0, .int .i64 0, .int .i64 0, .slice none 0 0, .bool false, .int .i64 0, .slice none 0 0, .int .i64 0, .int .i64 0, .int .i64 0, .slice none 0 0] r2 (by kernel_rfl) rfl (by kernel_rfl) ?_
  go_wp2
  refine bodyPost_ret (v := .agg #[.int .i64 3, .int .i64 1, .int .i64 2, .int .i64 0, .int .i64 0, .int .i64 0, .int .i64 0, .int .i64 0, .int .i64 0, .slice none 0 0, .bool false, .int .i64 0, .slice none 0 0, .int .i64 0, .int .i64 0, .int .i64 0, .slice none 0 0]) ?_ rfl ⟨rfl, hw2.row (Nat.le_refl _) _⟩
  exact results_row (B := w.heap.size) (cs := #[.int .i64 3, .int .i64 1, .int .i64 2, .int .i64 0, .int .i64 0, .int .i64 0, .int .i64 0, .int .i64 0, .int .i64 0, .slice none 0 0, .bool false, .int .i64 0, .slice none 0 0, .int .i64 0, .int .i64 0, .int .i64 0, .slice none 0 0]) rfl rfl (r2.row _) ⟨_, Try.underlying53⟩ (by kernel_rfl)

set_option maxHeartbeats 3200000 in
theorem nfrom_ok (b off c : Nat) (z0 z1 : Int) (w : World) (h0 : w.cell? ⟨b, off, none⟩ = some (.int .u8 z0)) (h1' : w.cell? ⟨b, off + 1, none⟩ = some (.int .u8 z1)) (b0 : 0 ≤ z0) (b0' : z0 ≤ 255) (b1 : 0 ≤ z1) (b1' : z1 ≤ 255) (h1 : 1 ≤ z0 ∧ z0 ≤ 6) (h2 : 0 ≤ z1 ∧ z1 ≤ 20) :
    Calls Try.prog 35 #[.slice (some ⟨b, off, none⟩) 2 c] w fun e w' => e = .returned (.agg #[.int .i64 0, .int .i64 0, .int .i64 0, .int .i64 3, .int .i64 0, .int .i64 0, .int .i64 0, .int .i64 z0, .int .i64 z1, .slice none 0 0, .bool false, .int .i64 0, .slice none 0 0, .int .i64 0, .int .i64 0, .int .i64 0, .slice none 0 0]) ∧ New w w' := by
  have hw := (New.refl w).alloc (.cells #[.int .i64 0, .int .i64 0, .int .i64 0, .int .i64 0, .int .i64 0, .int .i64 0, .int .i64 0, .int .i64 0, .int .i64 0, .slice none 0 0, .bool false, .int .i64 0, .slice none 0 0, .int .i64 0, .int .i64 0, .int .i64 0, .slice none 0 0] 53)
  have bR := Blk.mk w w.heap.size 53 #[.int .i64 0, .int .i64 0, .int .i64 0, .int .i64 0, .int .i64 0, .int .i64 0, .int .i64 0, .int .i64 0, .int .i64 0, .slice none 0 0, .bool false, .int .i64 0, .slice none 0 0, .int .i64 0, .int .i64 0, .int .i64 0, .slice none 0 0] rfl
  have ge0 : w.heap.size ≤ w.heap.size := Nat.le_refl _
  have hz0 : IntKind.i64.wrap z0 = z0 := by simp [IntKind.wrap, IntKind.signed, IntKind.bits]; omega
  have hz1 : IntKind.i64.wrap z1 = z1 := by simp [IntKind.wrap, IntKind.signed, IntKind.bits]; omega
  have hlt := World.block_lt_of_cell? w _ h0
  have d0 := (World.cell?_of_block (hw.block b hlt (fun f => f))).trans h0
  have d1 := (World.cell?_of_block (hw.block b hlt (fun f => f))).trans h1'
  clear h0 h1'
  go_enter Try.func35, Try.ntmps35
  go_upto_region 1 with fail
  generalize w.alloc (.cells #[.int .i64 0, .int .i64 0, .int .i64 0, .int .i64 0, .int .i64 0, .int .i64 0, .int .i64 0, .int .i64 0, .int .i64 0, .slice none 0 0, .bool false, .int .i64 0, .slice none 0 0, .int .i64 0, .int .i64 0, .int .i64 0, .slice none 0 0] 53) = w0 at *
  have cR := bR.cells
  have fR := bR.frees
  have hl0 : b < w0.heap.size := World.block_lt_of_cell? w0 _ d0
  have dA0 : ∀ o, (w0.alloc o).cell? ⟨b, off, none⟩ = some (.int .u8 z0) := fun o => (World.cell?_of_block (((New.refl w0).alloc o).block b hl0 (fun f => f))).trans d0
  have dA1 : ∀ o, (w0.alloc o).cell? ⟨b, off + 1, none⟩ = some (.int .u8 z1) := fun o => (World.cell?_of_block (((New.refl w0).alloc o).block b hl0 (fun f => f))).trans d1
  go_upto_region 3 with fail
  go_region_held3 (fun W => W.cell? ⟨b, off, none⟩ = some (.int .u8 z0) ∧ W.cell? ⟨b, off + 1, none⟩ = some (.int .u8 z1)) (first | exact ⟨d0, d1⟩ | exact ⟨dA0 _, dA1 _⟩) (fail)
  have bM : Blk ((w0.alloc (.cells #[.int .i64 3, .int .i64 0, .int .i64 0, .int .i64 0, .int .i64 z0, .int .i64 z1, .slice none 0 0, .bool false, .int .i64 0, .slice none 0 0, .int .i64 0, .int .i64 0, .int .i64 0, .slice none 0 0] 51)).drew) w0.heap.size 51 #[.int .i64 3, .int .i64 0, .int .i64 0, .int .i64 0, .int .i64 z0, .int .i64 z1, .slice none 0 0, .bool false, .int .i64 0, .slice none 0 0, .int .i64 0, .int .i64 0, .int .i64 0, .slice none 0 0] := (Blk.mk w0 w0.heap.size 51 #[.int .i64 3, .int .i64 0, .int .i64 0, .int .i64 0, .int .i64 z0, .int .i64 z1, .slice none 0 0, .bool false, .int .i64 0, .slice none 0 0, .int .i64 0, .int .i64 0, .int .i64 0, .slice none 0 0] rfl).new ((New.refl _).drew)
  have r2 := (bR.alloc (.cells #[.int .i64 3, .int .i64 0, .int .i64 0, .int .i64 0, .int .i64 z0, .int .i64 z1, .slice none 0 0, .bool false, .int .i64 0, .slice none 0 0, .int .i64 0, .int .i64 0, .int .i64 0, .slice none 0 0] 51)).new ((New.refl _).drew)
  have hw2 := (hw.alloc (.cells #[.int .i64 3, .int .i64 0, .int .i64 0, .int .i64 0, .int .i64 z0, .int .i64 z1, .slice none 0 0, .bool false, .int .i64 0, .slice none 0 0, .int .i64 0, .int .i64 0, .int .i64 0, .slice none 0 0] 51)).drew
  generalize (w0.alloc (.cells #[.int .i64 3, .int .i64 0, .int .i64 0, .int .i64 0, .int .i64 z0, .int .i64 z1, .slice none 0 0, .bool false, .int .i64 0, .slice none 0 0, .int .i64 0, .int .i64 0, .int .i64 0, .slice none 0 0] 51)).drew = w2 at *
  have cM := bM.cells
  clear cR fR d0 d1 dA0 dA1 bR hw
  go_wp2_with fail
  refine (isWhy_yes z0 _ h1).mono ?_
  rintro e w4 ⟨rfl, rfl⟩
  go_wp2_with fail
  refine (isSub_yes z1 _ h2).mono ?_
  rintro e w4 ⟨rfl, rfl⟩
  go_upto_region 6 with fail
  apply wp_region_lit
  refine wpList_load_row rfl 51 (.tmp 3) rfl w0.heap.size rfl 51 #[.int .i64 3, .int .i64 0, .int .i64 0, .int .i64 0, .int .i64 z0, .int .i64 z1, .slice none 0 0, .bool false, .int .i64 0, .slice none 0 0, .int .i64 0, .int .i64 0, .int .i64 0, .slice none 0 0] (0, 0) _ bM Try.underlying51 rfl (by kernel_rfl) ?_
  refine wpList_build rfl 53 _ rfl (by kernel_rfl) ?_
  refine wpList_store_row rfl 53 (.tmp 2) (.tmp 29) rfl w.heap.size #[.int .i64 0, .int .i64 0, .int .i64 0, .int .i64 3, .int .i64 0, .int .i64 0, .int .i64 0, .int .i64 z0, .int .i64 z1, .slice none 0 0, .bool false, .int .i64 0, .slice none 0 0, .int .i64 0, .int .i64 0, .int .i64 0, .slice none 0 0] rfl (by kernel_rfl) 53 #[.int .i64 0, .int .i64 0, .int .i64 0, .int .i64 0, .int .i64 0, .int .i64 0, .int .i64 0, .int .i64 0, .int .i64 0, .slice none 0 0, .bool false, .int .i64 0, .slice none 0 0, .int .i64 0, .int .i64 0, .int .i64 0, .slice none 0 0] r2 (by kernel_rfl) rfl (by kernel_rfl) ?_
  go_wp2
  refine bodyPost_ret (v := .agg #[.int .i64 0, .int .i64 0, .int .i64 0, .int .i64 3, .int .i64 0, .int .i64 0, .int .i64 0, .int .i64 z0, .int .i64 z1, .slice none 0 0, .bool false, .int .i64 0, .slice none 0 0, .int .i64 0, .int .i64 0, .int .i64 0, .slice none 0 0]) ?_ rfl ⟨rfl, hw2.row (Nat.le_refl _) _⟩
  exact results_row (B := w.heap.size) (cs := #[.int .i64 0, .int .i64 0, .int .i64 0, .int .i64 3, .int .i64 0, .int .i64 0, .int .i64 0, .int .i64 z0, .int .i64 z1, .slice none 0 0, .bool false, .int .i64 0, .slice none 0 0, .int .i64 0, .int .i64 0, .int .i64 0, .slice none 0 0]) rfl rfl (r2.row _) ⟨_, Try.underlying53⟩ (by kernel_rfl)

theorem mhN_size {zs : List Int} (h : zs.length ≠ 2) : mhN zs = mhB 5 1 2 := if_pos h
theorem mhN_bad {zs : List Int} (h : zs.length = 2) (h1 : ¬ Nty (zs.getD 0 0) (zs.getD 1 0)) : mhN zs = mhB 3 1 2 := by unfold mhN; rw [if_neg (by simp [h]), if_pos h1]
theorem mhN_ok {zs : List Int} (h : zs.length = 2) (h1 : Nty (zs.getD 0 0) (zs.getD 1 0)) : mhN zs = ⟨0, 0, 0, 3, 0, 0, 0, zs.getD 0 0, zs.getD 1 0⟩ := by unfold mhN; rw [if_neg (by simp [h]), if_neg (fun q => q h1)]

theorem notifyFrom_any (a : Option Addr) (n c : Nat) (zs : List Int) (w : World) (h : BsAt w a zs) (hn : zs.length = n) (hm : n ≤ 1048576) :
    Calls Try.prog 35 #[.slice a n c] w fun e w' => e = .returned (mrV (mhN zs) (puZ 0) (.slice none 0 0) (.slice none 0 0) (.slice none 0 0)) ∧ New w w' := by
  by_cases h2 : n = 2
  case neg =>
    rw [mhN_size (by omega)]
    exact nfrom_size a n c w h2 hm
  subst h2
  obtain ⟨b, off, z0, rfl, hz0, hc0, b0, b0'⟩ := h.at 0 (by omega)
  obtain ⟨b', off', z1, e, hz1, hc1, b1, b1'⟩ := h.at 1 (by omega)
  simp only [Option.some.injEq, Addr.mk.injEq, and_true] at e
  obtain ⟨rfl, rfl⟩ := e
  by_cases g1 : 1 ≤ z0 ∧ z0 ≤ 6
  · by_cases g2 : 0 ≤ z1 ∧ z1 ≤ 20
    · rw [mhN_ok hn (by rw [getD_at hz0, getD_at hz1]; exact ⟨g1, g2⟩), getD_at hz0, getD_at hz1]
      exact nfrom_ok b off c z0 z1 w hc0 hc1 b0 b0' b1 b1' g1 g2
    · rw [mhN_bad hn (by rw [getD_at hz0, getD_at hz1]; exact fun q => g2 q.2)]
      exact nfrom_sub b off c z0 z1 w hc0 hc1 b0 b0' b1 b1' g1 g2
  · rw [mhN_bad hn (by rw [getD_at hz0, getD_at hz1]; exact fun q => g1 q.1)]
    exact nfrom_why b off c z0 z1 w hc0 hc1 b0 b0' b1 b1' g1

end Go.Proofs.Ytljkcijakdhdiaa
