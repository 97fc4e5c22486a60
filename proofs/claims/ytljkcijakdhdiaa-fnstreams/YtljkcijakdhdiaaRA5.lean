/- What is proved here: what the reading of a notify and of an update answers, in the model, for every list of at most 1048576 bytes. What is proved here: what ParseMessage answers, in the model, for every frame with a body of at most 1048576 bytes. What is proved here: what the model's ReadMessages answers, for every list of at most 1048576 bytes. What is proved here: what the marking and the holding of lists of messages answers, for at most 100 messages. No condition. What is proved here: what the comparing of lists of messages, and of answers with them, tells. No condition. -/
import Derived.Test.YtljkcijakdhdiaaRA4
import Derived.Test.YtljkcijakdhdiaaRA3
import Derived.Test.YtljkcijakdhdiaaMpNt
import Derived.Test.YtljkcijakdhdiaaMpUp
import Derived.Test.YtljkcijakdhdiaaMpIm
import Derived.Test.YtljkcijakdhdiaaRA2
import Derived.Test.YtljkcijakdhdiaaRA1
import Derived.Deep.CutRange
import Derived.Deep.MidRow
namespace Go.Proofs.Ytljkcijakdhdiaa
open Go.RowKit Go.Sort
set_option linter.unusedVariables false

theorem openS_any (a : Option Addr) (n c : Nat) (zs : List Int) (w : World) (h : BsAt w a zs) (hn : zs.length = n) (hc : n ≤ c) (hm : n ≤ 1048576) :
    Calls Try.prog 41 #[.slice a n c] w fun e w' => e = .returned (mrV (mhO zs) (puZ 0) (.slice none 0 0) (.slice none 0 0) (.slice none 0 0)) ∧ New w w' := by
  by_cases h5 : n = 5
  case neg =>
    rw [mhO_size (by omega)]
    exact open4_size a n c w h5 hm
  subst h5
  have h5 : zs.length = 5 := hn
  obtain ⟨b, off, ho, rfl, hho, -, -⟩ := h.at 2 (by omega)
  have hb := h.lt
  have b1 := numAt_bd2 zs hb 0
  have b2 := numAt_bd2 zs hb 3
  by_cases g1 : numAt zs 0 2 = 0
  · rw [mhO_as h5 g1]
    exact open4_as b off c zs (numAt zs 0 2) ho (numAt zs 3 2) w h h5 rfl hho rfl g1
  by_cases g2 : numAt zs 3 2 = 0
  · rw [mhO_id h5 g1 g2]
    exact open4_id b off c zs (numAt zs 0 2) ho (numAt zs 3 2) w h h5 rfl hho rfl g1 g2
  by_cases g3 : Hl (zs.getD 2 0)
  · rw [mhO_ok h5 g1 g2 g3, getD_at hho]
    rw [getD_at hho] at g3
    exact open4_ok b off c zs (numAt zs 0 2) ho (numAt zs 3 2) w h h5 rfl hho rfl g1 g2 g3
  · rw [mhO_hold h5 g1 g2 g3]
    rw [getD_at hho] at g3
    exact open4_hold b off c zs (numAt zs 0 2) ho (numAt zs 3 2) w h h5 rfl hho rfl g1 g2 g3


set_option maxHeartbeats 1600000 in
theorem nt4_size (a : Option Addr) (n c : Nat) (w : World) (h : n ≠ 2) (hm : n ≤ 1048576) : Calls Try.prog 42 #[.slice a n c] w fun e w' => e = .returned (mrV (mhB 5 1 2) (puZ 0) (.slice none 0 0) (.slice none 0 0) (.slice none 0 0)) ∧ New w w' := by
  have e1 : ((n : Int) != 2) = true := by simp; omega
  clear h
  have hw := (New.refl w).alloc (.cells #[.int .i64 0, .int .i64 0, .int .i64 0, .int .i64 0, .int .i64 0, .int .i64 0, .int .i64 0, .int .i64 0, .int .i64 0, .slice none 0 0, .bool false, .int .i64 0, .slice none 0 0, .int .i64 0, .int .i64 0, .int .i64 0, .slice none 0 0] 53)
  have bR := Blk.mk w w.heap.size 53 #[.int .i64 0, .int .i64 0, .int .i64 0, .int .i64 0, .int .i64 0, .int .i64 0, .int .i64 0, .int .i64 0, .int .i64 0, .slice none 0 0, .bool false, .int .i64 0, .slice none 0 0, .int .i64 0, .int .i64 0, .int .i64 0, .slice none 0 0] rfl
  have ge0 : w.heap.size ≤ w.heap.size := Nat.le_refl _
  go_enter Try.func42, Try.ntmps42
  go_upto_region 1 with fail
  generalize w.alloc (.cells #[.int .i64 0, .int .i64 0, .int .i64 0, .int .i64 0, .int .i64 0, .int .i64 0, .int .i64 0, .int .i64 0, .int .i64 0, .slice none 0 0, .bool false, .int .i64 0, .slice none 0 0, .int .i64 0, .int .i64 0, .int .i64 0, .slice none 0 0] 53) = w0 at *
  have cR := bR.cells
  have fR := bR.frees
  clear cR fR
  go_wp2_with fail
  refine (bad4 5 1 2 _).mono ?_
  rintro e w9 ⟨rfl, hn9⟩
  have b9 := bR.new hn9
  have hw9 := hw.trans hn9
  go_wp2_with (refine wpList_store_row rfl 53 (.tmp 2) (.tmp 7) rfl w.heap.size #[.int .i64 5, .int .i64 1, .int .i64 2, .int .i64 0, .int .i64 0, .int .i64 0, .int .i64 0, .int .i64 0, .int .i64 0, .slice none 0 0, .bool false, .int .i64 0, .slice none 0 0, .int .i64 0, .int .i64 0, .int .i64 0, .slice none 0 0] rfl rfl 53 #[.int .i64 0, .int .i64 0, .int .i64 0, .int .i64 0, .int .i64 0, .int .i64 0, .int .i64 0, .int .i64 0, .int .i64 0, .slice none 0 0, .bool false, .int .i64 0, .slice none 0 0, .int .i64 0, .int .i64 0, .int .i64 0, .slice none 0 0] b9 (by kernel_rfl) rfl (by kernel_rfl) ?_)
  go_wp2
  refine bodyPost_ret (v := .agg #[.int .i64 5, .int .i64 1, .int .i64 2, .int .i64 0, .int .i64 0, .int .i64 0, .int .i64 0, .int .i64 0, .int .i64 0, .slice none 0 0, .bool false, .int .i64 0, .slice none 0 0, .int .i64 0, .int .i64 0, .int .i64 0, .slice none 0 0]) ?_ rfl ⟨rfl, hw9.row (Nat.le_refl _) _⟩
  exact results_row (B := w.heap.size) (cs := #[.int .i64 5, .int .i64 1, .int .i64 2, .int .i64 0, .int .i64 0, .int .i64 0, .int .i64 0, .int .i64 0, .int .i64 0, .slice none 0 0, .bool false, .int .i64 0, .slice none 0 0, .int .i64 0, .int .i64 0, .int .i64 0, .slice none 0 0]) rfl rfl (b9.row _) ⟨_, Try.underlying53⟩ (by kernel_rfl)


set_option maxRecDepth 100000 in
set_option maxHeartbeats 3200000 in
theorem nt4_bad (b off c : Nat) (z0 z1 : Int) (w : World) (h0 : w.cell? ⟨b, off, none⟩ = some (.int .u8 z0)) (h1' : w.cell? ⟨b, off + 1, none⟩ = some (.int .u8 z1)) (b0 : 0 ≤ z0) (b0' : z0 ≤ 255) (b1 : 0 ≤ z1) (b1' : z1 ≤ 255) (h1 : ¬ Nty z0 z1) :
    Calls Try.prog 42 #[.slice (some ⟨b, off, none⟩) 2 c] w fun e w' => e = .returned (.agg #[.int .i64 3, .int .i64 1, .int .i64 2, .int .i64 0, .int .i64 0, .int .i64 0, .int .i64 0, .int .i64 0, .int .i64 0, .slice none 0 0, .bool false, .int .i64 0, .slice none 0 0, .int .i64 0, .int .i64 0, .int .i64 0, .slice none 0 0]) ∧ New w w' := by
  have hw := (New.refl w).alloc (.cells #[.int .i64 0, .int .i64 0, .int .i64 0, .int .i64 0, .int .i64 0, .int .i64 0, .int .i64 0, .int .i64 0, .int .i64 0, .slice none 0 0, .bool false, .int .i64 0, .slice none 0 0, .int .i64 0, .int .i64 0, .int .i64 0, .slice none 0 0] 53)
  have bR := Blk.mk w w.heap.size 53 #[.int .i64 0, .int .i64 0, .int .i64 0, .int .i64 0, .int .i64 0, .int .i64 0, .int .i64 0, .int .i64 0, .int .i64 0, .slice none 0 0, .bool false, .int .i64 0, .slice none 0 0, .int .i64 0, .int .i64 0, .int .i64 0, .slice none 0 0] rfl
  have ge0 : w.heap.size ≤ w.heap.size := Nat.le_refl _
  have HMF : Hid (mf 3 0 0 0 z0 z1 [] false 0 [] 0 0 0 [] = 3) := by show _ = _; unfold mf; rw [if_neg (by omega), if_neg (by omega), if_pos ⟨rfl, h1⟩]
  have q0 : IntKind.i64.wrap z0 = z0 := by simp [IntKind.wrap, IntKind.signed, IntKind.bits]; omega
  have q1 : IntKind.i64.wrap z1 = z1 := by simp [IntKind.wrap, IntKind.signed, IntKind.bits]; omega
  have g0 := (hw.below.cell (World.block_lt_of_cell? _ _ h0)).trans h0
  have g1 := (hw.below.cell (World.block_lt_of_cell? _ _ h1')).trans h1'
  clear h0 h1' h1
  go_enter Try.func42, Try.ntmps42
  go_upto_region 1 with fail
  generalize w.alloc (.cells #[.int .i64 0, .int .i64 0, .int .i64 0, .int .i64 0, .int .i64 0, .int .i64 0, .int .i64 0, .int .i64 0, .int .i64 0, .slice none 0 0, .bool false, .int .i64 0, .slice none 0 0, .int .i64 0, .int .i64 0, .int .i64 0, .slice none 0 0] 53) = w0 at *
  have cR := bR.cells
  have fR := bR.frees
  clear cR fR
  have hcell0 : ∀ X, New w0 X → X.cell? ⟨b, off, none⟩ = some (.int .u8 z0) := fun X hX => (hX.below.cell (World.block_lt_of_cell? _ _ g0)).trans g0
  have hcell1 : ∀ X, New w0 X → X.cell? ⟨b, off + 1, none⟩ = some (.int .u8 z1) := fun X hX => (hX.below.cell (World.block_lt_of_cell? _ _ g1)).trans g1
  go_upto_region 3 with fail
  refine hw_start (n := 11) (S := fun X => New w0 X) rfl (by kernel_rfl) ((New.refl _).drew) (fun hH => ?_)
  refine' hw_take 0 (some 8) _ rfl rfl (by kernel_rfl) (by kernel_rfl) (by kernel_rfl) (fun _ _ _ h => h) (by rfl) hH ?hy1 ?rest1
  case hy1 =>
    intro X hX
    have hX0 := hcell0 X hX
    have hX1 := hcell1 X hX
    go_simp
    try rfl
  simp only [Act.put, List.setIfInBounds_toArray, List.set_cons_zero, List.set_cons_succ]
  refine' hw_take 1 (some 9) _ rfl rfl (by kernel_rfl) (by kernel_rfl) (by kernel_rfl) (fun _ _ _ h => h) (by rfl) hH ?hy2 ?rest2
  case hy2 =>
    intro X hX
    have hX0 := hcell0 X hX
    have hX1 := hcell1 X hX
    go_simp
    try rfl
  simp only [Act.put, List.setIfInBounds_toArray, List.set_cons_zero, List.set_cons_succ]
  refine' hw_take 2 (some 10) _ rfl rfl (by kernel_rfl) (by kernel_rfl) (by kernel_rfl) (fun _ _ _ h => h) (by rfl) hH ?hy3 ?rest3
  case hy3 =>
    intro X hX
    have hX0 := hcell0 X hX
    have hX1 := hcell1 X hX
    go_simp
    try rfl
  simp only [Act.put, List.setIfInBounds_toArray, List.set_cons_zero, List.set_cons_succ]
  refine' hw_take 3 (some 11) _ rfl rfl (by kernel_rfl) (by kernel_rfl) (by kernel_rfl) (fun _ _ _ h => h) (by rfl) hH ?hy4 ?rest4
  case hy4 =>
    intro X hX
    have hX0 := hcell0 X hX
    have hX1 := hcell1 X hX
    go_simp
    try rfl
  simp only [Act.put, List.setIfInBounds_toArray, List.set_cons_zero, List.set_cons_succ]
  refine' hw_take 4 (some 12) _ rfl rfl (by kernel_rfl) (by kernel_rfl) (by kernel_rfl) (fun _ _ _ h => h) (by rfl) hH ?hy5 ?rest5
  case hy5 =>
    intro X hX
    have hX0 := hcell0 X hX
    have hX1 := hcell1 X hX
    go_simp
    try rfl
  simp only [Act.put, List.setIfInBounds_toArray, List.set_cons_zero, List.set_cons_succ]
  refine' hw_take 5 (some 13) _ rfl rfl (by kernel_rfl) (by kernel_rfl) (by kernel_rfl) (fun _ _ _ h => h) (by rfl) hH ?hy6 ?rest6
  case hy6 =>
    intro X hX
    have hX0 := hcell0 X hX
    have hX1 := hcell1 X hX
    go_simp
    try rfl
  simp only [Act.put, List.setIfInBounds_toArray, List.set_cons_zero, List.set_cons_succ]
  refine' hw_take 6 (some 14) _ rfl rfl (by kernel_rfl) (by kernel_rfl) (by kernel_rfl) (fun _ _ _ h => h) (by rfl) hH ?hy7 ?rest7
  case hy7 =>
    intro X hX
    have hX0 := hcell0 X hX
    have hX1 := hcell1 X hX
    go_simp
    try rfl
  simp only [Act.put, List.setIfInBounds_toArray, List.set_cons_zero, List.set_cons_succ]
  refine' hw_take 7 (some 15) _ rfl rfl (by kernel_rfl) (by kernel_rfl) (by kernel_rfl) (fun _ _ _ h => h) (by rfl) hH ?hy8 ?rest8
  case hy8 =>
    intro X hX
    have hX0 := hcell0 X hX
    have hX1 := hcell1 X hX
    go_simp
    try rfl
  simp only [Act.put, List.setIfInBounds_toArray, List.set_cons_zero, List.set_cons_succ]
  refine' hw_take 8 (some 16) _ rfl rfl (by kernel_rfl) (by kernel_rfl) (by kernel_rfl) (fun _ _ _ h => h) (by rfl) hH ?hy9 ?rest9
  case hy9 =>
    intro X hX
    have hX0 := hcell0 X hX
    have hX1 := hcell1 X hX
    go_simp
    try rfl
  simp only [Act.put, List.setIfInBounds_toArray, List.set_cons_zero, List.set_cons_succ]
  refine hw_call 9 (some 3) rfl rfl (by kernel_rfl) (by rfl) (fun K hK => ?_)
  go_simp
  refine hK.out _ _ (hH.alloc _) (fun hH => ?_)
  simp only [Act.put, List.setIfInBounds_toArray, List.set_cons_zero, List.set_cons_succ]
  refine hw_call 10 none rfl rfl (by kernel_rfl) (by rfl) (fun K hK => ?_)
  have qb := Blk.mk w0.drew w0.heap.size 51 #[.int .i64 0, .int .i64 0, .int .i64 0, .int .i64 0, .int .i64 0, .int .i64 0, .slice none 0 0, .bool false, .int .i64 0, .slice none 0 0, .int .i64 0, .int .i64 0, .int .i64 0, .slice none 0 0] rfl
  refine hw_store 51 (.tmp 3) (.tmp 16) rfl rfl w0.heap.size #[.int .i64 3, .int .i64 0, .int .i64 0, .int .i64 0, .int .i64 z0, .int .i64 z1, .slice none 0 0, .bool false, .int .i64 0, .slice none 0 0, .int .i64 0, .int .i64 0, .int .i64 0, .slice none 0 0] #[.int .i64 0, .int .i64 0, .int .i64 0, .int .i64 0, .int .i64 0, .int .i64 0, .slice none 0 0, .bool false, .int .i64 0, .slice none 0 0, .int .i64 0, .int .i64 0, .int .i64 0, .slice none 0 0] rfl rfl qb (by kernel_rfl) rfl (by kernel_rfl) ?_
  have bM := qb.rowW #[.int .i64 3, .int .i64 0, .int .i64 0, .int .i64 0, .int .i64 z0, .int .i64 z1, .slice none 0 0, .bool false, .int .i64 0, .slice none 0 0, .int .i64 0, .int .i64 0, .int .i64 0, .slice none 0 0]
  have hNz : New w0 (World.setRow (w0.drew.alloc (.cells #[.int .i64 0, .int .i64 0, .int .i64 0, .int .i64 0, .int .i64 0, .int .i64 0, .slice none 0 0, .bool false, .int .i64 0, .slice none 0 0, .int .i64 0, .int .i64 0, .int .i64 0, .slice none 0 0] 51)) w0.heap.size #[.int .i64 3, .int .i64 0, .int .i64 0, .int .i64 0, .int .i64 z0, .int .i64 z1, .slice none 0 0, .bool false, .int .i64 0, .slice none 0 0, .int .i64 0, .int .i64 0, .int .i64 0, .slice none 0 0]) := hH.before (Turn.rowW (S := fun k => k = w0.heap.size) (Turn.refl _ _) (show w0.heap.size = w0.heap.size from rfl) #[.int .i64 3, .int .i64 0, .int .i64 0, .int .i64 0, .int .i64 z0, .int .i64 z1, .slice none 0 0, .bool false, .int .i64 0, .slice none 0 0, .int .i64 0, .int .i64 0, .int .i64 0, .slice none 0 0]) (fun i hi e => by omega)
  refine hK.out _ _ hNz (fun hH => ?_)
  simp only [Act.put]
  refine wpAnyH_done (by kernel_rfl) ?_ _
  clear hH qb
  have bRz := bR.new hNz
  have hwz := hw.trans hNz
  try rw [show ((w0.alloc (.cells #[.int .i64 0, .int .i64 0, .int .i64 0, .int .i64 0, .int .i64 0, .int .i64 0, .slice none 0 0, .bool false, .int .i64 0, .slice none 0 0, .int .i64 0, .int .i64 0, .int .i64 0, .slice none 0 0] 51)).drew.setRow w0.heap.size #[.int .i64 3, .int .i64 0, .int .i64 0, .int .i64 0, .int .i64 z0, .int .i64 z1, .slice none 0 0, .bool false, .int .i64 0, .slice none 0 0, .int .i64 0, .int .i64 0, .int .i64 0, .slice none 0 0]) = ((w0.drew.alloc (.cells #[.int .i64 0, .int .i64 0, .int .i64 0, .int .i64 0, .int .i64 0, .int .i64 0, .slice none 0 0, .bool false, .int .i64 0, .slice none 0 0, .int .i64 0, .int .i64 0, .int .i64 0, .slice none 0 0] 51)).setRow w0.heap.size #[.int .i64 3, .int .i64 0, .int .i64 0, .int .i64 0, .int .i64 z0, .int .i64 z1, .slice none 0 0, .bool false, .int .i64 0, .slice none 0 0, .int .i64 0, .int .i64 0, .int .i64 0, .slice none 0 0]) from rfl]
  generalize ((w0.drew.alloc (.cells #[.int .i64 0, .int .i64 0, .int .i64 0, .int .i64 0, .int .i64 0, .int .i64 0, .slice none 0 0, .bool false, .int .i64 0, .slice none 0 0, .int .i64 0, .int .i64 0, .int .i64 0, .slice none 0 0] 51)).setRow w0.heap.size #[.int .i64 3, .int .i64 0, .int .i64 0, .int .i64 0, .int .i64 z0, .int .i64 z1, .slice none 0 0, .bool false, .int .i64 0, .slice none 0 0, .int .i64 0, .int .i64 0, .int .i64 0, .slice none 0 0]) = wz at *
  have cM := bM.cells
  go_wp2_with fail
  refine (specMF none none none 0 0 0 0 0 0 false 0 0 0 0 [] [] [] 3 0 0 0 z0 z1 _ (PsAt.nil _ _) (NsAt.nil _ _) (PsAt.nil _ _) rfl rfl rfl (by omega) (by omega) (by omega)).mono ?_
  rintro e wy ⟨rfl, hny⟩
  have bM := bM.new hny
  have bRz := bRz.new hny
  have hwz := hwz.trans hny
  rw [HMF.out]
  clear cM
  go_wp2_with fail
  refine (bad4 3 1 2 _).mono ?_
  rintro e w9 ⟨rfl, hn9⟩
  have b9 := bRz.new hn9
  have hw9 := hwz.trans hn9
  go_wp2_with (refine wpList_store_row rfl 53 (.tmp 2) (.tmp 20) rfl w.heap.size #[.int .i64 3, .int .i64 1, .int .i64 2, .int .i64 0, .int .i64 0, .int .i64 0, .int .i64 0, .int .i64 0, .int .i64 0, .slice none 0 0, .bool false, .int .i64 0, .slice none 0 0, .int .i64 0, .int .i64 0, .int .i64 0, .slice none 0 0] rfl rfl 53 #[.int .i64 0, .int .i64 0, .int .i64 0, .int .i64 0, .int .i64 0, .int .i64 0, .int .i64 0, .int .i64 0, .int .i64 0, .slice none 0 0, .bool false, .int .i64 0, .slice none 0 0, .int .i64 0, .int .i64 0, .int .i64 0, .slice none 0 0] b9 (by kernel_rfl) rfl (by kernel_rfl) ?_)
  go_wp2
  refine bodyPost_ret (v := .agg #[.int .i64 3, .int .i64 1, .int .i64 2, .int .i64 0, .int .i64 0, .int .i64 0, .int .i64 0, .int .i64 0, .int .i64 0, .slice none 0 0, .bool false, .int .i64 0, .slice none 0 0, .int .i64 0, .int .i64 0, .int .i64 0, .slice none 0 0]) ?_ rfl ⟨rfl, hw9.row (Nat.le_refl _) _⟩
  exact results_row (B := w.heap.size) (cs := #[.int .i64 3, .int .i64 1, .int .i64 2, .int .i64 0, .int .i64 0, .int .i64 0, .int .i64 0, .int .i64 0, .int .i64 0, .slice none 0 0, .bool false, .int .i64 0, .slice none 0 0, .int .i64 0, .int .i64 0, .int .i64 0, .slice none 0 0]) rfl rfl (b9.row _) ⟨_, Try.underlying53⟩ (by kernel_rfl)


set_option maxRecDepth 100000 in
set_option maxHeartbeats 3200000 in
theorem nt4_ok (b off c : Nat) (z0 z1 : Int) (w : World) (h0 : w.cell? ⟨b, off, none⟩ = some (.int .u8 z0)) (h1' : w.cell? ⟨b, off + 1, none⟩ = some (.int .u8 z1)) (b0 : 0 ≤ z0) (b0' : z0 ≤ 255) (b1 : 0 ≤ z1) (b1' : z1 ≤ 255) (h1 : Nty z0 z1) :
    Calls Try.prog 42 #[.slice (some ⟨b, off, none⟩) 2 c] w fun e w' => e = .returned (.agg #[.int .i64 0, .int .i64 0, .int .i64 0, .int .i64 3, .int .i64 0, .int .i64 0, .int .i64 0, .int .i64 z0, .int .i64 z1, .slice none 0 0, .bool false, .int .i64 0, .slice none 0 0, .int .i64 0, .int .i64 0, .int .i64 0, .slice none 0 0]) ∧ New w w' := by
  have hw := (New.refl w).alloc (.cells #[.int .i64 0, .int .i64 0, .int .i64 0, .int .i64 0, .int .i64 0, .int .i64 0, .int .i64 0, .int .i64 0, .int .i64 0, .slice none 0 0, .bool false, .int .i64 0, .slice none 0 0, .int .i64 0, .int .i64 0, .int .i64 0, .slice none 0 0] 53)
  have bR := Blk.mk w w.heap.size 53 #[.int .i64 0, .int .i64 0, .int .i64 0, .int .i64 0, .int .i64 0, .int .i64 0, .int .i64 0, .int .i64 0, .int .i64 0, .slice none 0 0, .bool false, .int .i64 0, .slice none 0 0, .int .i64 0, .int .i64 0, .int .i64 0, .slice none 0 0] rfl
  have ge0 : w.heap.size ≤ w.heap.size := Nat.le_refl _
  have HMF : Hid (mf 3 0 0 0 z0 z1 [] false 0 [] 0 0 0 [] = 0) := by show _ = _; unfold mf; rw [if_neg (by omega), if_neg (by omega), if_neg (fun q => q.2 h1), if_neg (fun q => q ⟨fun _ => ⟨rfl, rfl, rfl⟩, fun q => absurd rfl q, fun _ => ⟨rfl, rfl, rfl, rfl, rfl, rfl, rfl, rfl⟩⟩), if_neg (by omega)]
  have q0 : IntKind.i64.wrap z0 = z0 := by simp [IntKind.wrap, IntKind.signed, IntKind.bits]; omega
  have q1 : IntKind.i64.wrap z1 = z1 := by simp [IntKind.wrap, IntKind.signed, IntKind.bits]; omega
  have g0 := (hw.below.cell (World.block_lt_of_cell? _ _ h0)).trans h0
  have g1 := (hw.below.cell (World.block_lt_of_cell? _ _ h1')).trans h1'
  clear h0 h1' h1
  go_enter Try.func42, Try.ntmps42
  go_upto_region 1 with fail
  generalize w.alloc (.cells #[.int .i64 0, .int .i64 0, .int .i64 0, .int .i64 0, .int .i64 0, .int .i64 0, .int .i64 0, .int .i64 0, .int .i64 0, .slice none 0 0, .bool false, .int .i64 0, .slice none 0 0, .int .i64 0, .int .i64 0, .int .i64 0, .slice none 0 0] 53) = w0 at *
  have cR := bR.cells
  have fR := bR.frees
  clear cR fR
  have hcell0 : ∀ X, New w0 X → X.cell? ⟨b, off, none⟩ = some (.int .u8 z0) := fun X hX => (hX.below.cell (World.block_lt_of_cell? _ _ g0)).trans g0
  have hcell1 : ∀ X, New w0 X → X.cell? ⟨b, off + 1, none⟩ = some (.int .u8 z1) := fun X hX => (hX.below.cell (World.block_lt_of_cell? _ _ g1)).trans g1
  go_upto_region 3 with fail
  refine hw_start (n := 11) (S := fun X => New w0 X) rfl (by kernel_rfl) ((New.refl _).drew) (fun hH => ?_)
  refine' hw_take 0 (some 8) _ rfl rfl (by kernel_rfl) (by kernel_rfl) (by kernel_rfl) (fun _ _ _ h => h) (by rfl) hH ?hy10 ?rest10
  case hy10 =>
    intro X hX
    have hX0 := hcell0 X hX
    have hX1 := hcell1 X hX
    go_simp
    try rfl
  simp only [Act.put, List.setIfInBounds_toArray, List.set_cons_zero, List.set_cons_succ]
  refine' hw_take 1 (some 9) _ rfl rfl (by kernel_rfl) (by kernel_rfl) (by kernel_rfl) (fun _ _ _ h => h) (by rfl) hH ?hy11 ?rest11
  case hy11 =>
    intro X hX
    have hX0 := hcell0 X hX
    have hX1 := hcell1 X hX
    go_simp
    try rfl
  simp only [Act.put, List.setIfInBounds_toArray, List.set_cons_zero, List.set_cons_succ]
  refine' hw_take 2 (some 10) _ rfl rfl (by kernel_rfl) (by kernel_rfl) (by kernel_rfl) (fun _ _ _ h => h) (by rfl) hH ?hy12 ?rest12
  case hy12 =>
    intro X hX
    have hX0 := hcell0 X hX
    have hX1 := hcell1 X hX
    go_simp
    try rfl
  simp only [Act.put, List.setIfInBounds_toArray, List.set_cons_zero, List.set_cons_succ]
  refine' hw_take 3 (some 11) _ rfl rfl (by kernel_rfl) (by kernel_rfl) (by kernel_rfl) (fun _ _ _ h => h) (by rfl) hH ?hy13 ?rest13
  case hy13 =>
    intro X hX
    have hX0 := hcell0 X hX
    have hX1 := hcell1 X hX
    go_simp
    try rfl
  simp only [Act.put, List.setIfInBounds_toArray, List.set_cons_zero, List.set_cons_succ]
  refine' hw_take 4 (some 12) _ rfl rfl (by kernel_rfl) (by kernel_rfl) (by kernel_rfl) (fun _ _ _ h => h) (by rfl) hH ?hy14 ?rest14
  case hy14 =>
    intro X hX
    have hX0 := hcell0 X hX
    have hX1 := hcell1 X hX
    go_simp
    try rfl
  simp only [Act.put, List.setIfInBounds_toArray, List.set_cons_zero, List.set_cons_succ]
  refine' hw_take 5 (some 13) _ rfl rfl (by kernel_rfl) (by kernel_rfl) (by kernel_rfl) (fun _ _ _ h => h) (by rfl) hH ?hy15 ?rest15
  case hy15 =>
    intro X hX
    have hX0 := hcell0 X hX
    have hX1 := hcell1 X hX
    go_simp
    try rfl
  simp only [Act.put, List.setIfInBounds_toArray, List.set_cons_zero, List.set_cons_succ]
  refine' hw_take 6 (some 14) _ rfl rfl (by kernel_rfl) (by kernel_rfl) (by kernel_rfl) (fun _ _ _ h => h) (by rfl) hH ?hy16 ?rest16
  case hy16 =>
    intro X hX
    have hX0 := hcell0 X hX
    have hX1 := hcell1 X hX
    go_simp
    try rfl
  simp only [Act.put, List.setIfInBounds_toArray, List.set_cons_zero, List.set_cons_succ]
  refine' hw_take 7 (some 15) _ rfl rfl (by kernel_rfl) (by kernel_rfl) (by kernel_rfl) (fun _ _ _ h => h) (by rfl) hH ?hy17 ?rest17
  case hy17 =>
    intro X hX
    have hX0 := hcell0 X hX
    have hX1 := hcell1 X hX
    go_simp
    try rfl
  simp only [Act.put, List.setIfInBounds_toArray, List.set_cons_zero, List.set_cons_succ]
  refine' hw_take 8 (some 16) _ rfl rfl (by kernel_rfl) (by kernel_rfl) (by kernel_rfl) (fun _ _ _ h => h) (by rfl) hH ?hy18 ?rest18
  case hy18 =>
    intro X hX
    have hX0 := hcell0 X hX
    have hX1 := hcell1 X hX
    go_simp
    try rfl
  simp only [Act.put, List.setIfInBounds_toArray, List.set_cons_zero, List.set_cons_succ]
  refine hw_call 9 (some 3) rfl rfl (by kernel_rfl) (by rfl) (fun K hK => ?_)
  go_simp
  refine hK.out _ _ (hH.alloc _) (fun hH => ?_)
  simp only [Act.put, List.setIfInBounds_toArray, List.set_cons_zero, List.set_cons_succ]
  refine hw_call 10 none rfl rfl (by kernel_rfl) (by rfl) (fun K hK => ?_)
  have qb := Blk.mk w0.drew w0.heap.size 51 #[.int .i64 0, .int .i64 0, .int .i64 0, .int .i64 0, .int .i64 0, .int .i64 0, .slice none 0 0, .bool false, .int .i64 0, .slice none 0 0, .int .i64 0, .int .i64 0, .int .i64 0, .slice none 0 0] rfl
  refine hw_store 51 (.tmp 3) (.tmp 16) rfl rfl w0.heap.size #[.int .i64 3, .int .i64 0, .int .i64 0, .int .i64 0, .int .i64 z0, .int .i64 z1, .slice none 0 0, .bool false, .int .i64 0, .slice none 0 0, .int .i64 0, .int .i64 0, .int .i64 0, .slice none 0 0] #[.int .i64 0, .int .i64 0, .int .i64 0, .int .i64 0, .int .i64 0, .int .i64 0, .slice none 0 0, .bool false, .int .i64 0, .slice none 0 0, .int .i64 0, .int .i64 0, .int .i64 0, .slice none 0 0] rfl rfl qb (by kernel_rfl) rfl (by kernel_rfl) ?_
  have bM := qb.rowW #[.int .i64 3, .int .i64 0, .int .i64 0, .int .i64 0, .int .i64 z0, .int .i64 z1, .slice none 0 0, .bool false, .int .i64 0, .slice none 0 0, .int .i64 0, .int .i64 0, .int .i64 0, .slice none 0 0]
  have hNz : New w0 (World.setRow (w0.drew.alloc (.cells #[.int .i64 0, .int .i64 0, .int .i64 0, .int .i64 0, .int .i64 0, .int .i64 0, .slice none 0 0, .bool false, .int .i64 0, .slice none 0 0, .int .i64 0, .int .i64 0, .int .i64 0, .slice none 0 0] 51)) w0.heap.size #[.int .i64 3, .int .i64 0, .int .i64 0, .int .i64 0, .int .i64 z0, .int .i64 z1, .slice none 0 0, .bool false, .int .i64 0, .slice none 0 0, .int .i64 0, .int .i64 0, .int .i64 0, .slice none 0 0]) := hH.before (Turn.rowW (S := fun k => k = w0.heap.size) (Turn.refl _ _) (show w0.heap.size = w0.heap.size from rfl) #[.int .i64 3, .int .i64 0, .int .i64 0, .int .i64 0, .int .i64 z0, .int .i64 z1, .slice none 0 0, .bool false, .int .i64 0, .slice none 0 0, .int .i64 0, .int .i64 0, .int .i64 0, .slice none 0 0]) (fun i hi e => by omega)
  refine hK.out _ _ hNz (fun hH => ?_)
  simp only [Act.put]
  refine wpAnyH_done (by kernel_rfl) ?_ _
  clear hH qb
  have bRz := bR.new hNz
  have hwz := hw.trans hNz
  try rw [show ((w0.alloc (.cells #[.int .i64 0, .int .i64 0, .int .i64 0, .int .i64 0, .int .i64 0, .int .i64 0, .slice none 0 0, .bool false, .int .i64 0, .slice none 0 0, .int .i64 0, .int .i64 0, .int .i64 0, .slice none 0 0] 51)).drew.setRow w0.heap.size #[.int .i64 3, .int .i64 0, .int .i64 0, .int .i64 0, .int .i64 z0, .int .i64 z1, .slice none 0 0, .bool false, .int .i64 0, .slice none 0 0, .int .i64 0, .int .i64 0, .int .i64 0, .slice none 0 0]) = ((w0.drew.alloc (.cells #[.int .i64 0, .int .i64 0, .int .i64 0, .int .i64 0, .int .i64 0, .int .i64 0, .slice none 0 0, .bool false, .int .i64 0, .slice none 0 0, .int .i64 0, .int .i64 0, .int .i64 0, .slice none 0 0] 51)).setRow w0.heap.size #[.int .i64 3, .int .i64 0, .int .i64 0, .int .i64 0, .int .i64 z0, .int .i64 z1, .slice none 0 0, .bool false, .int .i64 0, .slice none 0 0, .int .i64 0, .int .i64 0, .int .i64 0, .slice none 0 0]) from rfl]
  generalize ((w0.drew.alloc (.cells #[.int .i64 0, .int .i64 0, .int .i64 0, .int .i64 0, .int .i64 0, .int .i64 0, .slice none 0 0, .bool false, .int .i64 0, .slice none 0 0, .int .i64 0, .int .i64 0, .int .i64 0, .slice none 0 0] 51)).setRow w0.heap.size #[.int .i64 3, .int .i64 0, .int .i64 0, .int .i64 0, .int .i64 z0, .int .i64 z1, .slice none 0 0, .bool false, .int .i64 0, .slice none 0 0, .int .i64 0, .int .i64 0, .int .i64 0, .slice none 0 0]) = wz at *
  have cM := bM.cells
  go_wp2_with fail
  refine (specMF none none none 0 0 0 0 0 0 false 0 0 0 0 [] [] [] 3 0 0 0 z0 z1 _ (PsAt.nil _ _) (NsAt.nil _ _) (PsAt.nil _ _) rfl rfl rfl (by omega) (by omega) (by omega)).mono ?_
  rintro e wy ⟨rfl, hny⟩
  have bM := bM.new hny
  have bRz := bRz.new hny
  have hwz := hwz.trans hny
  rw [HMF.out]
  clear cM
  go_upto_region 6 with fail
  apply wp_region_lit
  refine wpList_load_row rfl 51 (.tmp 3) rfl w0.heap.size rfl 51 #[.int .i64 3, .int .i64 0, .int .i64 0, .int .i64 0, .int .i64 z0, .int .i64 z1, .slice none 0 0, .bool false, .int .i64 0, .slice none 0 0, .int .i64 0, .int .i64 0, .int .i64 0, .slice none 0 0] (0, 0) _ bM Try.underlying51 rfl (by kernel_rfl) ?_
  refine wpList_build rfl 53 _ rfl (by kernel_rfl) ?_
  refine wpList_store_row rfl 53 (.tmp 2) (.tmp 22) rfl w.heap.size #[.int .i64 0, .int .i64 0, .int .i64 0, .int .i64 3, .int .i64 0, .int .i64 0, .int .i64 0, .int .i64 z0, .int .i64 z1, .slice none 0 0, .bool false, .int .i64 0, .slice none 0 0, .int .i64 0, .int .i64 0, .int .i64 0, .slice none 0 0] rfl (by kernel_rfl) 53 #[.int .i64 0, .int .i64 0, .int .i64 0, .int .i64 0, .int .i64 0, .int .i64 0, .int .i64 0, .int .i64 0, .int .i64 0, .slice none 0 0, .bool false, .int .i64 0, .slice none 0 0, .int .i64 0, .int .i64 0, .int .i64 0, .slice none 0 0] bRz (by kernel_rfl) rfl (by kernel_rfl) ?_
  go_wp2
  refine bodyPost_ret (v := .agg #[.int .i64 0, .int .i64 0, .int .i64 0, .int .i64 3, .int .i64 0, .int .i64 0, .int .i64 0, .int .i64 z0, .int .i64 z1, .slice none 0 0, .bool false, .int .i64 0, .slice none 0 0, .int .i64 0, .int .i64 0, .int .i64 0, .slice none 0 0]) ?_ rfl ⟨rfl, hwz.row (Nat.le_refl _) _⟩
  exact results_row (B := w.heap.size) (cs := #[.int .i64 0, .int .i64 0, .int .i64 0, .int .i64 3, .int .i64 0, .int .i64 0, .int .i64 0, .int .i64 z0, .int .i64 z1, .slice none 0 0, .bool false, .int .i64 0, .slice none 0 0, .int .i64 0, .int .i64 0, .int .i64 0, .slice none 0 0]) rfl rfl (bRz.row _) ⟨_, Try.underlying53⟩ (by kernel_rfl)


theorem notifyS_any (a : Option Addr) (n c : Nat) (zs : List Int) (w : World) (h : BsAt w a zs) (hn : zs.length = n) (hm : n ≤ 1048576) :
    Calls Try.prog 42 #[.slice a n c] w fun e w' => e = .returned (mrV (mhN zs) (puZ 0) (.slice none 0 0) (.slice none 0 0) (.slice none 0 0)) ∧ New w w' := by
  by_cases h2 : n = 2
  case neg =>
    rw [mhN_size (by omega)]
    exact nt4_size a n c w h2 hm
  subst h2
  obtain ⟨b, off, z0, rfl, hz0, hc0, b0, b0'⟩ := h.at 0 (by omega)
  obtain ⟨b', off', z1, e, hz1, hc1, b1, b1'⟩ := h.at 1 (by omega)
  simp only [Option.some.injEq, Addr.mk.injEq, and_true] at e
  obtain ⟨rfl, rfl⟩ := e
  by_cases g1 : 1 ≤ z0 ∧ z0 ≤ 6
  · by_cases g2 : 0 ≤ z1 ∧ z1 ≤ 20
    · rw [mhN_ok hn (by rw [getD_at hz0, getD_at hz1]; exact ⟨g1, g2⟩), getD_at hz0, getD_at hz1]
      exact nt4_ok b off c z0 z1 w hc0 hc1 b0 b0' b1 b1' ⟨g1, g2⟩
    · rw [mhN_bad hn (by rw [getD_at hz0, getD_at hz1]; exact fun q => g2 q.2)]
      exact nt4_bad b off c z0 z1 w hc0 hc1 b0 b0' b1 b1' (fun q => g2 q.2)
  · rw [mhN_bad hn (by rw [getD_at hz0, getD_at hz1]; exact fun q => g1 q.1)]
    exact nt4_bad b off c z0 z1 w hc0 hc1 b0 b0' b1 b1' (fun q => g1 q.1)


set_option maxHeartbeats 3200000 in
theorem updateS_any (a : Option Addr) (n c : Nat) (zs : List Int) (w : World) (h : BsAt w a zs) (hn : zs.length = n) (hcc : n ≤ c) (hm : n ≤ 1048576) :
    Calls Try.prog 43 #[.slice a n c] w fun e w' => ∃ x y z, e = .returned (mrV (mhU (pu zs)) (mpU (pu zs)) x y z) ∧ Got w' w.heap.size (mpU (pu zs)) x y z ∧ New w w' := by
  have hw := (New.refl w).alloc (.cells #[.int .i64 0, .int .i64 0, .int .i64 0, .int .i64 0, .int .i64 0, .int .i64 0, .int .i64 0, .int .i64 0, .int .i64 0, .slice none 0 0, .bool false, .int .i64 0, .slice none 0 0, .int .i64 0, .int .i64 0, .int .i64 0, .slice none 0 0] 53)
  have bR := Blk.mk w w.heap.size 53 #[.int .i64 0, .int .i64 0, .int .i64 0, .int .i64 0, .int .i64 0, .int .i64 0, .int .i64 0, .int .i64 0, .int .i64 0, .slice none 0 0, .bool false, .int .i64 0, .slice none 0 0, .int .i64 0, .int .i64 0, .int .i64 0, .slice none 0 0] rfl
  have sz : (w.alloc (.cells #[.int .i64 0, .int .i64 0, .int .i64 0, .int .i64 0, .int .i64 0, .int .i64 0, .int .i64 0, .int .i64 0, .int .i64 0, .slice none 0 0, .bool false, .int .i64 0, .slice none 0 0, .int .i64 0, .int .i64 0, .int .i64 0, .slice none 0 0] 53)).heap.size = w.heap.size + 1 := by simp
  generalize hP : pu zs = p
  have HP : Hid (pu zs = p) := hP
  clear hP
  go_enter Try.func43, Try.ntmps43
  go_upto_region 1 with fail
  generalize w.alloc (.cells #[.int .i64 0, .int .i64 0, .int .i64 0, .int .i64 0, .int .i64 0, .int .i64 0, .int .i64 0, .int .i64 0, .int .i64 0, .slice none 0 0, .bool false, .int .i64 0, .slice none 0 0, .int .i64 0, .int .i64 0, .int .i64 0, .slice none 0 0] 53) = w0 at *
  go_wp2_with fail
  refine (specParse a n c zs _ (h.new hw) hn hcc hm).mono ?_
  rintro e w1 ⟨x, y, z, rfl, hG, hn1⟩
  rw [HP.out] at hG ⊢
  clear h hn HP
  obtain ⟨code, soft, gs, has, o, xs, nx, md, lc, rs⟩ := p
  obtain ⟨ga, gc, ex⟩ := hG.g.slice
  obtain ⟨xa, xc, ey⟩ := hG.n.slice
  obtain ⟨ra, rc, ez⟩ := hG.r.slice
  subst ex
  subst ey
  subst ez
  simp only at hG
  unfold puV
  simp only
  have bR1 := bR.new hn1
  have hw1 := hw.trans hn1
  rw [sz] at hG
  clear bR hw hn1 sz
  by_cases g0 : code = 0
  · have HM := mhU_ok (p := ⟨code, soft, gs, has, o, xs, nx, md, lc, rs⟩) (fun q => q.1 g0)
    have e1 : (code != 0) = false := by simpa using g0
    clear g0
    have bR2 := bR1.alloc (.cells #[.int .i64 code, .bool soft, .slice ga gs.length gc, .bool has, .int .i64 o, .slice xa xs.length xc, .int .i64 nx, .int .i64 md, .int .i64 lc, .slice ra rs.length rc] 82)
    have hw2 := hw1.alloc (.cells #[.int .i64 code, .bool soft, .slice ga gs.length gc, .bool has, .int .i64 o, .slice xa xs.length xc, .int .i64 nx, .int .i64 md, .int .i64 lc, .slice ra rs.length rc] 82)
    have hG2 := hG.new ((New.refl w1).alloc (.cells #[.int .i64 code, .bool soft, .slice ga gs.length gc, .bool has, .int .i64 o, .slice xa xs.length xc, .int .i64 nx, .int .i64 md, .int .i64 lc, .slice ra rs.length rc] 82))
    go_wp2_with (refine wpList_store_row rfl 53 (.tmp 2) (.tmp 20) rfl w.heap.size #[.int .i64 0, .int .i64 0, .int .i64 0, .int .i64 2, .int .i64 0, .int .i64 0, .int .i64 0, .int .i64 0, .int .i64 0, .slice ga gs.length gc, .bool has, .int .i64 o, .slice xa xs.length xc, .int .i64 nx, .int .i64 md, .int .i64 lc, .slice ra rs.length rc] rfl rfl 53 #[.int .i64 0, .int .i64 0, .int .i64 0, .int .i64 0, .int .i64 0, .int .i64 0, .int .i64 0, .int .i64 0, .int .i64 0, .slice none 0 0, .bool false, .int .i64 0, .slice none 0 0, .int .i64 0, .int .i64 0, .int .i64 0, .slice none 0 0] bR2 (by kernel_rfl) rfl (by kernel_rfl) ?_)
    go_wp2
    refine bodyPost_ret (v := .agg #[.int .i64 0, .int .i64 0, .int .i64 0, .int .i64 2, .int .i64 0, .int .i64 0, .int .i64 0, .int .i64 0, .int .i64 0, .slice ga gs.length gc, .bool has, .int .i64 o, .slice xa xs.length xc, .int .i64 nx, .int .i64 md, .int .i64 lc, .slice ra rs.length rc]) ?_ rfl ⟨_, _, _, by rw [HM.1, HM.2]; rfl, by rw [HM.2]; exact (hG2.turn (S := fun k => k = w.heap.size) (Turn.row (Turn.refl _ _) _) (fun g hg e => by omega)).low (Nat.le_succ _), hw2.row (Nat.le_refl _) _⟩
    exact results_row (B := w.heap.size) (cs := #[.int .i64 0, .int .i64 0, .int .i64 0, .int .i64 2, .int .i64 0, .int .i64 0, .int .i64 0, .int .i64 0, .int .i64 0, .slice ga gs.length gc, .bool has, .int .i64 o, .slice xa xs.length xc, .int .i64 nx, .int .i64 md, .int .i64 lc, .slice ra rs.length rc]) rfl rfl (bR2.row _) ⟨_, Try.underlying53⟩ (by kernel_rfl)
  have e1 : (code != 0) = true := by simpa using g0
  cases soft with
  | true =>
    have HM := mhU_ok (p := ⟨code, true, gs, has, o, xs, nx, md, lc, rs⟩) (fun q => by cases q.2)
    clear g0
    have bR2 := bR1.alloc (.cells #[.int .i64 code, .bool true, .slice ga gs.length gc, .bool has, .int .i64 o, .slice xa xs.length xc, .int .i64 nx, .int .i64 md, .int .i64 lc, .slice ra rs.length rc] 82)
    have hw2 := hw1.alloc (.cells #[.int .i64 code, .bool true, .slice ga gs.length gc, .bool has, .int .i64 o, .slice xa xs.length xc, .int .i64 nx, .int .i64 md, .int .i64 lc, .slice ra rs.length rc] 82)
    have hG2 := hG.new ((New.refl w1).alloc (.cells #[.int .i64 code, .bool true, .slice ga gs.length gc, .bool has, .int .i64 o, .slice xa xs.length xc, .int .i64 nx, .int .i64 md, .int .i64 lc, .slice ra rs.length rc] 82))
    go_wp2_with (refine wpList_store_row rfl 53 (.tmp 2) (.tmp 20) rfl w.heap.size #[.int .i64 0, .int .i64 0, .int .i64 0, .int .i64 2, .int .i64 0, .int .i64 0, .int .i64 0, .int .i64 0, .int .i64 0, .slice ga gs.length gc, .bool has, .int .i64 o, .slice xa xs.length xc, .int .i64 nx, .int .i64 md, .int .i64 lc, .slice ra rs.length rc] rfl rfl 53 #[.int .i64 0, .int .i64 0, .int .i64 0, .int .i64 0, .int .i64 0, .int .i64 0, .int .i64 0, .int .i64 0, .int .i64 0, .slice none 0 0, .bool false, .int .i64 0, .slice none 0 0, .int .i64 0, .int .i64 0, .int .i64 0, .slice none 0 0] bR2 (by kernel_rfl) rfl (by kernel_rfl) ?_)
    go_wp2
    refine bodyPost_ret (v := .agg #[.int .i64 0, .int .i64 0, .int .i64 0, .int .i64 2, .int .i64 0, .int .i64 0, .int .i64 0, .int .i64 0, .int .i64 0, .slice ga gs.length gc, .bool has, .int .i64 o, .slice xa xs.length xc, .int .i64 nx, .int .i64 md, .int .i64 lc, .slice ra rs.length rc]) ?_ rfl ⟨_, _, _, by rw [HM.1, HM.2]; rfl, by rw [HM.2]; exact (hG2.turn (S := fun k => k = w.heap.size) (Turn.row (Turn.refl _ _) _) (fun g hg e => by omega)).low (Nat.le_succ _), hw2.row (Nat.le_refl _) _⟩
    exact results_row (B := w.heap.size) (cs := #[.int .i64 0, .int .i64 0, .int .i64 0, .int .i64 2, .int .i64 0, .int .i64 0, .int .i64 0, .int .i64 0, .int .i64 0, .slice ga gs.length gc, .bool has, .int .i64 o, .slice xa xs.length xc, .int .i64 nx, .int .i64 md, .int .i64 lc, .slice ra rs.length rc]) rfl rfl (bR2.row _) ⟨_, Try.underlying53⟩ (by kernel_rfl)
  | false =>
    have HM := mhU_bad (p := ⟨code, false, gs, has, o, xs, nx, md, lc, rs⟩) g0 rfl
    clear g0
    have bR2 := bR1.alloc (.cells #[.int .i64 code, .bool false, .slice ga gs.length gc, .bool has, .int .i64 o, .slice xa xs.length xc, .int .i64 nx, .int .i64 md, .int .i64 lc, .slice ra rs.length rc] 82)
    have hw2 := hw1.alloc (.cells #[.int .i64 code, .bool false, .slice ga gs.length gc, .bool has, .int .i64 o, .slice xa xs.length xc, .int .i64 nx, .int .i64 md, .int .i64 lc, .slice ra rs.length rc] 82)
    go_wp2_with fail
    refine (bad4 code 3 1 _).mono ?_
    rintro e w9 ⟨rfl, hn9⟩
    have bR2 := bR2.new hn9
    have hw2 := hw2.trans hn9
    go_wp2_with (refine wpList_store_row rfl 53 (.tmp 2) (.tmp 16) rfl w.heap.size #[.int .i64 code, .int .i64 3, .int .i64 1, .int .i64 0, .int .i64 0, .int .i64 0, .int .i64 0, .int .i64 0, .int .i64 0, .slice none 0 0, .bool false, .int .i64 0, .slice none 0 0, .int .i64 0, .int .i64 0, .int .i64 0, .slice none 0 0] rfl rfl 53 #[.int .i64 0, .int .i64 0, .int .i64 0, .int .i64 0, .int .i64 0, .int .i64 0, .int .i64 0, .int .i64 0, .int .i64 0, .slice none 0 0, .bool false, .int .i64 0, .slice none 0 0, .int .i64 0, .int .i64 0, .int .i64 0, .slice none 0 0] bR2 (by kernel_rfl) rfl (by kernel_rfl) ?_)
    go_wp2
    refine bodyPost_ret (v := .agg #[.int .i64 code, .int .i64 3, .int .i64 1, .int .i64 0, .int .i64 0, .int .i64 0, .int .i64 0, .int .i64 0, .int .i64 0, .slice none 0 0, .bool false, .int .i64 0, .slice none 0 0, .int .i64 0, .int .i64 0, .int .i64 0, .slice none 0 0]) ?_ rfl ⟨_, _, _, by first | rfl | (rw [HM.1, HM.2]; rfl), by first | exact got_none _ _ | (rw [HM.2]; exact got_none _ _), hw2.row (Nat.le_refl _) _⟩
    exact results_row (B := w.heap.size) (cs := #[.int .i64 code, .int .i64 3, .int .i64 1, .int .i64 0, .int .i64 0, .int .i64 0, .int .i64 0, .int .i64 0, .int .i64 0, .slice none 0 0, .bool false, .int .i64 0, .slice none 0 0, .int .i64 0, .int .i64 0, .int .i64 0, .slice none 0 0]) rfl rfl (bR2.row _) ⟨_, Try.underlying53⟩ (by kernel_rfl)


end Go.Proofs.Ytljkcijakdhdiaa

namespace Go.Proofs.Ytljkcijakdhdiaa
open Go.RowKit Go.Sort
set_option linter.unusedVariables false

set_option maxHeartbeats 3200000 in
theorem sparse_1 (a : Option Addr) (n c : Nat) (H : MH) (p : PU) (w : World) (hm : n ≤ 1048576) (hff : ff 1 n = 0)
    (hcall : ∀ W, New w W → Calls Try.prog 41 #[.slice a n c] W fun e w' => ∃ x y z, e = .returned (mrV H p x y z) ∧ Got w' W.heap.size p x y z ∧ New W w') :
    Calls Try.prog 23 #[.agg #[.int .i64 1, .slice a n c]] w fun e w' => ∃ x y z, e = .returned (mrV H p x y z) ∧ Got w' w.heap.size p x y z ∧ New w w' := by
  have hw := ((New.refl w).alloc (.cells #[.int .i64 1, .slice a n c] 43)).alloc (.cells #[.int .i64 0, .int .i64 0, .int .i64 0, .int .i64 0, .int .i64 0, .int .i64 0, .int .i64 0, .int .i64 0, .int .i64 0, .slice none 0 0, .bool false, .int .i64 0, .slice none 0 0, .int .i64 0, .int .i64 0, .int .i64 0, .slice none 0 0] 53)
  have bF : Blk ((w.alloc (.cells #[.int .i64 1, .slice a n c] 43)).alloc (.cells #[.int .i64 0, .int .i64 0, .int .i64 0, .int .i64 0, .int .i64 0, .int .i64 0, .int .i64 0, .int .i64 0, .int .i64 0, .slice none 0 0, .bool false, .int .i64 0, .slice none 0 0, .int .i64 0, .int .i64 0, .int .i64 0, .slice none 0 0] 53)) w.heap.size 43 #[.int .i64 1, .slice a n c] := (Blk.mk _ _ _ _ rfl).alloc _
  have bR : Blk ((w.alloc (.cells #[.int .i64 1, .slice a n c] 43)).alloc (.cells #[.int .i64 0, .int .i64 0, .int .i64 0, .int .i64 0, .int .i64 0, .int .i64 0, .int .i64 0, .int .i64 0, .int .i64 0, .slice none 0 0, .bool false, .int .i64 0, .slice none 0 0, .int .i64 0, .int .i64 0, .int .i64 0, .slice none 0 0] 53)) (w.heap.size + 1) 53 #[.int .i64 0, .int .i64 0, .int .i64 0, .int .i64 0, .int .i64 0, .int .i64 0, .int .i64 0, .int .i64 0, .int .i64 0, .slice none 0 0, .bool false, .int .i64 0, .slice none 0 0, .int .i64 0, .int .i64 0, .int .i64 0, .slice none 0 0] := Blk.mk _ _ _ _ (by simp)
  have sz : ((w.alloc (.cells #[.int .i64 1, .slice a n c] 43)).alloc (.cells #[.int .i64 0, .int .i64 0, .int .i64 0, .int .i64 0, .int .i64 0, .int .i64 0, .int .i64 0, .int .i64 0, .int .i64 0, .slice none 0 0, .bool false, .int .i64 0, .slice none 0 0, .int .i64 0, .int .i64 0, .int .i64 0, .slice none 0 0] 53)).heap.size = w.heap.size + 2 := by simp
  have ge1 : w.heap.size ≤ w.heap.size + 1 := by omega
  have HF : Hid (ff 1 n = 0) := hff
  clear hff
  go_enter Try.func23, Try.ntmps23
  go_upto_region 1 with fail
  generalize ((w.alloc (.cells #[.int .i64 1, .slice a n c] 43)).alloc (.cells #[.int .i64 0, .int .i64 0, .int .i64 0, .int .i64 0, .int .i64 0, .int .i64 0, .int .i64 0, .int .i64 0, .int .i64 0, .slice none 0 0, .bool false, .int .i64 0, .slice none 0 0, .int .i64 0, .int .i64 0, .int .i64 0, .slice none 0 0] 53)) = w0 at *
  have cF0 := bF.cells
  go_wp2_with fail
  refine (specFF 1 a n c _ hm).mono ?_
  rintro e w1 ⟨rfl, hn1⟩
  rw [HF.out]
  have hw1 := hw.trans hn1
  have bF1 := bF.new hn1
  have bR1 := bR.new hn1
  have s1 := hn1.size
  have cF := bF1.cells
  clear cF0
  have key := hcall w1 hw1
  clear hcall
  go_wp2_with fail
  refine key.mono ?_
  rintro e w2 ⟨x, y, z, rfl, hG, hn2⟩
  obtain ⟨ga, gc, ex⟩ := hG.g.slice
  obtain ⟨xa, xc, ey⟩ := hG.n.slice
  obtain ⟨ra, rc, ez⟩ := hG.r.slice
  subst ex
  subst ey
  subst ez
  have hw2 := hw1.trans hn2
  have bR2 := bR1.new hn2
  unfold mrV
  go_wp2_with (refine wpList_store_row rfl 53 (.tmp 2) (.tmp 16) rfl (w.heap.size + 1) #[.int .i64 H.code, .int .i64 H.why, .int .i64 H.sub, .int .i64 H.kd, .int .i64 H.sa, .int .i64 H.ho, .int .i64 H.si, .int .i64 H.wh, .int .i64 H.su, .slice ga p.gs.length gc, .bool p.has, .int .i64 p.o, .slice xa p.xs.length xc, .int .i64 p.nx, .int .i64 p.md, .int .i64 p.lc, .slice ra p.rs.length rc] rfl rfl 53 #[.int .i64 0, .int .i64 0, .int .i64 0, .int .i64 0, .int .i64 0, .int .i64 0, .int .i64 0, .int .i64 0, .int .i64 0, .slice none 0 0, .bool false, .int .i64 0, .slice none 0 0, .int .i64 0, .int .i64 0, .int .i64 0, .slice none 0 0] bR2 (by kernel_rfl) rfl (by kernel_rfl) ?_)
  go_wp2
  refine bodyPost_ret (v := .agg #[.int .i64 H.code, .int .i64 H.why, .int .i64 H.sub, .int .i64 H.kd, .int .i64 H.sa, .int .i64 H.ho, .int .i64 H.si, .int .i64 H.wh, .int .i64 H.su, .slice ga p.gs.length gc, .bool p.has, .int .i64 p.o, .slice xa p.xs.length xc, .int .i64 p.nx, .int .i64 p.md, .int .i64 p.lc, .slice ra p.rs.length rc]) ?_ rfl ⟨_, _, _, rfl, (hG.turn (S := fun k => k = w.heap.size + 1) (Turn.row (Turn.refl _ _) _) (fun g hg e => by omega)).low hw1.size, hw2.row ge1 _⟩
  exact results_row (B := w.heap.size + 1) (cs := #[.int .i64 H.code, .int .i64 H.why, .int .i64 H.sub, .int .i64 H.kd, .int .i64 H.sa, .int .i64 H.ho, .int .i64 H.si, .int .i64 H.wh, .int .i64 H.su, .slice ga p.gs.length gc, .bool p.has, .int .i64 p.o, .slice xa p.xs.length xc, .int .i64 p.nx, .int .i64 p.md, .int .i64 p.lc, .slice ra p.rs.length rc]) rfl rfl (bR2.row _) ⟨_, Try.underlying53⟩ (by kernel_rfl)

set_option maxHeartbeats 3200000 in
theorem sparse_2 (a : Option Addr) (n c : Nat) (H : MH) (p : PU) (w : World) (hm : n ≤ 1048576) (hff : ff 2 n = 0)
    (hcall : ∀ W, New w W → Calls Try.prog 43 #[.slice a n c] W fun e w' => ∃ x y z, e = .returned (mrV H p x y z) ∧ Got w' W.heap.size p x y z ∧ New W w') :
    Calls Try.prog 23 #[.agg #[.int .i64 2, .slice a n c]] w fun e w' => ∃ x y z, e = .returned (mrV H p x y z) ∧ Got w' w.heap.size p x y z ∧ New w w' := by
  have hw := ((New.refl w).alloc (.cells #[.int .i64 2, .slice a n c] 43)).alloc (.cells #[.int .i64 0, .int .i64 0, .int .i64 0, .int .i64 0, .int .i64 0, .int .i64 0, .int .i64 0, .int .i64 0, .int .i64 0, .slice none 0 0, .bool false, .int .i64 0, .slice none 0 0, .int .i64 0, .int .i64 0, .int .i64 0, .slice none 0 0] 53)
  have bF : Blk ((w.alloc (.cells #[.int .i64 2, .slice a n c] 43)).alloc (.cells #[.int .i64 0, .int .i64 0, .int .i64 0, .int .i64 0, .int .i64 0, .int .i64 0, .int .i64 0, .int .i64 0, .int .i64 0, .slice none 0 0, .bool false, .int .i64 0, .slice none 0 0, .int .i64 0, .int .i64 0, .int .i64 0, .slice none 0 0] 53)) w.heap.size 43 #[.int .i64 2, .slice a n c] := (Blk.mk _ _ _ _ rfl).alloc _
  have bR : Blk ((w.alloc (.cells #[.int .i64 2, .slice a n c] 43)).alloc (.cells #[.int .i64 0, .int .i64 0, .int .i64 0, .int .i64 0, .int .i64 0, .int .i64 0, .int .i64 0, .int .i64 0, .int .i64 0, .slice none 0 0, .bool false, .int .i64 0, .slice none 0 0, .int .i64 0, .int .i64 0, .int .i64 0, .slice none 0 0] 53)) (w.heap.size + 1) 53 #[.int .i64 0, .int .i64 0, .int .i64 0, .int .i64 0, .int .i64 0, .int .i64 0, .int .i64 0, .int .i64 0, .int .i64 0, .slice none 0 0, .bool false, .int .i64 0, .slice none 0 0, .int .i64 0, .int .i64 0, .int .i64 0, .slice none 0 0] := Blk.mk _ _ _ _ (by simp)
  have sz : ((w.alloc (.cells #[.int .i64 2, .slice a n c] 43)).alloc (.cells #[.int .i64 0, .int .i64 0, .int .i64 0, .int .i64 0, .int .i64 0, .int .i64 0, .int .i64 0, .int .i64 0, .int .i64 0, .slice none 0 0, .bool false, .int .i64 0, .slice none 0 0, .int .i64 0, .int .i64 0, .int .i64 0, .slice none 0 0] 53)).heap.size = w.heap.size + 2 := by simp
  have ge1 : w.heap.size ≤ w.heap.size + 1 := by omega
  have HF : Hid (ff 2 n = 0) := hff
  clear hff
  go_enter Try.func23, Try.ntmps23
  go_upto_region 1 with fail
  generalize ((w.alloc (.cells #[.int .i64 2, .slice a n c] 43)).alloc (.cells #[.int .i64 0, .int .i64 0, .int .i64 0, .int .i64 0, .int .i64 0, .int .i64 0, .int .i64 0, .int .i64 0, .int .i64 0, .slice none 0 0, .bool false, .int .i64 0, .slice none 0 0, .int .i64 0, .int .i64 0, .int .i64 0, .slice none 0 0] 53)) = w0 at *
  have cF0 := bF.cells
  go_wp2_with fail
  refine (specFF 2 a n c _ hm).mono ?_
  rintro e w1 ⟨rfl, hn1⟩
  rw [HF.out]
  have hw1 := hw.trans hn1
  have bF1 := bF.new hn1
  have bR1 := bR.new hn1
  have s1 := hn1.size
  have cF := bF1.cells
  clear cF0
  have key := hcall w1 hw1
  clear hcall
  go_wp2_with fail
  refine key.mono ?_
  rintro e w2 ⟨x, y, z, rfl, hG, hn2⟩
  obtain ⟨ga, gc, ex⟩ := hG.g.slice
  obtain ⟨xa, xc, ey⟩ := hG.n.slice
  obtain ⟨ra, rc, ez⟩ := hG.r.slice
  subst ex
  subst ey
  subst ez
  have hw2 := hw1.trans hn2
  have bR2 := bR1.new hn2
  unfold mrV
  go_wp2_with (refine wpList_store_row rfl 53 (.tmp 2) (.tmp 26) rfl (w.heap.size + 1) #[.int .i64 H.code, .int .i64 H.why, .int .i64 H.sub, .int .i64 H.kd, .int .i64 H.sa, .int .i64 H.ho, .int .i64 H.si, .int .i64 H.wh, .int .i64 H.su, .slice ga p.gs.length gc, .bool p.has, .int .i64 p.o, .slice xa p.xs.length xc, .int .i64 p.nx, .int .i64 p.md, .int .i64 p.lc, .slice ra p.rs.length rc] rfl rfl 53 #[.int .i64 0, .int .i64 0, .int .i64 0, .int .i64 0, .int .i64 0, .int .i64 0, .int .i64 0, .int .i64 0, .int .i64 0, .slice none 0 0, .bool false, .int .i64 0, .slice none 0 0, .int .i64 0, .int .i64 0, .int .i64 0, .slice none 0 0] bR2 (by kernel_rfl) rfl (by kernel_rfl) ?_)
  go_wp2
  refine bodyPost_ret (v := .agg #[.int .i64 H.code, .int .i64 H.why, .int .i64 H.sub, .int .i64 H.kd, .int .i64 H.sa, .int .i64 H.ho, .int .i64 H.si, .int .i64 H.wh, .int .i64 H.su, .slice ga p.gs.length gc, .bool p.has, .int .i64 p.o, .slice xa p.xs.length xc, .int .i64 p.nx, .int .i64 p.md, .int .i64 p.lc, .slice ra p.rs.length rc]) ?_ rfl ⟨_, _, _, rfl, (hG.turn (S := fun k => k = w.heap.size + 1) (Turn.row (Turn.refl _ _) _) (fun g hg e => by omega)).low hw1.size, hw2.row ge1 _⟩
  exact results_row (B := w.heap.size + 1) (cs := #[.int .i64 H.code, .int .i64 H.why, .int .i64 H.sub, .int .i64 H.kd, .int .i64 H.sa, .int .i64 H.ho, .int .i64 H.si, .int .i64 H.wh, .int .i64 H.su, .slice ga p.gs.length gc, .bool p.has, .int .i64 p.o, .slice xa p.xs.length xc, .int .i64 p.nx, .int .i64 p.md, .int .i64 p.lc, .slice ra p.rs.length rc]) rfl rfl (bR2.row _) ⟨_, Try.underlying53⟩ (by kernel_rfl)

set_option maxHeartbeats 3200000 in
theorem sparse_3 (a : Option Addr) (n c : Nat) (H : MH) (p : PU) (w : World) (hm : n ≤ 1048576) (hff : ff 3 n = 0)
    (hcall : ∀ W, New w W → Calls Try.prog 42 #[.slice a n c] W fun e w' => ∃ x y z, e = .returned (mrV H p x y z) ∧ Got w' W.heap.size p x y z ∧ New W w') :
    Calls Try.prog 23 #[.agg #[.int .i64 3, .slice a n c]] w fun e w' => ∃ x y z, e = .returned (mrV H p x y z) ∧ Got w' w.heap.size p x y z ∧ New w w' := by
  have hw := ((New.refl w).alloc (.cells #[.int .i64 3, .slice a n c] 43)).alloc (.cells #[.int .i64 0, .int .i64 0, .int .i64 0, .int .i64 0, .int .i64 0, .int .i64 0, .int .i64 0, .int .i64 0, .int .i64 0, .slice none 0 0, .bool false, .int .i64 0, .slice none 0 0, .int .i64 0, .int .i64 0, .int .i64 0, .slice none 0 0] 53)
  have bF : Blk ((w.alloc (.cells #[.int .i64 3, .slice a n c] 43)).alloc (.cells #[.int .i64 0, .int .i64 0, .int .i64 0, .int .i64 0, .int .i64 0, .int .i64 0, .int .i64 0, .int .i64 0, .int .i64 0, .slice none 0 0, .bool false, .int .i64 0, .slice none 0 0, .int .i64 0, .int .i64 0, .int .i64 0, .slice none 0 0] 53)) w.heap.size 43 #[.int .i64 3, .slice a n c] := (Blk.mk _ _ _ _ rfl).alloc _
  have bR : Blk ((w.alloc (.cells #[.int .i64 3, .slice a n c] 43)).alloc (.cells #[.int .i64 0, .int .i64 0, .int .i64 0, .int .i64 0, .int .i64 0, .int .i64 0, .int .i64 0, .int .i64 0, .int .i64 0, .slice none 0 0, .bool false, .int .i64 0, .slice none 0 0, .int .i64 0, .int .i64 0, .int .i64 0, .slice none 0 0] 53)) (w.heap.size + 1) 53 #[.int .i64 0, .int .i64 0, .int .i64 0, .int .i64 0, .int .i64 0, .int .i64 0, .int .i64 0, .int .i64 0, .int .i64 0, .slice none 0 0, .bool false, .int .i64 0, .slice none 0 0, .int .i64 0, .int .i64 0, .int .i64 0, .slice none 0 0] := Blk.mk _ _ _ _ (by simp)
  have sz : ((w.alloc (.cells #[.int .i64 3, .slice a n c] 43)).alloc (.cells #[.int .i64 0, .int .i64 0, .int .i64 0, .int .i64 0, .int .i64 0, .int .i64 0, .int .i64 0, .int .i64 0, .int .i64 0, .slice none 0 0, .bool false, .int .i64 0, .slice none 0 0, .int .i64 0, .int .i64 0, .int .i64 0, .slice none 0 0] 53)).heap.size = w.heap.size + 2 := by simp
  have ge1 : w.heap.size ≤ w.heap.size + 1 := by omega
  have HF : Hid (ff 3 n = 0) := hff
  clear hff
  go_enter Try.func23, Try.ntmps23
  go_upto_region 1 with fail
  generalize ((w.alloc (.cells #[.int .i64 3, .slice a n c] 43)).alloc (.cells #[.int .i64 0, .int .i64 0, .int .i64 0, .int .i64 0, .int .i64 0, .int .i64 0, .int .i64 0, .int .i64 0, .int .i64 0, .slice none 0 0, .bool false, .int .i64 0, .slice none 0 0, .int .i64 0, .int .i64 0, .int .i64 0, .slice none 0 0] 53)) = w0 at *
  have cF0 := bF.cells
  go_wp2_with fail
  refine (specFF 3 a n c _ hm).mono ?_
  rintro e w1 ⟨rfl, hn1⟩
  rw [HF.out]
  have hw1 := hw.trans hn1
  have bF1 := bF.new hn1
  have bR1 := bR.new hn1
  have s1 := hn1.size
  have cF := bF1.cells
  clear cF0
  have key := hcall w1 hw1
  clear hcall
  go_wp2_with fail
  refine key.mono ?_
  rintro e w2 ⟨x, y, z, rfl, hG, hn2⟩
  obtain ⟨ga, gc, ex⟩ := hG.g.slice
  obtain ⟨xa, xc, ey⟩ := hG.n.slice
  obtain ⟨ra, rc, ez⟩ := hG.r.slice
  subst ex
  subst ey
  subst ez
  have hw2 := hw1.trans hn2
  have bR2 := bR1.new hn2
  unfold mrV
  go_wp2_with (refine wpList_store_row rfl 53 (.tmp 2) (.tmp 21) rfl (w.heap.size + 1) #[.int .i64 H.code, .int .i64 H.why, .int .i64 H.sub, .int .i64 H.kd, .int .i64 H.sa, .int .i64 H.ho, .int .i64 H.si, .int .i64 H.wh, .int .i64 H.su, .slice ga p.gs.length gc, .bool p.has, .int .i64 p.o, .slice xa p.xs.length xc, .int .i64 p.nx, .int .i64 p.md, .int .i64 p.lc, .slice ra p.rs.length rc] rfl rfl 53 #[.int .i64 0, .int .i64 0, .int .i64 0, .int .i64 0, .int .i64 0, .int .i64 0, .int .i64 0, .int .i64 0, .int .i64 0, .slice none 0 0, .bool false, .int .i64 0, .slice none 0 0, .int .i64 0, .int .i64 0, .int .i64 0, .slice none 0 0] bR2 (by kernel_rfl) rfl (by kernel_rfl) ?_)
  go_wp2
  refine bodyPost_ret (v := .agg #[.int .i64 H.code, .int .i64 H.why, .int .i64 H.sub, .int .i64 H.kd, .int .i64 H.sa, .int .i64 H.ho, .int .i64 H.si, .int .i64 H.wh, .int .i64 H.su, .slice ga p.gs.length gc, .bool p.has, .int .i64 p.o, .slice xa p.xs.length xc, .int .i64 p.nx, .int .i64 p.md, .int .i64 p.lc, .slice ra p.rs.length rc]) ?_ rfl ⟨_, _, _, rfl, (hG.turn (S := fun k => k = w.heap.size + 1) (Turn.row (Turn.refl _ _) _) (fun g hg e => by omega)).low hw1.size, hw2.row ge1 _⟩
  exact results_row (B := w.heap.size + 1) (cs := #[.int .i64 H.code, .int .i64 H.why, .int .i64 H.sub, .int .i64 H.kd, .int .i64 H.sa, .int .i64 H.ho, .int .i64 H.si, .int .i64 H.wh, .int .i64 H.su, .slice ga p.gs.length gc, .bool p.has, .int .i64 p.o, .slice xa p.xs.length xc, .int .i64 p.nx, .int .i64 p.md, .int .i64 p.lc, .slice ra p.rs.length rc]) rfl rfl (bR2.row _) ⟨_, Try.underlying53⟩ (by kernel_rfl)

set_option maxHeartbeats 3200000 in
theorem sparse_bad (k : Int) (a : Option Addr) (n c : Nat) (w : World) (hm : n ≤ 1048576) (hff : ff k n ≠ 0) :
    Calls Try.prog 23 #[.agg #[.int .i64 k, .slice a n c]] w fun e w' => e = .returned (mrV (mhB (ff k n) 1 3) (puZ 0) (.slice none 0 0) (.slice none 0 0) (.slice none 0 0)) ∧ New w w' := by
  have hw := ((New.refl w).alloc (.cells #[.int .i64 k, .slice a n c] 43)).alloc (.cells #[.int .i64 0, .int .i64 0, .int .i64 0, .int .i64 0, .int .i64 0, .int .i64 0, .int .i64 0, .int .i64 0, .int .i64 0, .slice none 0 0, .bool false, .int .i64 0, .slice none 0 0, .int .i64 0, .int .i64 0, .int .i64 0, .slice none 0 0] 53)
  have bF : Blk ((w.alloc (.cells #[.int .i64 k, .slice a n c] 43)).alloc (.cells #[.int .i64 0, .int .i64 0, .int .i64 0, .int .i64 0, .int .i64 0, .int .i64 0, .int .i64 0, .int .i64 0, .int .i64 0, .slice none 0 0, .bool false, .int .i64 0, .slice none 0 0, .int .i64 0, .int .i64 0, .int .i64 0, .slice none 0 0] 53)) w.heap.size 43 #[.int .i64 k, .slice a n c] := (Blk.mk _ _ _ _ rfl).alloc _
  have bR : Blk ((w.alloc (.cells #[.int .i64 k, .slice a n c] 43)).alloc (.cells #[.int .i64 0, .int .i64 0, .int .i64 0, .int .i64 0, .int .i64 0, .int .i64 0, .int .i64 0, .int .i64 0, .int .i64 0, .slice none 0 0, .bool false, .int .i64 0, .slice none 0 0, .int .i64 0, .int .i64 0, .int .i64 0, .slice none 0 0] 53)) (w.heap.size + 1) 53 #[.int .i64 0, .int .i64 0, .int .i64 0, .int .i64 0, .int .i64 0, .int .i64 0, .int .i64 0, .int .i64 0, .int .i64 0, .slice none 0 0, .bool false, .int .i64 0, .slice none 0 0, .int .i64 0, .int .i64 0, .int .i64 0, .slice none 0 0] := Blk.mk _ _ _ _ (by simp)
  have sz : ((w.alloc (.cells #[.int .i64 k, .slice a n c] 43)).alloc (.cells #[.int .i64 0, .int .i64 0, .int .i64 0, .int .i64 0, .int .i64 0, .int .i64 0, .int .i64 0, .int .i64 0, .int .i64 0, .slice none 0 0, .bool false, .int .i64 0, .slice none 0 0, .int .i64 0, .int .i64 0, .int .i64 0, .slice none 0 0] 53)).heap.size = w.heap.size + 2 := by simp
  have ge1 : w.heap.size ≤ w.heap.size + 1 := by omega
  generalize hq : ff k n = q at hff ⊢
  have HQ : Hid (ff k n = q) := hq
  clear hq
  have e1 : (q != 0) = true := by simpa using hff
  clear hff
  go_enter Try.func23, Try.ntmps23
  go_upto_region 1 with fail
  generalize ((w.alloc (.cells #[.int .i64 k, .slice a n c] 43)).alloc (.cells #[.int .i64 0, .int .i64 0, .int .i64 0, .int .i64 0, .int .i64 0, .int .i64 0, .int .i64 0, .int .i64 0, .int .i64 0, .slice none 0 0, .bool false, .int .i64 0, .slice none 0 0, .int .i64 0, .int .i64 0, .int .i64 0, .slice none 0 0] 53)) = w0 at *
  have cF0 := bF.cells
  go_wp2_with fail
  refine (specFF k a n c _ hm).mono ?_
  rintro e w1 ⟨rfl, hn1⟩
  have hw1 := hw.trans hn1
  have bR1 := bR.new hn1
  rw [HQ.out]
  go_wp2_with fail
  refine (bad4 q 1 3 _).mono ?_
  rintro e w9 ⟨rfl, hn9⟩
  have bR1 := bR1.new hn9
  have hw1 := hw1.trans hn9
  go_wp2_with (refine wpList_store_row rfl 53 (.tmp 2) (.tmp 9) rfl (w.heap.size + 1) #[.int .i64 q, .int .i64 1, .int .i64 3, .int .i64 0, .int .i64 0, .int .i64 0, .int .i64 0, .int .i64 0, .int .i64 0, .slice none 0 0, .bool false, .int .i64 0, .slice none 0 0, .int .i64 0, .int .i64 0, .int .i64 0, .slice none 0 0] rfl rfl 53 #[.int .i64 0, .int .i64 0, .int .i64 0, .int .i64 0, .int .i64 0, .int .i64 0, .int .i64 0, .int .i64 0, .int .i64 0, .slice none 0 0, .bool false, .int .i64 0, .slice none 0 0, .int .i64 0, .int .i64 0, .int .i64 0, .slice none 0 0] bR1 (by kernel_rfl) rfl (by kernel_rfl) ?_)
  go_wp2
  refine bodyPost_ret (v := .agg #[.int .i64 q, .int .i64 1, .int .i64 3, .int .i64 0, .int .i64 0, .int .i64 0, .int .i64 0, .int .i64 0, .int .i64 0, .slice none 0 0, .bool false, .int .i64 0, .slice none 0 0, .int .i64 0, .int .i64 0, .int .i64 0, .slice none 0 0]) ?_ rfl ⟨rfl, hw1.row ge1 _⟩
  exact results_row (B := w.heap.size + 1) (cs := #[.int .i64 q, .int .i64 1, .int .i64 3, .int .i64 0, .int .i64 0, .int .i64 0, .int .i64 0, .int .i64 0, .int .i64 0, .slice none 0 0, .bool false, .int .i64 0, .slice none 0 0, .int .i64 0, .int .i64 0, .int .i64 0, .slice none 0 0]) rfl rfl (bR1.row _) ⟨_, Try.underlying53⟩ (by kernel_rfl)

set_option maxHeartbeats 3200000 in
theorem sparse_4n (a : Option Addr) (n c : Nat) (w : World) (hm : n ≤ 1048576) (hff : ff 4 n = 0) (hn0 : n ≠ 0) :
    Calls Try.prog 23 #[.agg #[.int .i64 4, .slice a n c]] w fun e w' => e = .returned (mrV (mhB 5 1 2) (puZ 0) (.slice none 0 0) (.slice none 0 0) (.slice none 0 0)) ∧ New w w' := by
  have en : ((n : Int) != 0) = true := by simp; omega
  clear hn0
  have hw := ((New.refl w).alloc (.cells #[.int .i64 4, .slice a n c] 43)).alloc (.cells #[.int .i64 0, .int .i64 0, .int .i64 0, .int .i64 0, .int .i64 0, .int .i64 0, .int .i64 0, .int .i64 0, .int .i64 0, .slice none 0 0, .bool false, .int .i64 0, .slice none 0 0, .int .i64 0, .int .i64 0, .int .i64 0, .slice none 0 0] 53)
  have bF : Blk ((w.alloc (.cells #[.int .i64 4, .slice a n c] 43)).alloc (.cells #[.int .i64 0, .int .i64 0, .int .i64 0, .int .i64 0, .int .i64 0, .int .i64 0, .int .i64 0, .int .i64 0, .int .i64 0, .slice none 0 0, .bool false, .int .i64 0, .slice none 0 0, .int .i64 0, .int .i64 0, .int .i64 0, .slice none 0 0] 53)) w.heap.size 43 #[.int .i64 4, .slice a n c] := (Blk.mk _ _ _ _ rfl).alloc _
  have bR : Blk ((w.alloc (.cells #[.int .i64 4, .slice a n c] 43)).alloc (.cells #[.int .i64 0, .int .i64 0, .int .i64 0, .int .i64 0, .int .i64 0, .int .i64 0, .int .i64 0, .int .i64 0, .int .i64 0, .slice none 0 0, .bool false, .int .i64 0, .slice none 0 0, .int .i64 0, .int .i64 0, .int .i64 0, .slice none 0 0] 53)) (w.heap.size + 1) 53 #[.int .i64 0, .int .i64 0, .int .i64 0, .int .i64 0, .int .i64 0, .int .i64 0, .int .i64 0, .int .i64 0, .int .i64 0, .slice none 0 0, .bool false, .int .i64 0, .slice none 0 0, .int .i64 0, .int .i64 0, .int .i64 0, .slice none 0 0] := Blk.mk _ _ _ _ (by simp)
  have sz : ((w.alloc (.cells #[.int .i64 4, .slice a n c] 43)).alloc (.cells #[.int .i64 0, .int .i64 0, .int .i64 0, .int .i64 0, .int .i64 0, .int .i64 0, .int .i64 0, .int .i64 0, .int .i64 0, .slice none 0 0, .bool false, .int .i64 0, .slice none 0 0, .int .i64 0, .int .i64 0, .int .i64 0, .slice none 0 0] 53)).heap.size = w.heap.size + 2 := by simp
  have ge1 : w.heap.size ≤ w.heap.size + 1 := by omega
  have HF : Hid (ff 4 n = 0) := hff
  clear hff
  go_enter Try.func23, Try.ntmps23
  go_upto_region 1 with fail
  generalize ((w.alloc (.cells #[.int .i64 4, .slice a n c] 43)).alloc (.cells #[.int .i64 0, .int .i64 0, .int .i64 0, .int .i64 0, .int .i64 0, .int .i64 0, .int .i64 0, .int .i64 0, .int .i64 0, .slice none 0 0, .bool false, .int .i64 0, .slice none 0 0, .int .i64 0, .int .i64 0, .int .i64 0, .slice none 0 0] 53)) = w0 at *
  have cF0 := bF.cells
  go_wp2_with fail
  refine (specFF 4 a n c _ hm).mono ?_
  rintro e w1 ⟨rfl, hn1⟩
  rw [HF.out]
  have hw1 := hw.trans hn1
  have bF1 := bF.new hn1
  have bR1 := bR.new hn1
  have s1 := hn1.size
  have cF := bF1.cells
  clear cF0
  go_wp2_with fail
  refine (bad4 5 1 2 _).mono ?_
  rintro e w9 ⟨rfl, hn9⟩
  have b9 := bR1.new hn9
  have hw9 := hw1.trans hn9
  go_wp2_with (refine wpList_store_row rfl 53 (.tmp 2) (.tmp 31) rfl (w.heap.size + 1) #[.int .i64 5, .int .i64 1, .int .i64 2, .int .i64 0, .int .i64 0, .int .i64 0, .int .i64 0, .int .i64 0, .int .i64 0, .slice none 0 0, .bool false, .int .i64 0, .slice none 0 0, .int .i64 0, .int .i64 0, .int .i64 0, .slice none 0 0] rfl rfl 53 #[.int .i64 0, .int .i64 0, .int .i64 0, .int .i64 0, .int .i64 0, .int .i64 0, .int .i64 0, .int .i64 0, .int .i64 0, .slice none 0 0, .bool false, .int .i64 0, .slice none 0 0, .int .i64 0, .int .i64 0, .int .i64 0, .slice none 0 0] b9 (by kernel_rfl) rfl (by kernel_rfl) ?_)
  go_wp2
  refine bodyPost_ret (v := .agg #[.int .i64 5, .int .i64 1, .int .i64 2, .int .i64 0, .int .i64 0, .int .i64 0, .int .i64 0, .int .i64 0, .int .i64 0, .slice none 0 0, .bool false, .int .i64 0, .slice none 0 0, .int .i64 0, .int .i64 0, .int .i64 0, .slice none 0 0]) ?_ rfl ⟨rfl, hw9.row ge1 _⟩
  exact results_row (B := (w.heap.size + 1)) (cs := #[.int .i64 5, .int .i64 1, .int .i64 2, .int .i64 0, .int .i64 0, .int .i64 0, .int .i64 0, .int .i64 0, .int .i64 0, .slice none 0 0, .bool false, .int .i64 0, .slice none 0 0, .int .i64 0, .int .i64 0, .int .i64 0, .slice none 0 0]) rfl rfl (b9.row _) ⟨_, Try.underlying53⟩ (by kernel_rfl)

set_option maxHeartbeats 3200000 in
theorem sparse_40 (a : Option Addr) (c : Nat) (w : World) (hff : ff 4 0 = 0) :
    Calls Try.prog 23 #[.agg #[.int .i64 4, .slice a 0 c]] w fun e w' => e = .returned (.agg #[.int .i64 0, .int .i64 0, .int .i64 0, .int .i64 4, .int .i64 0, .int .i64 0, .int .i64 0, .int .i64 0, .int .i64 0, .slice none 0 0, .bool false, .int .i64 0, .slice none 0 0, .int .i64 0, .int .i64 0, .int .i64 0, .slice none 0 0]) ∧ New w w' := by
  have hw := ((New.refl w).alloc (.cells #[.int .i64 4, .slice a 0 c] 43)).alloc (.cells #[.int .i64 0, .int .i64 0, .int .i64 0, .int .i64 0, .int .i64 0, .int .i64 0, .int .i64 0, .int .i64 0, .int .i64 0, .slice none 0 0, .bool false, .int .i64 0, .slice none 0 0, .int .i64 0, .int .i64 0, .int .i64 0, .slice none 0 0] 53)
  have bF : Blk ((w.alloc (.cells #[.int .i64 4, .slice a 0 c] 43)).alloc (.cells #[.int .i64 0, .int .i64 0, .int .i64 0, .int .i64 0, .int .i64 0, .int .i64 0, .int .i64 0, .int .i64 0, .int .i64 0, .slice none 0 0, .bool false, .int .i64 0, .slice none 0 0, .int .i64 0, .int .i64 0, .int .i64 0, .slice none 0 0] 53)) w.heap.size 43 #[.int .i64 4, .slice a 0 c] := (Blk.mk _ _ _ _ rfl).alloc _
  have bR : Blk ((w.alloc (.cells #[.int .i64 4, .slice a 0 c] 43)).alloc (.cells #[.int .i64 0, .int .i64 0, .int .i64 0, .int .i64 0, .int .i64 0, .int .i64 0, .int .i64 0, .int .i64 0, .int .i64 0, .slice none 0 0, .bool false, .int .i64 0, .slice none 0 0, .int .i64 0, .int .i64 0, .int .i64 0, .slice none 0 0] 53)) (w.heap.size + 1) 53 #[.int .i64 0, .int .i64 0, .int .i64 0, .int .i64 0, .int .i64 0, .int .i64 0, .int .i64 0, .int .i64 0, .int .i64 0, .slice none 0 0, .bool false, .int .i64 0, .slice none 0 0, .int .i64 0, .int .i64 0, .int .i64 0, .slice none 0 0] := Blk.mk _ _ _ _ (by simp)
  have sz : ((w.alloc (.cells #[.int .i64 4, .slice a 0 c] 43)).alloc (.cells #[.int .i64 0, .int .i64 0, .int .i64 0, .int .i64 0, .int .i64 0, .int .i64 0, .int .i64 0, .int .i64 0, .int .i64 0, .slice none 0 0, .bool false, .int .i64 0, .slice none 0 0, .int .i64 0, .int .i64 0, .int .i64 0, .slice none 0 0] 53)).heap.size = w.heap.size + 2 := by simp
  have ge1 : w.heap.size ≤ w.heap.size + 1 := by omega
  have HF : Hid (ff 4 0 = 0) := hff
  clear hff
  go_enter Try.func23, Try.ntmps23
  go_upto_region 1 with fail
  generalize ((w.alloc (.cells #[.int .i64 4, .slice a 0 c] 43)).alloc (.cells #[.int .i64 0, .int .i64 0, .int .i64 0, .int .i64 0, .int .i64 0, .int .i64 0, .int .i64 0, .int .i64 0, .int .i64 0, .slice none 0 0, .bool false, .int .i64 0, .slice none 0 0, .int .i64 0, .int .i64 0, .int .i64 0, .slice none 0 0] 53)) = w0 at *
  have cF0 := bF.cells
  go_wp2_with fail
  refine (specFF 4 a 0 c _ (by omega)).mono ?_
  rintro e w1 ⟨rfl, hn1⟩
  rw [HF.out]
  have hw1 := hw.trans hn1
  have bF1 := bF.new hn1
  have bR1 := bR.new hn1
  have s1 := hn1.size
  have cF := bF1.cells
  clear cF0
  go_upto_region 13 with fail
  apply wp_region_lit
  refine wpList_build rfl 51 _ rfl (by kernel_rfl) ?_
  refine wpList_build rfl 53 _ rfl (by kernel_rfl) ?_
  refine wpList_store_row rfl 53 (.tmp 2) (.tmp 33) rfl (w.heap.size + 1) #[.int .i64 0, .int .i64 0, .int .i64 0, .int .i64 4, .int .i64 0, .int .i64 0, .int .i64 0, .int .i64 0, .int .i64 0, .slice none 0 0, .bool false, .int .i64 0, .slice none 0 0, .int .i64 0, .int .i64 0, .int .i64 0, .slice none 0 0] rfl (by kernel_rfl) 53 #[.int .i64 0, .int .i64 0, .int .i64 0, .int .i64 0, .int .i64 0, .int .i64 0, .int .i64 0, .int .i64 0, .int .i64 0, .slice none 0 0, .bool false, .int .i64 0, .slice none 0 0, .int .i64 0, .int .i64 0, .int .i64 0, .slice none 0 0] bR1 (by kernel_rfl) rfl (by kernel_rfl) ?_
  go_wp2
  refine bodyPost_ret (v := .agg #[.int .i64 0, .int .i64 0, .int .i64 0, .int .i64 4, .int .i64 0, .int .i64 0, .int .i64 0, .int .i64 0, .int .i64 0, .slice none 0 0, .bool false, .int .i64 0, .slice none 0 0, .int .i64 0, .int .i64 0, .int .i64 0, .slice none 0 0]) ?_ rfl ⟨rfl, hw1.row ge1 _⟩
  exact results_row (B := w.heap.size + 1) (cs := #[.int .i64 0, .int .i64 0, .int .i64 0, .int .i64 4, .int .i64 0, .int .i64 0, .int .i64 0, .int .i64 0, .int .i64 0, .slice none 0 0, .bool false, .int .i64 0, .slice none 0 0, .int .i64 0, .int .i64 0, .int .i64 0, .slice none 0 0]) rfl rfl (bR1.row _) ⟨_, Try.underlying53⟩ (by kernel_rfl)

theorem specPMsg (k : Int) (a : Option Addr) (n c : Nat) (zs : List Int) (w : World) (h : BsAt w a zs) (hn : zs.length = n) (hcc : n ≤ c) (hm : n ≤ 1048576) :
    Calls Try.prog 23 #[.agg #[.int .i64 k, .slice a n c]] w fun e w' => ∃ x y z, e = .returned (mrV (mh k zs) (mp k zs) x y z) ∧ Got w' w.heap.size (mp k zs) x y z ∧ New w w' := by
  by_cases hf : ff k n = 0
  case neg =>
    have hb := mh_bad (k := k) (zs := zs) (by rw [hn]; exact hf)
    rw [hb.1, hb.2, hn]
    refine (sparse_bad k a n c w hm hf).mono ?_
    rintro e w' ⟨rfl, hN⟩
    exact ⟨_, _, _, rfl, got_none _ _, hN⟩
  obtain ⟨k1, k4, -⟩ := ff_zero hf
  have hz : ¬ ff k zs.length ≠ 0 := by rw [hn]; exact fun q => q hf
  have one : ∀ {F : Nat} {H : MH}, (∀ W, New w W → Calls Try.prog F #[.slice a n c] W fun e w' => e = .returned (mrV H (puZ 0) (.slice none 0 0) (.slice none 0 0) (.slice none 0 0)) ∧ New W w') → ∀ W, New w W → Calls Try.prog F #[.slice a n c] W fun e w' => ∃ x y z, e = .returned (mrV H (puZ 0) x y z) ∧ Got w' W.heap.size (puZ 0) x y z ∧ New W w' := by
    intro F H hq W hW
    refine (hq W hW).mono ?_
    rintro e w' ⟨rfl, hN⟩
    exact ⟨_, _, _, rfl, got_none _ _, hN⟩
  rcases (show k = 1 ∨ k = 2 ∨ k = 3 ∨ k = 4 by omega) with rfl | rfl | rfl | rfl
  · rw [(mh_1 hz).1, (mh_1 hz).2]
    exact sparse_1 a n c _ _ w hm hf (one fun W hW => openS_any a n c zs W (h.new hW) hn hcc hm)
  · rw [(mh_2 hz).1, (mh_2 hz).2]
    exact sparse_2 a n c _ _ w hm hf (fun W hW => updateS_any a n c zs W (h.new hW) hn hcc hm)
  · rw [(mh_3 hz).1, (mh_3 hz).2]
    exact sparse_3 a n c _ _ w hm hf (one fun W hW => notifyS_any a n c zs W (h.new hW) hn hm)
  · rw [(mh_4 hz).1, (mh_4 hz).2]
    by_cases h0 : n = 0
    · subst h0
      rw [show mhK zs = ⟨0, 0, 0, 4, 0, 0, 0, 0, 0⟩ by unfold mhK; rw [if_neg (by simp [hn])]]
      refine (sparse_40 a c w hf).mono ?_
      rintro e w' ⟨rfl, hN⟩
      exact ⟨_, _, _, rfl, got_none _ _, hN⟩
    · rw [show mhK zs = mhB 5 1 2 by unfold mhK; rw [if_pos (by omega)]]
      refine (sparse_4n a n c w hm hf h0).mono ?_
      rintro e w' ⟨rfl, hN⟩
      exact ⟨_, _, _, rfl, got_none _ _, hN⟩

end Go.Proofs.Ytljkcijakdhdiaa

namespace Go.Proofs.Ytljkcijakdhdiaa
open Go.RowKit Go.Sort
set_option linter.unusedVariables false
set_option linter.unusedSimpArgs false
set_option maxRecDepth 100000


set_option maxHeartbeats 12800000 in
theorem specRM (b off n c : Nat) (zs : List Int) (w : World) (h : BsAt w (some ⟨b, off, none⟩) zs) (hn : zs.length = n) (hcc : n ≤ c) (hm : n ≤ 1048576) :
    Calls Try.prog 9 #[.slice (some ⟨b, off, none⟩) n c] w (RmAns w (rmF zs).z (rmF zs).us (rmF zs).wy (rmF zs).sb (rmF zs).D) := by
  have hw := (New.refl w).alloc (.cells #[.int .i64 0, .int .i64 0, .int .i64 0, .int .i64 0, .slice none 0 0] 27)
  have b0 := Blk.mk w w.heap.size 27 #[.int .i64 0, .int .i64 0, .int .i64 0, .int .i64 0, .slice none 0 0] rfl
  by_cases hbig : 400 < n
  · have hbi : (400 : Int) < (n : Int) := by omega
    have HR : Hid (rmF zs = ⟨2, 0, 0, 0, []⟩) := by unfold Hid rmF; rw [if_pos (by omega)]
    rw [HR.out]
    clear hn
    go_enter Try.func9, Try.ntmps9
    go_wp2
    refine bodyPost_ret (v := .agg #[.int .i64 2, .int .i64 0, .int .i64 0, .int .i64 0, .slice none 0 0]) (by simp [results, Try.results9, go_sem]) rfl ?_
    refine RmAns.of (lo := w.heap.size) (v := .slice none 0 0) (U := []) (OvG.nil _ _) (Nat.le_refl _) ?_ rfl
    first | exact hw | exact (((((New.refl w).alloc _).setCell (Nat.le_refl _) _).setCell (Nat.le_refl _) _).setCell (Nat.le_refl _) _).setCell (Nat.le_refl _) _ | exact (New.refl w).alloc _
  have hbi : ¬ (400 : Int) < (n : Int) := by omega
  have hz := h.lt
  have HR0 : Hid (rmF zs = rmG (splitR zs).1 (splitR zs).2.2 0 []) := by unfold Hid rmF; rw [if_neg (by omega)]
  have HRG : Hid ((splitR zs).1 = 0 ∨ (splitR zs).1 = 1 ∨ (splitR zs).1 = 2 ∨ (splitR zs).1 = 3) := splitR_rng
  have HFL : Hid ((splitR zs).2.2.length ≤ 80) := splitR_len hz (by omega)
  have HGD : Hid (∀ x ∈ (splitR zs).2.2, x.2.length ≤ 400 ∧ ∀ z ∈ x.2, 0 ≤ z ∧ z ≤ 255) := by
    intro x hx
    unfold splitR at hx
    rw [if_neg (by omega)] at hx
    have := (split_back (zs.length + 1) zs hz).2 x hx
    exact ⟨by have := this.2.2.1; omega, this.2.2.2⟩
  generalize rmF zs = R at *
  have HSP : Hid (∀ W, New w W → Calls Try.prog 22 #[.slice (some ⟨b, off, none⟩) n c] W fun e w' => SplitAns W (splitR zs) e w') := fun W hW => specSplit_any b off n c zs W (h.new hW) hn hcc hm
  generalize splitR zs = Q at *
  obtain ⟨qc, qu, qf⟩ := Q
  simp only at HR0 HRG HFL HGD
  obtain ⟨i0, hi, hzi0, hzi1, hzi2⟩ := info_parts Try.infoMg
  clear h hn hz hbig hcc
  go_enter Try.func9, Try.ntmps9
  go_wp2_with fail
  refine (HSP.out _ hw).mono ?_
  rintro e w1 ⟨a, nF, cF, F, he, oF, hn1, hQ⟩
  obtain rfl : e = .returned (.agg #[.int .i64 qc, .int .i64 (qu : Int), .slice a nF cF]) := he
  have hqf : F.map Fr.out = qf := hQ.symm
  have s1 := hn1.size
  simp at s1
  have oF' := oF.lower (lo' := w.heap.size + 1) (by simp)
  have al2 := ((New.refl w1).alloc (.cells #[.int .i64 qc, .int .i64 (qu : Int), .slice a nF cF] 40)).alloc (.cells #[.int .i64 0, .int .i64 0, .int .i64 0, .int .i64 0, .slice none 0 0] 27)
  have hI0 : RmIn w ((w1.alloc (.cells #[.int .i64 qc, .int .i64 (qu : Int), .slice a nF cF] 40)).alloc (.cells #[.int .i64 0, .int .i64 0, .int .i64 0, .int .i64 0, .slice none 0 0] 27)) w1.heap.size qc qu a nF cF F 0 (.slice none 0 0) [] 0 :=
    ⟨(hw.trans hn1).trans al2, (b0.new hn1).new al2, (Blk.mk w1 w1.heap.size 40 _ rfl).alloc _, Blk.mk _ _ _ _ (by simp), OvG.nil _ _, oF'.new al2, by omega, by omega, Nat.zero_le _⟩
  have HFn : Hid (F.length = nF) := oF.len
  have hnF : nF ≤ 80 := by
    have h1 := HFL.out
    have h2 : F.length = nF := oF.len
    rw [← hqf, List.length_map] at h1
    omega
  have HQF : Hid (F.map Fr.out = qf) := hqf
  have HRE : Hid (R = rmG qc ((F.map Fr.out).drop 0) 0 (([] : List Mg).map Mg.r)) := by unfold Hid; rw [hqf]; exact HR0.out
  obtain ⟨qU, HqU⟩ : ∃ qU : Int, qU = qu := ⟨_, rfl⟩
  rw [← HqU] at hI0 ⊢
  clear HR0 hn1 oF oF' al2 hw b0 HSP hQ hqf HqU HFL
  obtain ⟨B, hB⟩ : ∃ B, B = w1.heap.size := ⟨_, rfl⟩
  rw [← hB] at hI0
  have c3 := hI0.bS.cells
  go_wp2
  try rw [← hB]
  clear c3
  go_loopw [5] (fun i wr => ∃ (k : Nat) (u : Int) (v : Value) (U : List Mg), i = .int .i64 k ∧ k ≤ nF ∧ RmIn w wr B qc qU a nF cF F u v U k ∧ Hid (R = rmG qc ((F.map Fr.out).drop k) u (U.map Mg.r))) (fun i _ => nF - (intOf i).toNat)
  case atStart => exact ⟨0, 0, .slice none 0 0, [], rfl, Nat.zero_le _, hI0, HRE⟩
  clear hI0 HRE hB
  case round =>
    obtain ⟨k, u, v, U, rfl, hk, hI, HR⟩ := hrel
    obtain ⟨y0, d0, rfl, hny0, hby0⟩ := row9_form hI.own.row
    have cS := hI.bS.cells
    have cT := hI.bT.cells
    have hu0 := hI.u0
    have hln := hI.ln
    have hltB := hI.lt
    have ltT := hI.bT.lt
    by_cases hlt : k < nF
    · obtain ⟨g, f, ea, hfk, x0, x1, bf, of, -⟩ := hI.fr.at k hlt
      obtain ⟨lf, bzf⟩ := frame_at hfk HQF.out HGD.out
      have cf := fit18 of
      subst ea
      have HFK : Hid (F[k]? = some f) := hfk
      obtain ⟨fk, fz, fa, fc⟩ := f
      simp only at x0 x1 bf lf cf bzf
      have HP : Hid (∀ W, New wr W → Calls Try.prog 23 #[.agg #[.int .i64 fk, .slice fa fz.length fc]] W fun e w' => ∃ x y z, e = .returned (mrV (mh fk fz) (mp fk fz) x y z) ∧ Got w' W.heap.size (mp fk fz) x y z ∧ New W w') := fun W hW => specPMsg fk fa fz.length fc fz W (bf.new hW) rfl cf (by omega)
      have HBD : Hid (Bd (mp fk fz)) := mp_bd fk fz bzf (by omega)
      have HNX : Hid ((mh fk fz).code = 0 → R = rmG qc ((F.map Fr.out).drop (k + 1)) (u + 5 + fz.length) (U.map Mg.r ++ [(mh fk fz, mp fk fz)])) := fun hc => HR.out.trans (rmG_next hfk hc)
      have HBA : Hid (¬ (mh fk fz).code = 0 → R = ⟨(mh fk fz).code, u, (mh fk fz).why, (mh fk fz).sub, U.map Mg.r⟩) := fun hc => HR.out.trans (rmG_bad hfk hc)
      generalize mh fk fz = H at *
      generalize mp fk fz = p at *
      have hlx : (fz.length : Int) ≤ 400 := by omega
      obtain ⟨fn, hfn⟩ : ∃ fn, fz.length = fn := ⟨_, rfl⟩
      rw [hfn] at x1 lf cf hlx HP HNX
      have HFL2 : Hid (fz.length = fn) := hfn
      clear hfn
      clear hfk of bf bzf HR
      go_wp2_with fail
      refine (HP.out _ (New.refl _)).mono ?_
      rintro e w3 ⟨x, y, z, rfl, hG, hn3⟩
      obtain ⟨ga, gc, ex⟩ := hG.g.slice
      obtain ⟨xa, xc, ey⟩ := hG.n.slice
      obtain ⟨ra, rc, ez⟩ := hG.r.slice
      subst ex
      subst ey
      subst ez
      obtain ⟨code, why, sub, kd, sa, ho, si, wh, su⟩ := H
      obtain ⟨pc, soft, gs, has, o, xs, nx, md, lc, rs⟩ := p
      unfold mrV
      simp only at HNX HBA hG ⊢
      have n13 : New wr w3 := hn3
      have s13 := n13.size
      have al4 := (New.refl w3).alloc (.cells #[.int .i64 code, .int .i64 why, .int .i64 sub, .int .i64 kd, .int .i64 sa, .int .i64 ho, .int .i64 si, .int .i64 wh, .int .i64 su, .slice ga gs.length gc, .bool has, .int .i64 o, .slice xa xs.length xc, .int .i64 nx, .int .i64 md, .int .i64 lc, .slice ra rs.length rc] 53)
      have n14 := n13.trans al4
      have b7 := Blk.mk w3 w3.heap.size 53 #[.int .i64 code, .int .i64 why, .int .i64 sub, .int .i64 kd, .int .i64 sa, .int .i64 ho, .int .i64 si, .int .i64 wh, .int .i64 su, .slice ga gs.length gc, .bool has, .int .i64 o, .slice xa xs.length xc, .int .i64 nx, .int .i64 md, .int .i64 lc, .slice ra rs.length rc] rfl
      have bT4 := hI.bT.new n14
      have bS4 := hI.bS.new n14
      have b04 := hI.b0.new n14
      have oU4 := hI.own.new n14
      have oF4 := hI.fr.new n14
      have hG4 := hG.new al4
      have hGlo : wr.heap.size ≤ wr.heap.size := Nat.le_refl _
      have N4 := hI.new.trans n14
      have HUB : Hid (∀ u ∈ U, ∀ k, u.bl k → k < wr.heap.size) := fun u hu k hk => (hI.own.blk.2 u hu k hk).1.2
      have vB : ∀ k, (Value.slice y0 U.length d0).ownBlock = some k → B + 2 ≤ k ∧ k < wr.heap.size := fun k hk => hI.own.blk.1 k hk
      have sz4 : (w3.alloc (.cells #[.int .i64 code, .int .i64 why, .int .i64 sub, .int .i64 kd, .int .i64 sa, .int .i64 ho, .int .i64 si, .int .i64 wh, .int .i64 su, .slice ga gs.length gc, .bool has, .int .i64 o, .slice xa xs.length xc, .int .i64 nx, .int .i64 md, .int .i64 lc, .slice ra rs.length rc] 53)).heap.size = w3.heap.size + 1 := by simp
      clear cS cT hG HP hI n13 al4
      by_cases hc : code = 0
      · subst hc
        have e1 : ((0 : Int) != 0) = false := rfl
        have bT5 := bT4.alloc (.cells #[.int .i64 kd, .int .i64 sa, .int .i64 ho, .int .i64 si, .int .i64 wh, .int .i64 su, .slice ga gs.length gc, .bool has, .int .i64 o, .slice xa xs.length xc, .int .i64 nx, .int .i64 md, .int .i64 lc, .slice ra rs.length rc] 51)
        have b75 := b7.alloc (.cells #[.int .i64 kd, .int .i64 sa, .int .i64 ho, .int .i64 si, .int .i64 wh, .int .i64 su, .slice ga gs.length gc, .bool has, .int .i64 o, .slice xa xs.length xc, .int .i64 nx, .int .i64 md, .int .i64 lc, .slice ra rs.length rc] 51)
        have al5 := (New.refl (w3.alloc (.cells #[.int .i64 0, .int .i64 why, .int .i64 sub, .int .i64 kd, .int .i64 sa, .int .i64 ho, .int .i64 si, .int .i64 wh, .int .i64 su, .slice ga gs.length gc, .bool has, .int .i64 o, .slice xa xs.length xc, .int .i64 nx, .int .i64 md, .int .i64 lc, .slice ra rs.length rc] 53))).alloc (.cells #[.int .i64 kd, .int .i64 sa, .int .i64 ho, .int .i64 si, .int .i64 wh, .int .i64 su, .slice ga gs.length gc, .bool has, .int .i64 o, .slice xa xs.length xc, .int .i64 nx, .int .i64 md, .int .i64 lc, .slice ra rs.length rc] 51)
        have bL := Blk.mk (w3.alloc (.cells #[.int .i64 0, .int .i64 why, .int .i64 sub, .int .i64 kd, .int .i64 sa, .int .i64 ho, .int .i64 si, .int .i64 wh, .int .i64 su, .slice ga gs.length gc, .bool has, .int .i64 o, .slice xa xs.length xc, .int .i64 nx, .int .i64 md, .int .i64 lc, .slice ra rs.length rc] 53)) (w3.heap.size + 1) 51 #[.int .i64 kd, .int .i64 sa, .int .i64 ho, .int .i64 si, .int .i64 wh, .int .i64 su, .slice ga gs.length gc, .bool has, .int .i64 o, .slice xa xs.length xc, .int .i64 nx, .int .i64 md, .int .i64 lc, .slice ra rs.length rc] (by simp)
        have cL := bL.cells
        have cT := bT4.cells
        have c7 := b7.cells
        have hrow := row9_new oU4.row al5
        go_wp2_with (at_builtin; refine wpList_apV _ rfl (.tmp 41) (.tmp 44) rfl (B + 2) 14 160 (.agg #[.int .i64 0, .int .i64 0, .int .i64 0, .int .i64 0, .int .i64 0, .int .i64 0, .slice none 0 0, .bool false, .int .i64 0, .slice none 0 0, .int .i64 0, .int .i64 0, .int .i64 0, .slice none 0 0]) Try.underlying25 hi hzi0 hzi1 hzi2 rfl (by omega) (by omega) (.slice y0 U.length d0) U.length _ rfl hrow (w3.heap.size + 1) [.int .i64 kd, .int .i64 sa, .int .i64 ho, .int .i64 si, .int .i64 wh, .int .i64 su, .slice ga gs.length gc, .bool has, .int .i64 o, .slice xa xs.length xc, .int .i64 nx, .int .i64 md, .int .i64 lc, .slice ra rs.length rc] rfl (by simp [Value.oneCell']) rfl (by intro j u hu; rw [cL j, List.getElem?_toArray]; exact hu) (by omega) (by simp; omega) ?_)
        intro v6 w6 hrow6 hgr6 hat6
        have t6 := turn_of_grown hgr6
        have s6 := t6.size
        simp at s6
        have bT6 := bT5.turn t6 (fun e => by have := vB _ e; omega)
        have oF6 := (oF4.new al5).turn t6 (fun i h1 h2 e => by have := vB _ e; omega)
        have bS6 := (bS4.new al5).turn t6 (fun e => by have := vB _ e; omega)
        have b06 := (b04.new al5).turn t6 (fun e => by have := vB _ e; omega)
        have N6 : New w w6 := (N4.trans al5).before t6 (fun i hi e => by have := vB _ e; omega)
        have hb6 : ∀ k, v6.ownBlock = some k → B + 2 ≤ k := by
          intro k hk
          obtain ⟨_, _, _, _, hb⟩ := row9_form hrow6
          exact (hb k hk).1
        have oV6 : OvG w6 (B + 2) v6 (U ++ [⟨⟨0, why, sub, kd, sa, ho, si, wh, su⟩, ⟨pc, soft, gs, has, o, xs, nx, md, lc, rs⟩, .slice ga gs.length gc, .slice xa xs.length xc, .slice ra rs.length rc⟩]) :=
          (oU4.new al5).snoc (lo2 := wr.heap.size) (hG4.new al5) HBD.out (by omega) (fun u hu k hk => by have := HUB.out u hu k hk; omega) hrow6 hgr6
        have xw : ∃ q, w6.cell? ⟨g, k * 2 + 1, none⟩ = some (.slice fa fn q) ∧ w6.cell? ⟨g, k * 2, none⟩ = some (.int .i64 fk) ∧ g < B := by
          obtain ⟨g', f', e1, e2, e3, e4, -, -, -⟩ := oF6.at k hlt
          have e5 := Option.some.inj (e2.symm.trans HFK.out)
          subst e5
          simp only [Option.some.injEq, Addr.mk.injEq, and_true] at e1
          subst e1
          obtain ⟨g2, h1, h2, h3, -⟩ := oF6.row _ rfl
          simp only [Option.some.injEq, Addr.mk.injEq, and_true] at h1
          refine ⟨fc, ?_, e3, by omega⟩
          rw [e4, HFL2.out]
        obtain ⟨fq, xw1, xw0, hgB⟩ := xw
        have cS6 := bS6.cells
        obtain ⟨y6, d6, e6, -, -⟩ := row9_form hrow6
        subst e6
        have t7 : Turn (fun i => i = B + 1) w6 (w6.setCell ⟨B + 1, 4, none⟩ (.slice y6 (U.length + 1) d6)) := (Turn.refl (fun i => i = B + 1) w6).set (p := ⟨B + 1, 4, none⟩) rfl _
        have bT7 := bT6.set 4 (.slice y6 (U.length + 1) d6)
        have cT6 := bT6.cells
        have fT6 := bT6.frees
        have lt6 := bT6.lt
        clear cL cT c7 hrow bL bT5 b75 bT4 bS4 b04 oU4 oF4 hG4 b7 hgr6 hat6 t6
        go_upto_region 15 with fail
        have bS7 := bS6.turn t7 (by omega)
        have xv1 : (w6.setCell ⟨B + 1, 4, none⟩ (.slice y6 (U.length + 1) d6)).cell? ⟨g, k * 2 + 1, none⟩ = some (.slice fa fn fq) := (World.cell?_of_block (t7.block g (World.block_lt_of_cell? _ _ xw1) (by omega))).trans xw1
        generalize w6.setCell ⟨B + 1, 4, none⟩ (.slice y6 (U.length + 1) d6) = w7 at *
        clear cT6 fT6 xw1 xw0 cS6
        have hwr1 : IntKind.i64.wrap (u + 5) = u + 5 := by rw [IntKind.wrap_i64]; omega
        have hwr2 : IntKind.i64.wrap (u + 5 + (fn : Int)) = u + 5 + (fn : Int) := by rw [IntKind.wrap_i64]; omega
        refine hw_start (n := 13) (S := fun X => X.cell? ⟨B, 2, none⟩ = some (.slice (some ⟨g, 0, none⟩) nF cF) ∧ X.cell? ⟨g, k * 2 + 1, none⟩ = some (.slice fa fn fq)) rfl (by kernel_rfl) (⟨(bS7.new ((New.refl _).drew)).cells 2, xv1⟩) (fun hH => ?_)
        have n4 := (New.refl w7).drew
        have bT5 := bT7.new n4
        have bS5 := bS7.new n4
        have xv5 : w7.drew.cell? ⟨g, k * 2 + 1, none⟩ = some (.slice fa fn fq) := xv1
        have tA := n4.turn (S := fun i => i = B + 1)
        have tB : Turn (fun i => i = B + 1) w6 w7.drew := Turn.trans t7 tA (fun _ _ e => e)
        generalize w7.drew = u0 at *
        refine' hw_take 0 (some 47) _ rfl rfl (by kernel_rfl) (by kernel_rfl) (by kernel_rfl) (fun _ _ _ h => h) (by rfl) hH ?hy17 ?rest17
        case hy17 =>
          intro X hX
          go_simp
          try rfl
        simp only [Act.put, List.setIfInBounds_toArray, List.set_cons_zero, List.set_cons_succ]
        refine' hw_take 3 (some 50) _ rfl rfl (by kernel_rfl) (by kernel_rfl) (by kernel_rfl) (fun _ _ _ h => h) (by rfl) hH ?hy18 ?rest18
        case hy18 =>
          intro X hX
          go_simp
          try rfl
        simp only [Act.put, List.setIfInBounds_toArray, List.set_cons_zero, List.set_cons_succ]
        refine' hw_take 4 (some 51) _ rfl rfl (by kernel_rfl) (by kernel_rfl) (by kernel_rfl) (fun _ _ _ h => h) (by rfl) hH ?hy19 ?rest19
        case hy19 =>
          intro X hX
          obtain ⟨q1, q2⟩ := hX
          go_simp
          try rfl
        simp only [Act.put, List.setIfInBounds_toArray, List.set_cons_zero, List.set_cons_succ]
        refine' hw_take 5 (some 52) _ rfl rfl (by kernel_rfl) (by kernel_rfl) (by kernel_rfl) (fun _ _ _ h => h) (by rfl) hH ?hy20 ?rest20
        case hy20 =>
          intro X hX
          go_simp
          try rfl
        simp only [Act.put, List.setIfInBounds_toArray, List.set_cons_zero, List.set_cons_succ]
        refine' hw_take 6 (some 53) _ rfl rfl (by kernel_rfl) (by kernel_rfl) (by kernel_rfl) (fun _ _ _ h => h) (by rfl) hH ?hy21 ?rest21
        case hy21 =>
          intro X hX
          go_simp
          try rfl
        simp only [Act.put, List.setIfInBounds_toArray, List.set_cons_zero, List.set_cons_succ]
        refine' hw_take 7 (some 54) _ rfl rfl (by kernel_rfl) (by kernel_rfl) (by kernel_rfl) (fun _ _ _ h => h) (by rfl) hH ?hy22 ?rest22
        case hy22 =>
          intro X hX
          go_simp
          try rfl
        simp only [Act.put, List.setIfInBounds_toArray, List.set_cons_zero, List.set_cons_succ]
        refine' hw_take 8 (some 55) _ rfl rfl (by kernel_rfl) (by kernel_rfl) (by kernel_rfl) (fun _ _ _ h => h) (by rfl) hH ?hy23 ?rest23
        case hy23 =>
          intro X hX
          obtain ⟨q1, q2⟩ := hX
          go_simp
          try rfl
        simp only [Act.put, List.setIfInBounds_toArray, List.set_cons_zero, List.set_cons_succ]
        refine' hw_take 9 (some 56) _ rfl rfl (by kernel_rfl) (by kernel_rfl) (by kernel_rfl) (fun _ _ _ h => h) (by rfl) hH ?hy24 ?rest24
        case hy24 =>
          intro X hX
          go_simp
          try rfl
        simp only [Act.put, List.setIfInBounds_toArray, List.set_cons_zero, List.set_cons_succ]
        refine hw_call 1 (some 48) rfl rfl (by kernel_rfl) (by rfl) (fun K hK => ?_)
        have cT5 := bT5.cells
        have fT5 := bT5.frees
        go_simp
        refine hK.out _ _ hH (fun hH => ?_)
        simp only [Act.put, List.setIfInBounds_toArray, List.set_cons_zero, List.set_cons_succ]
        refine' hw_take 2 (some 49) _ rfl rfl (by kernel_rfl) (by kernel_rfl) (by kernel_rfl) (fun _ _ _ h => h) (by rfl) hH ?hy25 ?rest25
        case hy25 =>
          intro X hX
          go_simp
          try rfl
        simp only [Act.put, List.setIfInBounds_toArray, List.set_cons_zero, List.set_cons_succ]
        refine' hw_take 10 (some 57) _ rfl rfl (by kernel_rfl) (by kernel_rfl) (by kernel_rfl) (fun _ _ _ h => h) (by rfl) hH ?hy26 ?rest26
        case hy26 =>
          intro X hX
          go_simp
          try rfl
        simp only [Act.put, List.setIfInBounds_toArray, List.set_cons_zero, List.set_cons_succ]
        refine' hw_take 11 (some 58) _ rfl rfl (by kernel_rfl) (by kernel_rfl) (by kernel_rfl) (fun _ _ _ h => h) (by rfl) hH ?hy27 ?rest27
        case hy27 =>
          intro X hX
          go_simp
          try rfl
        simp only [Act.put, List.setIfInBounds_toArray, List.set_cons_zero, List.set_cons_succ]
        refine hw_call 12 none rfl rfl (by kernel_rfl) (by rfl) (fun K hK => ?_)
        go_simp
        have tC : Turn (fun i => i = B + 1) u0 (u0.setCell ⟨B + 1, 1, none⟩ (.int .i64 (u + 5 + (fn : Int)))) := (Turn.refl (fun i => i = B + 1) u0).set (p := ⟨B + 1, 1, none⟩) rfl _
        have bT8 := bT5.set 1 (.int .i64 (u + 5 + (fn : Int)))
        have hS8 := (bS5.turn tC (by omega)).cells 2
        have xv8 : (u0.setCell ⟨B + 1, 1, none⟩ (.int .i64 (u + 5 + (fn : Int)))).cell? ⟨g, k * 2 + 1, none⟩ = some (.slice fa fn fq) := (World.cell?_of_block (tC.block g (World.block_lt_of_cell? _ _ xv5) (by omega))).trans xv5
        have t8 := Turn.trans tB tC (fun _ _ e => e)
        generalize u0.setCell ⟨B + 1, 1, none⟩ (.int .i64 (u + 5 + (fn : Int))) = w8 at *
        refine hK.out undef _ ⟨hS8, xv8⟩ (fun hH => ?_)
        try simp only [Act.put, List.setIfInBounds_toArray, List.set_cons_zero, List.set_cons_succ]
        refine wpAnyH_done (by kernel_rfl) ?_ _
        clear cT5 fT5
        go_wp2
        go_roundw
        case rel =>
          refine ⟨k + 1, u + 5 + (fn : Int), .slice y6 (U.length + 1) d6, U ++ [⟨⟨0, why, sub, kd, sa, ho, si, wh, su⟩, ⟨pc, soft, gs, has, o, xs, nx, md, lc, rs⟩, .slice ga gs.length gc, .slice xa xs.length xc, .slice ra rs.length rc⟩], by go_num, by omega, ⟨?_, ?_, ?_, ?_, ?_, ?_, hltB, ?_, ?_⟩, ?_⟩
          · exact N6.before t8 (fun i hi e => by omega)
          · exact b06.turn t8 (by omega)
          · exact bS6.turn t8 (by omega)
          · exact bT8
          · exact oV6.turnL t8 (fun i hi e => by omega)
          · exact oF6.turn t8 (fun i h1 h2 e => by omega)
          · constructor <;> (push_cast; omega)
          · rw [List.length_append, List.length_singleton]; omega
          · unfold Hid
            rw [List.map_append, HNX.out (by first | rfl | trivial)]
            rfl
        case measure => simp [intOf]; omega
      · have e1 : (code != 0) = true := by simpa using hc
        have HRF := HBA.out hc
        subst HRF
        have cT := bT4.cells
        have c7 := b7.cells
        clear HNX HBA
        have fT := bT4.frees
        have b0R := b04
        have c0 := b0R.cells
        have f0 := b0R.frees
        go_upto_region 13 with fail
        have tA : Turn (fun i => i = B + 1) (w3.alloc (.cells #[.int .i64 code, .int .i64 why, .int .i64 sub, .int .i64 kd, .int .i64 sa, .int .i64 ho, .int .i64 si, .int .i64 wh, .int .i64 su, .slice ga gs.length gc, .bool has, .int .i64 o, .slice xa xs.length xc, .int .i64 nx, .int .i64 md, .int .i64 lc, .slice ra rs.length rc] 53)) ((((w3.alloc (.cells #[.int .i64 code, .int .i64 why, .int .i64 sub, .int .i64 kd, .int .i64 sa, .int .i64 ho, .int .i64 si, .int .i64 wh, .int .i64 su, .slice ga gs.length gc, .bool has, .int .i64 o, .slice xa xs.length xc, .int .i64 nx, .int .i64 md, .int .i64 lc, .slice ra rs.length rc] 53)).setCell ⟨B + 1, 0, none⟩ (.int .i64 code)).setCell ⟨B + 1, 2, none⟩ (.int .i64 why)).setCell ⟨B + 1, 3, none⟩ (.int .i64 sub)) := (((Turn.refl (fun i => i = B + 1) _).set (p := ⟨B + 1, 0, none⟩) rfl _).set (p := ⟨B + 1, 2, none⟩) rfl _).set (p := ⟨B + 1, 3, none⟩) rfl _
        have bq := ((bT4.set 0 (.int .i64 code)).set 2 (.int .i64 why)).set 3 (.int .i64 sub)
        have b05 := b04.turn tA (by omega)
        have oU5 := oU4.turnL tA (fun i hi e => by omega)
        have N5 := N4.before tA (fun i hi e => by omega)
        generalize ((((w3.alloc (.cells #[.int .i64 code, .int .i64 why, .int .i64 sub, .int .i64 kd, .int .i64 sa, .int .i64 ho, .int .i64 si, .int .i64 wh, .int .i64 su, .slice ga gs.length gc, .bool has, .int .i64 o, .slice xa xs.length xc, .int .i64 nx, .int .i64 md, .int .i64 lc, .slice ra rs.length rc] 53)).setCell ⟨B + 1, 0, none⟩ (.int .i64 code)).setCell ⟨B + 1, 2, none⟩ (.int .i64 why)).setCell ⟨B + 1, 3, none⟩ (.int .i64 sub)) = u3 at *
        clear c0 f0 cT c7 fT b0R
        have cq := bq.cells
        have c0 := b05.cells
        have f0 := b05.frees
        go_wp2
        have tR : Turn (fun i => i = w.heap.size) u3 (((((u3.setCell ⟨w.heap.size, 0, none⟩ (.int .i64 code)).setCell ⟨w.heap.size, 1, none⟩ (.int .i64 u)).setCell ⟨w.heap.size, 2, none⟩ (.int .i64 why)).setCell ⟨w.heap.size, 3, none⟩ (.int .i64 sub)).setCell ⟨w.heap.size, 4, none⟩ (.slice y0 U.length d0)) := (((((Turn.refl (fun i => i = w.heap.size) u3).set (p := ⟨w.heap.size, 0, none⟩) rfl _).set (p := ⟨w.heap.size, 1, none⟩) rfl _).set (p := ⟨w.heap.size, 2, none⟩) rfl _).set (p := ⟨w.heap.size, 3, none⟩) rfl _).set (p := ⟨w.heap.size, 4, none⟩) rfl _
        refine bodyPost_ret (v := .agg #[.int .i64 code, .int .i64 u, .int .i64 why, .int .i64 sub, .slice y0 U.length d0]) (by simp [results, Try.results9, go_sem, c0]) rfl ?_
        exact RmAns.of (lo := B + 2) (v := .slice y0 U.length d0) (U := U) (oU5.turnL tR (fun i hi e => by omega)) (by omega) (N5.before tR (fun i hi e => by omega)) rfl
    · obtain rfl : k = nF := by omega
      have HE : Hid (R = if qc = 0 then ⟨0, u, 0, 0, U.map Mg.r⟩ else ⟨qc, u, 1, subS qc, U.map Mg.r⟩) := HR.out.trans (rmG_end (by have := HFn.out; omega))
      have hfin : ∀ (W : World) (z wy sb : Int), New w W → OvG W (B + 2) (.slice y0 U.length d0) U → R = ⟨z, u, wy, sb, U.map Mg.r⟩ → RmAns w R.z R.us R.wy R.sb R.D (.returned (.agg #[.int .i64 z, .int .i64 u, .int .i64 wy, .int .i64 sb, .slice y0 U.length d0])) W := by
        intro W z wy sb h1 h2 h3
        rw [h3]
        exact RmAns.of (lo := B + 2) h2 (by omega) h1 rfl
      have HFI : Hid _ := hfin
      have b0 := hI.b0
      have bT := hI.bT
      have oU := hI.own
      have N := hI.new
      have c0 := b0.cells
      have f0 := b0.frees
      clear HR hfin
      by_cases hq : qc = 0
      · have HE2 := HE.out
        rw [if_pos hq] at HE2
        have HE3 : Hid (R = ⟨qc, u, 0, 0, U.map Mg.r⟩) := by unfold Hid; rw [hq]; exact HE2
        have e1 : (qc != 0) = false := by simpa using hq
        have bS := hI.bS
        clear HE HE2 hI hq cS cT
        have cS := bS.cells
        have cT := bT.cells
        have fT := bT.frees
        go_upto_region 20 with fail
        have tA : Turn (fun i => i = B + 1) wr (wr.setCell ⟨B + 1, 0, none⟩ (.int .i64 qc)) := (Turn.refl (fun i => i = B + 1) wr).set (p := ⟨B + 1, 0, none⟩) rfl _
        have bq := (bT.set 0 (.int .i64 qc))
        have b05 := b0.turn tA (by omega)
        have oU5 := oU.turnL tA (fun i hi e => by omega)
        have N5 := N.before tA (fun i hi e => by omega)
        generalize (wr.setCell ⟨B + 1, 0, none⟩ (.int .i64 qc)) = u3 at *
        clear c0 f0 cS cT fT
        have cq := bq.cells
        have c0 := b05.cells
        have f0 := b05.frees
        go_wp2
        have tR : Turn (fun i => i = w.heap.size) u3 (((((u3.setCell ⟨w.heap.size, 0, none⟩ (.int .i64 qc)).setCell ⟨w.heap.size, 1, none⟩ (.int .i64 u)).setCell ⟨w.heap.size, 2, none⟩ (.int .i64 0)).setCell ⟨w.heap.size, 3, none⟩ (.int .i64 0)).setCell ⟨w.heap.size, 4, none⟩ (.slice y0 U.length d0)) := (((((Turn.refl (fun i => i = w.heap.size) u3).set (p := ⟨w.heap.size, 0, none⟩) rfl _).set (p := ⟨w.heap.size, 1, none⟩) rfl _).set (p := ⟨w.heap.size, 2, none⟩) rfl _).set (p := ⟨w.heap.size, 3, none⟩) rfl _).set (p := ⟨w.heap.size, 4, none⟩) rfl _
        refine bodyPost_ret (v := .agg #[.int .i64 qc, .int .i64 u, .int .i64 0, .int .i64 0, .slice y0 U.length d0]) (by simp [results, Try.results9, go_sem, c0]) rfl ?_
        exact HFI.out _ qc 0 0 (N5.before tR (fun i hi e => by omega)) (oU5.turnL tR (fun i hi e => by omega)) HE3.out
      · have HE2 := HE.out
        rw [if_neg hq] at HE2
        have HE3 : Hid (R = ⟨qc, u, 1, qc, U.map Mg.r⟩) := by unfold Hid; rw [HE2, subS_id HRG.out hq]
        have e1 : (qc != 0) = true := by simpa using hq
        have HQ1 : Hid (¬ qc = 0) := hq
        have bS := hI.bS
        clear HE HE2 hI hq cS cT
        have cS := bS.cells
        have cT := bT.cells
        have fT := bT.frees
        go_upto_region 20 with fail
        have tA : Turn (fun i => i = B + 1) wr (((wr.setCell ⟨B + 1, 0, none⟩ (.int .i64 qc)).setCell ⟨B + 1, 2, none⟩ (.int .i64 1)).setCell ⟨B + 1, 3, none⟩ (.int .i64 qc)) := (((Turn.refl (fun i => i = B + 1) wr).set (p := ⟨B + 1, 0, none⟩) rfl _).set (p := ⟨B + 1, 2, none⟩) rfl _).set (p := ⟨B + 1, 3, none⟩) rfl _
        have bq := (((bT.set 0 (.int .i64 qc)).set 2 (.int .i64 1)).set 3 (.int .i64 qc))
        have b05 := b0.turn tA (by omega)
        have oU5 := oU.turnL tA (fun i hi e => by omega)
        have N5 := N.before tA (fun i hi e => by omega)
        generalize (((wr.setCell ⟨B + 1, 0, none⟩ (.int .i64 qc)).setCell ⟨B + 1, 2, none⟩ (.int .i64 1)).setCell ⟨B + 1, 3, none⟩ (.int .i64 qc)) = u3 at *
        clear c0 f0 cS cT fT
        have cq := bq.cells
        have c0 := b05.cells
        have f0 := b05.frees
        go_wp2
        have tR : Turn (fun i => i = w.heap.size) u3 (((((u3.setCell ⟨w.heap.size, 0, none⟩ (.int .i64 qc)).setCell ⟨w.heap.size, 1, none⟩ (.int .i64 u)).setCell ⟨w.heap.size, 2, none⟩ (.int .i64 1)).setCell ⟨w.heap.size, 3, none⟩ (.int .i64 qc)).setCell ⟨w.heap.size, 4, none⟩ (.slice y0 U.length d0)) := (((((Turn.refl (fun i => i = w.heap.size) u3).set (p := ⟨w.heap.size, 0, none⟩) rfl _).set (p := ⟨w.heap.size, 1, none⟩) rfl _).set (p := ⟨w.heap.size, 2, none⟩) rfl _).set (p := ⟨w.heap.size, 3, none⟩) rfl _).set (p := ⟨w.heap.size, 4, none⟩) rfl _
        refine bodyPost_ret (v := .agg #[.int .i64 qc, .int .i64 u, .int .i64 1, .int .i64 qc, .slice y0 U.length d0]) (by simp [results, Try.results9, go_sem, c0]) rfl ?_
        exact HFI.out _ qc 1 qc (N5.before tR (fun i hi e => by omega)) (oU5.turnL tR (fun i hi e => by omega)) HE3.out

end Go.Proofs.Ytljkcijakdhdiaa

namespace Go.Proofs.Ytljkcijakdhdiaa
open Go.RowKit Go.Sort
set_option linter.unusedVariables false
set_option linter.unusedSimpArgs false
set_option maxRecDepth 100000

/-- A message that is marked from k on. -/
def Mg.eA (k : Int) (v : Mg) : Int := k + 1 + 1 + 1 + 1 + 1 + 1 + 2 * (v.p.gs.length : Int)
def Mg.eB (k : Int) (v : Mg) : Int := v.eA k + 1 + 1 + (v.p.xs.length : Int)
def Mg.nx (k : Int) (v : Mg) : Int := v.eB k + 1 + 1 + 1 + 2 * (v.p.rs.length : Int)
def Mg.mkp (k : Int) (v : Mg) : PU := ⟨0, false, mkP (k + 1 + 1 + 1 + 1 + 1 + 1) v.p.gs.length, v.eA k % 3 == 0, v.eA k + 1, mkN (v.eA k + 1 + 1) v.p.xs.length, v.eB k, v.eB k + 1, v.eB k + 1 + 1, mkP (v.eB k + 1 + 1 + 1) v.p.rs.length⟩
def Mg.mkG (k : Int) (v : Mg) : Mg := ⟨⟨0, 0, 0, k, k + 1, k + 1 + 1, k + 1 + 1 + 1, k + 1 + 1 + 1 + 1, k + 1 + 1 + 1 + 1 + 1⟩, v.mkp k, v.x, v.y, v.z⟩
def markG : Int → List Mg → List Mg
  | _, [] => []
  | k, v :: V => v.mkG k :: markG (v.nx k) V
def endG : Int → List Mg → Int
  | k, [] => k
  | k, v :: V => endG (v.nx k) V
theorem markG_length (V : List Mg) : ∀ k, (markG k V).length = V.length := by
  induction V with
  | nil => intro k; rfl
  | cons f F ih => intro k; simp [markG, ih]
theorem endG_snoc (V : List Mg) (v : Mg) : ∀ k, endG k (V ++ [v]) = v.nx (endG k V) := by
  induction V with
  | nil => intro k; rfl
  | cons g F ih => intro k; simp only [List.cons_append, endG]; exact ih _
theorem markG_snoc (V : List Mg) (v : Mg) : ∀ k, markG k (V ++ [v]) = markG k V ++ [v.mkG (endG k V)] := by
  induction V with
  | nil => intro k; rfl
  | cons g F ih => intro k; simp only [List.cons_append, markG, endG, ih]
theorem endG_bd (V : List Mg) : ∀ k, (∀ v ∈ V, Bd v.p) → k ≤ endG k V ∧ endG k V ≤ k + V.length * 5242900 := by
  induction V with
  | nil => intro k _; simp [endG]
  | cons f F ih =>
    intro k h
    have h1 := h f (by simp)
    have h2 := ih (f.nx k) (fun g hg => h g (by simp [hg]))
    have l1 := h1.lg
    have l2 := h1.ln
    have l3 := h1.lr
    simp only [endG, List.length_cons]
    unfold Mg.nx Mg.eB Mg.eA at h2 ⊢
    omega
theorem take_snocG {V : List Mg} {k : Nat} {f : Mg} (h : V[k]? = some f) : V.take (k + 1) = V.take k ++ [f] := by
  obtain ⟨hk, rfl⟩ := List.getElem?_eq_some_iff.1 h
  exact List.take_succ_eq_append_getElem hk
theorem markG_get (V : List Mg) {j : Nat} {f : Mg} (h : V[j]? = some f) (k : Int) : (markG k V)[j]? = some (f.mkG (endG k (V.take j))) := by
  induction V generalizing j k with
  | nil => simp at h
  | cons g F ih =>
    cases j with
    | zero => simp at h; subst h; simp [markG, endG]
    | succ j => simp at h; simp only [markG, List.getElem?_cons_succ, List.take_succ_cons, endG]; exact ih h _
theorem endG_take {V : List Mg} {j : Nat} {f : Mg} (h : V[j]? = some f) (k : Int) : endG k (V.take (j + 1)) = f.nx (endG k (V.take j)) := by rw [take_snocG h, endG_snoc]
theorem stepG_get {V : List Mg} {j : Nat} {f : Mg} (h : V[j]? = some f) (k : Int) : (markG k (V.take j) ++ V.drop j)[j]? = some f := by
  obtain ⟨hj, rfl⟩ := List.getElem?_eq_some_iff.1 h
  have hl : (markG k (V.take j)).length = j := by rw [markG_length, List.length_take]; omega
  rw [List.getElem?_append_right (by omega), hl, Nat.sub_self, List.getElem?_drop]
  exact h
theorem stepG_set {V : List Mg} {j : Nat} {f : Mg} (h : V[j]? = some f) (k : Int) : (markG k (V.take j) ++ V.drop j).set j (f.mkG (endG k (V.take j))) = markG k (V.take (j + 1)) ++ V.drop (j + 1) := by
  have hf := take_snocG h
  obtain ⟨hj, rfl⟩ := List.getElem?_eq_some_iff.1 h
  have hl : (markG k (V.take j)).length = j := by rw [markG_length, List.length_take]; omega
  rw [hf, markG_snoc, List.set_append_right _ _ (by omega), hl, Nat.sub_self, List.drop_eq_getElem_cons hj, List.set_cons_zero]
  simp
theorem cellsG_set11 : ∀ (U : List Mg) (i : Nat) (u v : Mg), U[i]? = some u → v.x = u.x → v.y = u.y → v.z = u.z → (((((((((((cellsG U).set (i * 14) (.int .i64 v.H.kd)).set (i * 14 + 1) (.int .i64 v.H.sa)).set (i * 14 + 2) (.int .i64 v.H.ho)).set (i * 14 + 3) (.int .i64 v.H.si)).set (i * 14 + 4) (.int .i64 v.H.wh)).set (i * 14 + 5) (.int .i64 v.H.su)).set (i * 14 + 7) (.bool v.p.has)).set (i * 14 + 8) (.int .i64 v.p.o)).set (i * 14 + 10) (.int .i64 v.p.nx)).set (i * 14 + 11) (.int .i64 v.p.md)).set (i * 14 + 12) (.int .i64 v.p.lc) = cellsG (U.set i v)
  | [], i, u, v, h, _, _, _ => by simp at h
  | q :: U, 0, u, v, h, e1, e2, e3 => by
    simp at h
    subst h
    simp [cellsG, Mg.cs, ← e1, ← e2, ← e3]
  | q :: U, i + 1, u, v, h, e1, e2, e3 => by
    have ih := cellsG_set11 U i u v (by simpa using h) e1 e2 e3
    have e4 : ∀ (q : Mg) (U : List Mg), cellsG (q :: U) = .int .i64 q.H.kd :: .int .i64 q.H.sa :: .int .i64 q.H.ho :: .int .i64 q.H.si :: .int .i64 q.H.wh :: .int .i64 q.H.su :: q.x :: .bool q.p.has :: .int .i64 q.p.o :: q.y :: .int .i64 q.p.nx :: .int .i64 q.p.md :: .int .i64 q.p.lc :: q.z :: cellsG U := fun _ _ => rfl
    rw [show (i + 1) * 14 = i * 14 + 14 by omega, e4, show (q :: U).set (i + 1) v = q :: U.set i v from rfl, e4, ← ih]
    simp only [Nat.add_assoc, Nat.reduceAdd, List.set_cons_succ]

set_option maxHeartbeats 12800000 in
theorem markMgS_row (g n c lo hi : Nat) (k : Int) (U : List Mg) (w : World) (h : OwG w lo hi g n c U) (hn : U.length = n) (hm : n ≤ 100) (hk0 : 0 ≤ k) (hk : k ≤ 1000) :
    Calls Try.prog 25 #[.slice (some ⟨g, 0, none⟩) n c, .int .i64 k] w fun e w' => e = .returned (.int .i64 (endG k U)) ∧ MgAt w' (some ⟨g, 0, none⟩) (markG k U) ∧ Turn (fun x => lo ≤ x ∧ x < hi) w w' := by
  have HLn : Hid (U.length = n) := hn
  have HBd : Hid (∀ j, j ≤ n → k ≤ endG k (U.take j) ∧ endG k (U.take j) ≤ k + 524290000) := by
    intro j hj
    have h1 := endG_bd (U.take j) k (fun f hf => h.bd f (List.mem_of_mem_take hf))
    have h2 : (U.take j).length ≤ 100 := by rw [List.length_take]; omega
    omega
  have HLen : Hid (∀ u ∈ U, Bd u.p) := h.bd
  have HInn : Hid (∀ u ∈ U, ∀ k, u.bl k → lo ≤ k ∧ k < hi ∧ ¬ k = g) := h.inn
  have HAp : Hid (∀ (i j : Nat) (u v : Mg) (k : Nat), U[i]? = some u → U[j]? = some v → i ≠ j → u.bl k → ¬ v.bl k) := h.apart
  have HGl : Hid (lo ≤ g ∧ g < hi) := h.glo
  have hrow := h.row
  have hown := h.own
  clear hn h
  go_enter Try.func25, Try.ntmps25
  go_wp2
  go_loopw [1, 5] (fun s i wr => ∃ j : Nat, j ≤ n ∧ i = .int .i64 j ∧ s = .int .i64 (endG k (U.take j)) ∧ wr.ownsRow 0 51 14 (.slice (some ⟨g, 0, none⟩) n c) n (cellsG (markG k (U.take j) ++ U.drop j)) ∧
      (∀ (i : Nat) (u : Mg), j ≤ i → U[i]? = some u → Got wr lo u.p u.x u.y u.z) ∧ (∀ (i : Nat) (u : Mg), i < j → U[i]? = some u → Got wr lo (u.mkp (endG k (U.take i))) u.x u.y u.z) ∧ Turn (fun x => lo ≤ x ∧ x < hi) w wr) (fun _ i _ => n - (intOf i).toNat)
  case atStart => exact ⟨0, Nat.zero_le _, rfl, rfl, by simpa [markG] using hrow, fun i u _ hu => hown i u hu, fun i u hi => absurd hi (Nat.not_lt_zero i), Turn.refl _ _⟩
  case round =>
    obtain ⟨j, hj, rfl, rfl, hC, hrest, hdone, htn⟩ := hrel
    by_cases hlt : j < n
    · obtain ⟨f, hfj⟩ : ∃ f, U[j]? = some f := ⟨_, List.getElem?_eq_getElem (by have := HLn.out; omega)⟩
      have hCj := stepG_get hfj k
      have he := HBd.out j hj
      have HE : Hid (endG k (U.take (j + 1)) = f.nx (endG k (U.take j))) := endG_take hfj k
      have HS2 : Hid _ := stepG_set hfj k
      have HKC : Hid (∀ u, U[j]? = some u → u = f) := by intro u hu; rw [hfj] at hu; exact (Option.some.inj hu).symm
      have HFJ : Hid (U[j]? = some f) := hfj
      have HDone : Hid (∀ (i : Nat) (u : Mg), i < j → U[i]? = some u → Got wr lo (u.mkp (endG k (U.take i))) u.x u.y u.z) := hdone
      obtain ⟨kc, hkc⟩ : ∃ kc, kc = endG k (U.take j) := ⟨_, rfl⟩
      have HK : Hid (kc = endG k (U.take j)) := hkc
      rw [← hkc] at he ⊢
      have HE2 : Hid (endG k (U.take (j + 1)) = f.nx kc) := by unfold Hid; rw [hkc]; exact HE.out
      have HS3 : Hid ((markG k (U.take j) ++ U.drop j).set j (f.mkG kc) = markG k (U.take (j + 1)) ++ U.drop (j + 1)) := by unfold Hid; rw [hkc]; exact HS2.out
      clear hkc HE HS2 hdone
      generalize hCC0 : markG k (U.take j) ++ U.drop j = CC at *
      have HCj : Hid (CC[j]? = some f) := hCj
      have hCl : (cellsG CC).length = n * 14 := by have := hC.1; omega
      have hov := hrest j f (Nat.le_refl _) hfj
      have hlf := HLen.out f (List.mem_of_getElem? hfj)
      have HIF : Hid (∀ k, f.bl k → lo ≤ k ∧ k < hi ∧ ¬ k = g) := HInn.out f (List.mem_of_getElem? hfj)
      have lG := hlf.lg
      have lN := hlf.ln
      have lR := hlf.lr
      obtain ⟨kA, hkA⟩ : ∃ kA, kA = f.eA kc := ⟨_, rfl⟩
      obtain ⟨kB, hkB⟩ : ∃ kB, kB = f.eB kc := ⟨_, rfl⟩
      have HkA : Hid (kA = kc + 1 + 1 + 1 + 1 + 1 + 1 + 2 * (f.p.gs.length : Int)) := hkA
      have HkB : Hid (kB = kA + 1 + 1 + (f.p.xs.length : Int)) := by unfold Hid; rw [hkB, hkA]; rfl
      have bA0 : 0 ≤ kA ∧ kA ≤ 600000000 := by have := HkA.out; omega
      have bB0 : 0 ≤ kB ∧ kB ≤ 700000000 := by have := HkB.out; omega
      have HNX : Hid (f.nx kc = kB + 1 + 1 + 1 + 2 * (f.p.rs.length : Int)) := by unfold Hid Mg.nx; rw [hkB]
      have HMK : Hid (f.mkp kc = ⟨0, false, mkP (kc + 1 + 1 + 1 + 1 + 1 + 1) f.p.gs.length, kA % 3 == 0, kA + 1, mkN (kA + 1 + 1) f.p.xs.length, kB, kB + 1, kB + 1 + 1, mkP (kB + 1 + 1 + 1) f.p.rs.length⟩) := by unfold Hid Mg.mkp; rw [hkA, hkB]
      have HST : Hid ((((((((((((cellsG CC).set (j * 14) (.int .i64 kc)).set (j * 14 + 1) (.int .i64 (kc + 1))).set (j * 14 + 2) (.int .i64 (kc + 1 + 1))).set (j * 14 + 3) (.int .i64 (kc + 1 + 1 + 1))).set (j * 14 + 4) (.int .i64 (kc + 1 + 1 + 1 + 1))).set (j * 14 + 5) (.int .i64 (kc + 1 + 1 + 1 + 1 + 1))).set (j * 14 + 7) (.bool (kA % 3 == 0))).set (j * 14 + 8) (.int .i64 (kA + 1))).set (j * 14 + 10) (.int .i64 kB)).set (j * 14 + 11) (.int .i64 (kB + 1))).set (j * 14 + 12) (.int .i64 (kB + 1 + 1)) = cellsG (CC.set j (f.mkG kc))) := by
        have hset := cellsG_set11 CC j f (f.mkG kc) HCj.out rfl rfl rfl
        simp only [Mg.mkG, Mg.mkp] at hset
        rw [hkA, hkB]
        exact hset
      clear hkA hkB
      have x6 : wr.cell? ⟨g, j * 14 + 6, none⟩ = some f.x := by
        rw [World.ownsRow.cellAt hC (j * 14 + 6) (by omega)]
        exact cellsG_get CC j f hCj 6 (by omega)
      have f0 := fun q => World.ownsRow.frozenAt hC q
      obtain ⟨cv0, c0⟩ : ∃ v, wr.cell? ⟨g, j * 14, none⟩ = some v := ⟨_, (World.ownsRow.cellAt hC _ (by omega)).trans (List.getElem?_eq_getElem (by first | omega | (simp only [List.length_set]; omega)))⟩
      obtain ⟨cv1, c1⟩ : ∃ v, wr.cell? ⟨g, j * 14 + 1, none⟩ = some v := ⟨_, (World.ownsRow.cellAt hC _ (by omega)).trans (List.getElem?_eq_getElem (by first | omega | (simp only [List.length_set]; omega)))⟩
      obtain ⟨cv2, c2⟩ : ∃ v, wr.cell? ⟨g, j * 14 + 2, none⟩ = some v := ⟨_, (World.ownsRow.cellAt hC _ (by omega)).trans (List.getElem?_eq_getElem (by first | omega | (simp only [List.length_set]; omega)))⟩
      obtain ⟨cv3, c3⟩ : ∃ v, wr.cell? ⟨g, j * 14 + 3, none⟩ = some v := ⟨_, (World.ownsRow.cellAt hC _ (by omega)).trans (List.getElem?_eq_getElem (by first | omega | (simp only [List.length_set]; omega)))⟩
      obtain ⟨cv4, c4⟩ : ∃ v, wr.cell? ⟨g, j * 14 + 4, none⟩ = some v := ⟨_, (World.ownsRow.cellAt hC _ (by omega)).trans (List.getElem?_eq_getElem (by first | omega | (simp only [List.length_set]; omega)))⟩
      obtain ⟨cv5, c5⟩ : ∃ v, wr.cell? ⟨g, j * 14 + 5, none⟩ = some v := ⟨_, (World.ownsRow.cellAt hC _ (by omega)).trans (List.getElem?_eq_getElem (by first | omega | (simp only [List.length_set]; omega)))⟩
      have hg1 := (World.ownsRow.stored hC (j * 14) (.int .i64 kc)).1
      have hg2 := (World.ownsRow.stored hg1 (j * 14 + 1) (.int .i64 (kc + 1))).1
      have hg3 := (World.ownsRow.stored hg2 (j * 14 + 2) (.int .i64 (kc + 1 + 1))).1
      have hg4 := (World.ownsRow.stored hg3 (j * 14 + 3) (.int .i64 (kc + 1 + 1 + 1))).1
      have hg5 := (World.ownsRow.stored hg4 (j * 14 + 4) (.int .i64 (kc + 1 + 1 + 1 + 1))).1
      have hg6 := (World.ownsRow.stored hg5 (j * 14 + 5) (.int .i64 (kc + 1 + 1 + 1 + 1 + 1))).1
      have x66 : ((((((wr.setCell ⟨g, j * 14, none⟩ (.int .i64 kc)).setCell ⟨g, j * 14 + 1, none⟩ (.int .i64 (kc + 1))).setCell ⟨g, j * 14 + 2, none⟩ (.int .i64 (kc + 1 + 1))).setCell ⟨g, j * 14 + 3, none⟩ (.int .i64 (kc + 1 + 1 + 1))).setCell ⟨g, j * 14 + 4, none⟩ (.int .i64 (kc + 1 + 1 + 1 + 1))).setCell ⟨g, j * 14 + 5, none⟩ (.int .i64 (kc + 1 + 1 + 1 + 1 + 1))).cell? ⟨g, j * 14 + 6, none⟩ = some f.x := by
        rw [World.ownsRow.cellAt hg6 (j * 14 + 6) (by omega)]
        rw [List.getElem?_set_ne (by omega), List.getElem?_set_ne (by omega), List.getElem?_set_ne (by omega), List.getElem?_set_ne (by omega), List.getElem?_set_ne (by omega), List.getElem?_set_ne (by omega)]
        exact cellsG_get CC j f HCj.out 6 (by omega)
      have tS1 : Turn (fun k => k = g) wr ((((((wr.setCell ⟨g, j * 14, none⟩ (.int .i64 kc)).setCell ⟨g, j * 14 + 1, none⟩ (.int .i64 (kc + 1))).setCell ⟨g, j * 14 + 2, none⟩ (.int .i64 (kc + 1 + 1))).setCell ⟨g, j * 14 + 3, none⟩ (.int .i64 (kc + 1 + 1 + 1))).setCell ⟨g, j * 14 + 4, none⟩ (.int .i64 (kc + 1 + 1 + 1 + 1))).setCell ⟨g, j * 14 + 5, none⟩ (.int .i64 (kc + 1 + 1 + 1 + 1 + 1))) := ((((((Turn.refl (fun k => k = g) wr).set (p := ⟨g, j * 14, none⟩) rfl (.int .i64 kc)).set (p := ⟨g, j * 14 + 1, none⟩) rfl (.int .i64 (kc + 1))).set (p := ⟨g, j * 14 + 2, none⟩) rfl (.int .i64 (kc + 1 + 1))).set (p := ⟨g, j * 14 + 3, none⟩) rfl (.int .i64 (kc + 1 + 1 + 1))).set (p := ⟨g, j * 14 + 4, none⟩) rfl (.int .i64 (kc + 1 + 1 + 1 + 1))).set (p := ⟨g, j * 14 + 5, none⟩) rfl (.int .i64 (kc + 1 + 1 + 1 + 1 + 1))
      have hov4 := hov.turnB tS1 (fun k hk e => (HIF.out k hk).2.2 e)
      clear hfj hCj hg1 hg2 hg3 hg4 hg5
      go_upto_region 16 with fail
      generalize ((((((wr.setCell ⟨g, j * 14, none⟩ (.int .i64 kc)).setCell ⟨g, j * 14 + 1, none⟩ (.int .i64 (kc + 1))).setCell ⟨g, j * 14 + 2, none⟩ (.int .i64 (kc + 1 + 1))).setCell ⟨g, j * 14 + 3, none⟩ (.int .i64 (kc + 1 + 1 + 1))).setCell ⟨g, j * 14 + 4, none⟩ (.int .i64 (kc + 1 + 1 + 1 + 1))).setCell ⟨g, j * 14 + 5, none⟩ (.int .i64 (kc + 1 + 1 + 1 + 1 + 1))) = w4 at *
      clear x6 c0 c1 c2 c3 c4 c5 f0 hC hov
      obtain ⟨og4, on4, or4, hgn, hgr, hnr⟩ := hov4
      go_wp2_with fail
      refine (markQ_any f.x f.p.gs lo f.p.gs.length (kc + 1 + 1 + 1 + 1 + 1 + 1) _ og4 rfl lG (by omega) (by omega)).mono ?_
      rintro e w5 ⟨he5, og5, t5⟩
      rw [← HkA.out] at he5
      subst he5
      clear x66
      have on5 := on4.turnA t5 (fun k hk e => hgn k e hk)
      have or5 := or4.turnA t5 (fun k hk e => hgr k e hk)
      have hr5 := row_turn14 hg6 t5 (fun e => (HIF.out g (.inl e)).2.2 rfl)
      have t15 : Turn (fun i => i = g ∨ f.bl i) wr w5 := Turn.trans (S := fun i => i = g ∨ f.bl i) (Turn.mono tS1 (fun i _ e => .inl e)) t5 (fun i _ e => .inr (.inl e))
      clear tS1 t5 og4 on4 or4 hg6
      have f5 := fun q => World.ownsRow.frozenAt hr5 q
      obtain ⟨ev7, e7⟩ : ∃ v, w5.cell? ⟨g, j * 14 + 7, none⟩ = some v := ⟨_, (World.ownsRow.cellAt hr5 _ (by omega)).trans (List.getElem?_eq_getElem (by first | omega | (simp only [List.length_set]; omega)))⟩
      obtain ⟨ev8, e8⟩ : ∃ v, w5.cell? ⟨g, j * 14 + 8, none⟩ = some v := ⟨_, (World.ownsRow.cellAt hr5 _ (by omega)).trans (List.getElem?_eq_getElem (by first | omega | (simp only [List.length_set]; omega)))⟩
      have hh1 := (World.ownsRow.stored hr5 (j * 14 + 7) (.bool (kA % 3 == 0))).1
      have hh2 := (World.ownsRow.stored hh1 (j * 14 + 8) (.int .i64 (kA + 1))).1
      have x9 : w5.cell? ⟨g, j * 14 + 9, none⟩ = some f.y := by
        rw [World.ownsRow.cellAt hr5 (j * 14 + 9) (by omega)]
        rw [List.getElem?_set_ne (by omega), List.getElem?_set_ne (by omega), List.getElem?_set_ne (by omega), List.getElem?_set_ne (by omega), List.getElem?_set_ne (by omega), List.getElem?_set_ne (by omega)]
        exact cellsG_get CC j f HCj.out 9 (by omega)
      have x99 : ((w5.setCell ⟨g, j * 14 + 7, none⟩ (.bool (kA % 3 == 0))).setCell ⟨g, j * 14 + 8, none⟩ (.int .i64 (kA + 1))).cell? ⟨g, j * 14 + 9, none⟩ = some f.y := by
        rw [World.ownsRow.cellAt hh2 (j * 14 + 9) (by omega)]
        rw [List.getElem?_set_ne (by omega), List.getElem?_set_ne (by omega), List.getElem?_set_ne (by omega), List.getElem?_set_ne (by omega), List.getElem?_set_ne (by omega), List.getElem?_set_ne (by omega), List.getElem?_set_ne (by omega), List.getElem?_set_ne (by omega)]
        exact cellsG_get CC j f HCj.out 9 (by omega)
      have tS2 : Turn (fun k => k = g) w5 ((w5.setCell ⟨g, j * 14 + 7, none⟩ (.bool (kA % 3 == 0))).setCell ⟨g, j * 14 + 8, none⟩ (.int .i64 (kA + 1))) := ((Turn.refl (fun k => k = g) w5).set (p := ⟨g, j * 14 + 7, none⟩) rfl (.bool (kA % 3 == 0))).set (p := ⟨g, j * 14 + 8, none⟩) rfl (.int .i64 (kA + 1))
      have og6 := og5.turnA tS2 (fun k hk e => (HIF.out k (.inl hk)).2.2 e)
      have on6 := on5.turnA tS2 (fun k hk e => (HIF.out k (.inr (.inl hk))).2.2 e)
      have or6 := or5.turnA tS2 (fun k hk e => (HIF.out k (.inr (.inr hk))).2.2 e)
      clear hh1
      go_upto_region 21 with fail
      generalize ((w5.setCell ⟨g, j * 14 + 7, none⟩ (.bool (kA % 3 == 0))).setCell ⟨g, j * 14 + 8, none⟩ (.int .i64 (kA + 1))) = w6 at *
      clear x9 e7 e8 f5 hr5 og5 on5 or5
      go_wp2_with fail
      refine (markM_any f.y f.p.xs lo f.p.xs.length (kA + 1 + 1) _ on6 rfl lN (by omega) (by omega)).mono ?_
      rintro e w7 ⟨he7, on7, t7⟩
      rw [← HkB.out] at he7
      subst he7
      clear x99
      have og7 := og6.turnA t7 (fun k hk e => hgn k hk e)
      have or7 := or6.turnA t7 (fun k hk e => hnr k e hk)
      have hr7 := row_turn14 hh2 t7 (fun e => (HIF.out g (.inr (.inl e))).2.2 rfl)
      have t17 : Turn (fun i => i = g ∨ f.bl i) wr w7 := Turn.trans (S := fun i => i = g ∨ f.bl i) (Turn.trans (S := fun i => i = g ∨ f.bl i) t15 tS2 (fun i _ e => .inl e)) t7 (fun i _ e => .inr (.inr (.inl e)))
      clear tS2 t7 og6 on6 or6 hh2 t15
      have f7 := fun q => World.ownsRow.frozenAt hr7 q
      obtain ⟨dv10, d10⟩ : ∃ v, w7.cell? ⟨g, j * 14 + 10, none⟩ = some v := ⟨_, (World.ownsRow.cellAt hr7 _ (by omega)).trans (List.getElem?_eq_getElem (by first | omega | (simp only [List.length_set]; omega)))⟩
      obtain ⟨dv11, d11⟩ : ∃ v, w7.cell? ⟨g, j * 14 + 11, none⟩ = some v := ⟨_, (World.ownsRow.cellAt hr7 _ (by omega)).trans (List.getElem?_eq_getElem (by first | omega | (simp only [List.length_set]; omega)))⟩
      obtain ⟨dv12, d12⟩ : ∃ v, w7.cell? ⟨g, j * 14 + 12, none⟩ = some v := ⟨_, (World.ownsRow.cellAt hr7 _ (by omega)).trans (List.getElem?_eq_getElem (by first | omega | (simp only [List.length_set]; omega)))⟩
      have hi1 := (World.ownsRow.stored hr7 (j * 14 + 10) (.int .i64 kB)).1
      have hi2 := (World.ownsRow.stored hi1 (j * 14 + 11) (.int .i64 (kB + 1))).1
      have hi3 := (World.ownsRow.stored hi2 (j * 14 + 12) (.int .i64 (kB + 1 + 1))).1
      have x13 : w7.cell? ⟨g, j * 14 + 13, none⟩ = some f.z := by
        rw [World.ownsRow.cellAt hr7 (j * 14 + 13) (by omega)]
        rw [List.getElem?_set_ne (by omega), List.getElem?_set_ne (by omega), List.getElem?_set_ne (by omega), List.getElem?_set_ne (by omega), List.getElem?_set_ne (by omega), List.getElem?_set_ne (by omega), List.getElem?_set_ne (by omega), List.getElem?_set_ne (by omega)]
        exact cellsG_get CC j f HCj.out 13 (by omega)
      have x133 : (((w7.setCell ⟨g, j * 14 + 10, none⟩ (.int .i64 kB)).setCell ⟨g, j * 14 + 11, none⟩ (.int .i64 (kB + 1))).setCell ⟨g, j * 14 + 12, none⟩ (.int .i64 (kB + 1 + 1))).cell? ⟨g, j * 14 + 13, none⟩ = some f.z := by
        rw [World.ownsRow.cellAt hi3 (j * 14 + 13) (by omega)]
        rw [List.getElem?_set_ne (by omega), List.getElem?_set_ne (by omega), List.getElem?_set_ne (by omega), List.getElem?_set_ne (by omega), List.getElem?_set_ne (by omega), List.getElem?_set_ne (by omega), List.getElem?_set_ne (by omega), List.getElem?_set_ne (by omega), List.getElem?_set_ne (by omega), List.getElem?_set_ne (by omega), List.getElem?_set_ne (by omega)]
        exact cellsG_get CC j f HCj.out 13 (by omega)
      have tS3 : Turn (fun k => k = g) w7 (((w7.setCell ⟨g, j * 14 + 10, none⟩ (.int .i64 kB)).setCell ⟨g, j * 14 + 11, none⟩ (.int .i64 (kB + 1))).setCell ⟨g, j * 14 + 12, none⟩ (.int .i64 (kB + 1 + 1))) := (((Turn.refl (fun k => k = g) w7).set (p := ⟨g, j * 14 + 10, none⟩) rfl (.int .i64 kB)).set (p := ⟨g, j * 14 + 11, none⟩) rfl (.int .i64 (kB + 1))).set (p := ⟨g, j * 14 + 12, none⟩) rfl (.int .i64 (kB + 1 + 1))
      have og8 := og7.turnA tS3 (fun k hk e => (HIF.out k (.inl hk)).2.2 e)
      have on8 := on7.turnA tS3 (fun k hk e => (HIF.out k (.inr (.inl hk))).2.2 e)
      have or8 := or7.turnA tS3 (fun k hk e => (HIF.out k (.inr (.inr hk))).2.2 e)
      rw [HST.out] at hi3
      clear hi1 hi2
      go_upto_region 28 with fail
      generalize (((w7.setCell ⟨g, j * 14 + 10, none⟩ (.int .i64 kB)).setCell ⟨g, j * 14 + 11, none⟩ (.int .i64 (kB + 1))).setCell ⟨g, j * 14 + 12, none⟩ (.int .i64 (kB + 1 + 1))) = w8 at *
      clear x13 d10 d11 d12 f7 hr7 og7 on7 or7
      go_wp2_with fail
      refine (markQ_any f.z f.p.rs lo f.p.rs.length (kB + 1 + 1 + 1) _ or8 rfl lR (by omega) (by omega)).mono ?_
      rintro e w9 ⟨he9, or9, t9⟩
      rw [← HNX.out] at he9
      subst he9
      clear x133
      have og9 := og8.turnA t9 (fun k hk e => hgr k hk e)
      have on9 := on8.turnA t9 (fun k hk e => hnr k hk e)
      have hr9 := row_turn14 hi3 t9 (fun e => (HIF.out g (.inr (.inr e))).2.2 rfl)
      have t19 : Turn (fun i => i = g ∨ f.bl i) wr w9 := Turn.trans (S := fun i => i = g ∨ f.bl i) (Turn.trans (S := fun i => i = g ∨ f.bl i) t17 tS3 (fun i _ e => .inl e)) t9 (fun i _ e => .inr (.inr (.inr e)))
      have HG9 : Hid (Got w9 lo (f.mkp kc) f.x f.y f.z) := by unfold Hid; rw [HMK.out]; exact ⟨og9, on9, or9, hgn, hgr, hnr⟩
      have HR9 : Hid (w9.ownsRow 0 51 14 (.slice (some ⟨g, 0, none⟩) n c) n (cellsG (CC.set j (f.mkG kc)))) := hr9
      clear tS3 t9 og8 on8 or8 hi3 t17 og9 on9 or9 hr9
      go_wp2
      go_roundw
      case rel =>
        refine ⟨j + 1, by omega, by go_num, by rw [HE2.out], ?_, ?_, ?_, ?_⟩
        · rw [← HS3.out]
          exact HR9.out
        · intro i u hi hu
          refine (hrest i u (by omega) hu).turnB t19 ?_
          rintro k hk (e | e)
          · exact (HInn.out u (List.mem_of_getElem? hu) k hk).2.2 e
          · exact HAp.out i j u f k hu HFJ.out (by omega) hk e
        · intro i u hi hu
          by_cases hij : i = j
          · subst hij
            obtain rfl := HKC.out u hu
            rw [← HK.out]
            exact HG9.out
          · refine (HDone.out i u (by omega) hu).turnB t19 ?_
            rintro k hk (e | e)
            · exact (HInn.out u (List.mem_of_getElem? hu) k hk).2.2 e
            · exact HAp.out i j u f k hu HFJ.out (by omega) hk e
        · exact Turn.trans htn t19 (by rintro i _ (e | e); (rw [e]; exact HGl.out); exact ⟨(HIF.out i e).1, (HIF.out i e).2.1⟩)
      case measure => simp [intOf]; omega
    · go_wp2
      go_ret
      obtain rfl : j = n := by omega
      have e1 : U.take j = U := List.take_of_length_le (by rw [HLn.out]; omega)
      have e2 : U.drop j = [] := List.drop_eq_nil_of_le (by rw [HLn.out]; omega)
      rw [e1, e2, List.append_nil] at hC
      rw [e1]
      refine ⟨rfl, ?_, htn⟩
      intro i u hu
      have hi : i < (markG k U).length := (List.getElem?_eq_some_iff.1 hu).1
      rw [markG_length] at hi
      obtain ⟨f, hf⟩ : ∃ f, U[i]? = some f := ⟨_, List.getElem?_eq_getElem hi⟩
      have hm' := markG_get U hf k
      rw [hu] at hm'
      obtain rfl := Option.some.inj hm'
      refine ⟨⟨g, rfl, fun q hq => ?_⟩, ?_, ?_⟩
      · rw [World.ownsRow.cellAt hC (i * 14 + q) (by have := HLn.out; omega)]
        exact cellsG_get _ i _ hu q hq
      · exact (hdone i f (by have := HLn.out; omega) hf).low (Nat.zero_le _)
      · have hb := HLen.out f (List.mem_of_getElem? hf)
        have he := HBd.out i (by have := HLn.out; omega)
        have l1 := hb.lg
        have l2 := hb.ln
        have l3 := hb.lr
        generalize endG k (U.take i) = kc at *
        have bA : f.eA kc = kc + 1 + 1 + 1 + 1 + 1 + 1 + 2 * (f.p.gs.length : Int) := rfl
        have bB : f.eB kc = f.eA kc + 1 + 1 + (f.p.xs.length : Int) := rfl
        exact ⟨mkP_bd _ _ (by omega) (by omega) l1, mkN_bd _ _ (by omega) (by omega) l2, mkP_bd _ _ (by omega) (by omega) l3, by simp only [Mg.mkG, Mg.mkp, mkP_len]; exact l1, by simp only [Mg.mkG, Mg.mkp, mkN_len]; exact l2, by simp only [Mg.mkG, Mg.mkp, mkP_len]; exact l3⟩

set_option maxHeartbeats 6400000 in
theorem heldMgS_any (A : Option Addr) (n c : Nat) (k : Int) (U : List Mg) (w : World) (h : MgAt w A (markG k U)) (hn : U.length = n) (hl : ∀ u ∈ U, Bd u.p) (hm : n ≤ 100) (hk0 : 0 ≤ k) (hk : k ≤ 1000) :
    Calls Try.prog 26 #[.slice A n c, .int .i64 k] w fun e w' => e = .returned (.int .i64 (endG k U)) ∧ w' = w := by
  have HLn : Hid (U.length = n) := hn
  have HL : Hid (∀ u ∈ U, Bd u.p) := hl
  have HBd : Hid (∀ j, j ≤ n → k ≤ endG k (U.take j) ∧ endG k (U.take j) ≤ k + 524290000) := by
    intro j hj
    have h1 := endG_bd (U.take j) k (fun f hf => hl f (List.mem_of_mem_take hf))
    have h2 : (U.take j).length ≤ 100 := by rw [List.length_take]; omega
    omega
  clear hn hl
  go_enter Try.func26, Try.ntmps26
  go_wp2
  go_loopw [1, 5] (fun s i wr => ∃ j : Nat, j ≤ n ∧ i = .int .i64 j ∧ s = .int .i64 (endG k (U.take j)) ∧ wr = w) (fun _ i _ => n - (intOf i).toNat)
  case atStart => exact ⟨0, Nat.zero_le _, rfl, rfl, rfl⟩
  case round =>
    obtain ⟨j, hj, rfl, rfl, rfl⟩ := hrel
    by_cases hlt : j < n
    · obtain ⟨f, hfj⟩ : ∃ f, U[j]? = some f := ⟨_, List.getElem?_eq_getElem (by have := HLn.out; omega)⟩
      have hg := h j _ (markG_get U hfj k)
      have he := HBd.out j hj
      have HE : Hid (endG k (U.take (j + 1)) = f.nx (endG k (U.take j))) := endG_take hfj k
      have hlf := HL.out f (List.mem_of_getElem? hfj)
      generalize endG k (U.take j) = kc at *
      obtain ⟨⟨b, rfl, hcell⟩, hgot, hbd⟩ := hg
      have lG := hlf.lg
      have lN := hlf.ln
      have lR := hlf.lr
      obtain ⟨ga, gc, ex⟩ := hgot.g.slice
      obtain ⟨a, c1, ey⟩ := hgot.n.slice
      obtain ⟨ra, rc, ez⟩ := hgot.r.slice
      obtain ⟨H, p, x, y, z⟩ := f
      simp only [Mg.mkG, Mg.mkp, mkP_len, mkN_len] at ex ey ez lG lN lR
      subst ex
      subst ey
      subst ez
      have pg := hgot.g.psA hbd.g
      have pn := hgot.n.nsA hbd.n
      have pr := hgot.r.psA hbd.r
      simp only [Mg.mkG, Mg.mkp, mkP_len, mkN_len] at pg pn pr
      obtain ⟨kA, hkA⟩ : ∃ kA, kA = Mg.eA kc ⟨H, p, .slice ga p.gs.length gc, .slice a p.xs.length c1, .slice ra p.rs.length rc⟩ := ⟨_, rfl⟩
      obtain ⟨kB, hkB⟩ : ∃ kB, kB = Mg.eB kc ⟨H, p, .slice ga p.gs.length gc, .slice a p.xs.length c1, .slice ra p.rs.length rc⟩ := ⟨_, rfl⟩
      have HkA : Hid (kA = kc + 1 + 1 + 1 + 1 + 1 + 1 + 2 * (p.gs.length : Int)) := hkA
      have HkB : Hid (kB = kA + 1 + 1 + (p.xs.length : Int)) := by unfold Hid; rw [hkB, hkA]; rfl
      have bA0 : 0 ≤ kA ∧ kA ≤ 600000000 := by have := HkA.out; omega
      have bB0 : 0 ≤ kB ∧ kB ≤ 700000000 := by have := HkB.out; omega
      have HNX : Hid (endG k (U.take (j + 1)) = kB + 1 + 1 + 1 + 2 * (p.rs.length : Int)) := by unfold Hid; rw [HE.out, hkB]; rfl
      have hcell2 : ∀ q, q < 14 → wr.cell? ⟨b, j * 14 + q, none⟩ = ([.int .i64 kc, .int .i64 (kc + 1), .int .i64 (kc + 1 + 1), .int .i64 (kc + 1 + 1 + 1), .int .i64 (kc + 1 + 1 + 1 + 1), .int .i64 (kc + 1 + 1 + 1 + 1 + 1), .slice ga p.gs.length gc, .bool (kA % 3 == 0), .int .i64 (kA + 1), .slice a p.xs.length c1, .int .i64 kB, .int .i64 (kB + 1), .int .i64 (kB + 1 + 1), .slice ra p.rs.length rc] : List Value)[q]? := by
        intro q hq
        rw [hcell q hq, hkA, hkB]
        rfl
      rw [← hkA] at pn
      rw [← hkB] at pr
      clear hkA hkB hcell hgot hbd hfj h HE hlf
      generalize p.gs.length = G at *
      generalize p.xs.length = N at *
      generalize p.rs.length = R at *
      have x0 : wr.cell? ⟨b, j * 14, none⟩ = some (.int .i64 kc) := hcell2 0 (by omega)
      have x1 : wr.cell? ⟨b, j * 14 + 1, none⟩ = some (.int .i64 (kc + 1)) := hcell2 1 (by omega)
      have x2 : wr.cell? ⟨b, j * 14 + 2, none⟩ = some (.int .i64 (kc + 1 + 1)) := hcell2 2 (by omega)
      have x3 : wr.cell? ⟨b, j * 14 + 3, none⟩ = some (.int .i64 (kc + 1 + 1 + 1)) := hcell2 3 (by omega)
      have x4 : wr.cell? ⟨b, j * 14 + 4, none⟩ = some (.int .i64 (kc + 1 + 1 + 1 + 1)) := hcell2 4 (by omega)
      have x5 : wr.cell? ⟨b, j * 14 + 5, none⟩ = some (.int .i64 (kc + 1 + 1 + 1 + 1 + 1)) := hcell2 5 (by omega)
      have x6 : wr.cell? ⟨b, j * 14 + 6, none⟩ = some (.slice ga G gc) := hcell2 6 (by omega)
      have x7 : wr.cell? ⟨b, j * 14 + 7, none⟩ = some (.bool (kA % 3 == 0)) := hcell2 7 (by omega)
      have x8 : wr.cell? ⟨b, j * 14 + 8, none⟩ = some (.int .i64 (kA + 1)) := hcell2 8 (by omega)
      have x9 : wr.cell? ⟨b, j * 14 + 9, none⟩ = some (.slice a N c1) := hcell2 9 (by omega)
      have x10 : wr.cell? ⟨b, j * 14 + 10, none⟩ = some (.int .i64 kB) := hcell2 10 (by omega)
      have x11 : wr.cell? ⟨b, j * 14 + 11, none⟩ = some (.int .i64 (kB + 1)) := hcell2 11 (by omega)
      have x12 : wr.cell? ⟨b, j * 14 + 12, none⟩ = some (.int .i64 (kB + 1 + 1)) := hcell2 12 (by omega)
      have x13 : wr.cell? ⟨b, j * 14 + 13, none⟩ = some (.slice ra R rc) := hcell2 13 (by omega)
      have y0 : (kc != kc) = false := by simp
      have y1 : (kc + 1 != kc + 1) = false := by simp
      have y2 : (kc + 1 + 1 != kc + 1 + 1) = false := by simp
      have y3 : (kc + 1 + 1 + 1 != kc + 1 + 1 + 1) = false := by simp
      have y4 : (kc + 1 + 1 + 1 + 1 != kc + 1 + 1 + 1 + 1) = false := by simp
      have y5 : (kc + 1 + 1 + 1 + 1 + 1 != kc + 1 + 1 + 1 + 1 + 1) = false := by simp
      have y7 : (((kA % 3 == 0) : Bool) != (kA % 3 == 0)) = false := by simp
      have y8 : (kA + 1 != kA + 1) = false := by simp
      have y10 : (kB != kB) = false := by simp
      have y11 : (kB + 1 != kB + 1) = false := by simp
      have y12 : (kB + 1 + 1 != kB + 1 + 1) = false := by simp
      clear hcell2
      go_wp2_with fail
      refine (heldPs_any ga G gc (kc + 1 + 1 + 1 + 1 + 1 + 1) _ pg lG (by omega) (by omega)).mono ?_
      rintro e w5 ⟨he5, rfl⟩
      rw [← HkA.out] at he5
      subst he5
      have nA : ¬ kA < 0 := by omega
      go_wp2_with fail
      refine (heldNs_any a N c1 (kA + 1 + 1) _ pn lN (by omega) (by omega)).mono ?_
      rintro e w7 ⟨he7, rfl⟩
      rw [← HkB.out] at he7
      subst he7
      have nB : ¬ kB < 0 := by omega
      go_wp2_with fail
      refine (heldPs_any ra R rc (kB + 1 + 1 + 1) _ pr lR (by omega) (by omega)).mono ?_
      rintro e w9 ⟨he9, rfl⟩
      rw [← HNX.out] at he9
      have nC : ¬ endG k (U.take (j + 1)) < 0 := by have := HBd.out (j + 1) (by omega); omega
      subst he9
      go_wp2
      go_roundw
      case rel => exact ⟨j + 1, by omega, by go_num, rfl, by trivial⟩
      case measure => simp [intOf]; omega
    · go_wp2
      go_ret
      obtain rfl : j = n := by omega
      have e1 : U.take j = U := List.take_of_length_le (by rw [HLn.out]; omega)
      rw [e1]
      exact ⟨rfl, rfl⟩

theorem owG_turn {w w' : World} {y : Option Addr} {lo hi n d : Nat} {U : List Mg} {S : Nat → Prop} (h : (y = none ∧ U = []) ∨ ∃ g, y = some ⟨g, 0, none⟩ ∧ OwG w lo hi g n d U) (t : Turn S w w') (hS : ∀ i, lo ≤ i → i < hi → ¬ S i) : (y = none ∧ U = []) ∨ ∃ g, y = some ⟨g, 0, none⟩ ∧ OwG w' lo hi g n d U := by
  rcases h with h | ⟨g, hg, h⟩
  · exact .inl h
  · refine .inr ⟨g, hg, ⟨row_turn14 h.row t (hS g h.glo.1 h.glo.2), fun i u hu => (h.own i u hu).turnB t (fun k hk => ?_), h.bd, h.inn, h.glo, h.apart⟩⟩
    have := h.inn u (List.mem_of_getElem? hu) k hk
    exact hS _ this.1 this.2.1
theorem owG_out {w : World} {y : Option Addr} {lo hi n d : Nat} {U : List Mg} (h : (y = none ∧ U = []) ∨ ∃ g, y = some ⟨g, 0, none⟩ ∧ OwG w lo hi g n d U) : (∀ x, y = some x → lo ≤ x.block ∧ x.block < hi) ∧ (∀ u ∈ U, ∀ k, u.bl k → lo ≤ k ∧ k < hi) := by
  rcases h with ⟨rfl, rfl⟩ | ⟨g, rfl, h⟩
  · exact ⟨fun x hx => (by cases hx), fun u hu => (by cases hu)⟩
  · refine ⟨fun x hx => ?_, fun u hu k hk => ?_⟩
    · cases hx; exact h.glo
    · have := h.inn u hu k hk
      exact ⟨this.1, this.2.1⟩

theorem markRM_any (Z US WY SB : Int) (y : Option Addr) (d lo hi : Nat) (U : List Mg) (w : World) (h : (y = none ∧ U = []) ∨ ∃ g, y = some ⟨g, 0, none⟩ ∧ OwG w lo hi g U.length d U) (hl : U.length ≤ 100) :
    Calls Try.prog 14 #[.agg #[.int .i64 Z, .int .i64 US, .int .i64 WY, .int .i64 SB, .slice y U.length d], .int .i64 1] w fun e w' => e = .returned (.int .i64 (endG 1 U)) ∧ MgAt w' y (markG 1 U) ∧ Turn (fun x => lo ≤ x ∧ x < hi) w w' := by
  have hw := (New.refl w).alloc (.cells #[.int .i64 Z, .int .i64 US, .int .i64 WY, .int .i64 SB, .slice y U.length d] 27)
  rcases h with ⟨rfl, rfl⟩ | ⟨g, rfl, h⟩
  · go_enter Try.func14, Try.ntmps14
    go_wp2_with fail
    have hnil : Calls Try.prog 25 #[.slice none 0 d, .int .i64 1] (w.alloc (.cells #[.int .i64 Z, .int .i64 US, .int .i64 WY, .int .i64 SB, .slice none 0 d] 27)) fun e w' => e = .returned (.int .i64 1) ∧ w' = w.alloc (.cells #[.int .i64 Z, .int .i64 US, .int .i64 WY, .int .i64 SB, .slice none 0 d] 27) := by
      go_enter Try.func25, Try.ntmps25
      go_wp2
      refine wp_loop_rounds 1 ?_
      rw [rounds_succ]
      go_wp2
      go_ret
      exact ⟨rfl, rfl⟩
    refine hnil.mono ?_
    rintro e w1 ⟨rfl, rfl⟩
    go_wp2
    go_ret
    exact ⟨rfl, by intro i u hu; simp [markG] at hu, hw.turn⟩
  · have h1 : OwG (w.alloc (.cells #[.int .i64 Z, .int .i64 US, .int .i64 WY, .int .i64 SB, .slice (some ⟨g, 0, none⟩) U.length d] 27)) lo hi g U.length d U := ⟨row_turn14 h.row hw (fun f => f), fun i u hu => (h.own i u hu).new hw, h.bd, h.inn, h.glo, h.apart⟩
    go_enter Try.func14, Try.ntmps14
    go_wp2_with fail
    refine (markMgS_row g U.length d lo hi 1 U _ h1 rfl hl (by omega) (by omega)).mono ?_
    rintro e w1 ⟨rfl, h2, ht⟩
    go_wp2
    go_ret
    exact ⟨rfl, h2, Turn.trans hw.turn ht (fun i _ e => e)⟩

theorem heldRM_any (Z US WY SB : Int) (y : Option Addr) (d : Nat) (U : List Mg) (w : World) (h : MgAt w y (markG 1 U)) (hx : ∀ u ∈ U, Bd u.p) (hl : U.length ≤ 100) :
    Calls Try.prog 15 #[.agg #[.int .i64 Z, .int .i64 US, .int .i64 WY, .int .i64 SB, .slice y U.length d], .int .i64 1] w fun e w' => e = .returned (.int .i64 (endG 1 U)) ∧ New w w' := by
  have hw := (New.refl w).alloc (.cells #[.int .i64 Z, .int .i64 US, .int .i64 WY, .int .i64 SB, .slice y U.length d] 27)
  have he := (endG_bd U 1 hx).1
  go_enter Try.func15, Try.ntmps15
  go_wp2_with fail
  refine (heldMgS_any y U.length d 1 U _ (h.new hw) rfl hx hl (by omega) (by omega)).mono ?_
  rintro e w1 ⟨rfl, rfl⟩
  go_wp2
  go_ret
  exact ⟨rfl, hw⟩

end Go.Proofs.Ytljkcijakdhdiaa

namespace Go.Proofs.Ytljkcijakdhdiaa
open Go.RowKit Go.Sort
set_option linter.unusedVariables false
set_option linter.unusedSimpArgs false
set_option maxRecDepth 100000

theorem run_load_mid18 {P : Program} {op : Oper} {a : Act} {w : World} (ty : TypeId) (x : Operand) (ho : op.op = .load ty x) (b o : Nat) (hx : a.eval x = .pointer (some ⟨b, o, none⟩)) (cs : List Value) (d : TypeDesc) (hc : w.rangeAt b o cs)
    (hu : P.underlying ty = some d) (hd : d.isRow = true) (hi : (P.info? ty).map (·.size) = some cs.length) : (execOp a.eval op).run P w = .ok (.value (.agg cs.toArray)) w := by
  unfold execOp
  simp only [ho, hx, Instr.loadAt, Instr.sureAddr, Sem.run_bind, Sem.run_pure, Result.andThen_ok, run_loadVar_mid w b o ty cs d hc hu hd hi]

set_option maxHeartbeats 6400000 in
theorem eqMgS_any (A B : Option Addr) (n c d : Nat) (V U : List Mg) (w : World) (hF : MgAt w A V) (hG : MgAt w B U) (hVU : V.map Mg.r = U.map Mg.r) (hn : V.length = n) (hm : n ≤ 10000) :
    Calls Try.prog 24 #[.slice A n c, .slice B n d] w fun e w' => e = .returned (.bool true) ∧ New w w' := by
  have hnn : ((n : Int) != (n : Int)) = false := by simp
  have HN : Hid (V.length = n) := hn
  have HU : Hid (V.map Mg.r = U.map Mg.r) := hVU
  have HUN : Hid (U.length = n) := by
    have := congrArg List.length hVU
    simp at this
    show U.length = n
    omega
  clear hn hVU
  go_enter Try.func24, Try.ntmps24
  go_wp2
  go_loopw [5] (fun i wr => ∃ k : Nat, k ≤ n ∧ i = .int .i64 k ∧ New w wr) (fun i _ => n - (intOf i).toNat)
  case atStart => exact ⟨0, Nat.zero_le _, rfl, New.refl _⟩
  case round =>
    obtain ⟨k, hk, rfl, hnw⟩ := hrel
    by_cases hlt : k < n
    · obtain ⟨g1, H, p, ga, a, ra, gc, c, rc, rfl, hp1, pg, pn, pr, hb, hx⟩ := (hF.new hnw).at k (by have := HN.out; omega)
      obtain ⟨g2, H', p', gb, b, rb, gd, d, rd, rfl, hp2, qg, qn, qr, -, hy⟩ := (hG.new hnw).at k (by have := HUN.out; omega)
      have hh : (H, p) = (H', p') := by
        have h1 : (V.map Mg.r)[k]? = some (H, p) := by rw [List.getElem?_map, hp1]; rfl
        have h2 : (U.map Mg.r)[k]? = some (H', p') := by rw [List.getElem?_map, hp2]; rfl
        rw [HU.out, h2] at h1
        exact (Option.some.inj h1).symm
      simp only [Prod.mk.injEq] at hh
      obtain ⟨rfl, rfl⟩ := hh
      have l1 := hb.lg
      have l2 := hb.ln
      have l3 := hb.lr
      clear hp1 hp2 hF hG hb
      obtain ⟨code, why, sub, kd, sa, ho, si, wh, su⟩ := H
      obtain ⟨pc, soft, gs, has, o, xs, nx, md, lc, rs⟩ := p
      simp only at pg pn pr qg qn qr l1 l2 l3
      have HE : Hid (∀ X, New wr X → Calls Try.prog 44 #[.agg #[.int .i64 kd, .int .i64 sa, .int .i64 ho, .int .i64 si, .int .i64 wh, .int .i64 su, .slice ga gs.length gc, .bool has, .int .i64 o, .slice a xs.length c, .int .i64 nx, .int .i64 md, .int .i64 lc, .slice ra rs.length rc], .agg #[.int .i64 kd, .int .i64 sa, .int .i64 ho, .int .i64 si, .int .i64 wh, .int .i64 su, .slice gb gs.length gd, .bool has, .int .i64 o, .slice b xs.length d, .int .i64 nx, .int .i64 md, .int .i64 lc, .slice rb rs.length rd]] X fun e w' => e = .returned (.bool true) ∧ New X w') := fun X hX => eqMs_any ga a ra gb b rb gs.length gc xs.length c rs.length rc gd d rd has o nx md lc gs rs xs kd sa ho si wh su X (pg.new hX) (pn.new hX) (pr.new hX) (qg.new hX) (qn.new hX) (qr.new hX) rfl rfl rfl l1 l2 l3
      have rx : ∀ X, New wr X → X.rangeAt g1 (k * 14) [.int .i64 kd, .int .i64 sa, .int .i64 ho, .int .i64 si, .int .i64 wh, .int .i64 su, .slice ga gs.length gc, .bool has, .int .i64 o, .slice a xs.length c, .int .i64 nx, .int .i64 md, .int .i64 lc, .slice ra rs.length rc] := fun X hX j v hj => by
        have hj2 : j < 14 := by have := (List.getElem?_eq_some_iff.1 hj).1; simpa using this
        have h1 := hx j hj2
        rw [hj.symm.trans (show _ = (Mg.cs ⟨⟨code, why, sub, kd, sa, ho, si, wh, su⟩, ⟨pc, soft, gs, has, o, xs, nx, md, lc, rs⟩, .slice ga gs.length gc, .slice a xs.length c, .slice ra rs.length rc⟩)[j]? from rfl) |>.symm] at h1
        exact (hX.below.cell (World.block_lt_of_cell? _ _ h1)).trans h1
      have ry : ∀ X, New wr X → X.rangeAt g2 (k * 14) [.int .i64 kd, .int .i64 sa, .int .i64 ho, .int .i64 si, .int .i64 wh, .int .i64 su, .slice gb gs.length gd, .bool has, .int .i64 o, .slice b xs.length d, .int .i64 nx, .int .i64 md, .int .i64 lc, .slice rb rs.length rd] := fun X hX j v hj => by
        have hj2 : j < 14 := by have := (List.getElem?_eq_some_iff.1 hj).1; simpa using this
        have h1 := hy j hj2
        rw [hj.symm.trans (show _ = (Mg.cs ⟨⟨code, why, sub, kd, sa, ho, si, wh, su⟩, ⟨pc, soft, gs, has, o, xs, nx, md, lc, rs⟩, .slice gb gs.length gd, .slice b xs.length d, .slice rb rs.length rd⟩)[j]? from rfl) |>.symm] at h1
        exact (hX.below.cell (World.block_lt_of_cell? _ _ h1)).trans h1
      clear pg pn pr qg qn qr hx hy
      generalize gs.length = G at *
      generalize xs.length = N at *
      generalize rs.length = R at *
      go_wp2_with fail
      refine hw_start (n := 10) (S := fun X => New wr X) rfl (by kernel_rfl) ((New.refl _).drew) (fun hH => ?_)
      refine' hw_take 0 (some 17) _ rfl rfl (by kernel_rfl) (by kernel_rfl) (by kernel_rfl) (fun _ _ _ h => h) (by rfl) hH ?hy1 ?rest1
      case hy1 =>
        intro X hX
        go_simp
        try rfl
      simp only [Act.put, List.setIfInBounds_toArray, List.set_cons_zero, List.set_cons_succ]
      refine' hw_take 1 (some 18) _ rfl rfl (by kernel_rfl) (by kernel_rfl) (by kernel_rfl) (fun _ _ _ h => h) (by rfl) hH ?hy2 ?rest2
      case hy2 =>
        intro X hX
        go_simp
        try rfl
      simp only [Act.put, List.setIfInBounds_toArray, List.set_cons_zero, List.set_cons_succ]
      refine' hw_take 2 (some 19) _ rfl rfl (by kernel_rfl) (by kernel_rfl) (by kernel_rfl) (fun _ _ _ h => h) (by rfl) hH ?hy3 ?rest3
      case hy3 =>
        intro X hX
        go_simp
        try rfl
      simp only [Act.put, List.setIfInBounds_toArray, List.set_cons_zero, List.set_cons_succ]
      refine hw_take 3 (some 20) (.agg #[.int .i64 kd, .int .i64 sa, .int .i64 ho, .int .i64 si, .int .i64 wh, .int .i64 su, .slice ga G gc, .bool has, .int .i64 o, .slice a N c, .int .i64 nx, .int .i64 md, .int .i64 lc, .slice ra R rc]) rfl rfl (by kernel_rfl) (by kernel_rfl) (by kernel_rfl) (fun _ _ _ h => h) (by rfl) hH (fun X hX => run_load_mid18 51 (.tmp 19) rfl g1 (k * 14) rfl [.int .i64 kd, .int .i64 sa, .int .i64 ho, .int .i64 si, .int .i64 wh, .int .i64 su, .slice ga G gc, .bool has, .int .i64 o, .slice a N c, .int .i64 nx, .int .i64 md, .int .i64 lc, .slice ra R rc] _ (rx X hX) Try.underlying51 rfl (by kernel_rfl)) ?_
      simp only [Act.put, List.setIfInBounds_toArray, List.set_cons_zero, List.set_cons_succ]
      refine' hw_take 4 (some 21) _ rfl rfl (by kernel_rfl) (by kernel_rfl) (by kernel_rfl) (fun _ _ _ h => h) (by rfl) hH ?hy4 ?rest4
      case hy4 =>
        intro X hX
        go_simp
        try rfl
      simp only [Act.put, List.setIfInBounds_toArray, List.set_cons_zero, List.set_cons_succ]
      refine' hw_take 5 (some 22) _ rfl rfl (by kernel_rfl) (by kernel_rfl) (by kernel_rfl) (fun _ _ _ h => h) (by rfl) hH ?hy5 ?rest5
      case hy5 =>
        intro X hX
        go_simp
        try rfl
      simp only [Act.put, List.setIfInBounds_toArray, List.set_cons_zero, List.set_cons_succ]
      refine' hw_take 6 (some 23) _ rfl rfl (by kernel_rfl) (by kernel_rfl) (by kernel_rfl) (fun _ _ _ h => h) (by rfl) hH ?hy6 ?rest6
      case hy6 =>
        intro X hX
        go_simp
        try rfl
      simp only [Act.put, List.setIfInBounds_toArray, List.set_cons_zero, List.set_cons_succ]
      refine hw_take 7 (some 24) (.agg #[.int .i64 kd, .int .i64 sa, .int .i64 ho, .int .i64 si, .int .i64 wh, .int .i64 su, .slice gb G gd, .bool has, .int .i64 o, .slice b N d, .int .i64 nx, .int .i64 md, .int .i64 lc, .slice rb R rd]) rfl rfl (by kernel_rfl) (by kernel_rfl) (by kernel_rfl) (fun _ _ _ h => h) (by rfl) hH (fun X hX => run_load_mid18 51 (.tmp 23) rfl g2 (k * 14) rfl [.int .i64 kd, .int .i64 sa, .int .i64 ho, .int .i64 si, .int .i64 wh, .int .i64 su, .slice gb G gd, .bool has, .int .i64 o, .slice b N d, .int .i64 nx, .int .i64 md, .int .i64 lc, .slice rb R rd] _ (ry X hX) Try.underlying51 rfl (by kernel_rfl)) ?_
      simp only [Act.put, List.setIfInBounds_toArray, List.set_cons_zero, List.set_cons_succ]
      refine hw_call 8 (some 25) rfl rfl (by kernel_rfl) (by rfl) (fun K hK => ?_)
      go_simp
      refine (HE.out _ hH).mono ?_
      rintro e w1 ⟨rfl, hn1⟩
      refine hK.out _ _ (hH.trans hn1) (fun hH => ?_)
      simp only [Act.put, List.setIfInBounds_toArray, List.set_cons_zero, List.set_cons_succ]
      refine' hw_take 9 (some 26) _ rfl rfl (by kernel_rfl) (by kernel_rfl) (by kernel_rfl) (fun _ _ _ h => h) (by rfl) hH ?hy7 ?rest7
      case hy7 =>
        intro X hX
        go_simp
        try rfl
      simp only [Act.put, List.setIfInBounds_toArray, List.set_cons_zero, List.set_cons_succ]
      refine wpAnyH_done (by kernel_rfl) ?_ _
      have hn1 := hH
      go_wp2
      go_roundw
      case rel => exact ⟨k + 1, by omega, by go_num, hnw.trans hn1⟩
      case measure => simp [intOf]; omega
    · go_wp2
      go_ret
      exact ⟨rfl, hnw⟩

theorem eqRM_any (z us wy sb : Int) (A B : Option Addr) (n c d : Nat) (V U : List Mg) (w : World) (hF : MgAt w A V) (hG : MgAt w B U) (hVU : V.map Mg.r = U.map Mg.r) (hn : V.length = n) (hm : n ≤ 10000) :
    Calls Try.prog 11 #[.agg #[.int .i64 z, .int .i64 us, .int .i64 wy, .int .i64 sb, .slice A n c], .agg #[.int .i64 z, .int .i64 us, .int .i64 wy, .int .i64 sb, .slice B n d]] w fun e w' => e = .returned (.bool true) ∧ New w w' := by
  have hw := ((New.refl w).alloc (.cells #[.int .i64 z, .int .i64 us, .int .i64 wy, .int .i64 sb, .slice A n c] 27)).alloc (.cells #[.int .i64 z, .int .i64 us, .int .i64 wy, .int .i64 sb, .slice B n d] 27)
  have hz : (z != z) = false := by simp
  have hu : (us != us) = false := by simp
  have hv : (wy != wy) = false := by simp
  have hs : (sb != sb) = false := by simp
  go_enter Try.func11, Try.ntmps11
  go_wp2_with fail
  refine (eqMgS_any A B n c d V U _ (hF.new hw) (hG.new hw) hVU hn hm).mono ?_
  rintro e w1 ⟨rfl, hn1⟩
  go_wp2
  go_ret
  exact ⟨rfl, hw.trans hn1⟩

end Go.Proofs.Ytljkcijakdhdiaa
