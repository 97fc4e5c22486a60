/- What is proved here: what the reading of a message's body answers, in the model, for every list of at most 1048576 bytes. -/
import Derived.Test.YtljkcijakdhdiaaRA2
import Derived.Test.YtljkcijakdhdiaaMpFn
import Derived.Test.YtljkcijakdhdiaaMsSp
namespace Go.Proofs.Ytljkcijakdhdiaa
open Go.RowKit Go.Sort
set_option linter.unusedVariables false

set_option maxHeartbeats 1600000 in
theorem bad4 (x y s : Int) (w : World) : Calls Try.prog 40 #[.int .i64 x, .int .i64 y, .int .i64 s] w fun e w' => e = .returned (.agg #[.int .i64 x, .int .i64 y, .int .i64 s, .int .i64 0, .int .i64 0, .int .i64 0, .int .i64 0, .int .i64 0, .int .i64 0, .slice none 0 0, .bool false, .int .i64 0, .slice none 0 0, .int .i64 0, .int .i64 0, .int .i64 0, .slice none 0 0]) ∧ New w w' := by
  have hw := (New.refl w).alloc (.cells #[.int .i64 0, .int .i64 0, .int .i64 0, .int .i64 0, .int .i64 0, .int .i64 0, .int .i64 0, .int .i64 0, .int .i64 0, .slice none 0 0, .bool false, .int .i64 0, .slice none 0 0, .int .i64 0, .int .i64 0, .int .i64 0, .slice none 0 0] 53)
  have bR := Blk.mk w w.heap.size 53 #[.int .i64 0, .int .i64 0, .int .i64 0, .int .i64 0, .int .i64 0, .int .i64 0, .int .i64 0, .int .i64 0, .int .i64 0, .slice none 0 0, .bool false, .int .i64 0, .slice none 0 0, .int .i64 0, .int .i64 0, .int .i64 0, .slice none 0 0] rfl
  have ge0 : w.heap.size ≤ w.heap.size := Nat.le_refl _
  go_enter Try.func40, Try.ntmps40
  go_upto_region 1 with fail
  generalize w.alloc (.cells #[.int .i64 0, .int .i64 0, .int .i64 0, .int .i64 0, .int .i64 0, .int .i64 0, .int .i64 0, .int .i64 0, .int .i64 0, .slice none 0 0, .bool false, .int .i64 0, .slice none 0 0, .int .i64 0, .int .i64 0, .int .i64 0, .slice none 0 0] 53) = w0 at *
  have cR := bR.cells
  have fR := bR.frees
  go_wp2_with (refine wpList_store_row rfl 53 (.tmp 6) (.tmp 10) rfl w.heap.size #[.int .i64 x, .int .i64 y, .int .i64 s, .int .i64 0, .int .i64 0, .int .i64 0, .int .i64 0, .int .i64 0, .int .i64 0, .slice none 0 0, .bool false, .int .i64 0, .slice none 0 0, .int .i64 0, .int .i64 0, .int .i64 0, .slice none 0 0] rfl rfl 53 #[.int .i64 0, .int .i64 0, .int .i64 0, .int .i64 0, .int .i64 0, .int .i64 0, .int .i64 0, .int .i64 0, .int .i64 0, .slice none 0 0, .bool false, .int .i64 0, .slice none 0 0, .int .i64 0, .int .i64 0, .int .i64 0, .slice none 0 0] bR (by kernel_rfl) rfl (by kernel_rfl) ?_)
  go_wp2
  refine bodyPost_ret (v := .agg #[.int .i64 x, .int .i64 y, .int .i64 s, .int .i64 0, .int .i64 0, .int .i64 0, .int .i64 0, .int .i64 0, .int .i64 0, .slice none 0 0, .bool false, .int .i64 0, .slice none 0 0, .int .i64 0, .int .i64 0, .int .i64 0, .slice none 0 0]) ?_ rfl ⟨rfl, hw.row (Nat.le_refl _) _⟩
  exact results_row (B := w.heap.size) (cs := #[.int .i64 x, .int .i64 y, .int .i64 s, .int .i64 0, .int .i64 0, .int .i64 0, .int .i64 0, .int .i64 0, .int .i64 0, .slice none 0 0, .bool false, .int .i64 0, .slice none 0 0, .int .i64 0, .int .i64 0, .int .i64 0, .slice none 0 0]) rfl rfl (bR.row _) ⟨_, Try.underlying53⟩ (by kernel_rfl)

set_option maxHeartbeats 1600000 in
theorem open4_size (a : Option Addr) (n c : Nat) (w : World) (h : n ≠ 5) (hm : n ≤ 1048576) : Calls Try.prog 41 #[.slice a n c] w fun e w' => e = .returned (mrV (mhB 5 2 0) (puZ 0) (.slice none 0 0) (.slice none 0 0) (.slice none 0 0)) ∧ New w w' := by
  have e1 : ((n : Int) != 5) = true := by simp; omega
  clear h
  have hw := (New.refl w).alloc (.cells #[.int .i64 0, .int .i64 0, .int .i64 0, .int .i64 0, .int .i64 0, .int .i64 0, .int .i64 0, .int .i64 0, .int .i64 0, .slice none 0 0, .bool false, .int .i64 0, .slice none 0 0, .int .i64 0, .int .i64 0, .int .i64 0, .slice none 0 0] 53)
  have bR := Blk.mk w w.heap.size 53 #[.int .i64 0, .int .i64 0, .int .i64 0, .int .i64 0, .int .i64 0, .int .i64 0, .int .i64 0, .int .i64 0, .int .i64 0, .slice none 0 0, .bool false, .int .i64 0, .slice none 0 0, .int .i64 0, .int .i64 0, .int .i64 0, .slice none 0 0] rfl
  have ge0 : w.heap.size ≤ w.heap.size := Nat.le_refl _
  go_enter Try.func41, Try.ntmps41
  go_upto_region 1 with fail
  generalize w.alloc (.cells #[.int .i64 0, .int .i64 0, .int .i64 0, .int .i64 0, .int .i64 0, .int .i64 0, .int .i64 0, .int .i64 0, .int .i64 0, .slice none 0 0, .bool false, .int .i64 0, .slice none 0 0, .int .i64 0, .int .i64 0, .int .i64 0, .slice none 0 0] 53) = w0 at *
  have cR := bR.cells
  have fR := bR.frees
  clear cR fR
  go_wp2_with fail
  refine (bad4 5 2 0 _).mono ?_
  rintro e w9 ⟨rfl, hn9⟩
  have b9 := bR.new hn9
  have hw9 := hw.trans hn9
  go_wp2_with (refine wpList_store_row rfl 53 (.tmp 2) (.tmp 7) rfl w.heap.size #[.int .i64 5, .int .i64 2, .int .i64 0, .int .i64 0, .int .i64 0, .int .i64 0, .int .i64 0, .int .i64 0, .int .i64 0, .slice none 0 0, .bool false, .int .i64 0, .slice none 0 0, .int .i64 0, .int .i64 0, .int .i64 0, .slice none 0 0] rfl rfl 53 #[.int .i64 0, .int .i64 0, .int .i64 0, .int .i64 0, .int .i64 0, .int .i64 0, .int .i64 0, .int .i64 0, .int .i64 0, .slice none 0 0, .bool false, .int .i64 0, .slice none 0 0, .int .i64 0, .int .i64 0, .int .i64 0, .slice none 0 0] b9 (by kernel_rfl) rfl (by kernel_rfl) ?_)
  go_wp2
  refine bodyPost_ret (v := .agg #[.int .i64 5, .int .i64 2, .int .i64 0, .int .i64 0, .int .i64 0, .int .i64 0, .int .i64 0, .int .i64 0, .int .i64 0, .slice none 0 0, .bool false, .int .i64 0, .slice none 0 0, .int .i64 0, .int .i64 0, .int .i64 0, .slice none 0 0]) ?_ rfl ⟨rfl, hw9.row (Nat.le_refl _) _⟩
  exact results_row (B := w.heap.size) (cs := #[.int .i64 5, .int .i64 2, .int .i64 0, .int .i64 0, .int .i64 0, .int .i64 0, .int .i64 0, .int .i64 0, .int .i64 0, .slice none 0 0, .bool false, .int .i64 0, .slice none 0 0, .int .i64 0, .int .i64 0, .int .i64 0, .slice none 0 0]) rfl rfl (b9.row _) ⟨_, Try.underlying53⟩ (by kernel_rfl)

set_option maxRecDepth 100000 in
set_option maxHeartbeats 3200000 in
theorem open4_as (b off c : Nat) (zs : List Int) (sa ho si : Int) (w : World) (h : BsAt w (some ⟨b, off, none⟩) zs) (hn : zs.length = 5) (hsa : numAt zs 0 2 = sa) (hho : zs[2]? = some ho) (hsi : numAt zs 3 2 = si) (h1 : sa = 0) :
    Calls Try.prog 41 #[.slice (some ⟨b, off, none⟩) 5 c] w fun e w' => e = .returned (.agg #[.int .i64 3, .int .i64 2, .int .i64 2, .int .i64 0, .int .i64 0, .int .i64 0, .int .i64 0, .int .i64 0, .int .i64 0, .slice none 0 0, .bool false, .int .i64 0, .slice none 0 0, .int .i64 0, .int .i64 0, .int .i64 0, .slice none 0 0]) ∧ New w w' := by
  have hw := (New.refl w).alloc (.cells #[.int .i64 0, .int .i64 0, .int .i64 0, .int .i64 0, .int .i64 0, .int .i64 0, .int .i64 0, .int .i64 0, .int .i64 0, .slice none 0 0, .bool false, .int .i64 0, .slice none 0 0, .int .i64 0, .int .i64 0, .int .i64 0, .slice none 0 0] 53)
  have bR := Blk.mk w w.heap.size 53 #[.int .i64 0, .int .i64 0, .int .i64 0, .int .i64 0, .int .i64 0, .int .i64 0, .int .i64 0, .int .i64 0, .int .i64 0, .slice none 0 0, .bool false, .int .i64 0, .slice none 0 0, .int .i64 0, .int .i64 0, .int .i64 0, .slice none 0 0] rfl
  have ge0 : w.heap.size ≤ w.heap.size := Nat.le_refl _
  have e1 : (sa == 0) = true := by simpa using h1
  clear h1
  have HA : Hid (numAt zs 0 2 = sa) := hsa
  have HI : Hid (numAt zs 3 2 = si) := hsi
  obtain ⟨_, _, z2, e2', hz2, hc2, hz20, hz21⟩ := (h.new hw).at 2 (by omega)
  simp only [Option.some.injEq, Addr.mk.injEq, and_true] at e2'
  obtain ⟨rfl, rfl⟩ := e2'
  obtain rfl : ho = z2 := Option.some.inj (hho.symm.trans hz2)
  have hwz0 : IntKind.i64.wrap ho = ho := by simp [IntKind.wrap, IntKind.signed, IntKind.bits]; omega
  have hB := h.new hw
  clear hsa hsi hho hz2 h
  go_enter Try.func41, Try.ntmps41
  go_upto_region 1 with fail
  generalize w.alloc (.cells #[.int .i64 0, .int .i64 0, .int .i64 0, .int .i64 0, .int .i64 0, .int .i64 0, .int .i64 0, .int .i64 0, .int .i64 0, .slice none 0 0, .bool false, .int .i64 0, .slice none 0 0, .int .i64 0, .int .i64 0, .int .i64 0, .slice none 0 0] 53) = w0 at *
  have cR := bR.cells
  have fR := bR.frees
  clear cR fR
  have hcell : ∀ X, New w0 X → X.cell? ⟨b, off + 2, none⟩ = some (.int .u8 ho) := fun X hX => (hX.below.cell (World.block_lt_of_cell? _ _ hc2)).trans hc2
  go_upto_region 3 with fail
  refine hw_start (n := 11) (S := fun X => New w0 X) rfl (by kernel_rfl) ((New.refl _).drew) (fun hH => ?_)
  refine' hw_take 0 (some 8) _ rfl rfl (by kernel_rfl) (by kernel_rfl) (by kernel_rfl) (fun _ _ _ h => h) (by rfl) hH ?hy1 ?rest1
  case hy1 =>
    intro X hX
    have hcX := hcell X hX
    go_simp
    try rfl
  simp only [Act.put, List.setIfInBounds_toArray, List.set_cons_zero, List.set_cons_succ]
  refine' hw_take 2 (some 10) _ rfl rfl (by kernel_rfl) (by kernel_rfl) (by kernel_rfl) (fun _ _ _ h => h) (by rfl) hH ?hy2 ?rest2
  case hy2 =>
    intro X hX
    have hcX := hcell X hX
    go_simp
    try rfl
  simp only [Act.put, List.setIfInBounds_toArray, List.set_cons_zero, List.set_cons_succ]
  refine' hw_take 3 (some 11) _ rfl rfl (by kernel_rfl) (by kernel_rfl) (by kernel_rfl) (fun _ _ _ h => h) (by rfl) hH ?hy3 ?rest3
  case hy3 =>
    intro X hX
    have hcX := hcell X hX
    go_simp
    try rfl
  simp only [Act.put, List.setIfInBounds_toArray, List.set_cons_zero, List.set_cons_succ]
  refine' hw_take 4 (some 12) _ rfl rfl (by kernel_rfl) (by kernel_rfl) (by kernel_rfl) (fun _ _ _ h => h) (by rfl) hH ?hy4 ?rest4
  case hy4 =>
    intro X hX
    have hcX := hcell X hX
    go_simp
    try rfl
  simp only [Act.put, List.setIfInBounds_toArray, List.set_cons_zero, List.set_cons_succ]
  refine' hw_take 5 (some 13) _ rfl rfl (by kernel_rfl) (by kernel_rfl) (by kernel_rfl) (fun _ _ _ h => h) (by rfl) hH ?hy5 ?rest5
  case hy5 =>
    intro X hX
    have hcX := hcell X hX
    go_simp
    try rfl
  simp only [Act.put, List.setIfInBounds_toArray, List.set_cons_zero, List.set_cons_succ]
  refine' hw_take 6 (some 14) _ rfl rfl (by kernel_rfl) (by kernel_rfl) (by kernel_rfl) (fun _ _ _ h => h) (by rfl) hH ?hy6 ?rest6
  case hy6 =>
    intro X hX
    have hcX := hcell X hX
    go_simp
    try rfl
  simp only [Act.put, List.setIfInBounds_toArray, List.set_cons_zero, List.set_cons_succ]
  refine wpAnyH_ready (rs := [1, 9]) (by kernel_rfl) (by simp) ?_
  refine hw_step 1 (some 9) rfl rfl (by rfl) (fun K hK => ?_) (hw_step 9 (some 3) rfl rfl (by rfl) (fun K hK => ?_) AllReadyH.nil)
  · go_simp
    go_at_call 38
    refine (take_any (some ⟨b, off, none⟩) 5 c 0 2 zs _ (hB.new hH) hn (by omega) (by omega) (by omega)).mono ?_
    rintro e _ ⟨rfl, rfl⟩
    rw [HA.out]
    refine hK.out _ _ hH (fun hH => ?_)
    simp only [Act.put, List.setIfInBounds_toArray, List.set_cons_zero, List.set_cons_succ]
    refine wpAnyH_ready (rs := [7, 9]) (by kernel_rfl) (by simp) ?_
    refine hw_step 7 (some 15) rfl rfl (by rfl) (fun K hK => ?_) (hw_step 9 (some 3) rfl rfl (by rfl) (fun K hK => ?_) AllReadyH.nil)
    · go_simp
      go_at_call 38
      refine (take_any (some ⟨b, off, none⟩) 5 c 3 2 zs _ (hB.new hH) hn (by omega) (by omega) (by omega)).mono ?_
      rintro e _ ⟨rfl, rfl⟩
      rw [HI.out]
      refine hK.out _ _ hH (fun hH => ?_)
      simp only [Act.put, List.setIfInBounds_toArray, List.set_cons_zero, List.set_cons_succ]
      refine' hw_take 8 (some 16) _ rfl rfl (by kernel_rfl) (by kernel_rfl) (by kernel_rfl) (fun _ _ _ h => h) (by rfl) hH ?hy7 ?rest7
      case hy7 =>
        intro X hX
        have hcX := hcell X hX
        go_simp
        try rfl
      simp only [Act.put, List.setIfInBounds_toArray, List.set_cons_zero, List.set_cons_succ]
      refine hw_call 9 (some 3) rfl rfl (by kernel_rfl) (by rfl) (fun K hK => ?_)
      go_simp
      refine hK.out _ _ (hH.alloc _) (fun hH => ?_)
      simp only [Act.put, List.setIfInBounds_toArray, List.set_cons_zero, List.set_cons_succ]
      refine wpAnyH_more (S' := fun X => New w0 X ∧ ∃ o : Array Value, o.size = 14 ∧ Blk X w0.heap.size 51 o) (fun _ h => h.1) _ _ _ _ ?_
      replace hH : New w0 (w0.drew.alloc (.cells #[.int .i64 0, .int .i64 0, .int .i64 0, .int .i64 0, .int .i64 0, .int .i64 0, .slice none 0 0, .bool false, .int .i64 0, .slice none 0 0, .int .i64 0, .int .i64 0, .int .i64 0, .slice none 0 0] 51)) ∧ ∃ o : Array Value, o.size = 14 ∧ Blk (w0.drew.alloc (.cells #[.int .i64 0, .int .i64 0, .int .i64 0, .int .i64 0, .int .i64 0, .int .i64 0, .slice none 0 0, .bool false, .int .i64 0, .slice none 0 0, .int .i64 0, .int .i64 0, .int .i64 0, .slice none 0 0] 51)) w0.heap.size 51 o := ⟨hH, _, rfl, Blk.mk w0.drew w0.heap.size 51 #[.int .i64 0, .int .i64 0, .int .i64 0, .int .i64 0, .int .i64 0, .int .i64 0, .slice none 0 0, .bool false, .int .i64 0, .slice none 0 0, .int .i64 0, .int .i64 0, .int .i64 0, .slice none 0 0] rfl⟩
      refine hw_call 10 none rfl rfl (by kernel_rfl) (by rfl) (fun K hK => ?_)
      obtain ⟨hN9, ob, zb, qb⟩ := hH
      refine hw_store 51 (.tmp 3) (.tmp 16) rfl rfl w0.heap.size #[.int .i64 1, .int .i64 sa, .int .i64 ho, .int .i64 si, .int .i64 0, .int .i64 0, .slice none 0 0, .bool false, .int .i64 0, .slice none 0 0, .int .i64 0, .int .i64 0, .int .i64 0, .slice none 0 0] ob rfl rfl qb (by kernel_rfl) zb (by kernel_rfl) ?_
      have bM := qb.rowW #[.int .i64 1, .int .i64 sa, .int .i64 ho, .int .i64 si, .int .i64 0, .int .i64 0, .slice none 0 0, .bool false, .int .i64 0, .slice none 0 0, .int .i64 0, .int .i64 0, .int .i64 0, .slice none 0 0]
      have hNz : New w0 (World.setRow _ w0.heap.size #[.int .i64 1, .int .i64 sa, .int .i64 ho, .int .i64 si, .int .i64 0, .int .i64 0, .slice none 0 0, .bool false, .int .i64 0, .slice none 0 0, .int .i64 0, .int .i64 0, .int .i64 0, .slice none 0 0]) := hN9.before (Turn.rowW (S := fun k => k = w0.heap.size) (Turn.refl _ _) (show w0.heap.size = w0.heap.size from rfl) #[.int .i64 1, .int .i64 sa, .int .i64 ho, .int .i64 si, .int .i64 0, .int .i64 0, .slice none 0 0, .bool false, .int .i64 0, .slice none 0 0, .int .i64 0, .int .i64 0, .int .i64 0, .slice none 0 0]) (fun i hi e => by omega)
      refine hK.out _ _ ⟨hNz, _, rfl, bM⟩ (fun hH => ?_)
      simp only [Act.put]
      refine wpAnyH_done (by kernel_rfl) ?_ _
      clear hH qb
      have bRz := bR.new hNz
      have hwz := hw.trans hNz
      try rw [show ((w0.alloc (.cells #[.int .i64 0, .int .i64 0, .int .i64 0, .int .i64 0, .int .i64 0, .int .i64 0, .slice none 0 0, .bool false, .int .i64 0, .slice none 0 0, .int .i64 0, .int .i64 0, .int .i64 0, .slice none 0 0] 51)).drew.setRow w0.heap.size #[.int .i64 1, .int .i64 sa, .int .i64 ho, .int .i64 si, .int .i64 0, .int .i64 0, .slice none 0 0, .bool false, .int .i64 0, .slice none 0 0, .int .i64 0, .int .i64 0, .int .i64 0, .slice none 0 0]) = ((w0.drew.alloc (.cells #[.int .i64 0, .int .i64 0, .int .i64 0, .int .i64 0, .int .i64 0, .int .i64 0, .slice none 0 0, .bool false, .int .i64 0, .slice none 0 0, .int .i64 0, .int .i64 0, .int .i64 0, .slice none 0 0] 51)).setRow w0.heap.size #[.int .i64 1, .int .i64 sa, .int .i64 ho, .int .i64 si, .int .i64 0, .int .i64 0, .slice none 0 0, .bool false, .int .i64 0, .slice none 0 0, .int .i64 0, .int .i64 0, .int .i64 0, .slice none 0 0]) from rfl]
      generalize ((w0.drew.alloc (.cells #[.int .i64 0, .int .i64 0, .int .i64 0, .int .i64 0, .int .i64 0, .int .i64 0, .slice none 0 0, .bool false, .int .i64 0, .slice none 0 0, .int .i64 0, .int .i64 0, .int .i64 0, .slice none 0 0] 51)).setRow w0.heap.size #[.int .i64 1, .int .i64 sa, .int .i64 ho, .int .i64 si, .int .i64 0, .int .i64 0, .slice none 0 0, .bool false, .int .i64 0, .slice none 0 0, .int .i64 0, .int .i64 0, .int .i64 0, .slice none 0 0]) = wz at *
      have cM := bM.cells
      go_wp2_with fail
      refine (bad4 3 2 2 _).mono ?_
      rintro e w9 ⟨rfl, hn9⟩
      have b9 := bRz.new hn9
      have hw9 := hwz.trans hn9
      go_wp2_with (refine wpList_store_row rfl 53 (.tmp 2) (.tmp 20) rfl w.heap.size #[.int .i64 3, .int .i64 2, .int .i64 2, .int .i64 0, .int .i64 0, .int .i64 0, .int .i64 0, .int .i64 0, .int .i64 0, .slice none 0 0, .bool false, .int .i64 0, .slice none 0 0, .int .i64 0, .int .i64 0, .int .i64 0, .slice none 0 0] rfl rfl 53 #[.int .i64 0, .int .i64 0, .int .i64 0, .int .i64 0, .int .i64 0, .int .i64 0, .int .i64 0, .int .i64 0, .int .i64 0, .slice none 0 0, .bool false, .int .i64 0, .slice none 0 0, .int .i64 0, .int .i64 0, .int .i64 0, .slice none 0 0] b9 (by kernel_rfl) rfl (by kernel_rfl) ?_)
      go_wp2
      refine bodyPost_ret (v := .agg #[.int .i64 3, .int .i64 2, .int .i64 2, .int .i64 0, .int .i64 0, .int .i64 0, .int .i64 0, .int .i64 0, .int .i64 0, .slice none 0 0, .bool false, .int .i64 0, .slice none 0 0, .int .i64 0, .int .i64 0, .int .i64 0, .slice none 0 0]) ?_ rfl ⟨rfl, hw9.row (Nat.le_refl _) _⟩
      exact results_row (B := w.heap.size) (cs := #[.int .i64 3, .int .i64 2, .int .i64 2, .int .i64 0, .int .i64 0, .int .i64 0, .int .i64 0, .int .i64 0, .int .i64 0, .slice none 0 0, .bool false, .int .i64 0, .slice none 0 0, .int .i64 0, .int .i64 0, .int .i64 0, .slice none 0 0]) rfl rfl (b9.row _) ⟨_, Try.underlying53⟩ (by kernel_rfl)
    · go_simp
      refine hK.out _ _ (hH.alloc _) (fun hH => ?_)
      simp only [Act.put, List.setIfInBounds_toArray, List.set_cons_zero, List.set_cons_succ]
      refine wpAnyH_more (S' := fun X => New w0 X ∧ ∃ o : Array Value, o.size = 14 ∧ Blk X w0.heap.size 51 o) (fun _ h => h.1) _ _ _ _ ?_
      replace hH : New w0 (w0.drew.alloc (.cells #[.int .i64 0, .int .i64 0, .int .i64 0, .int .i64 0, .int .i64 0, .int .i64 0, .slice none 0 0, .bool false, .int .i64 0, .slice none 0 0, .int .i64 0, .int .i64 0, .int .i64 0, .slice none 0 0] 51)) ∧ ∃ o : Array Value, o.size = 14 ∧ Blk (w0.drew.alloc (.cells #[.int .i64 0, .int .i64 0, .int .i64 0, .int .i64 0, .int .i64 0, .int .i64 0, .slice none 0 0, .bool false, .int .i64 0, .slice none 0 0, .int .i64 0, .int .i64 0, .int .i64 0, .slice none 0 0] 51)) w0.heap.size 51 o := ⟨hH, _, rfl, Blk.mk w0.drew w0.heap.size 51 #[.int .i64 0, .int .i64 0, .int .i64 0, .int .i64 0, .int .i64 0, .int .i64 0, .slice none 0 0, .bool false, .int .i64 0, .slice none 0 0, .int .i64 0, .int .i64 0, .int .i64 0, .slice none 0 0] rfl⟩
      refine hw_call 7 (some 15) rfl rfl (by kernel_rfl) (by rfl) (fun K hK => ?_)
      go_simp
      go_at_call 38
      refine (take_any (some ⟨b, off, none⟩) 5 c 3 2 zs _ (hB.new hH.1) hn (by omega) (by omega) (by omega)).mono ?_
      rintro e _ ⟨rfl, rfl⟩
      rw [HI.out]
      refine hK.out _ _ hH (fun hH => ?_)
      simp only [Act.put, List.setIfInBounds_toArray, List.set_cons_zero, List.set_cons_succ]
      refine' hw_take 8 (some 16) _ rfl rfl (by kernel_rfl) (by kernel_rfl) (by kernel_rfl) (fun _ _ _ h => h) (by rfl) hH ?hy8 ?rest8
      case hy8 =>
        intro X hX
        have hcX := hcell X hX.1
        go_simp
        try rfl
      simp only [Act.put, List.setIfInBounds_toArray, List.set_cons_zero, List.set_cons_succ]
      refine hw_call 10 none rfl rfl (by kernel_rfl) (by rfl) (fun K hK => ?_)
      obtain ⟨hN9, ob, zb, qb⟩ := hH
      refine hw_store 51 (.tmp 3) (.tmp 16) rfl rfl w0.heap.size #[.int .i64 1, .int .i64 sa, .int .i64 ho, .int .i64 si, .int .i64 0, .int .i64 0, .slice none 0 0, .bool false, .int .i64 0, .slice none 0 0, .int .i64 0, .int .i64 0, .int .i64 0, .slice none 0 0] ob rfl rfl qb (by kernel_rfl) zb (by kernel_rfl) ?_
      have bM := qb.rowW #[.int .i64 1, .int .i64 sa, .int .i64 ho, .int .i64 si, .int .i64 0, .int .i64 0, .slice none 0 0, .bool false, .int .i64 0, .slice none 0 0, .int .i64 0, .int .i64 0, .int .i64 0, .slice none 0 0]
      have hNz : New w0 (World.setRow _ w0.heap.size #[.int .i64 1, .int .i64 sa, .int .i64 ho, .int .i64 si, .int .i64 0, .int .i64 0, .slice none 0 0, .bool false, .int .i64 0, .slice none 0 0, .int .i64 0, .int .i64 0, .int .i64 0, .slice none 0 0]) := hN9.before (Turn.rowW (S := fun k => k = w0.heap.size) (Turn.refl _ _) (show w0.heap.size = w0.heap.size from rfl) #[.int .i64 1, .int .i64 sa, .int .i64 ho, .int .i64 si, .int .i64 0, .int .i64 0, .slice none 0 0, .bool false, .int .i64 0, .slice none 0 0, .int .i64 0, .int .i64 0, .int .i64 0, .slice none 0 0]) (fun i hi e => by omega)
      refine hK.out _ _ ⟨hNz, _, rfl, bM⟩ (fun hH => ?_)
      simp only [Act.put]
      refine wpAnyH_done (by kernel_rfl) ?_ _
      clear hH qb
      have bRz := bR.new hNz
      have hwz := hw.trans hNz
      try rw [show ((w0.alloc (.cells #[.int .i64 0, .int .i64 0, .int .i64 0, .int .i64 0, .int .i64 0, .int .i64 0, .slice none 0 0, .bool false, .int .i64 0, .slice none 0 0, .int .i64 0, .int .i64 0, .int .i64 0, .slice none 0 0] 51)).drew.setRow w0.heap.size #[.int .i64 1, .int .i64 sa, .int .i64 ho, .int .i64 si, .int .i64 0, .int .i64 0, .slice none 0 0, .bool false, .int .i64 0, .slice none 0 0, .int .i64 0, .int .i64 0, .int .i64 0, .slice none 0 0]) = ((w0.drew.alloc (.cells #[.int .i64 0, .int .i64 0, .int .i64 0, .int .i64 0, .int .i64 0, .int .i64 0, .slice none 0 0, .bool false, .int .i64 0, .slice none 0 0, .int .i64 0, .int .i64 0, .int .i64 0, .slice none 0 0] 51)).setRow w0.heap.size #[.int .i64 1, .int .i64 sa, .int .i64 ho, .int .i64 si, .int .i64 0, .int .i64 0, .slice none 0 0, .bool false, .int .i64 0, .slice none 0 0, .int .i64 0, .int .i64 0, .int .i64 0, .slice none 0 0]) from rfl]
      generalize ((w0.drew.alloc (.cells #[.int .i64 0, .int .i64 0, .int .i64 0, .int .i64 0, .int .i64 0, .int .i64 0, .slice none 0 0, .bool false, .int .i64 0, .slice none 0 0, .int .i64 0, .int .i64 0, .int .i64 0, .slice none 0 0] 51)).setRow w0.heap.size #[.int .i64 1, .int .i64 sa, .int .i64 ho, .int .i64 si, .int .i64 0, .int .i64 0, .slice none 0 0, .bool false, .int .i64 0, .slice none 0 0, .int .i64 0, .int .i64 0, .int .i64 0, .slice none 0 0]) = wz at *
      have cM := bM.cells
      go_wp2_with fail
      refine (bad4 3 2 2 _).mono ?_
      rintro e w9 ⟨rfl, hn9⟩
      have b9 := bRz.new hn9
      have hw9 := hwz.trans hn9
      go_wp2_with (refine wpList_store_row rfl 53 (.tmp 2) (.tmp 20) rfl w.heap.size #[.int .i64 3, .int .i64 2, .int .i64 2, .int .i64 0, .int .i64 0, .int .i64 0, .int .i64 0, .int .i64 0, .int .i64 0, .slice none 0 0, .bool false, .int .i64 0, .slice none 0 0, .int .i64 0, .int .i64 0, .int .i64 0, .slice none 0 0] rfl rfl 53 #[.int .i64 0, .int .i64 0, .int .i64 0, .int .i64 0, .int .i64 0, .int .i64 0, .int .i64 0, .int .i64 0, .int .i64 0, .slice none 0 0, .bool false, .int .i64 0, .slice none 0 0, .int .i64 0, .int .i64 0, .int .i64 0, .slice none 0 0] b9 (by kernel_rfl) rfl (by kernel_rfl) ?_)
      go_wp2
      refine bodyPost_ret (v := .agg #[.int .i64 3, .int .i64 2, .int .i64 2, .int .i64 0, .int .i64 0, .int .i64 0, .int .i64 0, .int .i64 0, .int .i64 0, .slice none 0 0, .bool false, .int .i64 0, .slice none 0 0, .int .i64 0, .int .i64 0, .int .i64 0, .slice none 0 0]) ?_ rfl ⟨rfl, hw9.row (Nat.le_refl _) _⟩
      exact results_row (B := w.heap.size) (cs := #[.int .i64 3, .int .i64 2, .int .i64 2, .int .i64 0, .int .i64 0, .int .i64 0, .int .i64 0, .int .i64 0, .int .i64 0, .slice none 0 0, .bool false, .int .i64 0, .slice none 0 0, .int .i64 0, .int .i64 0, .int .i64 0, .slice none 0 0]) rfl rfl (b9.row _) ⟨_, Try.underlying53⟩ (by kernel_rfl)
  · go_simp
    refine hK.out _ _ (hH.alloc _) (fun hH => ?_)
    simp only [Act.put, List.setIfInBounds_toArray, List.set_cons_zero, List.set_cons_succ]
    refine wpAnyH_more (S' := fun X => New w0 X ∧ ∃ o : Array Value, o.size = 14 ∧ Blk X w0.heap.size 51 o) (fun _ h => h.1) _ _ _ _ ?_
    replace hH : New w0 (w0.drew.alloc (.cells #[.int .i64 0, .int .i64 0, .int .i64 0, .int .i64 0, .int .i64 0, .int .i64 0, .slice none 0 0, .bool false, .int .i64 0, .slice none 0 0, .int .i64 0, .int .i64 0, .int .i64 0, .slice none 0 0] 51)) ∧ ∃ o : Array Value, o.size = 14 ∧ Blk (w0.drew.alloc (.cells #[.int .i64 0, .int .i64 0, .int .i64 0, .int .i64 0, .int .i64 0, .int .i64 0, .slice none 0 0, .bool false, .int .i64 0, .slice none 0 0, .int .i64 0, .int .i64 0, .int .i64 0, .slice none 0 0] 51)) w0.heap.size 51 o := ⟨hH, _, rfl, Blk.mk w0.drew w0.heap.size 51 #[.int .i64 0, .int .i64 0, .int .i64 0, .int .i64 0, .int .i64 0, .int .i64 0, .slice none 0 0, .bool false, .int .i64 0, .slice none 0 0, .int .i64 0, .int .i64 0, .int .i64 0, .slice none 0 0] rfl⟩
    refine hw_call 1 (some 9) rfl rfl (by kernel_rfl) (by rfl) (fun K hK => ?_)
    go_simp
    go_at_call 38
    refine (take_any (some ⟨b, off, none⟩) 5 c 0 2 zs _ (hB.new hH.1) hn (by omega) (by omega) (by omega)).mono ?_
    rintro e _ ⟨rfl, rfl⟩
    rw [HA.out]
    refine hK.out _ _ hH (fun hH => ?_)
    simp only [Act.put, List.setIfInBounds_toArray, List.set_cons_zero, List.set_cons_succ]
    refine hw_call 7 (some 15) rfl rfl (by kernel_rfl) (by rfl) (fun K hK => ?_)
    go_simp
    go_at_call 38
    refine (take_any (some ⟨b, off, none⟩) 5 c 3 2 zs _ (hB.new hH.1) hn (by omega) (by omega) (by omega)).mono ?_
    rintro e _ ⟨rfl, rfl⟩
    rw [HI.out]
    refine hK.out _ _ hH (fun hH => ?_)
    simp only [Act.put, List.setIfInBounds_toArray, List.set_cons_zero, List.set_cons_succ]
    refine' hw_take 8 (some 16) _ rfl rfl (by kernel_rfl) (by kernel_rfl) (by kernel_rfl) (fun _ _ _ h => h) (by rfl) hH ?hy9 ?rest9
    case hy9 =>
      intro X hX
      have hcX := hcell X hX.1
      go_simp
      try rfl
    simp only [Act.put, List.setIfInBounds_toArray, List.set_cons_zero, List.set_cons_succ]
    refine hw_call 10 none rfl rfl (by kernel_rfl) (by rfl) (fun K hK => ?_)
    obtain ⟨hN9, ob, zb, qb⟩ := hH
    refine hw_store 51 (.tmp 3) (.tmp 16) rfl rfl w0.heap.size #[.int .i64 1, .int .i64 sa, .int .i64 ho, .int .i64 si, .int .i64 0, .int .i64 0, .slice none 0 0, .bool false, .int .i64 0, .slice none 0 0, .int .i64 0, .int .i64 0, .int .i64 0, .slice none 0 0] ob rfl rfl qb (by kernel_rfl) zb (by kernel_rfl) ?_
    have bM := qb.rowW #[.int .i64 1, .int .i64 sa, .int .i64 ho, .int .i64 si, .int .i64 0, .int .i64 0, .slice none 0 0, .bool false, .int .i64 0, .slice none 0 0, .int .i64 0, .int .i64 0, .int .i64 0, .slice none 0 0]
    have hNz : New w0 (World.setRow _ w0.heap.size #[.int .i64 1, .int .i64 sa, .int .i64 ho, .int .i64 si, .int .i64 0, .int .i64 0, .slice none 0 0, .bool false, .int .i64 0, .slice none 0 0, .int .i64 0, .int .i64 0, .int .i64 0, .slice none 0 0]) := hN9.before (Turn.rowW (S := fun k => k = w0.heap.size) (Turn.refl _ _) (show w0.heap.size = w0.heap.size from rfl) #[.int .i64 1, .int .i64 sa, .int .i64 ho, .int .i64 si, .int .i64 0, .int .i64 0, .slice none 0 0, .bool false, .int .i64 0, .slice none 0 0, .int .i64 0, .int .i64 0, .int .i64 0, .slice none 0 0]) (fun i hi e => by omega)
    refine hK.out _ _ ⟨hNz, _, rfl, bM⟩ (fun hH => ?_)
    simp only [Act.put]
    refine wpAnyH_done (by kernel_rfl) ?_ _
    clear hH qb
    have bRz := bR.new hNz
    have hwz := hw.trans hNz
    try rw [show ((w0.alloc (.cells #[.int .i64 0, .int .i64 0, .int .i64 0, .int .i64 0, .int .i64 0, .int .i64 0, .slice none 0 0, .bool false, .int .i64 0, .slice none 0 0, .int .i64 0, .int .i64 0, .int .i64 0, .slice none 0 0] 51)).drew.setRow w0.heap.size #[.int .i64 1, .int .i64 sa, .int .i64 ho, .int .i64 si, .int .i64 0, .int .i64 0, .slice none 0 0, .bool false, .int .i64 0, .slice none 0 0, .int .i64 0, .int .i64 0, .int .i64 0, .slice none 0 0]) = ((w0.drew.alloc (.cells #[.int .i64 0, .int .i64 0, .int .i64 0, .int .i64 0, .int .i64 0, .int .i64 0, .slice none 0 0, .bool false, .int .i64 0, .slice none 0 0, .int .i64 0, .int .i64 0, .int .i64 0, .slice none 0 0] 51)).setRow w0.heap.size #[.int .i64 1, .int .i64 sa, .int .i64 ho, .int .i64 si, .int .i64 0, .int .i64 0, .slice none 0 0, .bool false, .int .i64 0, .slice none 0 0, .int .i64 0, .int .i64 0, .int .i64 0, .slice none 0 0]) from rfl]
    generalize ((w0.drew.alloc (.cells #[.int .i64 0, .int .i64 0, .int .i64 0, .int .i64 0, .int .i64 0, .int .i64 0, .slice none 0 0, .bool false, .int .i64 0, .slice none 0 0, .int .i64 0, .int .i64 0, .int .i64 0, .slice none 0 0] 51)).setRow w0.heap.size #[.int .i64 1, .int .i64 sa, .int .i64 ho, .int .i64 si, .int .i64 0, .int .i64 0, .slice none 0 0, .bool false, .int .i64 0, .slice none 0 0, .int .i64 0, .int .i64 0, .int .i64 0, .slice none 0 0]) = wz at *
    have cM := bM.cells
    go_wp2_with fail
    refine (bad4 3 2 2 _).mono ?_
    rintro e w9 ⟨rfl, hn9⟩
    have b9 := bRz.new hn9
    have hw9 := hwz.trans hn9
    go_wp2_with (refine wpList_store_row rfl 53 (.tmp 2) (.tmp 20) rfl w.heap.size #[.int .i64 3, .int .i64 2, .int .i64 2, .int .i64 0, .int .i64 0, .int .i64 0, .int .i64 0, .int .i64 0, .int .i64 0, .slice none 0 0, .bool false, .int .i64 0, .slice none 0 0, .int .i64 0, .int .i64 0, .int .i64 0, .slice none 0 0] rfl rfl 53 #[.int .i64 0, .int .i64 0, .int .i64 0, .int .i64 0, .int .i64 0, .int .i64 0, .int .i64 0, .int .i64 0, .int .i64 0, .slice none 0 0, .bool false, .int .i64 0, .slice none 0 0, .int .i64 0, .int .i64 0, .int .i64 0, .slice none 0 0] b9 (by kernel_rfl) rfl (by kernel_rfl) ?_)
    go_wp2
    refine bodyPost_ret (v := .agg #[.int .i64 3, .int .i64 2, .int .i64 2, .int .i64 0, .int .i64 0, .int .i64 0, .int .i64 0, .int .i64 0, .int .i64 0, .slice none 0 0, .bool false, .int .i64 0, .slice none 0 0, .int .i64 0, .int .i64 0, .int .i64 0, .slice none 0 0]) ?_ rfl ⟨rfl, hw9.row (Nat.le_refl _) _⟩
    exact results_row (B := w.heap.size) (cs := #[.int .i64 3, .int .i64 2, .int .i64 2, .int .i64 0, .int .i64 0, .int .i64 0, .int .i64 0, .int .i64 0, .int .i64 0, .slice none 0 0, .bool false, .int .i64 0, .slice none 0 0, .int .i64 0, .int .i64 0, .int .i64 0, .slice none 0 0]) rfl rfl (b9.row _) ⟨_, Try.underlying53⟩ (by kernel_rfl)


set_option maxRecDepth 100000 in
set_option maxHeartbeats 3200000 in
theorem open4_id (b off c : Nat) (zs : List Int) (sa ho si : Int) (w : World) (h : BsAt w (some ⟨b, off, none⟩) zs) (hn : zs.length = 5) (hsa : numAt zs 0 2 = sa) (hho : zs[2]? = some ho) (hsi : numAt zs 3 2 = si) (h1 : ¬ sa = 0) (h2 : si = 0) :
    Calls Try.prog 41 #[.slice (some ⟨b, off, none⟩) 5 c] w fun e w' => e = .returned (.agg #[.int .i64 3, .int .i64 2, .int .i64 3, .int .i64 0, .int .i64 0, .int .i64 0, .int .i64 0, .int .i64 0, .int .i64 0, .slice none 0 0, .bool false, .int .i64 0, .slice none 0 0, .int .i64 0, .int .i64 0, .int .i64 0, .slice none 0 0]) ∧ New w w' := by
  have hw := (New.refl w).alloc (.cells #[.int .i64 0, .int .i64 0, .int .i64 0, .int .i64 0, .int .i64 0, .int .i64 0, .int .i64 0, .int .i64 0, .int .i64 0, .slice none 0 0, .bool false, .int .i64 0, .slice none 0 0, .int .i64 0, .int .i64 0, .int .i64 0, .slice none 0 0] 53)
  have bR := Blk.mk w w.heap.size 53 #[.int .i64 0, .int .i64 0, .int .i64 0, .int .i64 0, .int .i64 0, .int .i64 0, .int .i64 0, .int .i64 0, .int .i64 0, .slice none 0 0, .bool false, .int .i64 0, .slice none 0 0, .int .i64 0, .int .i64 0, .int .i64 0, .slice none 0 0] rfl
  have ge0 : w.heap.size ≤ w.heap.size := Nat.le_refl _
  have e1 : (sa == 0) = false := by simpa using h1
  have e2 : (si == 0) = true := by simpa using h2
  clear h1 h2
  have HA : Hid (numAt zs 0 2 = sa) := hsa
  have HI : Hid (numAt zs 3 2 = si) := hsi
  obtain ⟨_, _, z2, e2', hz2, hc2, hz20, hz21⟩ := (h.new hw).at 2 (by omega)
  simp only [Option.some.injEq, Addr.mk.injEq, and_true] at e2'
  obtain ⟨rfl, rfl⟩ := e2'
  obtain rfl : ho = z2 := Option.some.inj (hho.symm.trans hz2)
  have hwz0 : IntKind.i64.wrap ho = ho := by simp [IntKind.wrap, IntKind.signed, IntKind.bits]; omega
  have hB := h.new hw
  clear hsa hsi hho hz2 h
  go_enter Try.func41, Try.ntmps41
  go_upto_region 1 with fail
  generalize w.alloc (.cells #[.int .i64 0, .int .i64 0, .int .i64 0, .int .i64 0, .int .i64 0, .int .i64 0, .int .i64 0, .int .i64 0, .int .i64 0, .slice none 0 0, .bool false, .int .i64 0, .slice none 0 0, .int .i64 0, .int .i64 0, .int .i64 0, .slice none 0 0] 53) = w0 at *
  have cR := bR.cells
  have fR := bR.frees
  clear cR fR
  have hcell : ∀ X, New w0 X → X.cell? ⟨b, off + 2, none⟩ = some (.int .u8 ho) := fun X hX => (hX.below.cell (World.block_lt_of_cell? _ _ hc2)).trans hc2
  go_upto_region 3 with fail
  refine hw_start (n := 11) (S := fun X => New w0 X) rfl (by kernel_rfl) ((New.refl _).drew) (fun hH => ?_)
  refine' hw_take 0 (some 8) _ rfl rfl (by kernel_rfl) (by kernel_rfl) (by kernel_rfl) (fun _ _ _ h => h) (by rfl) hH ?hy10 ?rest10
  case hy10 =>
    intro X hX
    have hcX := hcell X hX
    go_simp
    try rfl
  simp only [Act.put, List.setIfInBounds_toArray, List.set_cons_zero, List.set_cons_succ]
  refine' hw_take 2 (some 10) _ rfl rfl (by kernel_rfl) (by kernel_rfl) (by kernel_rfl) (fun _ _ _ h => h) (by rfl) hH ?hy11 ?rest11
  case hy11 =>
    intro X hX
    have hcX := hcell X hX
    go_simp
    try rfl
  simp only [Act.put, List.setIfInBounds_toArray, List.set_cons_zero, List.set_cons_succ]
  refine' hw_take 3 (some 11) _ rfl rfl (by kernel_rfl) (by kernel_rfl) (by kernel_rfl) (fun _ _ _ h => h) (by rfl) hH ?hy12 ?rest12
  case hy12 =>
    intro X hX
    have hcX := hcell X hX
    go_simp
    try rfl
  simp only [Act.put, List.setIfInBounds_toArray, List.set_cons_zero, List.set_cons_succ]
  refine' hw_take 4 (some 12) _ rfl rfl (by kernel_rfl) (by kernel_rfl) (by kernel_rfl) (fun _ _ _ h => h) (by rfl) hH ?hy13 ?rest13
  case hy13 =>
    intro X hX
    have hcX := hcell X hX
    go_simp
    try rfl
  simp only [Act.put, List.setIfInBounds_toArray, List.set_cons_zero, List.set_cons_succ]
  refine' hw_take 5 (some 13) _ rfl rfl (by kernel_rfl) (by kernel_rfl) (by kernel_rfl) (fun _ _ _ h => h) (by rfl) hH ?hy14 ?rest14
  case hy14 =>
    intro X hX
    have hcX := hcell X hX
    go_simp
    try rfl
  simp only [Act.put, List.setIfInBounds_toArray, List.set_cons_zero, List.set_cons_succ]
  refine' hw_take 6 (some 14) _ rfl rfl (by kernel_rfl) (by kernel_rfl) (by kernel_rfl) (fun _ _ _ h => h) (by rfl) hH ?hy15 ?rest15
  case hy15 =>
    intro X hX
    have hcX := hcell X hX
    go_simp
    try rfl
  simp only [Act.put, List.setIfInBounds_toArray, List.set_cons_zero, List.set_cons_succ]
  refine wpAnyH_ready (rs := [1, 9]) (by kernel_rfl) (by simp) ?_
  refine hw_step 1 (some 9) rfl rfl (by rfl) (fun K hK => ?_) (hw_step 9 (some 3) rfl rfl (by rfl) (fun K hK => ?_) AllReadyH.nil)
  · go_simp
    go_at_call 38
    refine (take_any (some ⟨b, off, none⟩) 5 c 0 2 zs _ (hB.new hH) hn (by omega) (by omega) (by omega)).mono ?_
    rintro e _ ⟨rfl, rfl⟩
    rw [HA.out]
    refine hK.out _ _ hH (fun hH => ?_)
    simp only [Act.put, List.setIfInBounds_toArray, List.set_cons_zero, List.set_cons_succ]
    refine wpAnyH_ready (rs := [7, 9]) (by kernel_rfl) (by simp) ?_
    refine hw_step 7 (some 15) rfl rfl (by rfl) (fun K hK => ?_) (hw_step 9 (some 3) rfl rfl (by rfl) (fun K hK => ?_) AllReadyH.nil)
    · go_simp
      go_at_call 38
      refine (take_any (some ⟨b, off, none⟩) 5 c 3 2 zs _ (hB.new hH) hn (by omega) (by omega) (by omega)).mono ?_
      rintro e _ ⟨rfl, rfl⟩
      rw [HI.out]
      refine hK.out _ _ hH (fun hH => ?_)
      simp only [Act.put, List.setIfInBounds_toArray, List.set_cons_zero, List.set_cons_succ]
      refine' hw_take 8 (some 16) _ rfl rfl (by kernel_rfl) (by kernel_rfl) (by kernel_rfl) (fun _ _ _ h => h) (by rfl) hH ?hy16 ?rest16
      case hy16 =>
        intro X hX
        have hcX := hcell X hX
        go_simp
        try rfl
      simp only [Act.put, List.setIfInBounds_toArray, List.set_cons_zero, List.set_cons_succ]
      refine hw_call 9 (some 3) rfl rfl (by kernel_rfl) (by rfl) (fun K hK => ?_)
      go_simp
      refine hK.out _ _ (hH.alloc _) (fun hH => ?_)
      simp only [Act.put, List.setIfInBounds_toArray, List.set_cons_zero, List.set_cons_succ]
      refine wpAnyH_more (S' := fun X => New w0 X ∧ ∃ o : Array Value, o.size = 14 ∧ Blk X w0.heap.size 51 o) (fun _ h => h.1) _ _ _ _ ?_
      replace hH : New w0 (w0.drew.alloc (.cells #[.int .i64 0, .int .i64 0, .int .i64 0, .int .i64 0, .int .i64 0, .int .i64 0, .slice none 0 0, .bool false, .int .i64 0, .slice none 0 0, .int .i64 0, .int .i64 0, .int .i64 0, .slice none 0 0] 51)) ∧ ∃ o : Array Value, o.size = 14 ∧ Blk (w0.drew.alloc (.cells #[.int .i64 0, .int .i64 0, .int .i64 0, .int .i64 0, .int .i64 0, .int .i64 0, .slice none 0 0, .bool false, .int .i64 0, .slice none 0 0, .int .i64 0, .int .i64 0, .int .i64 0, .slice none 0 0] 51)) w0.heap.size 51 o := ⟨hH, _, rfl, Blk.mk w0.drew w0.heap.size 51 #[.int .i64 0, .int .i64 0, .int .i64 0, .int .i64 0, .int .i64 0, .int .i64 0, .slice none 0 0, .bool false, .int .i64 0, .slice none 0 0, .int .i64 0, .int .i64 0, .int .i64 0, .slice none 0 0] rfl⟩
      refine hw_call 10 none rfl rfl (by kernel_rfl) (by rfl) (fun K hK => ?_)
      obtain ⟨hN9, ob, zb, qb⟩ := hH
      refine hw_store 51 (.tmp 3) (.tmp 16) rfl rfl w0.heap.size #[.int .i64 1, .int .i64 sa, .int .i64 ho, .int .i64 si, .int .i64 0, .int .i64 0, .slice none 0 0, .bool false, .int .i64 0, .slice none 0 0, .int .i64 0, .int .i64 0, .int .i64 0, .slice none 0 0] ob rfl rfl qb (by kernel_rfl) zb (by kernel_rfl) ?_
      have bM := qb.rowW #[.int .i64 1, .int .i64 sa, .int .i64 ho, .int .i64 si, .int .i64 0, .int .i64 0, .slice none 0 0, .bool false, .int .i64 0, .slice none 0 0, .int .i64 0, .int .i64 0, .int .i64 0, .slice none 0 0]
      have hNz : New w0 (World.setRow _ w0.heap.size #[.int .i64 1, .int .i64 sa, .int .i64 ho, .int .i64 si, .int .i64 0, .int .i64 0, .slice none 0 0, .bool false, .int .i64 0, .slice none 0 0, .int .i64 0, .int .i64 0, .int .i64 0, .slice none 0 0]) := hN9.before (Turn.rowW (S := fun k => k = w0.heap.size) (Turn.refl _ _) (show w0.heap.size = w0.heap.size from rfl) #[.int .i64 1, .int .i64 sa, .int .i64 ho, .int .i64 si, .int .i64 0, .int .i64 0, .slice none 0 0, .bool false, .int .i64 0, .slice none 0 0, .int .i64 0, .int .i64 0, .int .i64 0, .slice none 0 0]) (fun i hi e => by omega)
      refine hK.out _ _ ⟨hNz, _, rfl, bM⟩ (fun hH => ?_)
      simp only [Act.put]
      refine wpAnyH_done (by kernel_rfl) ?_ _
      clear hH qb
      have bRz := bR.new hNz
      have hwz := hw.trans hNz
      try rw [show ((w0.alloc (.cells #[.int .i64 0, .int .i64 0, .int .i64 0, .int .i64 0, .int .i64 0, .int .i64 0, .slice none 0 0, .bool false, .int .i64 0, .slice none 0 0, .int .i64 0, .int .i64 0, .int .i64 0, .slice none 0 0] 51)).drew.setRow w0.heap.size #[.int .i64 1, .int .i64 sa, .int .i64 ho, .int .i64 si, .int .i64 0, .int .i64 0, .slice none 0 0, .bool false, .int .i64 0, .slice none 0 0, .int .i64 0, .int .i64 0, .int .i64 0, .slice none 0 0]) = ((w0.drew.alloc (.cells #[.int .i64 0, .int .i64 0, .int .i64 0, .int .i64 0, .int .i64 0, .int .i64 0, .slice none 0 0, .bool false, .int .i64 0, .slice none 0 0, .int .i64 0, .int .i64 0, .int .i64 0, .slice none 0 0] 51)).setRow w0.heap.size #[.int .i64 1, .int .i64 sa, .int .i64 ho, .int .i64 si, .int .i64 0, .int .i64 0, .slice none 0 0, .bool false, .int .i64 0, .slice none 0 0, .int .i64 0, .int .i64 0, .int .i64 0, .slice none 0 0]) from rfl]
      generalize ((w0.drew.alloc (.cells #[.int .i64 0, .int .i64 0, .int .i64 0, .int .i64 0, .int .i64 0, .int .i64 0, .slice none 0 0, .bool false, .int .i64 0, .slice none 0 0, .int .i64 0, .int .i64 0, .int .i64 0, .slice none 0 0] 51)).setRow w0.heap.size #[.int .i64 1, .int .i64 sa, .int .i64 ho, .int .i64 si, .int .i64 0, .int .i64 0, .slice none 0 0, .bool false, .int .i64 0, .slice none 0 0, .int .i64 0, .int .i64 0, .int .i64 0, .slice none 0 0]) = wz at *
      have cM := bM.cells
      go_wp2_with fail
      refine (bad4 3 2 3 _).mono ?_
      rintro e w9 ⟨rfl, hn9⟩
      have b9 := bRz.new hn9
      have hw9 := hwz.trans hn9
      go_wp2_with (refine wpList_store_row rfl 53 (.tmp 2) (.tmp 24) rfl w.heap.size #[.int .i64 3, .int .i64 2, .int .i64 3, .int .i64 0, .int .i64 0, .int .i64 0, .int .i64 0, .int .i64 0, .int .i64 0, .slice none 0 0, .bool false, .int .i64 0, .slice none 0 0, .int .i64 0, .int .i64 0, .int .i64 0, .slice none 0 0] rfl rfl 53 #[.int .i64 0, .int .i64 0, .int .i64 0, .int .i64 0, .int .i64 0, .int .i64 0, .int .i64 0, .int .i64 0, .int .i64 0, .slice none 0 0, .bool false, .int .i64 0, .slice none 0 0, .int .i64 0, .int .i64 0, .int .i64 0, .slice none 0 0] b9 (by kernel_rfl) rfl (by kernel_rfl) ?_)
      go_wp2
      refine bodyPost_ret (v := .agg #[.int .i64 3, .int .i64 2, .int .i64 3, .int .i64 0, .int .i64 0, .int .i64 0, .int .i64 0, .int .i64 0, .int .i64 0, .slice none 0 0, .bool false, .int .i64 0, .slice none 0 0, .int .i64 0, .int .i64 0, .int .i64 0, .slice none 0 0]) ?_ rfl ⟨rfl, hw9.row (Nat.le_refl _) _⟩
      exact results_row (B := w.heap.size) (cs := #[.int .i64 3, .int .i64 2, .int .i64 3, .int .i64 0, .int .i64 0, .int .i64 0, .int .i64 0, .int .i64 0, .int .i64 0, .slice none 0 0, .bool false, .int .i64 0, .slice none 0 0, .int .i64 0, .int .i64 0, .int .i64 0, .slice none 0 0]) rfl rfl (b9.row _) ⟨_, Try.underlying53⟩ (by kernel_rfl)
    · go_simp
      refine hK.out _ _ (hH.alloc _) (fun hH => ?_)
      simp only [Act.put, List.setIfInBounds_toArray, List.set_cons_zero, List.set_cons_succ]
      refine wpAnyH_more (S' := fun X => New w0 X ∧ ∃ o : Array Value, o.size = 14 ∧ Blk X w0.heap.size 51 o) (fun _ h => h.1) _ _ _ _ ?_
      replace hH : New w0 (w0.drew.alloc (.cells #[.int .i64 0, .int .i64 0, .int .i64 0, .int .i64 0, .int .i64 0, .int .i64 0, .slice none 0 0, .bool false, .int .i64 0, .slice none 0 0, .int .i64 0, .int .i64 0, .int .i64 0, .slice none 0 0] 51)) ∧ ∃ o : Array Value, o.size = 14 ∧ Blk (w0.drew.alloc (.cells #[.int .i64 0, .int .i64 0, .int .i64 0, .int .i64 0, .int .i64 0, .int .i64 0, .slice none 0 0, .bool false, .int .i64 0, .slice none 0 0, .int .i64 0, .int .i64 0, .int .i64 0, .slice none 0 0] 51)) w0.heap.size 51 o := ⟨hH, _, rfl, Blk.mk w0.drew w0.heap.size 51 #[.int .i64 0, .int .i64 0, .int .i64 0, .int .i64 0, .int .i64 0, .int .i64 0, .slice none 0 0, .bool false, .int .i64 0, .slice none 0 0, .int .i64 0, .int .i64 0, .int .i64 0, .slice none 0 0] rfl⟩
      refine hw_call 7 (some 15) rfl rfl (by kernel_rfl) (by rfl) (fun K hK => ?_)
      go_simp
      go_at_call 38
      refine (take_any (some ⟨b, off, none⟩) 5 c 3 2 zs _ (hB.new hH.1) hn (by omega) (by omega) (by omega)).mono ?_
      rintro e _ ⟨rfl, rfl⟩
      rw [HI.out]
      refine hK.out _ _ hH (fun hH => ?_)
      simp only [Act.put, List.setIfInBounds_toArray, List.set_cons_zero, List.set_cons_succ]
      refine' hw_take 8 (some 16) _ rfl rfl (by kernel_rfl) (by kernel_rfl) (by kernel_rfl) (fun _ _ _ h => h) (by rfl) hH ?hy17 ?rest17
      case hy17 =>
        intro X hX
        have hcX := hcell X hX.1
        go_simp
        try rfl
      simp only [Act.put, List.setIfInBounds_toArray, List.set_cons_zero, List.set_cons_succ]
      refine hw_call 10 none rfl rfl (by kernel_rfl) (by rfl) (fun K hK => ?_)
      obtain ⟨hN9, ob, zb, qb⟩ := hH
      refine hw_store 51 (.tmp 3) (.tmp 16) rfl rfl w0.heap.size #[.int .i64 1, .int .i64 sa, .int .i64 ho, .int .i64 si, .int .i64 0, .int .i64 0, .slice none 0 0, .bool false, .int .i64 0, .slice none 0 0, .int .i64 0, .int .i64 0, .int .i64 0, .slice none 0 0] ob rfl rfl qb (by kernel_rfl) zb (by kernel_rfl) ?_
      have bM := qb.rowW #[.int .i64 1, .int .i64 sa, .int .i64 ho, .int .i64 si, .int .i64 0, .int .i64 0, .slice none 0 0, .bool false, .int .i64 0, .slice none 0 0, .int .i64 0, .int .i64 0, .int .i64 0, .slice none 0 0]
      have hNz : New w0 (World.setRow _ w0.heap.size #[.int .i64 1, .int .i64 sa, .int .i64 ho, .int .i64 si, .int .i64 0, .int .i64 0, .slice none 0 0, .bool false, .int .i64 0, .slice none 0 0, .int .i64 0, .int .i64 0, .int .i64 0, .slice none 0 0]) := hN9.before (Turn.rowW (S := fun k => k = w0.heap.size) (Turn.refl _ _) (show w0.heap.size = w0.heap.size from rfl) #[.int .i64 1, .int .i64 sa, .int .i64 ho, .int .i64 si, .int .i64 0, .int .i64 0, .slice none 0 0, .bool false, .int .i64 0, .slice none 0 0, .int .i64 0, .int .i64 0, .int .i64 0, .slice none 0 0]) (fun i hi e => by omega)
      refine hK.out _ _ ⟨hNz, _, rfl, bM⟩ (fun hH => ?_)
      simp only [Act.put]
      refine wpAnyH_done (by kernel_rfl) ?_ _
      clear hH qb
      have bRz := bR.new hNz
      have hwz := hw.trans hNz
      try rw [show ((w0.alloc (.cells #[.int .i64 0, .int .i64 0, .int .i64 0, .int .i64 0, .int .i64 0, .int .i64 0, .slice none 0 0, .bool false, .int .i64 0, .slice none 0 0, .int .i64 0, .int .i64 0, .int .i64 0, .slice none 0 0] 51)).drew.setRow w0.heap.size #[.int .i64 1, .int .i64 sa, .int .i64 ho, .int .i64 si, .int .i64 0, .int .i64 0, .slice none 0 0, .bool false, .int .i64 0, .slice none 0 0, .int .i64 0, .int .i64 0, .int .i64 0, .slice none 0 0]) = ((w0.drew.alloc (.cells #[.int .i64 0, .int .i64 0, .int .i64 0, .int .i64 0, .int .i64 0, .int .i64 0, .slice none 0 0, .bool false, .int .i64 0, .slice none 0 0, .int .i64 0, .int .i64 0, .int .i64 0, .slice none 0 0] 51)).setRow w0.heap.size #[.int .i64 1, .int .i64 sa, .int .i64 ho, .int .i64 si, .int .i64 0, .int .i64 0, .slice none 0 0, .bool false, .int .i64 0, .slice none 0 0, .int .i64 0, .int .i64 0, .int .i64 0, .slice none 0 0]) from rfl]
      generalize ((w0.drew.alloc (.cells #[.int .i64 0, .int .i64 0, .int .i64 0, .int .i64 0, .int .i64 0, .int .i64 0, .slice none 0 0, .bool false, .int .i64 0, .slice none 0 0, .int .i64 0, .int .i64 0, .int .i64 0, .slice none 0 0] 51)).setRow w0.heap.size #[.int .i64 1, .int .i64 sa, .int .i64 ho, .int .i64 si, .int .i64 0, .int .i64 0, .slice none 0 0, .bool false, .int .i64 0, .slice none 0 0, .int .i64 0, .int .i64 0, .int .i64 0, .slice none 0 0]) = wz at *
      have cM := bM.cells
      go_wp2_with fail
      refine (bad4 3 2 3 _).mono ?_
      rintro e w9 ⟨rfl, hn9⟩
      have b9 := bRz.new hn9
      have hw9 := hwz.trans hn9
      go_wp2_with (refine wpList_store_row rfl 53 (.tmp 2) (.tmp 24) rfl w.heap.size #[.int .i64 3, .int .i64 2, .int .i64 3, .int .i64 0, .int .i64 0, .int .i64 0, .int .i64 0, .int .i64 0, .int .i64 0, .slice none 0 0, .bool false, .int .i64 0, .slice none 0 0, .int .i64 0, .int .i64 0, .int .i64 0, .slice none 0 0] rfl rfl 53 #[.int .i64 0, .int .i64 0, .int .i64 0, .int .i64 0, .int .i64 0, .int .i64 0, .int .i64 0, .int .i64 0, .int .i64 0, .slice none 0 0, .bool false, .int .i64 0, .slice none 0 0, .int .i64 0, .int .i64 0, .int .i64 0, .slice none 0 0] b9 (by kernel_rfl) rfl (by kernel_rfl) ?_)
      go_wp2
      refine bodyPost_ret (v := .agg #[.int .i64 3, .int .i64 2, .int .i64 3, .int .i64 0, .int .i64 0, .int .i64 0, .int .i64 0, .int .i64 0, .int .i64 0, .slice none 0 0, .bool false, .int .i64 0, .slice none 0 0, .int .i64 0, .int .i64 0, .int .i64 0, .slice none 0 0]) ?_ rfl ⟨rfl, hw9.row (Nat.le_refl _) _⟩
      exact results_row (B := w.heap.size) (cs := #[.int .i64 3, .int .i64 2, .int .i64 3, .int .i64 0, .int .i64 0, .int .i64 0, .int .i64 0, .int .i64 0, .int .i64 0, .slice none 0 0, .bool false, .int .i64 0, .slice none 0 0, .int .i64 0, .int .i64 0, .int .i64 0, .slice none 0 0]) rfl rfl (b9.row _) ⟨_, Try.underlying53⟩ (by kernel_rfl)
  · go_simp
    refine hK.out _ _ (hH.alloc _) (fun hH => ?_)
    simp only [Act.put, List.setIfInBounds_toArray, List.set_cons_zero, List.set_cons_succ]
    refine wpAnyH_more (S' := fun X => New w0 X ∧ ∃ o : Array Value, o.size = 14 ∧ Blk X w0.heap.size 51 o) (fun _ h => h.1) _ _ _ _ ?_
    replace hH : New w0 (w0.drew.alloc (.cells #[.int .i64 0, .int .i64 0, .int .i64 0, .int .i64 0, .int .i64 0, .int .i64 0, .slice none 0 0, .bool false, .int .i64 0, .slice none 0 0, .int .i64 0, .int .i64 0, .int .i64 0, .slice none 0 0] 51)) ∧ ∃ o : Array Value, o.size = 14 ∧ Blk (w0.drew.alloc (.cells #[.int .i64 0, .int .i64 0, .int .i64 0, .int .i64 0, .int .i64 0, .int .i64 0, .slice none 0 0, .bool false, .int .i64 0, .slice none 0 0, .int .i64 0, .int .i64 0, .int .i64 0, .slice none 0 0] 51)) w0.heap.size 51 o := ⟨hH, _, rfl, Blk.mk w0.drew w0.heap.size 51 #[.int .i64 0, .int .i64 0, .int .i64 0, .int .i64 0, .int .i64 0, .int .i64 0, .slice none 0 0, .bool false, .int .i64 0, .slice none 0 0, .int .i64 0, .int .i64 0, .int .i64 0, .slice none 0 0] rfl⟩
    refine hw_call 1 (some 9) rfl rfl (by kernel_rfl) (by rfl) (fun K hK => ?_)
    go_simp
    go_at_call 38
    refine (take_any (some ⟨b, off, none⟩) 5 c 0 2 zs _ (hB.new hH.1) hn (by omega) (by omega) (by omega)).mono ?_
    rintro e _ ⟨rfl, rfl⟩
    rw [HA.out]
    refine hK.out _ _ hH (fun hH => ?_)
    simp only [Act.put, List.setIfInBounds_toArray, List.set_cons_zero, List.set_cons_succ]
    refine hw_call 7 (some 15) rfl rfl (by kernel_rfl) (by rfl) (fun K hK => ?_)
    go_simp
    go_at_call 38
    refine (take_any (some ⟨b, off, none⟩) 5 c 3 2 zs _ (hB.new hH.1) hn (by omega) (by omega) (by omega)).mono ?_
    rintro e _ ⟨rfl, rfl⟩
    rw [HI.out]
    refine hK.out _ _ hH (fun hH => ?_)
    simp only [Act.put, List.setIfInBounds_toArray, List.set_cons_zero, List.set_cons_succ]
    refine' hw_take 8 (some 16) _ rfl rfl (by kernel_rfl) (by kernel_rfl) (by kernel_rfl) (fun _ _ _ h => h) (by rfl) hH ?hy18 ?rest18
    case hy18 =>
      intro X hX
      have hcX := hcell X hX.1
      go_simp
      try rfl
    simp only [Act.put, List.setIfInBounds_toArray, List.set_cons_zero, List.set_cons_succ]
    refine hw_call 10 none rfl rfl (by kernel_rfl) (by rfl) (fun K hK => ?_)
    obtain ⟨hN9, ob, zb, qb⟩ := hH
    refine hw_store 51 (.tmp 3) (.tmp 16) rfl rfl w0.heap.size #[.int .i64 1, .int .i64 sa, .int .i64 ho, .int .i64 si, .int .i64 0, .int .i64 0, .slice none 0 0, .bool false, .int .i64 0, .slice none 0 0, .int .i64 0, .int .i64 0, .int .i64 0, .slice none 0 0] ob rfl rfl qb (by kernel_rfl) zb (by kernel_rfl) ?_
    have bM := qb.rowW #[.int .i64 1, .int .i64 sa, .int .i64 ho, .int .i64 si, .int .i64 0, .int .i64 0, .slice none 0 0, .bool false, .int .i64 0, .slice none 0 0, .int .i64 0, .int .i64 0, .int .i64 0, .slice none 0 0]
    have hNz : New w0 (World.setRow _ w0.heap.size #[.int .i64 1, .int .i64 sa, .int .i64 ho, .int .i64 si, .int .i64 0, .int .i64 0, .slice none 0 0, .bool false, .int .i64 0, .slice none 0 0, .int .i64 0, .int .i64 0, .int .i64 0, .slice none 0 0]) := hN9.before (Turn.rowW (S := fun k => k = w0.heap.size) (Turn.refl _ _) (show w0.heap.size = w0.heap.size from rfl) #[.int .i64 1, .int .i64 sa, .int .i64 ho, .int .i64 si, .int .i64 0, .int .i64 0, .slice none 0 0, .bool false, .int .i64 0, .slice none 0 0, .int .i64 0, .int .i64 0, .int .i64 0, .slice none 0 0]) (fun i hi e => by omega)
    refine hK.out _ _ ⟨hNz, _, rfl, bM⟩ (fun hH => ?_)
    simp only [Act.put]
    refine wpAnyH_done (by kernel_rfl) ?_ _
    clear hH qb
    have bRz := bR.new hNz
    have hwz := hw.trans hNz
    try rw [show ((w0.alloc (.cells #[.int .i64 0, .int .i64 0, .int .i64 0, .int .i64 0, .int .i64 0, .int .i64 0, .slice none 0 0, .bool false, .int .i64 0, .slice none 0 0, .int .i64 0, .int .i64 0, .int .i64 0, .slice none 0 0] 51)).drew.setRow w0.heap.size #[.int .i64 1, .int .i64 sa, .int .i64 ho, .int .i64 si, .int .i64 0, .int .i64 0, .slice none 0 0, .bool false, .int .i64 0, .slice none 0 0, .int .i64 0, .int .i64 0, .int .i64 0, .slice none 0 0]) = ((w0.drew.alloc (.cells #[.int .i64 0, .int .i64 0, .int .i64 0, .int .i64 0, .int .i64 0, .int .i64 0, .slice none 0 0, .bool false, .int .i64 0, .slice none 0 0, .int .i64 0, .int .i64 0, .int .i64 0, .slice none 0 0] 51)).setRow w0.heap.size #[.int .i64 1, .int .i64 sa, .int .i64 ho, .int .i64 si, .int .i64 0, .int .i64 0, .slice none 0 0, .bool false, .int .i64 0, .slice none 0 0, .int .i64 0, .int .i64 0, .int .i64 0, .slice none 0 0]) from rfl]
    generalize ((w0.drew.alloc (.cells #[.int .i64 0, .int .i64 0, .int .i64 0, .int .i64 0, .int .i64 0, .int .i64 0, .slice none 0 0, .bool false, .int .i64 0, .slice none 0 0, .int .i64 0, .int .i64 0, .int .i64 0, .slice none 0 0] 51)).setRow w0.heap.size #[.int .i64 1, .int .i64 sa, .int .i64 ho, .int .i64 si, .int .i64 0, .int .i64 0, .slice none 0 0, .bool false, .int .i64 0, .slice none 0 0, .int .i64 0, .int .i64 0, .int .i64 0, .slice none 0 0]) = wz at *
    have cM := bM.cells
    go_wp2_with fail
    refine (bad4 3 2 3 _).mono ?_
    rintro e w9 ⟨rfl, hn9⟩
    have b9 := bRz.new hn9
    have hw9 := hwz.trans hn9
    go_wp2_with (refine wpList_store_row rfl 53 (.tmp 2) (.tmp 24) rfl w.heap.size #[.int .i64 3, .int .i64 2, .int .i64 3, .int .i64 0, .int .i64 0, .int .i64 0, .int .i64 0, .int .i64 0, .int .i64 0, .slice none 0 0, .bool false, .int .i64 0, .slice none 0 0, .int .i64 0, .int .i64 0, .int .i64 0, .slice none 0 0] rfl rfl 53 #[.int .i64 0, .int .i64 0, .int .i64 0, .int .i64 0, .int .i64 0, .int .i64 0, .int .i64 0, .int .i64 0, .int .i64 0, .slice none 0 0, .bool false, .int .i64 0, .slice none 0 0, .int .i64 0, .int .i64 0, .int .i64 0, .slice none 0 0] b9 (by kernel_rfl) rfl (by kernel_rfl) ?_)
    go_wp2
    refine bodyPost_ret (v := .agg #[.int .i64 3, .int .i64 2, .int .i64 3, .int .i64 0, .int .i64 0, .int .i64 0, .int .i64 0, .int .i64 0, .int .i64 0, .slice none 0 0, .bool false, .int .i64 0, .slice none 0 0, .int .i64 0, .int .i64 0, .int .i64 0, .slice none 0 0]) ?_ rfl ⟨rfl, hw9.row (Nat.le_refl _) _⟩
    exact results_row (B := w.heap.size) (cs := #[.int .i64 3, .int .i64 2, .int .i64 3, .int .i64 0, .int .i64 0, .int .i64 0, .int .i64 0, .int .i64 0, .int .i64 0, .slice none 0 0, .bool false, .int .i64 0, .slice none 0 0, .int .i64 0, .int .i64 0, .int .i64 0, .slice none 0 0]) rfl rfl (b9.row _) ⟨_, Try.underlying53⟩ (by kernel_rfl)


set_option maxRecDepth 100000 in
set_option maxHeartbeats 3200000 in
theorem open4_hold (b off c : Nat) (zs : List Int) (sa ho si : Int) (w : World) (h : BsAt w (some ⟨b, off, none⟩) zs) (hn : zs.length = 5) (hsa : numAt zs 0 2 = sa) (hho : zs[2]? = some ho) (hsi : numAt zs 3 2 = si) (h1 : ¬ sa = 0) (h2 : ¬ si = 0) (h3 : ¬ Hl ho) :
    Calls Try.prog 41 #[.slice (some ⟨b, off, none⟩) 5 c] w fun e w' => e = .returned (.agg #[.int .i64 3, .int .i64 2, .int .i64 6, .int .i64 0, .int .i64 0, .int .i64 0, .int .i64 0, .int .i64 0, .int .i64 0, .slice none 0 0, .bool false, .int .i64 0, .slice none 0 0, .int .i64 0, .int .i64 0, .int .i64 0, .slice none 0 0]) ∧ New w w' := by
  have hw := (New.refl w).alloc (.cells #[.int .i64 0, .int .i64 0, .int .i64 0, .int .i64 0, .int .i64 0, .int .i64 0, .int .i64 0, .int .i64 0, .int .i64 0, .slice none 0 0, .bool false, .int .i64 0, .slice none 0 0, .int .i64 0, .int .i64 0, .int .i64 0, .slice none 0 0] 53)
  have bR := Blk.mk w w.heap.size 53 #[.int .i64 0, .int .i64 0, .int .i64 0, .int .i64 0, .int .i64 0, .int .i64 0, .int .i64 0, .int .i64 0, .int .i64 0, .slice none 0 0, .bool false, .int .i64 0, .slice none 0 0, .int .i64 0, .int .i64 0, .int .i64 0, .slice none 0 0] rfl
  have ge0 : w.heap.size ≤ w.heap.size := Nat.le_refl _
  have e1 : (sa == 0) = false := by simpa using h1
  have e2 : (si == 0) = false := by simpa using h2
  have H3 : Hid _ := h3
  clear h1 h2 h3
  have HA : Hid (numAt zs 0 2 = sa) := hsa
  have HI : Hid (numAt zs 3 2 = si) := hsi
  obtain ⟨_, _, z2, e2', hz2, hc2, hz20, hz21⟩ := (h.new hw).at 2 (by omega)
  simp only [Option.some.injEq, Addr.mk.injEq, and_true] at e2'
  obtain ⟨rfl, rfl⟩ := e2'
  obtain rfl : ho = z2 := Option.some.inj (hho.symm.trans hz2)
  have hwz0 : IntKind.i64.wrap ho = ho := by simp [IntKind.wrap, IntKind.signed, IntKind.bits]; omega
  have hB := h.new hw
  clear hsa hsi hho hz2 h
  go_enter Try.func41, Try.ntmps41
  go_upto_region 1 with fail
  generalize w.alloc (.cells #[.int .i64 0, .int .i64 0, .int .i64 0, .int .i64 0, .int .i64 0, .int .i64 0, .int .i64 0, .int .i64 0, .int .i64 0, .slice none 0 0, .bool false, .int .i64 0, .slice none 0 0, .int .i64 0, .int .i64 0, .int .i64 0, .slice none 0 0] 53) = w0 at *
  have cR := bR.cells
  have fR := bR.frees
  clear cR fR
  have hcell : ∀ X, New w0 X → X.cell? ⟨b, off + 2, none⟩ = some (.int .u8 ho) := fun X hX => (hX.below.cell (World.block_lt_of_cell? _ _ hc2)).trans hc2
  go_upto_region 3 with fail
  refine hw_start (n := 11) (S := fun X => New w0 X) rfl (by kernel_rfl) ((New.refl _).drew) (fun hH => ?_)
  refine' hw_take 0 (some 8) _ rfl rfl (by kernel_rfl) (by kernel_rfl) (by kernel_rfl) (fun _ _ _ h => h) (by rfl) hH ?hy19 ?rest19
  case hy19 =>
    intro X hX
    have hcX := hcell X hX
    go_simp
    try rfl
  simp only [Act.put, List.setIfInBounds_toArray, List.set_cons_zero, List.set_cons_succ]
  refine' hw_take 2 (some 10) _ rfl rfl (by kernel_rfl) (by kernel_rfl) (by kernel_rfl) (fun _ _ _ h => h) (by rfl) hH ?hy20 ?rest20
  case hy20 =>
    intro X hX
    have hcX := hcell X hX
    go_simp
    try rfl
  simp only [Act.put, List.setIfInBounds_toArray, List.set_cons_zero, List.set_cons_succ]
  refine' hw_take 3 (some 11) _ rfl rfl (by kernel_rfl) (by kernel_rfl) (by kernel_rfl) (fun _ _ _ h => h) (by rfl) hH ?hy21 ?rest21
  case hy21 =>
    intro X hX
    have hcX := hcell X hX
    go_simp
    try rfl
  simp only [Act.put, List.setIfInBounds_toArray, List.set_cons_zero, List.set_cons_succ]
  refine' hw_take 4 (some 12) _ rfl rfl (by kernel_rfl) (by kernel_rfl) (by kernel_rfl) (fun _ _ _ h => h) (by rfl) hH ?hy22 ?rest22
  case hy22 =>
    intro X hX
    have hcX := hcell X hX
    go_simp
    try rfl
  simp only [Act.put, List.setIfInBounds_toArray, List.set_cons_zero, List.set_cons_succ]
  refine' hw_take 5 (some 13) _ rfl rfl (by kernel_rfl) (by kernel_rfl) (by kernel_rfl) (fun _ _ _ h => h) (by rfl) hH ?hy23 ?rest23
  case hy23 =>
    intro X hX
    have hcX := hcell X hX
    go_simp
    try rfl
  simp only [Act.put, List.setIfInBounds_toArray, List.set_cons_zero, List.set_cons_succ]
  refine' hw_take 6 (some 14) _ rfl rfl (by kernel_rfl) (by kernel_rfl) (by kernel_rfl) (fun _ _ _ h => h) (by rfl) hH ?hy24 ?rest24
  case hy24 =>
    intro X hX
    have hcX := hcell X hX
    go_simp
    try rfl
  simp only [Act.put, List.setIfInBounds_toArray, List.set_cons_zero, List.set_cons_succ]
  refine wpAnyH_ready (rs := [1, 9]) (by kernel_rfl) (by simp) ?_
  refine hw_step 1 (some 9) rfl rfl (by rfl) (fun K hK => ?_) (hw_step 9 (some 3) rfl rfl (by rfl) (fun K hK => ?_) AllReadyH.nil)
  · go_simp
    go_at_call 38
    refine (take_any (some ⟨b, off, none⟩) 5 c 0 2 zs _ (hB.new hH) hn (by omega) (by omega) (by omega)).mono ?_
    rintro e _ ⟨rfl, rfl⟩
    rw [HA.out]
    refine hK.out _ _ hH (fun hH => ?_)
    simp only [Act.put, List.setIfInBounds_toArray, List.set_cons_zero, List.set_cons_succ]
    refine wpAnyH_ready (rs := [7, 9]) (by kernel_rfl) (by simp) ?_
    refine hw_step 7 (some 15) rfl rfl (by rfl) (fun K hK => ?_) (hw_step 9 (some 3) rfl rfl (by rfl) (fun K hK => ?_) AllReadyH.nil)
    · go_simp
      go_at_call 38
      refine (take_any (some ⟨b, off, none⟩) 5 c 3 2 zs _ (hB.new hH) hn (by omega) (by omega) (by omega)).mono ?_
      rintro e _ ⟨rfl, rfl⟩
      rw [HI.out]
      refine hK.out _ _ hH (fun hH => ?_)
      simp only [Act.put, List.setIfInBounds_toArray, List.set_cons_zero, List.set_cons_succ]
      refine' hw_take 8 (some 16) _ rfl rfl (by kernel_rfl) (by kernel_rfl) (by kernel_rfl) (fun _ _ _ h => h) (by rfl) hH ?hy25 ?rest25
      case hy25 =>
        intro X hX
        have hcX := hcell X hX
        go_simp
        try rfl
      simp only [Act.put, List.setIfInBounds_toArray, List.set_cons_zero, List.set_cons_succ]
      refine hw_call 9 (some 3) rfl rfl (by kernel_rfl) (by rfl) (fun K hK => ?_)
      go_simp
      refine hK.out _ _ (hH.alloc _) (fun hH => ?_)
      simp only [Act.put, List.setIfInBounds_toArray, List.set_cons_zero, List.set_cons_succ]
      refine wpAnyH_more (S' := fun X => New w0 X ∧ ∃ o : Array Value, o.size = 14 ∧ Blk X w0.heap.size 51 o) (fun _ h => h.1) _ _ _ _ ?_
      replace hH : New w0 (w0.drew.alloc (.cells #[.int .i64 0, .int .i64 0, .int .i64 0, .int .i64 0, .int .i64 0, .int .i64 0, .slice none 0 0, .bool false, .int .i64 0, .slice none 0 0, .int .i64 0, .int .i64 0, .int .i64 0, .slice none 0 0] 51)) ∧ ∃ o : Array Value, o.size = 14 ∧ Blk (w0.drew.alloc (.cells #[.int .i64 0, .int .i64 0, .int .i64 0, .int .i64 0, .int .i64 0, .int .i64 0, .slice none 0 0, .bool false, .int .i64 0, .slice none 0 0, .int .i64 0, .int .i64 0, .int .i64 0, .slice none 0 0] 51)) w0.heap.size 51 o := ⟨hH, _, rfl, Blk.mk w0.drew w0.heap.size 51 #[.int .i64 0, .int .i64 0, .int .i64 0, .int .i64 0, .int .i64 0, .int .i64 0, .slice none 0 0, .bool false, .int .i64 0, .slice none 0 0, .int .i64 0, .int .i64 0, .int .i64 0, .slice none 0 0] rfl⟩
      refine hw_call 10 none rfl rfl (by kernel_rfl) (by rfl) (fun K hK => ?_)
      obtain ⟨hN9, ob, zb, qb⟩ := hH
      refine hw_store 51 (.tmp 3) (.tmp 16) rfl rfl w0.heap.size #[.int .i64 1, .int .i64 sa, .int .i64 ho, .int .i64 si, .int .i64 0, .int .i64 0, .slice none 0 0, .bool false, .int .i64 0, .slice none 0 0, .int .i64 0, .int .i64 0, .int .i64 0, .slice none 0 0] ob rfl rfl qb (by kernel_rfl) zb (by kernel_rfl) ?_
      have bM := qb.rowW #[.int .i64 1, .int .i64 sa, .int .i64 ho, .int .i64 si, .int .i64 0, .int .i64 0, .slice none 0 0, .bool false, .int .i64 0, .slice none 0 0, .int .i64 0, .int .i64 0, .int .i64 0, .slice none 0 0]
      have hNz : New w0 (World.setRow _ w0.heap.size #[.int .i64 1, .int .i64 sa, .int .i64 ho, .int .i64 si, .int .i64 0, .int .i64 0, .slice none 0 0, .bool false, .int .i64 0, .slice none 0 0, .int .i64 0, .int .i64 0, .int .i64 0, .slice none 0 0]) := hN9.before (Turn.rowW (S := fun k => k = w0.heap.size) (Turn.refl _ _) (show w0.heap.size = w0.heap.size from rfl) #[.int .i64 1, .int .i64 sa, .int .i64 ho, .int .i64 si, .int .i64 0, .int .i64 0, .slice none 0 0, .bool false, .int .i64 0, .slice none 0 0, .int .i64 0, .int .i64 0, .int .i64 0, .slice none 0 0]) (fun i hi e => by omega)
      refine hK.out _ _ ⟨hNz, _, rfl, bM⟩ (fun hH => ?_)
      simp only [Act.put]
      refine wpAnyH_done (by kernel_rfl) ?_ _
      clear hH qb
      have bRz := bR.new hNz
      have hwz := hw.trans hNz
      try rw [show ((w0.alloc (.cells #[.int .i64 0, .int .i64 0, .int .i64 0, .int .i64 0, .int .i64 0, .int .i64 0, .slice none 0 0, .bool false, .int .i64 0, .slice none 0 0, .int .i64 0, .int .i64 0, .int .i64 0, .slice none 0 0] 51)).drew.setRow w0.heap.size #[.int .i64 1, .int .i64 sa, .int .i64 ho, .int .i64 si, .int .i64 0, .int .i64 0, .slice none 0 0, .bool false, .int .i64 0, .slice none 0 0, .int .i64 0, .int .i64 0, .int .i64 0, .slice none 0 0]) = ((w0.drew.alloc (.cells #[.int .i64 0, .int .i64 0, .int .i64 0, .int .i64 0, .int .i64 0, .int .i64 0, .slice none 0 0, .bool false, .int .i64 0, .slice none 0 0, .int .i64 0, .int .i64 0, .int .i64 0, .slice none 0 0] 51)).setRow w0.heap.size #[.int .i64 1, .int .i64 sa, .int .i64 ho, .int .i64 si, .int .i64 0, .int .i64 0, .slice none 0 0, .bool false, .int .i64 0, .slice none 0 0, .int .i64 0, .int .i64 0, .int .i64 0, .slice none 0 0]) from rfl]
      generalize ((w0.drew.alloc (.cells #[.int .i64 0, .int .i64 0, .int .i64 0, .int .i64 0, .int .i64 0, .int .i64 0, .slice none 0 0, .bool false, .int .i64 0, .slice none 0 0, .int .i64 0, .int .i64 0, .int .i64 0, .slice none 0 0] 51)).setRow w0.heap.size #[.int .i64 1, .int .i64 sa, .int .i64 ho, .int .i64 si, .int .i64 0, .int .i64 0, .slice none 0 0, .bool false, .int .i64 0, .slice none 0 0, .int .i64 0, .int .i64 0, .int .i64 0, .slice none 0 0]) = wz at *
      have cM := bM.cells
      go_wp2_with fail
      refine (hold4_no ho _ H3.out).mono ?_
      rintro e _ ⟨rfl, rfl⟩
      go_wp2_with fail
      refine (bad4 3 2 6 _).mono ?_
      rintro e w9 ⟨rfl, hn9⟩
      have b9 := bRz.new hn9
      have hw9 := hwz.trans hn9
      go_wp2_with (refine wpList_store_row rfl 53 (.tmp 2) (.tmp 29) rfl w.heap.size #[.int .i64 3, .int .i64 2, .int .i64 6, .int .i64 0, .int .i64 0, .int .i64 0, .int .i64 0, .int .i64 0, .int .i64 0, .slice none 0 0, .bool false, .int .i64 0, .slice none 0 0, .int .i64 0, .int .i64 0, .int .i64 0, .slice none 0 0] rfl rfl 53 #[.int .i64 0, .int .i64 0, .int .i64 0, .int .i64 0, .int .i64 0, .int .i64 0, .int .i64 0, .int .i64 0, .int .i64 0, .slice none 0 0, .bool false, .int .i64 0, .slice none 0 0, .int .i64 0, .int .i64 0, .int .i64 0, .slice none 0 0] b9 (by kernel_rfl) rfl (by kernel_rfl) ?_)
      go_wp2
      refine bodyPost_ret (v := .agg #[.int .i64 3, .int .i64 2, .int .i64 6, .int .i64 0, .int .i64 0, .int .i64 0, .int .i64 0, .int .i64 0, .int .i64 0, .slice none 0 0, .bool false, .int .i64 0, .slice none 0 0, .int .i64 0, .int .i64 0, .int .i64 0, .slice none 0 0]) ?_ rfl ⟨rfl, hw9.row (Nat.le_refl _) _⟩
      exact results_row (B := w.heap.size) (cs := #[.int .i64 3, .int .i64 2, .int .i64 6, .int .i64 0, .int .i64 0, .int .i64 0, .int .i64 0, .int .i64 0, .int .i64 0, .slice none 0 0, .bool false, .int .i64 0, .slice none 0 0, .int .i64 0, .int .i64 0, .int .i64 0, .slice none 0 0]) rfl rfl (b9.row _) ⟨_, Try.underlying53⟩ (by kernel_rfl)
    · go_simp
      refine hK.out _ _ (hH.alloc _) (fun hH => ?_)
      simp only [Act.put, List.setIfInBounds_toArray, List.set_cons_zero, List.set_cons_succ]
      refine wpAnyH_more (S' := fun X => New w0 X ∧ ∃ o : Array Value, o.size = 14 ∧ Blk X w0.heap.size 51 o) (fun _ h => h.1) _ _ _ _ ?_
      replace hH : New w0 (w0.drew.alloc (.cells #[.int .i64 0, .int .i64 0, .int .i64 0, .int .i64 0, .int .i64 0, .int .i64 0, .slice none 0 0, .bool false, .int .i64 0, .slice none 0 0, .int .i64 0, .int .i64 0, .int .i64 0, .slice none 0 0] 51)) ∧ ∃ o : Array Value, o.size = 14 ∧ Blk (w0.drew.alloc (.cells #[.int .i64 0, .int .i64 0, .int .i64 0, .int .i64 0, .int .i64 0, .int .i64 0, .slice none 0 0, .bool false, .int .i64 0, .slice none 0 0, .int .i64 0, .int .i64 0, .int .i64 0, .slice none 0 0] 51)) w0.heap.size 51 o := ⟨hH, _, rfl, Blk.mk w0.drew w0.heap.size 51 #[.int .i64 0, .int .i64 0, .int .i64 0, .int .i64 0, .int .i64 0, .int .i64 0, .slice none 0 0, .bool false, .int .i64 0, .slice none 0 0, .int .i64 0, .int .i64 0, .int .i64 0, .slice none 0 0] rfl⟩
      refine hw_call 7 (some 15) rfl rfl (by kernel_rfl) (by rfl) (fun K hK => ?_)
      go_simp
      go_at_call 38
      refine (take_any (some ⟨b, off, none⟩) 5 c 3 2 zs _ (hB.new hH.1) hn (by omega) (by omega) (by omega)).mono ?_
      rintro e _ ⟨rfl, rfl⟩
      rw [HI.out]
      refine hK.out _ _ hH (fun hH => ?_)
      simp only [Act.put, List.setIfInBounds_toArray, List.set_cons_zero, List.set_cons_succ]
      refine' hw_take 8 (some 16) _ rfl rfl (by kernel_rfl) (by kernel_rfl) (by kernel_rfl) (fun _ _ _ h => h) (by rfl) hH ?hy26 ?rest26
      case hy26 =>
        intro X hX
        have hcX := hcell X hX.1
        go_simp
        try rfl
      simp only [Act.put, List.setIfInBounds_toArray, List.set_cons_zero, List.set_cons_succ]
      refine hw_call 10 none rfl rfl (by kernel_rfl) (by rfl) (fun K hK => ?_)
      obtain ⟨hN9, ob, zb, qb⟩ := hH
      refine hw_store 51 (.tmp 3) (.tmp 16) rfl rfl w0.heap.size #[.int .i64 1, .int .i64 sa, .int .i64 ho, .int .i64 si, .int .i64 0, .int .i64 0, .slice none 0 0, .bool false, .int .i64 0, .slice none 0 0, .int .i64 0, .int .i64 0, .int .i64 0, .slice none 0 0] ob rfl rfl qb (by kernel_rfl) zb (by kernel_rfl) ?_
      have bM := qb.rowW #[.int .i64 1, .int .i64 sa, .int .i64 ho, .int .i64 si, .int .i64 0, .int .i64 0, .slice none 0 0, .bool false, .int .i64 0, .slice none 0 0, .int .i64 0, .int .i64 0, .int .i64 0, .slice none 0 0]
      have hNz : New w0 (World.setRow _ w0.heap.size #[.int .i64 1, .int .i64 sa, .int .i64 ho, .int .i64 si, .int .i64 0, .int .i64 0, .slice none 0 0, .bool false, .int .i64 0, .slice none 0 0, .int .i64 0, .int .i64 0, .int .i64 0, .slice none 0 0]) := hN9.before (Turn.rowW (S := fun k => k = w0.heap.size) (Turn.refl _ _) (show w0.heap.size = w0.heap.size from rfl) #[.int .i64 1, .int .i64 sa, .int .i64 ho, .int .i64 si, .int .i64 0, .int .i64 0, .slice none 0 0, .bool false, .int .i64 0, .slice none 0 0, .int .i64 0, .int .i64 0, .int .i64 0, .slice none 0 0]) (fun i hi e => by omega)
      refine hK.out _ _ ⟨hNz, _, rfl, bM⟩ (fun hH => ?_)
      simp only [Act.put]
      refine wpAnyH_done (by kernel_rfl) ?_ _
      clear hH qb
      have bRz := bR.new hNz
      have hwz := hw.trans hNz
      try rw [show ((w0.alloc (.cells #[.int .i64 0, .int .i64 0, .int .i64 0, .int .i64 0, .int .i64 0, .int .i64 0, .slice none 0 0, .bool false, .int .i64 0, .slice none 0 0, .int .i64 0, .int .i64 0, .int .i64 0, .slice none 0 0] 51)).drew.setRow w0.heap.size #[.int .i64 1, .int .i64 sa, .int .i64 ho, .int .i64 si, .int .i64 0, .int .i64 0, .slice none 0 0, .bool false, .int .i64 0, .slice none 0 0, .int .i64 0, .int .i64 0, .int .i64 0, .slice none 0 0]) = ((w0.drew.alloc (.cells #[.int .i64 0, .int .i64 0, .int .i64 0, .int .i64 0, .int .i64 0, .int .i64 0, .slice none 0 0, .bool false, .int .i64 0, .slice none 0 0, .int .i64 0, .int .i64 0, .int .i64 0, .slice none 0 0] 51)).setRow w0.heap.size #[.int .i64 1, .int .i64 sa, .int .i64 ho, .int .i64 si, .int .i64 0, .int .i64 0, .slice none 0 0, .bool false, .int .i64 0, .slice none 0 0, .int .i64 0, .int .i64 0, .int .i64 0, .slice none 0 0]) from rfl]
      generalize ((w0.drew.alloc (.cells #[.int .i64 0, .int .i64 0, .int .i64 0, .int .i64 0, .int .i64 0, .int .i64 0, .slice none 0 0, .bool false, .int .i64 0, .slice none 0 0, .int .i64 0, .int .i64 0, .int .i64 0, .slice none 0 0] 51)).setRow w0.heap.size #[.int .i64 1, .int .i64 sa, .int .i64 ho, .int .i64 si, .int .i64 0, .int .i64 0, .slice none 0 0, .bool false, .int .i64 0, .slice none 0 0, .int .i64 0, .int .i64 0, .int .i64 0, .slice none 0 0]) = wz at *
      have cM := bM.cells
      go_wp2_with fail
      refine (hold4_no ho _ H3.out).mono ?_
      rintro e _ ⟨rfl, rfl⟩
      go_wp2_with fail
      refine (bad4 3 2 6 _).mono ?_
      rintro e w9 ⟨rfl, hn9⟩
      have b9 := bRz.new hn9
      have hw9 := hwz.trans hn9
      go_wp2_with (refine wpList_store_row rfl 53 (.tmp 2) (.tmp 29) rfl w.heap.size #[.int .i64 3, .int .i64 2, .int .i64 6, .int .i64 0, .int .i64 0, .int .i64 0, .int .i64 0, .int .i64 0, .int .i64 0, .slice none 0 0, .bool false, .int .i64 0, .slice none 0 0, .int .i64 0, .int .i64 0, .int .i64 0, .slice none 0 0] rfl rfl 53 #[.int .i64 0, .int .i64 0, .int .i64 0, .int .i64 0, .int .i64 0, .int .i64 0, .int .i64 0, .int .i64 0, .int .i64 0, .slice none 0 0, .bool false, .int .i64 0, .slice none 0 0, .int .i64 0, .int .i64 0, .int .i64 0, .slice none 0 0] b9 (by kernel_rfl) rfl (by kernel_rfl) ?_)
      go_wp2
      refine bodyPost_ret (v := .agg #[.int .i64 3, .int .i64 2, .int .i64 6, .int .i64 0, .int .i64 0, .int .i64 0, .int .i64 0, .int .i64 0, .int .i64 0, .slice none 0 0, .bool false, .int .i64 0, .slice none 0 0, .int .i64 0, .int .i64 0, .int .i64 0, .slice none 0 0]) ?_ rfl ⟨rfl, hw9.row (Nat.le_refl _) _⟩
      exact results_row (B := w.heap.size) (cs := #[.int .i64 3, .int .i64 2, .int .i64 6, .int .i64 0, .int .i64 0, .int .i64 0, .int .i64 0, .int .i64 0, .int .i64 0, .slice none 0 0, .bool false, .int .i64 0, .slice none 0 0, .int .i64 0, .int .i64 0, .int .i64 0, .slice none 0 0]) rfl rfl (b9.row _) ⟨_, Try.underlying53⟩ (by kernel_rfl)
  · go_simp
    refine hK.out _ _ (hH.alloc _) (fun hH => ?_)
    simp only [Act.put, List.setIfInBounds_toArray, List.set_cons_zero, List.set_cons_succ]
    refine wpAnyH_more (S' := fun X => New w0 X ∧ ∃ o : Array Value, o.size = 14 ∧ Blk X w0.heap.size 51 o) (fun _ h => h.1) _ _ _ _ ?_
    replace hH : New w0 (w0.drew.alloc (.cells #[.int .i64 0, .int .i64 0, .int .i64 0, .int .i64 0, .int .i64 0, .int .i64 0, .slice none 0 0, .bool false, .int .i64 0, .slice none 0 0, .int .i64 0, .int .i64 0, .int .i64 0, .slice none 0 0] 51)) ∧ ∃ o : Array Value, o.size = 14 ∧ Blk (w0.drew.alloc (.cells #[.int .i64 0, .int .i64 0, .int .i64 0, .int .i64 0, .int .i64 0, .int .i64 0, .slice none 0 0, .bool false, .int .i64 0, .slice none 0 0, .int .i64 0, .int .i64 0, .int .i64 0, .slice none 0 0] 51)) w0.heap.size 51 o := ⟨hH, _, rfl, Blk.mk w0.drew w0.heap.size 51 #[.int .i64 0, .int .i64 0, .int .i64 0, .int .i64 0, .int .i64 0, .int .i64 0, .slice none 0 0, .bool false, .int .i64 0, .slice none 0 0, .int .i64 0, .int .i64 0, .int .i64 0, .slice none 0 0] rfl⟩
    refine hw_call 1 (some 9) rfl rfl (by kernel_rfl) (by rfl) (fun K hK => ?_)
    go_simp
    go_at_call 38
    refine (take_any (some ⟨b, off, none⟩) 5 c 0 2 zs _ (hB.new hH.1) hn (by omega) (by omega) (by omega)).mono ?_
    rintro e _ ⟨rfl, rfl⟩
    rw [HA.out]
    refine hK.out _ _ hH (fun hH => ?_)
    simp only [Act.put, List.setIfInBounds_toArray, List.set_cons_zero, List.set_cons_succ]
    refine hw_call 7 (some 15) rfl rfl (by kernel_rfl) (by rfl) (fun K hK => ?_)
    go_simp
    go_at_call 38
    refine (take_any (some ⟨b, off, none⟩) 5 c 3 2 zs _ (hB.new hH.1) hn (by omega) (by omega) (by omega)).mono ?_
    rintro e _ ⟨rfl, rfl⟩
    rw [HI.out]
    refine hK.out _ _ hH (fun hH => ?_)
    simp only [Act.put, List.setIfInBounds_toArray, List.set_cons_zero, List.set_cons_succ]
    refine' hw_take 8 (some 16) _ rfl rfl (by kernel_rfl) (by kernel_rfl) (by kernel_rfl) (fun _ _ _ h => h) (by rfl) hH ?hy27 ?rest27
    case hy27 =>
      intro X hX
      have hcX := hcell X hX.1
      go_simp
      try rfl
    simp only [Act.put, List.setIfInBounds_toArray, List.set_cons_zero, List.set_cons_succ]
    refine hw_call 10 none rfl rfl (by kernel_rfl) (by rfl) (fun K hK => ?_)
    obtain ⟨hN9, ob, zb, qb⟩ := hH
    refine hw_store 51 (.tmp 3) (.tmp 16) rfl rfl w0.heap.size #[.int .i64 1, .int .i64 sa, .int .i64 ho, .int .i64 si, .int .i64 0, .int .i64 0, .slice none 0 0, .bool false, .int .i64 0, .slice none 0 0, .int .i64 0, .int .i64 0, .int .i64 0, .slice none 0 0] ob rfl rfl qb (by kernel_rfl) zb (by kernel_rfl) ?_
    have bM := qb.rowW #[.int .i64 1, .int .i64 sa, .int .i64 ho, .int .i64 si, .int .i64 0, .int .i64 0, .slice none 0 0, .bool false, .int .i64 0, .slice none 0 0, .int .i64 0, .int .i64 0, .int .i64 0, .slice none 0 0]
    have hNz : New w0 (World.setRow _ w0.heap.size #[.int .i64 1, .int .i64 sa, .int .i64 ho, .int .i64 si, .int .i64 0, .int .i64 0, .slice none 0 0, .bool false, .int .i64 0, .slice none 0 0, .int .i64 0, .int .i64 0, .int .i64 0, .slice none 0 0]) := hN9.before (Turn.rowW (S := fun k => k = w0.heap.size) (Turn.refl _ _) (show w0.heap.size = w0.heap.size from rfl) #[.int .i64 1, .int .i64 sa, .int .i64 ho, .int .i64 si, .int .i64 0, .int .i64 0, .slice none 0 0, .bool false, .int .i64 0, .slice none 0 0, .int .i64 0, .int .i64 0, .int .i64 0, .slice none 0 0]) (fun i hi e => by omega)
    refine hK.out _ _ ⟨hNz, _, rfl, bM⟩ (fun hH => ?_)
    simp only [Act.put]
    refine wpAnyH_done (by kernel_rfl) ?_ _
    clear hH qb
    have bRz := bR.new hNz
    have hwz := hw.trans hNz
    try rw [show ((w0.alloc (.cells #[.int .i64 0, .int .i64 0, .int .i64 0, .int .i64 0, .int .i64 0, .int .i64 0, .slice none 0 0, .bool false, .int .i64 0, .slice none 0 0, .int .i64 0, .int .i64 0, .int .i64 0, .slice none 0 0] 51)).drew.setRow w0.heap.size #[.int .i64 1, .int .i64 sa, .int .i64 ho, .int .i64 si, .int .i64 0, .int .i64 0, .slice none 0 0, .bool false, .int .i64 0, .slice none 0 0, .int .i64 0, .int .i64 0, .int .i64 0, .slice none 0 0]) = ((w0.drew.alloc (.cells #[.int .i64 0, .int .i64 0, .int .i64 0, .int .i64 0, .int .i64 0, .int .i64 0, .slice none 0 0, .bool false, .int .i64 0, .slice none 0 0, .int .i64 0, .int .i64 0, .int .i64 0, .slice none 0 0] 51)).setRow w0.heap.size #[.int .i64 1, .int .i64 sa, .int .i64 ho, .int .i64 si, .int .i64 0, .int .i64 0, .slice none 0 0, .bool false, .int .i64 0, .slice none 0 0, .int .i64 0, .int .i64 0, .int .i64 0, .slice none 0 0]) from rfl]
    generalize ((w0.drew.alloc (.cells #[.int .i64 0, .int .i64 0, .int .i64 0, .int .i64 0, .int .i64 0, .int .i64 0, .slice none 0 0, .bool false, .int .i64 0, .slice none 0 0, .int .i64 0, .int .i64 0, .int .i64 0, .slice none 0 0] 51)).setRow w0.heap.size #[.int .i64 1, .int .i64 sa, .int .i64 ho, .int .i64 si, .int .i64 0, .int .i64 0, .slice none 0 0, .bool false, .int .i64 0, .slice none 0 0, .int .i64 0, .int .i64 0, .int .i64 0, .slice none 0 0]) = wz at *
    have cM := bM.cells
    go_wp2_with fail
    refine (hold4_no ho _ H3.out).mono ?_
    rintro e _ ⟨rfl, rfl⟩
    go_wp2_with fail
    refine (bad4 3 2 6 _).mono ?_
    rintro e w9 ⟨rfl, hn9⟩
    have b9 := bRz.new hn9
    have hw9 := hwz.trans hn9
    go_wp2_with (refine wpList_store_row rfl 53 (.tmp 2) (.tmp 29) rfl w.heap.size #[.int .i64 3, .int .i64 2, .int .i64 6, .int .i64 0, .int .i64 0, .int .i64 0, .int .i64 0, .int .i64 0, .int .i64 0, .slice none 0 0, .bool false, .int .i64 0, .slice none 0 0, .int .i64 0, .int .i64 0, .int .i64 0, .slice none 0 0] rfl rfl 53 #[.int .i64 0, .int .i64 0, .int .i64 0, .int .i64 0, .int .i64 0, .int .i64 0, .int .i64 0, .int .i64 0, .int .i64 0, .slice none 0 0, .bool false, .int .i64 0, .slice none 0 0, .int .i64 0, .int .i64 0, .int .i64 0, .slice none 0 0] b9 (by kernel_rfl) rfl (by kernel_rfl) ?_)
    go_wp2
    refine bodyPost_ret (v := .agg #[.int .i64 3, .int .i64 2, .int .i64 6, .int .i64 0, .int .i64 0, .int .i64 0, .int .i64 0, .int .i64 0, .int .i64 0, .slice none 0 0, .bool false, .int .i64 0, .slice none 0 0, .int .i64 0, .int .i64 0, .int .i64 0, .slice none 0 0]) ?_ rfl ⟨rfl, hw9.row (Nat.le_refl _) _⟩
    exact results_row (B := w.heap.size) (cs := #[.int .i64 3, .int .i64 2, .int .i64 6, .int .i64 0, .int .i64 0, .int .i64 0, .int .i64 0, .int .i64 0, .int .i64 0, .slice none 0 0, .bool false, .int .i64 0, .slice none 0 0, .int .i64 0, .int .i64 0, .int .i64 0, .slice none 0 0]) rfl rfl (b9.row _) ⟨_, Try.underlying53⟩ (by kernel_rfl)


set_option maxRecDepth 100000 in
set_option maxHeartbeats 3200000 in
theorem open4_ok (b off c : Nat) (zs : List Int) (sa ho si : Int) (w : World) (h : BsAt w (some ⟨b, off, none⟩) zs) (hn : zs.length = 5) (hsa : numAt zs 0 2 = sa) (hho : zs[2]? = some ho) (hsi : numAt zs 3 2 = si) (h1 : ¬ sa = 0) (h2 : ¬ si = 0) (h3 : Hl ho) :
    Calls Try.prog 41 #[.slice (some ⟨b, off, none⟩) 5 c] w fun e w' => e = .returned (.agg #[.int .i64 0, .int .i64 0, .int .i64 0, .int .i64 1, .int .i64 sa, .int .i64 ho, .int .i64 si, .int .i64 0, .int .i64 0, .slice none 0 0, .bool false, .int .i64 0, .slice none 0 0, .int .i64 0, .int .i64 0, .int .i64 0, .slice none 0 0]) ∧ New w w' := by
  have hw := (New.refl w).alloc (.cells #[.int .i64 0, .int .i64 0, .int .i64 0, .int .i64 0, .int .i64 0, .int .i64 0, .int .i64 0, .int .i64 0, .int .i64 0, .slice none 0 0, .bool false, .int .i64 0, .slice none 0 0, .int .i64 0, .int .i64 0, .int .i64 0, .slice none 0 0] 53)
  have bR := Blk.mk w w.heap.size 53 #[.int .i64 0, .int .i64 0, .int .i64 0, .int .i64 0, .int .i64 0, .int .i64 0, .int .i64 0, .int .i64 0, .int .i64 0, .slice none 0 0, .bool false, .int .i64 0, .slice none 0 0, .int .i64 0, .int .i64 0, .int .i64 0, .slice none 0 0] rfl
  have ge0 : w.heap.size ≤ w.heap.size := Nat.le_refl _
  have e1 : (sa == 0) = false := by simpa using h1
  have e2 : (si == 0) = false := by simpa using h2
  have H3 : Hid _ := h3
  clear h1 h2 h3
  have HA : Hid (numAt zs 0 2 = sa) := hsa
  have HI : Hid (numAt zs 3 2 = si) := hsi
  obtain ⟨_, _, z2, e2', hz2, hc2, hz20, hz21⟩ := (h.new hw).at 2 (by omega)
  simp only [Option.some.injEq, Addr.mk.injEq, and_true] at e2'
  obtain ⟨rfl, rfl⟩ := e2'
  obtain rfl : ho = z2 := Option.some.inj (hho.symm.trans hz2)
  have hwz0 : IntKind.i64.wrap ho = ho := by simp [IntKind.wrap, IntKind.signed, IntKind.bits]; omega
  have hB := h.new hw
  clear hsa hsi hho hz2 h
  go_enter Try.func41, Try.ntmps41
  go_upto_region 1 with fail
  generalize w.alloc (.cells #[.int .i64 0, .int .i64 0, .int .i64 0, .int .i64 0, .int .i64 0, .int .i64 0, .int .i64 0, .int .i64 0, .int .i64 0, .slice none 0 0, .bool false, .int .i64 0, .slice none 0 0, .int .i64 0, .int .i64 0, .int .i64 0, .slice none 0 0] 53) = w0 at *
  have cR := bR.cells
  have fR := bR.frees
  clear cR fR
  have hcell : ∀ X, New w0 X → X.cell? ⟨b, off + 2, none⟩ = some (.int .u8 ho) := fun X hX => (hX.below.cell (World.block_lt_of_cell? _ _ hc2)).trans hc2
  go_upto_region 3 with fail
  refine hw_start (n := 11) (S := fun X => New w0 X) rfl (by kernel_rfl) ((New.refl _).drew) (fun hH => ?_)
  refine' hw_take 0 (some 8) _ rfl rfl (by kernel_rfl) (by kernel_rfl) (by kernel_rfl) (fun _ _ _ h => h) (by rfl) hH ?hy28 ?rest28
  case hy28 =>
    intro X hX
    have hcX := hcell X hX
    go_simp
    try rfl
  simp only [Act.put, List.setIfInBounds_toArray, List.set_cons_zero, List.set_cons_succ]
  refine' hw_take 2 (some 10) _ rfl rfl (by kernel_rfl) (by kernel_rfl) (by kernel_rfl) (fun _ _ _ h => h) (by rfl) hH ?hy29 ?rest29
  case hy29 =>
    intro X hX
    have hcX := hcell X hX
    go_simp
    try rfl
  simp only [Act.put, List.setIfInBounds_toArray, List.set_cons_zero, List.set_cons_succ]
  refine' hw_take 3 (some 11) _ rfl rfl (by kernel_rfl) (by kernel_rfl) (by kernel_rfl) (fun _ _ _ h => h) (by rfl) hH ?hy30 ?rest30
  case hy30 =>
    intro X hX
    have hcX := hcell X hX
    go_simp
    try rfl
  simp only [Act.put, List.setIfInBounds_toArray, List.set_cons_zero, List.set_cons_succ]
  refine' hw_take 4 (some 12) _ rfl rfl (by kernel_rfl) (by kernel_rfl) (by kernel_rfl) (fun _ _ _ h => h) (by rfl) hH ?hy31 ?rest31
  case hy31 =>
    intro X hX
    have hcX := hcell X hX
    go_simp
    try rfl
  simp only [Act.put, List.setIfInBounds_toArray, List.set_cons_zero, List.set_cons_succ]
  refine' hw_take 5 (some 13) _ rfl rfl (by kernel_rfl) (by kernel_rfl) (by kernel_rfl) (fun _ _ _ h => h) (by rfl) hH ?hy32 ?rest32
  case hy32 =>
    intro X hX
    have hcX := hcell X hX
    go_simp
    try rfl
  simp only [Act.put, List.setIfInBounds_toArray, List.set_cons_zero, List.set_cons_succ]
  refine' hw_take 6 (some 14) _ rfl rfl (by kernel_rfl) (by kernel_rfl) (by kernel_rfl) (fun _ _ _ h => h) (by rfl) hH ?hy33 ?rest33
  case hy33 =>
    intro X hX
    have hcX := hcell X hX
    go_simp
    try rfl
  simp only [Act.put, List.setIfInBounds_toArray, List.set_cons_zero, List.set_cons_succ]
  refine wpAnyH_ready (rs := [1, 9]) (by kernel_rfl) (by simp) ?_
  refine hw_step 1 (some 9) rfl rfl (by rfl) (fun K hK => ?_) (hw_step 9 (some 3) rfl rfl (by rfl) (fun K hK => ?_) AllReadyH.nil)
  · go_simp
    go_at_call 38
    refine (take_any (some ⟨b, off, none⟩) 5 c 0 2 zs _ (hB.new hH) hn (by omega) (by omega) (by omega)).mono ?_
    rintro e _ ⟨rfl, rfl⟩
    rw [HA.out]
    refine hK.out _ _ hH (fun hH => ?_)
    simp only [Act.put, List.setIfInBounds_toArray, List.set_cons_zero, List.set_cons_succ]
    refine wpAnyH_ready (rs := [7, 9]) (by kernel_rfl) (by simp) ?_
    refine hw_step 7 (some 15) rfl rfl (by rfl) (fun K hK => ?_) (hw_step 9 (some 3) rfl rfl (by rfl) (fun K hK => ?_) AllReadyH.nil)
    · go_simp
      go_at_call 38
      refine (take_any (some ⟨b, off, none⟩) 5 c 3 2 zs _ (hB.new hH) hn (by omega) (by omega) (by omega)).mono ?_
      rintro e _ ⟨rfl, rfl⟩
      rw [HI.out]
      refine hK.out _ _ hH (fun hH => ?_)
      simp only [Act.put, List.setIfInBounds_toArray, List.set_cons_zero, List.set_cons_succ]
      refine' hw_take 8 (some 16) _ rfl rfl (by kernel_rfl) (by kernel_rfl) (by kernel_rfl) (fun _ _ _ h => h) (by rfl) hH ?hy34 ?rest34
      case hy34 =>
        intro X hX
        have hcX := hcell X hX
        go_simp
        try rfl
      simp only [Act.put, List.setIfInBounds_toArray, List.set_cons_zero, List.set_cons_succ]
      refine hw_call 9 (some 3) rfl rfl (by kernel_rfl) (by rfl) (fun K hK => ?_)
      go_simp
      refine hK.out _ _ (hH.alloc _) (fun hH => ?_)
      simp only [Act.put, List.setIfInBounds_toArray, List.set_cons_zero, List.set_cons_succ]
      refine wpAnyH_more (S' := fun X => New w0 X ∧ ∃ o : Array Value, o.size = 14 ∧ Blk X w0.heap.size 51 o) (fun _ h => h.1) _ _ _ _ ?_
      replace hH : New w0 (w0.drew.alloc (.cells #[.int .i64 0, .int .i64 0, .int .i64 0, .int .i64 0, .int .i64 0, .int .i64 0, .slice none 0 0, .bool false, .int .i64 0, .slice none 0 0, .int .i64 0, .int .i64 0, .int .i64 0, .slice none 0 0] 51)) ∧ ∃ o : Array Value, o.size = 14 ∧ Blk (w0.drew.alloc (.cells #[.int .i64 0, .int .i64 0, .int .i64 0, .int .i64 0, .int .i64 0, .int .i64 0, .slice none 0 0, .bool false, .int .i64 0, .slice none 0 0, .int .i64 0, .int .i64 0, .int .i64 0, .slice none 0 0] 51)) w0.heap.size 51 o := ⟨hH, _, rfl, Blk.mk w0.drew w0.heap.size 51 #[.int .i64 0, .int .i64 0, .int .i64 0, .int .i64 0, .int .i64 0, .int .i64 0, .slice none 0 0, .bool false, .int .i64 0, .slice none 0 0, .int .i64 0, .int .i64 0, .int .i64 0, .slice none 0 0] rfl⟩
      refine hw_call 10 none rfl rfl (by kernel_rfl) (by rfl) (fun K hK => ?_)
      obtain ⟨hN9, ob, zb, qb⟩ := hH
      refine hw_store 51 (.tmp 3) (.tmp 16) rfl rfl w0.heap.size #[.int .i64 1, .int .i64 sa, .int .i64 ho, .int .i64 si, .int .i64 0, .int .i64 0, .slice none 0 0, .bool false, .int .i64 0, .slice none 0 0, .int .i64 0, .int .i64 0, .int .i64 0, .slice none 0 0] ob rfl rfl qb (by kernel_rfl) zb (by kernel_rfl) ?_
      have bM := qb.rowW #[.int .i64 1, .int .i64 sa, .int .i64 ho, .int .i64 si, .int .i64 0, .int .i64 0, .slice none 0 0, .bool false, .int .i64 0, .slice none 0 0, .int .i64 0, .int .i64 0, .int .i64 0, .slice none 0 0]
      have hNz : New w0 (World.setRow _ w0.heap.size #[.int .i64 1, .int .i64 sa, .int .i64 ho, .int .i64 si, .int .i64 0, .int .i64 0, .slice none 0 0, .bool false, .int .i64 0, .slice none 0 0, .int .i64 0, .int .i64 0, .int .i64 0, .slice none 0 0]) := hN9.before (Turn.rowW (S := fun k => k = w0.heap.size) (Turn.refl _ _) (show w0.heap.size = w0.heap.size from rfl) #[.int .i64 1, .int .i64 sa, .int .i64 ho, .int .i64 si, .int .i64 0, .int .i64 0, .slice none 0 0, .bool false, .int .i64 0, .slice none 0 0, .int .i64 0, .int .i64 0, .int .i64 0, .slice none 0 0]) (fun i hi e => by omega)
      refine hK.out _ _ ⟨hNz, _, rfl, bM⟩ (fun hH => ?_)
      simp only [Act.put]
      refine wpAnyH_done (by kernel_rfl) ?_ _
      clear hH qb
      have bRz := bR.new hNz
      have hwz := hw.trans hNz
      try rw [show ((w0.alloc (.cells #[.int .i64 0, .int .i64 0, .int .i64 0, .int .i64 0, .int .i64 0, .int .i64 0, .slice none 0 0, .bool false, .int .i64 0, .slice none 0 0, .int .i64 0, .int .i64 0, .int .i64 0, .slice none 0 0] 51)).drew.setRow w0.heap.size #[.int .i64 1, .int .i64 sa, .int .i64 ho, .int .i64 si, .int .i64 0, .int .i64 0, .slice none 0 0, .bool false, .int .i64 0, .slice none 0 0, .int .i64 0, .int .i64 0, .int .i64 0, .slice none 0 0]) = ((w0.drew.alloc (.cells #[.int .i64 0, .int .i64 0, .int .i64 0, .int .i64 0, .int .i64 0, .int .i64 0, .slice none 0 0, .bool false, .int .i64 0, .slice none 0 0, .int .i64 0, .int .i64 0, .int .i64 0, .slice none 0 0] 51)).setRow w0.heap.size #[.int .i64 1, .int .i64 sa, .int .i64 ho, .int .i64 si, .int .i64 0, .int .i64 0, .slice none 0 0, .bool false, .int .i64 0, .slice none 0 0, .int .i64 0, .int .i64 0, .int .i64 0, .slice none 0 0]) from rfl]
      generalize ((w0.drew.alloc (.cells #[.int .i64 0, .int .i64 0, .int .i64 0, .int .i64 0, .int .i64 0, .int .i64 0, .slice none 0 0, .bool false, .int .i64 0, .slice none 0 0, .int .i64 0, .int .i64 0, .int .i64 0, .slice none 0 0] 51)).setRow w0.heap.size #[.int .i64 1, .int .i64 sa, .int .i64 ho, .int .i64 si, .int .i64 0, .int .i64 0, .slice none 0 0, .bool false, .int .i64 0, .slice none 0 0, .int .i64 0, .int .i64 0, .int .i64 0, .slice none 0 0]) = wz at *
      have cM := bM.cells
      go_wp2_with fail
      refine (hold4_yes ho _ H3.out).mono ?_
      rintro e _ ⟨rfl, rfl⟩
      clear cM
      go_upto_region 10 with fail
      apply wp_region_lit
      refine wpList_load_row rfl 51 (.tmp 3) rfl w0.heap.size rfl 51 #[.int .i64 1, .int .i64 sa, .int .i64 ho, .int .i64 si, .int .i64 0, .int .i64 0, .slice none 0 0, .bool false, .int .i64 0, .slice none 0 0, .int .i64 0, .int .i64 0, .int .i64 0, .slice none 0 0] (0, 0) _ bM Try.underlying51 rfl (by kernel_rfl) ?_
      refine wpList_build rfl 53 _ rfl (by kernel_rfl) ?_
      refine wpList_store_row rfl 53 (.tmp 2) (.tmp 31) rfl w.heap.size #[.int .i64 0, .int .i64 0, .int .i64 0, .int .i64 1, .int .i64 sa, .int .i64 ho, .int .i64 si, .int .i64 0, .int .i64 0, .slice none 0 0, .bool false, .int .i64 0, .slice none 0 0, .int .i64 0, .int .i64 0, .int .i64 0, .slice none 0 0] rfl (by kernel_rfl) 53 #[.int .i64 0, .int .i64 0, .int .i64 0, .int .i64 0, .int .i64 0, .int .i64 0, .int .i64 0, .int .i64 0, .int .i64 0, .slice none 0 0, .bool false, .int .i64 0, .slice none 0 0, .int .i64 0, .int .i64 0, .int .i64 0, .slice none 0 0] bRz (by kernel_rfl) rfl (by kernel_rfl) ?_
      go_wp2
      refine bodyPost_ret (v := .agg #[.int .i64 0, .int .i64 0, .int .i64 0, .int .i64 1, .int .i64 sa, .int .i64 ho, .int .i64 si, .int .i64 0, .int .i64 0, .slice none 0 0, .bool false, .int .i64 0, .slice none 0 0, .int .i64 0, .int .i64 0, .int .i64 0, .slice none 0 0]) ?_ rfl ⟨rfl, hwz.row (Nat.le_refl _) _⟩
      exact results_row (B := w.heap.size) (cs := #[.int .i64 0, .int .i64 0, .int .i64 0, .int .i64 1, .int .i64 sa, .int .i64 ho, .int .i64 si, .int .i64 0, .int .i64 0, .slice none 0 0, .bool false, .int .i64 0, .slice none 0 0, .int .i64 0, .int .i64 0, .int .i64 0, .slice none 0 0]) rfl rfl (bRz.row _) ⟨_, Try.underlying53⟩ (by kernel_rfl)
    · go_simp
      refine hK.out _ _ (hH.alloc _) (fun hH => ?_)
      simp only [Act.put, List.setIfInBounds_toArray, List.set_cons_zero, List.set_cons_succ]
      refine wpAnyH_more (S' := fun X => New w0 X ∧ ∃ o : Array Value, o.size = 14 ∧ Blk X w0.heap.size 51 o) (fun _ h => h.1) _ _ _ _ ?_
      replace hH : New w0 (w0.drew.alloc (.cells #[.int .i64 0, .int .i64 0, .int .i64 0, .int .i64 0, .int .i64 0, .int .i64 0, .slice none 0 0, .bool false, .int .i64 0, .slice none 0 0, .int .i64 0, .int .i64 0, .int .i64 0, .slice none 0 0] 51)) ∧ ∃ o : Array Value, o.size = 14 ∧ Blk (w0.drew.alloc (.cells #[.int .i64 0, .int .i64 0, .int .i64 0, .int .i64 0, .int .i64 0, .int .i64 0, .slice none 0 0, .bool false, .int .i64 0, .slice none 0 0, .int .i64 0, .int .i64 0, .int .i64 0, .slice none 0 0] 51)) w0.heap.size 51 o := ⟨hH, _, rfl, Blk.mk w0.drew w0.heap.size 51 #[.int .i64 0, .int .i64 0, .int .i64 0, .int .i64 0, .int .i64 0, .int .i64 0, .slice none 0 0, .bool false, .int .i64 0, .slice none 0 0, .int .i64 0, .int .i64 0, .int .i64 0, .slice none 0 0] rfl⟩
      refine hw_call 7 (some 15) rfl rfl (by kernel_rfl) (by rfl) (fun K hK => ?_)
      go_simp
      go_at_call 38
      refine (take_any (some ⟨b, off, none⟩) 5 c 3 2 zs _ (hB.new hH.1) hn (by omega) (by omega) (by omega)).mono ?_
      rintro e _ ⟨rfl, rfl⟩
      rw [HI.out]
      refine hK.out _ _ hH (fun hH => ?_)
      simp only [Act.put, List.setIfInBounds_toArray, List.set_cons_zero, List.set_cons_succ]
      refine' hw_take 8 (some 16) _ rfl rfl (by kernel_rfl) (by kernel_rfl) (by kernel_rfl) (fun _ _ _ h => h) (by rfl) hH ?hy35 ?rest35
      case hy35 =>
        intro X hX
        have hcX := hcell X hX.1
        go_simp
        try rfl
      simp only [Act.put, List.setIfInBounds_toArray, List.set_cons_zero, List.set_cons_succ]
      refine hw_call 10 none rfl rfl (by kernel_rfl) (by rfl) (fun K hK => ?_)
      obtain ⟨hN9, ob, zb, qb⟩ := hH
      refine hw_store 51 (.tmp 3) (.tmp 16) rfl rfl w0.heap.size #[.int .i64 1, .int .i64 sa, .int .i64 ho, .int .i64 si, .int .i64 0, .int .i64 0, .slice none 0 0, .bool false, .int .i64 0, .slice none 0 0, .int .i64 0, .int .i64 0, .int .i64 0, .slice none 0 0] ob rfl rfl qb (by kernel_rfl) zb (by kernel_rfl) ?_
      have bM := qb.rowW #[.int .i64 1, .int .i64 sa, .int .i64 ho, .int .i64 si, .int .i64 0, .int .i64 0, .slice none 0 0, .bool false, .int .i64 0, .slice none 0 0, .int .i64 0, .int .i64 0, .int .i64 0, .slice none 0 0]
      have hNz : New w0 (World.setRow _ w0.heap.size #[.int .i64 1, .int .i64 sa, .int .i64 ho, .int .i64 si, .int .i64 0, .int .i64 0, .slice none 0 0, .bool false, .int .i64 0, .slice none 0 0, .int .i64 0, .int .i64 0, .int .i64 0, .slice none 0 0]) := hN9.before (Turn.rowW (S := fun k => k = w0.heap.size) (Turn.refl _ _) (show w0.heap.size = w0.heap.size from rfl) #[.int .i64 1, .int .i64 sa, .int .i64 ho, .int .i64 si, .int .i64 0, .int .i64 0, .slice none 0 0, .bool false, .int .i64 0, .slice none 0 0, .int .i64 0, .int .i64 0, .int .i64 0, .slice none 0 0]) (fun i hi e => by omega)
      refine hK.out _ _ ⟨hNz, _, rfl, bM⟩ (fun hH => ?_)
      simp only [Act.put]
      refine wpAnyH_done (by kernel_rfl) ?_ _
      clear hH qb
      have bRz := bR.new hNz
      have hwz := hw.trans hNz
      try rw [show ((w0.alloc (.cells #[.int .i64 0, .int .i64 0, .int .i64 0, .int .i64 0, .int .i64 0, .int .i64 0, .slice none 0 0, .bool false, .int .i64 0, .slice none 0 0, .int .i64 0, .int .i64 0, .int .i64 0, .slice none 0 0] 51)).drew.setRow w0.heap.size #[.int .i64 1, .int .i64 sa, .int .i64 ho, .int .i64 si, .int .i64 0, .int .i64 0, .slice none 0 0, .bool false, .int .i64 0, .slice none 0 0, .int .i64 0, .int .i64 0, .int .i64 0, .slice none 0 0]) = ((w0.drew.alloc (.cells #[.int .i64 0, .int .i64 0, .int .i64 0, .int .i64 0, .int .i64 0, .int .i64 0, .slice none 0 0, .bool false, .int .i64 0, .slice none 0 0, .int .i64 0, .int .i64 0, .int .i64 0, .slice none 0 0] 51)).setRow w0.heap.size #[.int .i64 1, .int .i64 sa, .int .i64 ho, .int .i64 si, .int .i64 0, .int .i64 0, .slice none 0 0, .bool false, .int .i64 0, .slice none 0 0, .int .i64 0, .int .i64 0, .int .i64 0, .slice none 0 0]) from rfl]
      generalize ((w0.drew.alloc (.cells #[.int .i64 0, .int .i64 0, .int .i64 0, .int .i64 0, .int .i64 0, .int .i64 0, .slice none 0 0, .bool false, .int .i64 0, .slice none 0 0, .int .i64 0, .int .i64 0, .int .i64 0, .slice none 0 0] 51)).setRow w0.heap.size #[.int .i64 1, .int .i64 sa, .int .i64 ho, .int .i64 si, .int .i64 0, .int .i64 0, .slice none 0 0, .bool false, .int .i64 0, .slice none 0 0, .int .i64 0, .int .i64 0, .int .i64 0, .slice none 0 0]) = wz at *
      have cM := bM.cells
      go_wp2_with fail
      refine (hold4_yes ho _ H3.out).mono ?_
      rintro e _ ⟨rfl, rfl⟩
      clear cM
      go_upto_region 10 with fail
      apply wp_region_lit
      refine wpList_load_row rfl 51 (.tmp 3) rfl w0.heap.size rfl 51 #[.int .i64 1, .int .i64 sa, .int .i64 ho, .int .i64 si, .int .i64 0, .int .i64 0, .slice none 0 0, .bool false, .int .i64 0, .slice none 0 0, .int .i64 0, .int .i64 0, .int .i64 0, .slice none 0 0] (0, 0) _ bM Try.underlying51 rfl (by kernel_rfl) ?_
      refine wpList_build rfl 53 _ rfl (by kernel_rfl) ?_
      refine wpList_store_row rfl 53 (.tmp 2) (.tmp 31) rfl w.heap.size #[.int .i64 0, .int .i64 0, .int .i64 0, .int .i64 1, .int .i64 sa, .int .i64 ho, .int .i64 si, .int .i64 0, .int .i64 0, .slice none 0 0, .bool false, .int .i64 0, .slice none 0 0, .int .i64 0, .int .i64 0, .int .i64 0, .slice none 0 0] rfl (by kernel_rfl) 53 #[.int .i64 0, .int .i64 0, .int .i64 0, .int .i64 0, .int .i64 0, .int .i64 0, .int .i64 0, .int .i64 0, .int .i64 0, .slice none 0 0, .bool false, .int .i64 0, .slice none 0 0, .int .i64 0, .int .i64 0, .int .i64 0, .slice none 0 0] bRz (by kernel_rfl) rfl (by kernel_rfl) ?_
      go_wp2
      refine bodyPost_ret (v := .agg #[.int .i64 0, .int .i64 0, .int .i64 0, .int .i64 1, .int .i64 sa, .int .i64 ho, .int .i64 si, .int .i64 0, .int .i64 0, .slice none 0 0, .bool false, .int .i64 0, .slice none 0 0, .int .i64 0, .int .i64 0, .int .i64 0, .slice none 0 0]) ?_ rfl ⟨rfl, hwz.row (Nat.le_refl _) _⟩
      exact results_row (B := w.heap.size) (cs := #[.int .i64 0, .int .i64 0, .int .i64 0, .int .i64 1, .int .i64 sa, .int .i64 ho, .int .i64 si, .int .i64 0, .int .i64 0, .slice none 0 0, .bool false, .int .i64 0, .slice none 0 0, .int .i64 0, .int .i64 0, .int .i64 0, .slice none 0 0]) rfl rfl (bRz.row _) ⟨_, Try.underlying53⟩ (by kernel_rfl)
  · go_simp
    refine hK.out _ _ (hH.alloc _) (fun hH => ?_)
    simp only [Act.put, List.setIfInBounds_toArray, List.set_cons_zero, List.set_cons_succ]
    refine wpAnyH_more (S' := fun X => New w0 X ∧ ∃ o : Array Value, o.size = 14 ∧ Blk X w0.heap.size 51 o) (fun _ h => h.1) _ _ _ _ ?_
    replace hH : New w0 (w0.drew.alloc (.cells #[.int .i64 0, .int .i64 0, .int .i64 0, .int .i64 0, .int .i64 0, .int .i64 0, .slice none 0 0, .bool false, .int .i64 0, .slice none 0 0, .int .i64 0, .int .i64 0, .int .i64 0, .slice none 0 0] 51)) ∧ ∃ o : Array Value, o.size = 14 ∧ Blk (w0.drew.alloc (.cells #[.int .i64 0, .int .i64 0, .int .i64 0, .int .i64 0, .int .i64 0, .int .i64 0, .slice none 0 0, .bool false, .int .i64 0, .slice none 0 0, .int .i64 0, .int .i64 0, .int .i64 0, .slice none 0 0] 51)) w0.heap.size 51 o := ⟨hH, _, rfl, Blk.mk w0.drew w0.heap.size 51 #[.int .i64 0, .int .i64 0, .int .i64 0, .int .i64 0, .int .i64 0, .int .i64 0, .slice none 0 0, .bool false, .int .i64 0, .slice none 0 0, .int .i64 0, .int .i64 0, .int .i64 0, .slice none 0 0] rfl⟩
    refine hw_call 1 (some 9) rfl rfl (by kernel_rfl) (by rfl) (fun K hK => ?_)
    go_simp
    go_at_call 38
    refine (take_any (some ⟨b, off, none⟩) 5 c 0 2 zs _ (hB.new hH.1) hn (by omega) (by omega) (by omega)).mono ?_
    rintro e _ ⟨rfl, rfl⟩
    rw [HA.out]
    refine hK.out _ _ hH (fun hH => ?_)
    simp only [Act.put, List.setIfInBounds_toArray, List.set_cons_zero, List.set_cons_succ]
    refine hw_call 7 (some 15) rfl rfl (by kernel_rfl) (by rfl) (fun K hK => ?_)
    go_simp
    go_at_call 38
    refine (take_any (some ⟨b, off, none⟩) 5 c 3 2 zs _ (hB.new hH.1) hn (by omega) (by omega) (by omega)).mono ?_
    rintro e _ ⟨rfl, rfl⟩
    rw [HI.out]
    refine hK.out _ _ hH (fun hH => ?_)
    simp only [Act.put, List.setIfInBounds_toArray, List.set_cons_zero, List.set_cons_succ]
    refine' hw_take 8 (some 16) _ rfl rfl (by kernel_rfl) (by kernel_rfl) (by kernel_rfl) (fun _ _ _ h => h) (by rfl) hH ?hy36 ?rest36
    case hy36 =>
      intro X hX
      have hcX := hcell X hX.1
      go_simp
      try rfl
    simp only [Act.put, List.setIfInBounds_toArray, List.set_cons_zero, List.set_cons_succ]
    refine hw_call 10 none rfl rfl (by kernel_rfl) (by rfl) (fun K hK => ?_)
    obtain ⟨hN9, ob, zb, qb⟩ := hH
    refine hw_store 51 (.tmp 3) (.tmp 16) rfl rfl w0.heap.size #[.int .i64 1, .int .i64 sa, .int .i64 ho, .int .i64 si, .int .i64 0, .int .i64 0, .slice none 0 0, .bool false, .int .i64 0, .slice none 0 0, .int .i64 0, .int .i64 0, .int .i64 0, .slice none 0 0] ob rfl rfl qb (by kernel_rfl) zb (by kernel_rfl) ?_
    have bM := qb.rowW #[.int .i64 1, .int .i64 sa, .int .i64 ho, .int .i64 si, .int .i64 0, .int .i64 0, .slice none 0 0, .bool false, .int .i64 0, .slice none 0 0, .int .i64 0, .int .i64 0, .int .i64 0, .slice none 0 0]
    have hNz : New w0 (World.setRow _ w0.heap.size #[.int .i64 1, .int .i64 sa, .int .i64 ho, .int .i64 si, .int .i64 0, .int .i64 0, .slice none 0 0, .bool false, .int .i64 0, .slice none 0 0, .int .i64 0, .int .i64 0, .int .i64 0, .slice none 0 0]) := hN9.before (Turn.rowW (S := fun k => k = w0.heap.size) (Turn.refl _ _) (show w0.heap.size = w0.heap.size from rfl) #[.int .i64 1, .int .i64 sa, .int .i64 ho, .int .i64 si, .int .i64 0, .int .i64 0, .slice none 0 0, .bool false, .int .i64 0, .slice none 0 0, .int .i64 0, .int .i64 0, .int .i64 0, .slice none 0 0]) (fun i hi e => by omega)
    refine hK.out _ _ ⟨hNz, _, rfl, bM⟩ (fun hH => ?_)
    simp only [Act.put]
    refine wpAnyH_done (by kernel_rfl) ?_ _
    clear hH qb
    have bRz := bR.new hNz
    have hwz := hw.trans hNz
    try rw [show ((w0.alloc (.cells #[.int .i64 0, .int .i64 0, .int .i64 0, .int .i64 0, .int .i64 0, .int .i64 0, .slice none 0 0, .bool false, .int .i64 0, .slice none 0 0, .int .i64 0, .int .i64 0, .int .i64 0, .slice none 0 0] 51)).drew.setRow w0.heap.size #[.int .i64 1, .int .i64 sa, .int .i64 ho, .int .i64 si, .int .i64 0, .int .i64 0, .slice none 0 0, .bool false, .int .i64 0, .slice none 0 0, .int .i64 0, .int .i64 0, .int .i64 0, .slice none 0 0]) = ((w0.drew.alloc (.cells #[.int .i64 0, .int .i64 0, .int .i64 0, .int .i64 0, .int .i64 0, .int .i64 0, .slice none 0 0, .bool false, .int .i64 0, .slice none 0 0, .int .i64 0, .int .i64 0, .int .i64 0, .slice none 0 0] 51)).setRow w0.heap.size #[.int .i64 1, .int .i64 sa, .int .i64 ho, .int .i64 si, .int .i64 0, .int .i64 0, .slice none 0 0, .bool false, .int .i64 0, .slice none 0 0, .int .i64 0, .int .i64 0, .int .i64 0, .slice none 0 0]) from rfl]
    generalize ((w0.drew.alloc (.cells #[.int .i64 0, .int .i64 0, .int .i64 0, .int .i64 0, .int .i64 0, .int .i64 0, .slice none 0 0, .bool false, .int .i64 0, .slice none 0 0, .int .i64 0, .int .i64 0, .int .i64 0, .slice none 0 0] 51)).setRow w0.heap.size #[.int .i64 1, .int .i64 sa, .int .i64 ho, .int .i64 si, .int .i64 0, .int .i64 0, .slice none 0 0, .bool false, .int .i64 0, .slice none 0 0, .int .i64 0, .int .i64 0, .int .i64 0, .slice none 0 0]) = wz at *
    have cM := bM.cells
    go_wp2_with fail
    refine (hold4_yes ho _ H3.out).mono ?_
    rintro e _ ⟨rfl, rfl⟩
    clear cM
    go_upto_region 10 with fail
    apply wp_region_lit
    refine wpList_load_row rfl 51 (.tmp 3) rfl w0.heap.size rfl 51 #[.int .i64 1, .int .i64 sa, .int .i64 ho, .int .i64 si, .int .i64 0, .int .i64 0, .slice none 0 0, .bool false, .int .i64 0, .slice none 0 0, .int .i64 0, .int .i64 0, .int .i64 0, .slice none 0 0] (0, 0) _ bM Try.underlying51 rfl (by kernel_rfl) ?_
    refine wpList_build rfl 53 _ rfl (by kernel_rfl) ?_
    refine wpList_store_row rfl 53 (.tmp 2) (.tmp 31) rfl w.heap.size #[.int .i64 0, .int .i64 0, .int .i64 0, .int .i64 1, .int .i64 sa, .int .i64 ho, .int .i64 si, .int .i64 0, .int .i64 0, .slice none 0 0, .bool false, .int .i64 0, .slice none 0 0, .int .i64 0, .int .i64 0, .int .i64 0, .slice none 0 0] rfl (by kernel_rfl) 53 #[.int .i64 0, .int .i64 0, .int .i64 0, .int .i64 0, .int .i64 0, .int .i64 0, .int .i64 0, .int .i64 0, .int .i64 0, .slice none 0 0, .bool false, .int .i64 0, .slice none 0 0, .int .i64 0, .int .i64 0, .int .i64 0, .slice none 0 0] bRz (by kernel_rfl) rfl (by kernel_rfl) ?_
    go_wp2
    refine bodyPost_ret (v := .agg #[.int .i64 0, .int .i64 0, .int .i64 0, .int .i64 1, .int .i64 sa, .int .i64 ho, .int .i64 si, .int .i64 0, .int .i64 0, .slice none 0 0, .bool false, .int .i64 0, .slice none 0 0, .int .i64 0, .int .i64 0, .int .i64 0, .slice none 0 0]) ?_ rfl ⟨rfl, hwz.row (Nat.le_refl _) _⟩
    exact results_row (B := w.heap.size) (cs := #[.int .i64 0, .int .i64 0, .int .i64 0, .int .i64 1, .int .i64 sa, .int .i64 ho, .int .i64 si, .int .i64 0, .int .i64 0, .slice none 0 0, .bool false, .int .i64 0, .slice none 0 0, .int .i64 0, .int .i64 0, .int .i64 0, .slice none 0 0]) rfl rfl (bRz.row _) ⟨_, Try.underlying53⟩ (by kernel_rfl)


end Go.Proofs.Ytljkcijakdhdiaa
