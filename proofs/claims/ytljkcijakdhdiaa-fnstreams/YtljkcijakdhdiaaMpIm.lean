/- What is proved here: what the reading of a frame as a message answers, in the program, for every frame with at most 1048576 bytes. -/
import Derived.Test.YtljkcijakdhdiaaMpNt
import Derived.Test.YtljkcijakdhdiaaMpUp
import Derived.Test.YtljkcijakdhdiaaPackFn
namespace Go.Proofs.Ytljkcijakdhdiaa
open Go.RowKit Go.Sort
set_option linter.unusedVariables false

/-- What the reading of a frame as a message tells: its numbers. -/
def mh (k : Int) (zs : List Int) : MH := if ff k zs.length ≠ 0 then mhB (ff k zs.length) 1 3 else if k = 1 then mhO zs else if k = 2 then mhU (pu zs) else if k = 3 then mhN zs else mhK zs
/-- What the reading of a frame as a message tells: its update. -/
def mp (k : Int) (zs : List Int) : PU := if ff k zs.length ≠ 0 then puZ 0 else if k = 2 then mpU (pu zs) else puZ 0

theorem mh_bad {k : Int} {zs : List Int} (h : ff k zs.length ≠ 0) : mh k zs = mhB (ff k zs.length) 1 3 ∧ mp k zs = puZ 0 := ⟨if_pos h, if_pos h⟩
theorem mh_1 {zs : List Int} (h : ¬ ff 1 zs.length ≠ 0) : mh 1 zs = mhO zs ∧ mp 1 zs = puZ 0 := ⟨by unfold mh; rw [if_neg h, if_pos rfl], by unfold mp; rw [if_neg h, if_neg (by omega)]⟩
theorem mh_2 {zs : List Int} (h : ¬ ff 2 zs.length ≠ 0) : mh 2 zs = mhU (pu zs) ∧ mp 2 zs = mpU (pu zs) := ⟨by unfold mh; rw [if_neg h, if_neg (by omega), if_pos rfl], by unfold mp; rw [if_neg h, if_pos rfl]⟩
theorem mh_3 {zs : List Int} (h : ¬ ff 3 zs.length ≠ 0) : mh 3 zs = mhN zs ∧ mp 3 zs = puZ 0 := ⟨by unfold mh; rw [if_neg h, if_neg (by omega), if_neg (by omega), if_pos rfl], by unfold mp; rw [if_neg h, if_neg (by omega)]⟩
theorem mh_4 {zs : List Int} (h : ¬ ff 4 zs.length ≠ 0) : mh 4 zs = mhK zs ∧ mp 4 zs = puZ 0 := ⟨by unfold mh; rw [if_neg h, if_neg (by omega), if_neg (by omega), if_neg (by omega)], by unfold mp; rw [if_neg h, if_neg (by omega)]⟩

set_option maxHeartbeats 3200000 in
theorem parse_1 (a : Option Addr) (n c : Nat) (H : MH) (p : PU) (w : World) (hm : n ≤ 1048576) (hff : ff 1 n = 0)
    (hcall : ∀ W, New w W → Calls Try.prog 33 #[.slice a n c] W fun e w' => ∃ x y z, e = .returned (mrV H p x y z) ∧ Got w' W.heap.size p x y z ∧ New W w') :
    Calls Try.prog 20 #[.agg #[.int .i64 1, .slice a n c]] w fun e w' => ∃ x y z, e = .returned (mrV H p x y z) ∧ Got w' w.heap.size p x y z ∧ New w w' := by
  have hw := ((New.refl w).alloc (.cells #[.int .i64 1, .slice a n c] 43)).alloc (.cells #[.int .i64 0, .int .i64 0, .int .i64 0, .int .i64 0, .int .i64 0, .int .i64 0, .int .i64 0, .int .i64 0, .int .i64 0, .slice none 0 0, .bool false, .int .i64 0, .slice none 0 0, .int .i64 0, .int .i64 0, .int .i64 0, .slice none 0 0] 53)
  have bF : Blk ((w.alloc (.cells #[.int .i64 1, .slice a n c] 43)).alloc (.cells #[.int .i64 0, .int .i64 0, .int .i64 0, .int .i64 0, .int .i64 0, .int .i64 0, .int .i64 0, .int .i64 0, .int .i64 0, .slice none 0 0, .bool false, .int .i64 0, .slice none 0 0, .int .i64 0, .int .i64 0, .int .i64 0, .slice none 0 0] 53)) w.heap.size 43 #[.int .i64 1, .slice a n c] := (Blk.mk _ _ _ _ rfl).alloc _
  have bR : Blk ((w.alloc (.cells #[.int .i64 1, .slice a n c] 43)).alloc (.cells #[.int .i64 0, .int .i64 0, .int .i64 0, .int .i64 0, .int .i64 0, .int .i64 0, .int .i64 0, .int .i64 0, .int .i64 0, .slice none 0 0, .bool false, .int .i64 0, .slice none 0 0, .int .i64 0, .int .i64 0, .int .i64 0, .slice none 0 0] 53)) (w.heap.size + 1) 53 #[.int .i64 0, .int .i64 0, .int .i64 0, .int .i64 0, .int .i64 0, .int .i64 0, .int .i64 0, .int .i64 0, .int .i64 0, .slice none 0 0, .bool false, .int .i64 0, .slice none 0 0, .int .i64 0, .int .i64 0, .int .i64 0, .slice none 0 0] := Blk.mk _ _ _ _ (by simp)
  have sz : ((w.alloc (.cells #[.int .i64 1, .slice a n c] 43)).alloc (.cells #[.int .i64 0, .int .i64 0, .int .i64 0, .int .i64 0, .int .i64 0, .int .i64 0, .int .i64 0, .int .i64 0, .int .i64 0, .slice none 0 0, .bool false, .int .i64 0, .slice none 0 0, .int .i64 0, .int .i64 0, .int .i64 0, .slice none 0 0] 53)).heap.size = w.heap.size + 2 := by simp
  have ge1 : w.heap.size ≤ w.heap.size + 1 := by omega
  have HF : Hid (ff 1 n = 0) := hff
  clear hff
  go_enter Try.func20, Try.ntmps20
  go_upto_region 1 with fail
  generalize ((w.alloc (.cells #[.int .i64 1, .slice a n c] 43)).alloc (.cells #[.int .i64 0, .int .i64 0, .int .i64 0, .int .i64 0, .int .i64 0, .int .i64 0, .int .i64 0, .int .i64 0, .int .i64 0, .slice none 0 0, .bool false, .int .i64 0, .slice none 0 0, .int .i64 0, .int .i64 0, .int .i64 0, .slice none 0 0] 53)) = w0 at *
  have cF0 := bF.cells
  go_wp2_with fail
  refine (implFF 1 a n c _ hm).mono ?_
  rintro e w1 ⟨rfl, hn1⟩
  rw [HF.out]
  have hw1 := hw.trans hn1
  have bF1 := bF.new hn1
  have bR1 := bR.new hn1
  have s1 := hn1.size
  have cF := bF1.cells
  clear cF0
  have key := hcall w1 hw1
  clear hcall
  go_wp2_with fail
  refine key.mono ?_
  rintro e w2 ⟨x, y, z, rfl, hG, hn2⟩
  obtain ⟨ga, gc, ex⟩ := hG.g.slice
  obtain ⟨xa, xc, ey⟩ := hG.n.slice
  obtain ⟨ra, rc, ez⟩ := hG.r.slice
  subst ex
  subst ey
  subst ez
  have hw2 := hw1.trans hn2
  have bR2 := bR1.new hn2
  unfold mrV
  go_wp2_with (refine wpList_store_row rfl 53 (.tmp 2) (.tmp 16) rfl (w.heap.size + 1) #[.int .i64 H.code, .int .i64 H.why, .int .i64 H.sub, .int .i64 H.kd, .int .i64 H.sa, .int .i64 H.ho, .int .i64 H.si, .int .i64 H.wh, .int .i64 H.su, .slice ga p.gs.length gc, .bool p.has, .int .i64 p.o, .slice xa p.xs.length xc, .int .i64 p.nx, .int .i64 p.md, .int .i64 p.lc, .slice ra p.rs.length rc] rfl rfl 53 #[.int .i64 0, .int .i64 0, .int .i64 0, .int .i64 0, .int .i64 0, .int .i64 0, .int .i64 0, .int .i64 0, .int .i64 0, .slice none 0 0, .bool false, .int .i64 0, .slice none 0 0, .int .i64 0, .int .i64 0, .int .i64 0, .slice none 0 0] bR2 (by kernel_rfl) rfl (by kernel_rfl) ?_)
  go_wp2
  refine bodyPost_ret (v := .agg #[.int .i64 H.code, .int .i64 H.why, .int .i64 H.sub, .int .i64 H.kd, .int .i64 H.sa, .int .i64 H.ho, .int .i64 H.si, .int .i64 H.wh, .int .i64 H.su, .slice ga p.gs.length gc, .bool p.has, .int .i64 p.o, .slice xa p.xs.length xc, .int .i64 p.nx, .int .i64 p.md, .int .i64 p.lc, .slice ra p.rs.length rc]) ?_ rfl ⟨_, _, _, rfl, (hG.turn (S := fun k => k = w.heap.size + 1) (Turn.row (Turn.refl _ _) _) (fun g hg e => by omega)).low hw1.size, hw2.row ge1 _⟩
  exact results_row (B := w.heap.size + 1) (cs := #[.int .i64 H.code, .int .i64 H.why, .int .i64 H.sub, .int .i64 H.kd, .int .i64 H.sa, .int .i64 H.ho, .int .i64 H.si, .int .i64 H.wh, .int .i64 H.su, .slice ga p.gs.length gc, .bool p.has, .int .i64 p.o, .slice xa p.xs.length xc, .int .i64 p.nx, .int .i64 p.md, .int .i64 p.lc, .slice ra p.rs.length rc]) rfl rfl (bR2.row _) ⟨_, Try.underlying53⟩ (by kernel_rfl)

set_option maxHeartbeats 3200000 in
theorem parse_2 (a : Option Addr) (n c : Nat) (H : MH) (p : PU) (w : World) (hm : n ≤ 1048576) (hff : ff 2 n = 0)
    (hcall : ∀ W, New w W → Calls Try.prog 34 #[.slice a n c] W fun e w' => ∃ x y z, e = .returned (mrV H p x y z) ∧ Got w' W.heap.size p x y z ∧ New W w') :
    Calls Try.prog 20 #[.agg #[.int .i64 2, .slice a n c]] w fun e w' => ∃ x y z, e = .returned (mrV H p x y z) ∧ Got w' w.heap.size p x y z ∧ New w w' := by
  have hw := ((New.refl w).alloc (.cells #[.int .i64 2, .slice a n c] 43)).alloc (.cells #[.int .i64 0, .int .i64 0, .int .i64 0, .int .i64 0, .int .i64 0, .int .i64 0, .int .i64 0, .int .i64 0, .int .i64 0, .slice none 0 0, .bool false, .int .i64 0, .slice none 0 0, .int .i64 0, .int .i64 0, .int .i64 0, .slice none 0 0] 53)
  have bF : Blk ((w.alloc (.cells #[.int .i64 2, .slice a n c] 43)).alloc (.cells #[.int .i64 0, .int .i64 0, .int .i64 0, .int .i64 0, .int .i64 0, .int .i64 0, .int .i64 0, .int .i64 0, .int .i64 0, .slice none 0 0, .bool false, .int .i64 0, .slice none 0 0, .int .i64 0, .int .i64 0, .int .i64 0, .slice none 0 0] 53)) w.heap.size 43 #[.int .i64 2, .slice a n c] := (Blk.mk _ _ _ _ rfl).alloc _
  have bR : Blk ((w.alloc (.cells #[.int .i64 2, .slice a n c] 43)).alloc (.cells #[.int .i64 0, .int .i64 0, .int .i64 0, .int .i64 0, .int .i64 0, .int .i64 0, .int .i64 0, .int .i64 0, .int .i64 0, .slice none 0 0, .bool false, .int .i64 0, .slice none 0 0, .int .i64 0, .int .i64 0, .int .i64 0, .slice none 0 0] 53)) (w.heap.size + 1) 53 #[.int .i64 0, .int .i64 0, .int .i64 0, .int .i64 0, .int .i64 0, .int .i64 0, .int .i64 0, .int .i64 0, .int .i64 0, .slice none 0 0, .bool false, .int .i64 0, .slice none 0 0, .int .i64 0, .int .i64 0, .int .i64 0, .slice none 0 0] := Blk.mk _ _ _ _ (by simp)
  have sz : ((w.alloc (.cells #[.int .i64 2, .slice a n c] 43)).alloc (.cells #[.int .i64 0, .int .i64 0, .int .i64 0, .int .i64 0, .int .i64 0, .int .i64 0, .int .i64 0, .int .i64 0, .int .i64 0, .slice none 0 0, .bool false, .int .i64 0, .slice none 0 0, .int .i64 0, .int .i64 0, .int .i64 0, .slice none 0 0] 53)).heap.size = w.heap.size + 2 := by simp
  have ge1 : w.heap.size ≤ w.heap.size + 1 := by omega
  have HF : Hid (ff 2 n = 0) := hff
  clear hff
  go_enter Try.func20, Try.ntmps20
  go_upto_region 1 with fail
  generalize ((w.alloc (.cells #[.int .i64 2, .slice a n c] 43)).alloc (.cells #[.int .i64 0, .int .i64 0, .int .i64 0, .int .i64 0, .int .i64 0, .int .i64 0, .int .i64 0, .int .i64 0, .int .i64 0, .slice none 0 0, .bool false, .int .i64 0, .slice none 0 0, .int .i64 0, .int .i64 0, .int .i64 0, .slice none 0 0] 53)) = w0 at *
  have cF0 := bF.cells
  go_wp2_with fail
  refine (implFF 2 a n c _ hm).mono ?_
  rintro e w1 ⟨rfl, hn1⟩
  rw [HF.out]
  have hw1 := hw.trans hn1
  have bF1 := bF.new hn1
  have bR1 := bR.new hn1
  have s1 := hn1.size
  have cF := bF1.cells
  clear cF0
  have key := hcall w1 hw1
  clear hcall
  go_wp2_with fail
  refine key.mono ?_
  rintro e w2 ⟨x, y, z, rfl, hG, hn2⟩
  obtain ⟨ga, gc, ex⟩ := hG.g.slice
  obtain ⟨xa, xc, ey⟩ := hG.n.slice
  obtain ⟨ra, rc, ez⟩ := hG.r.slice
  subst ex
  subst ey
  subst ez
  have hw2 := hw1.trans hn2
  have bR2 := bR1.new hn2
  unfold mrV
  go_wp2_with (refine wpList_store_row rfl 53 (.tmp 2) (.tmp 21) rfl (w.heap.size + 1) #[.int .i64 H.code, .int .i64 H.why, .int .i64 H.sub, .int .i64 H.kd, .int .i64 H.sa, .int .i64 H.ho, .int .i64 H.si, .int .i64 H.wh, .int .i64 H.su, .slice ga p.gs.length gc, .bool p.has, .int .i64 p.o, .slice xa p.xs.length xc, .int .i64 p.nx, .int .i64 p.md, .int .i64 p.lc, .slice ra p.rs.length rc] rfl rfl 53 #[.int .i64 0, .int .i64 0, .int .i64 0, .int .i64 0, .int .i64 0, .int .i64 0, .int .i64 0, .int .i64 0, .int .i64 0, .slice none 0 0, .bool false, .int .i64 0, .slice none 0 0, .int .i64 0, .int .i64 0, .int .i64 0, .slice none 0 0] bR2 (by kernel_rfl) rfl (by kernel_rfl) ?_)
  go_wp2
  refine bodyPost_ret (v := .agg #[.int .i64 H.code, .int .i64 H.why, .int .i64 H.sub, .int .i64 H.kd, .int .i64 H.sa, .int .i64 H.ho, .int .i64 H.si, .int .i64 H.wh, .int .i64 H.su, .slice ga p.gs.length gc, .bool p.has, .int .i64 p.o, .slice xa p.xs.length xc, .int .i64 p.nx, .int .i64 p.md, .int .i64 p.lc, .slice ra p.rs.length rc]) ?_ rfl ⟨_, _, _, rfl, (hG.turn (S := fun k => k = w.heap.size + 1) (Turn.row (Turn.refl _ _) _) (fun g hg e => by omega)).low hw1.size, hw2.row ge1 _⟩
  exact results_row (B := w.heap.size + 1) (cs := #[.int .i64 H.code, .int .i64 H.why, .int .i64 H.sub, .int .i64 H.kd, .int .i64 H.sa, .int .i64 H.ho, .int .i64 H.si, .int .i64 H.wh, .int .i64 H.su, .slice ga p.gs.length gc, .bool p.has, .int .i64 p.o, .slice xa p.xs.length xc, .int .i64 p.nx, .int .i64 p.md, .int .i64 p.lc, .slice ra p.rs.length rc]) rfl rfl (bR2.row _) ⟨_, Try.underlying53⟩ (by kernel_rfl)

set_option maxHeartbeats 3200000 in
theorem parse_3 (a : Option Addr) (n c : Nat) (H : MH) (p : PU) (w : World) (hm : n ≤ 1048576) (hff : ff 3 n = 0)
    (hcall : ∀ W, New w W → Calls Try.prog 35 #[.slice a n c] W fun e w' => ∃ x y z, e = .returned (mrV H p x y z) ∧ Got w' W.heap.size p x y z ∧ New W w') :
    Calls Try.prog 20 #[.agg #[.int .i64 3, .slice a n c]] w fun e w' => ∃ x y z, e = .returned (mrV H p x y z) ∧ Got w' w.heap.size p x y z ∧ New w w' := by
  have hw := ((New.refl w).alloc (.cells #[.int .i64 3, .slice a n c] 43)).alloc (.cells #[.int .i64 0, .int .i64 0, .int .i64 0, .int .i64 0, .int .i64 0, .int .i64 0, .int .i64 0, .int .i64 0, .int .i64 0, .slice none 0 0, .bool false, .int .i64 0, .slice none 0 0, .int .i64 0, .int .i64 0, .int .i64 0, .slice none 0 0] 53)
  have bF : Blk ((w.alloc (.cells #[.int .i64 3, .slice a n c] 43)).alloc (.cells #[.int .i64 0, .int .i64 0, .int .i64 0, .int .i64 0, .int .i64 0, .int .i64 0, .int .i64 0, .int .i64 0, .int .i64 0, .slice none 0 0, .bool false, .int .i64 0, .slice none 0 0, .int .i64 0, .int .i64 0, .int .i64 0, .slice none 0 0] 53)) w.heap.size 43 #[.int .i64 3, .slice a n c] := (Blk.mk _ _ _ _ rfl).alloc _
  have bR : Blk ((w.alloc (.cells #[.int .i64 3, .slice a n c] 43)).alloc (.cells #[.int .i64 0, .int .i64 0, .int .i64 0, .int .i64 0, .int .i64 0, .int .i64 0, .int .i64 0, .int .i64 0, .int .i64 0, .slice none 0 0, .bool false, .int .i64 0, .slice none 0 0, .int .i64 0, .int .i64 0, .int .i64 0, .slice none 0 0] 53)) (w.heap.size + 1) 53 #[.int .i64 0, .int .i64 0, .int .i64 0, .int .i64 0, .int .i64 0, .int .i64 0, .int .i64 0, .int .i64 0, .int .i64 0, .slice none 0 0, .bool false, .int .i64 0, .slice none 0 0, .int .i64 0, .int .i64 0, .int .i64 0, .slice none 0 0] := Blk.mk _ _ _ _ (by simp)
  have sz : ((w.alloc (.cells #[.int .i64 3, .slice a n c] 43)).alloc (.cells #[.int .i64 0, .int .i64 0, .int .i64 0, .int .i64 0, .int .i64 0, .int .i64 0, .int .i64 0, .int .i64 0, .int .i64 0, .slice none 0 0, .bool false, .int .i64 0, .slice none 0 0, .int .i64 0, .int .i64 0, .int .i64 0, .slice none 0 0] 53)).heap.size = w.heap.size + 2 := by simp
  have ge1 : w.heap.size ≤ w.heap.size + 1 := by omega
  have HF : Hid (ff 3 n = 0) := hff
  clear hff
  go_enter Try.func20, Try.ntmps20
  go_upto_region 1 with fail
  generalize ((w.alloc (.cells #[.int .i64 3, .slice a n c] 43)).alloc (.cells #[.int .i64 0, .int .i64 0, .int .i64 0, .int .i64 0, .int .i64 0, .int .i64 0, .int .i64 0, .int .i64 0, .int .i64 0, .slice none 0 0, .bool false, .int .i64 0, .slice none 0 0, .int .i64 0, .int .i64 0, .int .i64 0, .slice none 0 0] 53)) = w0 at *
  have cF0 := bF.cells
  go_wp2_with fail
  refine (implFF 3 a n c _ hm).mono ?_
  rintro e w1 ⟨rfl, hn1⟩
  rw [HF.out]
  have hw1 := hw.trans hn1
  have bF1 := bF.new hn1
  have bR1 := bR.new hn1
  have s1 := hn1.size
  have cF := bF1.cells
  clear cF0
  have key := hcall w1 hw1
  clear hcall
  go_wp2_with fail
  refine key.mono ?_
  rintro e w2 ⟨x, y, z, rfl, hG, hn2⟩
  obtain ⟨ga, gc, ex⟩ := hG.g.slice
  obtain ⟨xa, xc, ey⟩ := hG.n.slice
  obtain ⟨ra, rc, ez⟩ := hG.r.slice
  subst ex
  subst ey
  subst ez
  have hw2 := hw1.trans hn2
  have bR2 := bR1.new hn2
  unfold mrV
  go_wp2_with (refine wpList_store_row rfl 53 (.tmp 2) (.tmp 26) rfl (w.heap.size + 1) #[.int .i64 H.code, .int .i64 H.why, .int .i64 H.sub, .int .i64 H.kd, .int .i64 H.sa, .int .i64 H.ho, .int .i64 H.si, .int .i64 H.wh, .int .i64 H.su, .slice ga p.gs.length gc, .bool p.has, .int .i64 p.o, .slice xa p.xs.length xc, .int .i64 p.nx, .int .i64 p.md, .int .i64 p.lc, .slice ra p.rs.length rc] rfl rfl 53 #[.int .i64 0, .int .i64 0, .int .i64 0, .int .i64 0, .int .i64 0, .int .i64 0, .int .i64 0, .int .i64 0, .int .i64 0, .slice none 0 0, .bool false, .int .i64 0, .slice none 0 0, .int .i64 0, .int .i64 0, .int .i64 0, .slice none 0 0] bR2 (by kernel_rfl) rfl (by kernel_rfl) ?_)
  go_wp2
  refine bodyPost_ret (v := .agg #[.int .i64 H.code, .int .i64 H.why, .int .i64 H.sub, .int .i64 H.kd, .int .i64 H.sa, .int .i64 H.ho, .int .i64 H.si, .int .i64 H.wh, .int .i64 H.su, .slice ga p.gs.length gc, .bool p.has, .int .i64 p.o, .slice xa p.xs.length xc, .int .i64 p.nx, .int .i64 p.md, .int .i64 p.lc, .slice ra p.rs.length rc]) ?_ rfl ⟨_, _, _, rfl, (hG.turn (S := fun k => k = w.heap.size + 1) (Turn.row (Turn.refl _ _) _) (fun g hg e => by omega)).low hw1.size, hw2.row ge1 _⟩
  exact results_row (B := w.heap.size + 1) (cs := #[.int .i64 H.code, .int .i64 H.why, .int .i64 H.sub, .int .i64 H.kd, .int .i64 H.sa, .int .i64 H.ho, .int .i64 H.si, .int .i64 H.wh, .int .i64 H.su, .slice ga p.gs.length gc, .bool p.has, .int .i64 p.o, .slice xa p.xs.length xc, .int .i64 p.nx, .int .i64 p.md, .int .i64 p.lc, .slice ra p.rs.length rc]) rfl rfl (bR2.row _) ⟨_, Try.underlying53⟩ (by kernel_rfl)

set_option maxHeartbeats 3200000 in
theorem parse_4 (a : Option Addr) (n c : Nat) (H : MH) (p : PU) (w : World) (hm : n ≤ 1048576) (hff : ff 4 n = 0)
    (hcall : ∀ W, New w W → Calls Try.prog 36 #[.slice a n c] W fun e w' => ∃ x y z, e = .returned (mrV H p x y z) ∧ Got w' W.heap.size p x y z ∧ New W w') :
    Calls Try.prog 20 #[.agg #[.int .i64 4, .slice a n c]] w fun e w' => ∃ x y z, e = .returned (mrV H p x y z) ∧ Got w' w.heap.size p x y z ∧ New w w' := by
  have hw := ((New.refl w).alloc (.cells #[.int .i64 4, .slice a n c] 43)).alloc (.cells #[.int .i64 0, .int .i64 0, .int .i64 0, .int .i64 0, .int .i64 0, .int .i64 0, .int .i64 0, .int .i64 0, .int .i64 0, .slice none 0 0, .bool false, .int .i64 0, .slice none 0 0, .int .i64 0, .int .i64 0, .int .i64 0, .slice none 0 0] 53)
  have bF : Blk ((w.alloc (.cells #[.int .i64 4, .slice a n c] 43)).alloc (.cells #[.int .i64 0, .int .i64 0, .int .i64 0, .int .i64 0, .int .i64 0, .int .i64 0, .int .i64 0, .int .i64 0, .int .i64 0, .slice none 0 0, .bool false, .int .i64 0, .slice none 0 0, .int .i64 0, .int .i64 0, .int .i64 0, .slice none 0 0] 53)) w.heap.size 43 #[.int .i64 4, .slice a n c] := (Blk.mk _ _ _ _ rfl).alloc _
  have bR : Blk ((w.alloc (.cells #[.int .i64 4, .slice a n c] 43)).alloc (.cells #[.int .i64 0, .int .i64 0, .int .i64 0, .int .i64 0, .int .i64 0, .int .i64 0, .int .i64 0, .int .i64 0, .int .i64 0, .slice none 0 0, .bool false, .int .i64 0, .slice none 0 0, .int .i64 0, .int .i64 0, .int .i64 0, .slice none 0 0] 53)) (w.heap.size + 1) 53 #[.int .i64 0, .int .i64 0, .int .i64 0, .int .i64 0, .int .i64 0, .int .i64 0, .int .i64 0, .int .i64 0, .int .i64 0, .slice none 0 0, .bool false, .int .i64 0, .slice none 0 0, .int .i64 0, .int .i64 0, .int .i64 0, .slice none 0 0] := Blk.mk _ _ _ _ (by simp)
  have sz : ((w.alloc (.cells #[.int .i64 4, .slice a n c] 43)).alloc (.cells #[.int .i64 0, .int .i64 0, .int .i64 0, .int .i64 0, .int .i64 0, .int .i64 0, .int .i64 0, .int .i64 0, .int .i64 0, .slice none 0 0, .bool false, .int .i64 0, .slice none 0 0, .int .i64 0, .int .i64 0, .int .i64 0, .slice none 0 0] 53)).heap.size = w.heap.size + 2 := by simp
  have ge1 : w.heap.size ≤ w.heap.size + 1 := by omega
  have HF : Hid (ff 4 n = 0) := hff
  clear hff
  go_enter Try.func20, Try.ntmps20
  go_upto_region 1 with fail
  generalize ((w.alloc (.cells #[.int .i64 4, .slice a n c] 43)).alloc (.cells #[.int .i64 0, .int .i64 0, .int .i64 0, .int .i64 0, .int .i64 0, .int .i64 0, .int .i64 0, .int .i64 0, .int .i64 0, .slice none 0 0, .bool false, .int .i64 0, .slice none 0 0, .int .i64 0, .int .i64 0, .int .i64 0, .slice none 0 0] 53)) = w0 at *
  have cF0 := bF.cells
  go_wp2_with fail
  refine (implFF 4 a n c _ hm).mono ?_
  rintro e w1 ⟨rfl, hn1⟩
  rw [HF.out]
  have hw1 := hw.trans hn1
  have bF1 := bF.new hn1
  have bR1 := bR.new hn1
  have s1 := hn1.size
  have cF := bF1.cells
  clear cF0
  have key := hcall w1 hw1
  clear hcall
  go_wp2_with fail
  refine key.mono ?_
  rintro e w2 ⟨x, y, z, rfl, hG, hn2⟩
  obtain ⟨ga, gc, ex⟩ := hG.g.slice
  obtain ⟨xa, xc, ey⟩ := hG.n.slice
  obtain ⟨ra, rc, ez⟩ := hG.r.slice
  subst ex
  subst ey
  subst ez
  have hw2 := hw1.trans hn2
  have bR2 := bR1.new hn2
  unfold mrV
  go_wp2_with (refine wpList_store_row rfl 53 (.tmp 2) (.tmp 29) rfl (w.heap.size + 1) #[.int .i64 H.code, .int .i64 H.why, .int .i64 H.sub, .int .i64 H.kd, .int .i64 H.sa, .int .i64 H.ho, .int .i64 H.si, .int .i64 H.wh, .int .i64 H.su, .slice ga p.gs.length gc, .bool p.has, .int .i64 p.o, .slice xa p.xs.length xc, .int .i64 p.nx, .int .i64 p.md, .int .i64 p.lc, .slice ra p.rs.length rc] rfl rfl 53 #[.int .i64 0, .int .i64 0, .int .i64 0, .int .i64 0, .int .i64 0, .int .i64 0, .int .i64 0, .int .i64 0, .int .i64 0, .slice none 0 0, .bool false, .int .i64 0, .slice none 0 0, .int .i64 0, .int .i64 0, .int .i64 0, .slice none 0 0] bR2 (by kernel_rfl) rfl (by kernel_rfl) ?_)
  go_wp2
  refine bodyPost_ret (v := .agg #[.int .i64 H.code, .int .i64 H.why, .int .i64 H.sub, .int .i64 H.kd, .int .i64 H.sa, .int .i64 H.ho, .int .i64 H.si, .int .i64 H.wh, .int .i64 H.su, .slice ga p.gs.length gc, .bool p.has, .int .i64 p.o, .slice xa p.xs.length xc, .int .i64 p.nx, .int .i64 p.md, .int .i64 p.lc, .slice ra p.rs.length rc]) ?_ rfl ⟨_, _, _, rfl, (hG.turn (S := fun k => k = w.heap.size + 1) (Turn.row (Turn.refl _ _) _) (fun g hg e => by omega)).low hw1.size, hw2.row ge1 _⟩
  exact results_row (B := w.heap.size + 1) (cs := #[.int .i64 H.code, .int .i64 H.why, .int .i64 H.sub, .int .i64 H.kd, .int .i64 H.sa, .int .i64 H.ho, .int .i64 H.si, .int .i64 H.wh, .int .i64 H.su, .slice ga p.gs.length gc, .bool p.has, .int .i64 p.o, .slice xa p.xs.length xc, .int .i64 p.nx, .int .i64 p.md, .int .i64 p.lc, .slice ra p.rs.length rc]) rfl rfl (bR2.row _) ⟨_, Try.underlying53⟩ (by kernel_rfl)

set_option maxHeartbeats 3200000 in
theorem parse_bad (k : Int) (a : Option Addr) (n c : Nat) (w : World) (hm : n ≤ 1048576) (hff : ff k n ≠ 0) :
    Calls Try.prog 20 #[.agg #[.int .i64 k, .slice a n c]] w fun e w' => e = .returned (mrV (mhB (ff k n) 1 3) (puZ 0) (.slice none 0 0) (.slice none 0 0) (.slice none 0 0)) ∧ New w w' := by
  have hw := ((New.refl w).alloc (.cells #[.int .i64 k, .slice a n c] 43)).alloc (.cells #[.int .i64 0, .int .i64 0, .int .i64 0, .int .i64 0, .int .i64 0, .int .i64 0, .int .i64 0, .int .i64 0, .int .i64 0, .slice none 0 0, .bool false, .int .i64 0, .slice none 0 0, .int .i64 0, .int .i64 0, .int .i64 0, .slice none 0 0] 53)
  have bF : Blk ((w.alloc (.cells #[.int .i64 k, .slice a n c] 43)).alloc (.cells #[.int .i64 0, .int .i64 0, .int .i64 0, .int .i64 0, .int .i64 0, .int .i64 0, .int .i64 0, .int .i64 0, .int .i64 0, .slice none 0 0, .bool false, .int .i64 0, .slice none 0 0, .int .i64 0, .int .i64 0, .int .i64 0, .slice none 0 0] 53)) w.heap.size 43 #[.int .i64 k, .slice a n c] := (Blk.mk _ _ _ _ rfl).alloc _
  have bR : Blk ((w.alloc (.cells #[.int .i64 k, .slice a n c] 43)).alloc (.cells #[.int .i64 0, .int .i64 0, .int .i64 0, .int .i64 0, .int .i64 0, .int .i64 0, .int .i64 0, .int .i64 0, .int .i64 0, .slice none 0 0, .bool false, .int .i64 0, .slice none 0 0, .int .i64 0, .int .i64 0, .int .i64 0, .slice none 0 0] 53)) (w.heap.size + 1) 53 #[.int .i64 0, .int .i64 0, .int .i64 0, .int .i64 0, .int .i64 0, .int .i64 0, .int .i64 0, .int .i64 0, .int .i64 0, .slice none 0 0, .bool false, .int .i64 0, .slice none 0 0, .int .i64 0, .int .i64 0, .int .i64 0, .slice none 0 0] := Blk.mk _ _ _ _ (by simp)
  have sz : ((w.alloc (.cells #[.int .i64 k, .slice a n c] 43)).alloc (.cells #[.int .i64 0, .int .i64 0, .int .i64 0, .int .i64 0, .int .i64 0, .int .i64 0, .int .i64 0, .int .i64 0, .int .i64 0, .slice none 0 0, .bool false, .int .i64 0, .slice none 0 0, .int .i64 0, .int .i64 0, .int .i64 0, .slice none 0 0] 53)).heap.size = w.heap.size + 2 := by simp
  have ge1 : w.heap.size ≤ w.heap.size + 1 := by omega
  generalize hq : ff k n = q at hff ⊢
  have HQ : Hid (ff k n = q) := hq
  clear hq
  have e1 : (q != 0) = true := by simpa using hff
  clear hff
  go_enter Try.func20, Try.ntmps20
  go_upto_region 1 with fail
  generalize ((w.alloc (.cells #[.int .i64 k, .slice a n c] 43)).alloc (.cells #[.int .i64 0, .int .i64 0, .int .i64 0, .int .i64 0, .int .i64 0, .int .i64 0, .int .i64 0, .int .i64 0, .int .i64 0, .slice none 0 0, .bool false, .int .i64 0, .slice none 0 0, .int .i64 0, .int .i64 0, .int .i64 0, .slice none 0 0] 53)) = w0 at *
  have cF0 := bF.cells
  go_wp2_with fail
  refine (implFF k a n c _ hm).mono ?_
  rintro e w1 ⟨rfl, hn1⟩
  have hw1 := hw.trans hn1
  have bR1 := bR.new hn1
  rw [HQ.out]
  go_wp2_with (refine wpList_store_row rfl 53 (.tmp 2) (.tmp 9) rfl (w.heap.size + 1) #[.int .i64 q, .int .i64 1, .int .i64 3, .int .i64 0, .int .i64 0, .int .i64 0, .int .i64 0, .int .i64 0, .int .i64 0, .slice none 0 0, .bool false, .int .i64 0, .slice none 0 0, .int .i64 0, .int .i64 0, .int .i64 0, .slice none 0 0] rfl rfl 53 #[.int .i64 0, .int .i64 0, .int .i64 0, .int .i64 0, .int .i64 0, .int .i64 0, .int .i64 0, .int .i64 0, .int .i64 0, .slice none 0 0, .bool false, .int .i64 0, .slice none 0 0, .int .i64 0, .int .i64 0, .int .i64 0, .slice none 0 0] bR1 (by kernel_rfl) rfl (by kernel_rfl) ?_)
  go_wp2
  refine bodyPost_ret (v := .agg #[.int .i64 q, .int .i64 1, .int .i64 3, .int .i64 0, .int .i64 0, .int .i64 0, .int .i64 0, .int .i64 0, .int .i64 0, .slice none 0 0, .bool false, .int .i64 0, .slice none 0 0, .int .i64 0, .int .i64 0, .int .i64 0, .slice none 0 0]) ?_ rfl ⟨rfl, hw1.row ge1 _⟩
  exact results_row (B := w.heap.size + 1) (cs := #[.int .i64 q, .int .i64 1, .int .i64 3, .int .i64 0, .int .i64 0, .int .i64 0, .int .i64 0, .int .i64 0, .int .i64 0, .slice none 0 0, .bool false, .int .i64 0, .slice none 0 0, .int .i64 0, .int .i64 0, .int .i64 0, .slice none 0 0]) rfl rfl (bR1.row _) ⟨_, Try.underlying53⟩ (by kernel_rfl)

theorem implPMsg (k : Int) (a : Option Addr) (n c : Nat) (zs : List Int) (w : World) (h : BsAt w a zs) (hn : zs.length = n) (hcc : n ≤ c) (hm : n ≤ 1048576) :
    Calls Try.prog 20 #[.agg #[.int .i64 k, .slice a n c]] w fun e w' => ∃ x y z, e = .returned (mrV (mh k zs) (mp k zs) x y z) ∧ Got w' w.heap.size (mp k zs) x y z ∧ New w w' := by
  by_cases hf : ff k n = 0
  case neg =>
    have hb := mh_bad (k := k) (zs := zs) (by rw [hn]; exact hf)
    rw [hb.1, hb.2, hn]
    refine (parse_bad k a n c w hm hf).mono ?_
    rintro e w' ⟨rfl, hN⟩
    exact ⟨_, _, _, rfl, got_none _ _, hN⟩
  obtain ⟨k1, k4, -⟩ := ff_zero hf
  have hz : ¬ ff k zs.length ≠ 0 := by rw [hn]; exact fun q => q hf
  have one : ∀ {F : Nat} {H : MH}, (∀ W, New w W → Calls Try.prog F #[.slice a n c] W fun e w' => e = .returned (mrV H (puZ 0) (.slice none 0 0) (.slice none 0 0) (.slice none 0 0)) ∧ New W w') → ∀ W, New w W → Calls Try.prog F #[.slice a n c] W fun e w' => ∃ x y z, e = .returned (mrV H (puZ 0) x y z) ∧ Got w' W.heap.size (puZ 0) x y z ∧ New W w' := by
    intro F H hq W hW
    refine (hq W hW).mono ?_
    rintro e w' ⟨rfl, hN⟩
    exact ⟨_, _, _, rfl, got_none _ _, hN⟩
  rcases (show k = 1 ∨ k = 2 ∨ k = 3 ∨ k = 4 by omega) with rfl | rfl | rfl | rfl
  · rw [(mh_1 hz).1, (mh_1 hz).2]
    exact parse_1 a n c _ _ w hm hf (one fun W hW => openFrom_any a n c zs W (h.new hW) hn hcc hm)
  · rw [(mh_2 hz).1, (mh_2 hz).2]
    exact parse_2 a n c _ _ w hm hf (fun W hW => updateFrom_any a n c zs W (h.new hW) hn hcc hm)
  · rw [(mh_3 hz).1, (mh_3 hz).2]
    exact parse_3 a n c _ _ w hm hf (one fun W hW => notifyFrom_any a n c zs W (h.new hW) hn hm)
  · rw [(mh_4 hz).1, (mh_4 hz).2]
    exact parse_4 a n c _ _ w hm hf (one fun W hW => keepFrom_any a n c zs W hn hm)

end Go.Proofs.Ytljkcijakdhdiaa
