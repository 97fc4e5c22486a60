/- What is proved here: what the reading of a message that is an update answers, in the program, for every list of at most 1048576 bytes. -/
import Derived.Test.YtljkcijakdhdiaaMpFn
import Derived.Test.YtljkcijakdhdiaaPuLaw2
namespace Go.Proofs.Ytljkcijakdhdiaa
open Go.RowKit Go.Sort
set_option linter.unusedVariables false

theorem mhU_bad {p : PU} (h : p.code ≠ 0) (hs : p.soft = false) : mhU p = mhB p.code 3 1 ∧ mpU p = puZ 0 := ⟨if_pos ⟨h, hs⟩, if_pos ⟨h, hs⟩⟩
theorem mhU_ok {p : PU} (h : ¬ (p.code ≠ 0 ∧ p.soft = false)) : mhU p = ⟨0, 0, 0, 2, 0, 0, 0, 0, 0⟩ ∧ mpU p = p := ⟨if_neg h, if_neg h⟩
theorem got_none (w : World) (lo : Nat) : Got w lo (puZ 0) (.slice none 0 0) (.slice none 0 0) (.slice none 0 0) := Got.one (OwQ.nil _ _) rfl rfl

set_option maxHeartbeats 3200000 in
theorem updateFrom_any (a : Option Addr) (n c : Nat) (zs : List Int) (w : World) (h : BsAt w a zs) (hn : zs.length = n) (hcc : n ≤ c) (hm : n ≤ 1048576) :
    Calls Try.prog 34 #[.slice a n c] w fun e w' => ∃ x y z, e = .returned (mrV (mhU (pu zs)) (mpU (pu zs)) x y z) ∧ Got w' w.heap.size (mpU (pu zs)) x y z ∧ New w w' := by
  have hw := (New.refl w).alloc (.cells #[.int .i64 0, .int .i64 0, .int .i64 0, .int .i64 0, .int .i64 0, .int .i64 0, .int .i64 0, .int .i64 0, .int .i64 0, .slice none 0 0, .bool false, .int .i64 0, .slice none 0 0, .int .i64 0, .int .i64 0, .int .i64 0, .slice none 0 0] 53)
  have bR := Blk.mk w w.heap.size 53 #[.int .i64 0, .int .i64 0, .int .i64 0, .int .i64 0, .int .i64 0, .int .i64 0, .int .i64 0, .int .i64 0, .int .i64 0, .slice none 0 0, .bool false, .int .i64 0, .slice none 0 0, .int .i64 0, .int .i64 0, .int .i64 0, .slice none 0 0] rfl
  have sz : (w.alloc (.cells #[.int .i64 0, .int .i64 0, .int .i64 0, .int .i64 0, .int .i64 0, .int .i64 0, .int .i64 0, .int .i64 0, .int .i64 0, .slice none 0 0, .bool false, .int .i64 0, .slice none 0 0, .int .i64 0, .int .i64 0, .int .i64 0, .slice none 0 0] 53)).heap.size = w.heap.size + 1 := by simp
  generalize hP : pu zs = p
  have HP : Hid (pu zs = p) := hP
  clear hP
  go_enter Try.func34, Try.ntmps34
  go_upto_region 1 with fail
  generalize w.alloc (.cells #[.int .i64 0, .int .i64 0, .int .i64 0, .int .i64 0, .int .i64 0, .int .i64 0, .int .i64 0, .int .i64 0, .int .i64 0, .slice none 0 0, .bool false, .int .i64 0, .slice none 0 0, .int .i64 0, .int .i64 0, .int .i64 0, .slice none 0 0] 53) = w0 at *
  go_wp2_with fail
  refine (implParse a n c zs _ (h.new hw) hn hcc hm).mono ?_
  rintro e w1 ⟨x, y, z, rfl, hG, hn1⟩
  rw [HP.out] at hG ⊢
  clear h hn HP
  obtain ⟨code, soft, gs, has, o, xs, nx, md, lc, rs⟩ := p
  obtain ⟨ga, gc, ex⟩ := hG.g.slice
  obtain ⟨xa, xc, ey⟩ := hG.n.slice
  obtain ⟨ra, rc, ez⟩ := hG.r.slice
  subst ex
  subst ey
  subst ez
  simp only at hG
  unfold puV
  simp only
  have bR1 := bR.new hn1
  have hw1 := hw.trans hn1
  rw [sz] at hG
  clear bR hw hn1 sz
  by_cases g0 : code = 0
  · have HM := mhU_ok (p := ⟨code, soft, gs, has, o, xs, nx, md, lc, rs⟩) (fun q => q.1 g0)
    have e1 : (code != 0) = false := by simpa using g0
    clear g0
    have bR2 := bR1.alloc (.cells #[.int .i64 code, .bool soft, .slice ga gs.length gc, .bool has, .int .i64 o, .slice xa xs.length xc, .int .i64 nx, .int .i64 md, .int .i64 lc, .slice ra rs.length rc] 82)
    have hw2 := hw1.alloc (.cells #[.int .i64 code, .bool soft, .slice ga gs.length gc, .bool has, .int .i64 o, .slice xa xs.length xc, .int .i64 nx, .int .i64 md, .int .i64 lc, .slice ra rs.length rc] 82)
    have hG2 := hG.new ((New.refl w1).alloc (.cells #[.int .i64 code, .bool soft, .slice ga gs.length gc, .bool has, .int .i64 o, .slice xa xs.length xc, .int .i64 nx, .int .i64 md, .int .i64 lc, .slice ra rs.length rc] 82))
    go_wp2_with (refine wpList_store_row rfl 53 (.tmp 2) (.tmp 20) rfl w.heap.size #[.int .i64 0, .int .i64 0, .int .i64 0, .int .i64 2, .int .i64 0, .int .i64 0, .int .i64 0, .int .i64 0, .int .i64 0, .slice ga gs.length gc, .bool has, .int .i64 o, .slice xa xs.length xc, .int .i64 nx, .int .i64 md, .int .i64 lc, .slice ra rs.length rc] rfl rfl 53 #[.int .i64 0, .int .i64 0, .int .i64 0, .int .i64 0, .int .i64 0, .int .i64 0, .int .i64 0, .int .i64 0, .int .i64 0, .slice none 0 0, .bool false, .int .i64 0, .slice none 0 0, .int .i64 0, .int .i64 0, .int .i64 0, .slice none 0 0] bR2 (by kernel_rfl) rfl (by kernel_rfl) ?_)
    go_wp2
    refine bodyPost_ret (v := .agg #[.int .i64 0, .int .i64 0, .int .i64 0, .int .i64 2, .int .i64 0, .int .i64 0, .int .i64 0, .int .i64 0, .int .i64 0, .slice ga gs.length gc, .bool has, .int .i64 o, .slice xa xs.length xc, .int .i64 nx, .int .i64 md, .int .i64 lc, .slice ra rs.length rc]) ?_ rfl ⟨_, _, _, by rw [HM.1, HM.2]; rfl, by rw [HM.2]; exact (hG2.turn (S := fun k => k = w.heap.size) (Turn.row (Turn.refl _ _) _) (fun g hg e => by omega)).low (Nat.le_succ _), hw2.row (Nat.le_refl _) _⟩
    exact results_row (B := w.heap.size) (cs := #[.int .i64 0, .int .i64 0, .int .i64 0, .int .i64 2, .int .i64 0, .int .i64 0, .int .i64 0, .int .i64 0, .int .i64 0, .slice ga gs.length gc, .bool has, .int .i64 o, .slice xa xs.length xc, .int .i64 nx, .int .i64 md, .int .i64 lc, .slice ra rs.length rc]) rfl rfl (bR2.row _) ⟨_, Try.underlying53⟩ (by kernel_rfl)
  have e1 : (code != 0) = true := by simpa using g0
  cases soft with
  | true =>
    have HM := mhU_ok (p := ⟨code, true, gs, has, o, xs, nx, md, lc, rs⟩) (fun q => by cases q.2)
    clear g0
    have bR2 := bR1.alloc (.cells #[.int .i64 code, .bool true, .slice ga gs.length gc, .bool has, .int .i64 o, .slice xa xs.length xc, .int .i64 nx, .int .i64 md, .int .i64 lc, .slice ra rs.length rc] 82)
    have hw2 := hw1.alloc (.cells #[.int .i64 code, .bool true, .slice ga gs.length gc, .bool has, .int .i64 o, .slice xa xs.length xc, .int .i64 nx, .int .i64 md, .int .i64 lc, .slice ra rs.length rc] 82)
    have hG2 := hG.new ((New.refl w1).alloc (.cells #[.int .i64 code, .bool true, .slice ga gs.length gc, .bool has, .int .i64 o, .slice xa xs.length xc, .int .i64 nx, .int .i64 md, .int .i64 lc, .slice ra rs.length rc] 82))
    go_wp2_with (refine wpList_store_row rfl 53 (.tmp 2) (.tmp 20) rfl w.heap.size #[.int .i64 0, .int .i64 0, .int .i64 0, .int .i64 2, .int .i64 0, .int .i64 0, .int .i64 0, .int .i64 0, .int .i64 0, .slice ga gs.length gc, .bool has, .int .i64 o, .slice xa xs.length xc, .int .i64 nx, .int .i64 md, .int .i64 lc, .slice ra rs.length rc] rfl rfl 53 #[.int .i64 0, .int .i64 0, .int .i64 0, .int .i64 0, .int .i64 0, .int .i64 0, .int .i64 0, .int .i64 0, .int .i64 0, .slice none 0 0, .bool false, .int .i64 0, .slice none 0 0, .int .i64 0, .int .i64 0, .int .i64 0, .slice none 0 0] bR2 (by kernel_rfl) rfl (by kernel_rfl) ?_)
    go_wp2
    refine bodyPost_ret (v := .agg #[.int .i64 0, .int .i64 0, .int .i64 0, .int .i64 2, .int .i64 0, .int .i64 0, .int .i64 0, .int .i64 0, .int .i64 0, .slice ga gs.length gc, .bool has, .int .i64 o, .slice xa xs.length xc, .int .i64 nx, .int .i64 md, .int .i64 lc, .slice ra rs.length rc]) ?_ rfl ⟨_, _, _, by rw [HM.1, HM.2]; rfl, by rw [HM.2]; exact (hG2.turn (S := fun k => k = w.heap.size) (Turn.row (Turn.refl _ _) _) (fun g hg e => by omega)).low (Nat.le_succ _), hw2.row (Nat.le_refl _) _⟩
    exact results_row (B := w.heap.size) (cs := #[.int .i64 0, .int .i64 0, .int .i64 0, .int .i64 2, .int .i64 0, .int .i64 0, .int .i64 0, .int .i64 0, .int .i64 0, .slice ga gs.length gc, .bool has, .int .i64 o, .slice xa xs.length xc, .int .i64 nx, .int .i64 md, .int .i64 lc, .slice ra rs.length rc]) rfl rfl (bR2.row _) ⟨_, Try.underlying53⟩ (by kernel_rfl)
  | false =>
    have HM := mhU_bad (p := ⟨code, false, gs, has, o, xs, nx, md, lc, rs⟩) g0 rfl
    clear g0
    have bR2 := bR1.alloc (.cells #[.int .i64 code, .bool false, .slice ga gs.length gc, .bool has, .int .i64 o, .slice xa xs.length xc, .int .i64 nx, .int .i64 md, .int .i64 lc, .slice ra rs.length rc] 82)
    have hw2 := hw1.alloc (.cells #[.int .i64 code, .bool false, .slice ga gs.length gc, .bool has, .int .i64 o, .slice xa xs.length xc, .int .i64 nx, .int .i64 md, .int .i64 lc, .slice ra rs.length rc] 82)
    go_wp2_with (refine wpList_store_row rfl 53 (.tmp 2) (.tmp 16) rfl w.heap.size #[.int .i64 code, .int .i64 3, .int .i64 1, .int .i64 0, .int .i64 0, .int .i64 0, .int .i64 0, .int .i64 0, .int .i64 0, .slice none 0 0, .bool false, .int .i64 0, .slice none 0 0, .int .i64 0, .int .i64 0, .int .i64 0, .slice none 0 0] rfl rfl 53 #[.int .i64 0, .int .i64 0, .int .i64 0, .int .i64 0, .int .i64 0, .int .i64 0, .int .i64 0, .int .i64 0, .int .i64 0, .slice none 0 0, .bool false, .int .i64 0, .slice none 0 0, .int .i64 0, .int .i64 0, .int .i64 0, .slice none 0 0] bR2 (by kernel_rfl) rfl (by kernel_rfl) ?_)
    go_wp2
    refine bodyPost_ret (v := .agg #[.int .i64 code, .int .i64 3, .int .i64 1, .int .i64 0, .int .i64 0, .int .i64 0, .int .i64 0, .int .i64 0, .int .i64 0, .slice none 0 0, .bool false, .int .i64 0, .slice none 0 0, .int .i64 0, .int .i64 0, .int .i64 0, .slice none 0 0]) ?_ rfl ⟨_, _, _, by first | rfl | (rw [HM.1, HM.2]; rfl), by first | exact got_none _ _ | (rw [HM.2]; exact got_none _ _), hw2.row (Nat.le_refl _) _⟩
    exact results_row (B := w.heap.size) (cs := #[.int .i64 code, .int .i64 3, .int .i64 1, .int .i64 0, .int .i64 0, .int .i64 0, .int .i64 0, .int .i64 0, .int .i64 0, .slice none 0 0, .bool false, .int .i64 0, .slice none 0 0, .int .i64 0, .int .i64 0, .int .i64 0, .slice none 0 0]) rfl rfl (bR2.row _) ⟨_, Try.underlying53⟩ (by kernel_rfl)

end Go.Proofs.Ytljkcijakdhdiaa
