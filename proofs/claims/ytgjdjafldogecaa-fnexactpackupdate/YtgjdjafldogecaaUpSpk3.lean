/- What is proved here: what the model's PackUpdate answers, for every update with lists of at most 1048576 elements. -/
import Derived.Test.YtgjdjafldogecaaUpSpk2
namespace Go.Proofs.Ytgjdjafldogecaa
open Go.RowKit Go.Sort
set_option linter.unusedVariables false
set_option maxRecDepth 100000

set_option maxHeartbeats 3200000 in
theorem specPU (ga a ra : Option Addr) (gn gc n c rn rc : Nat) (has : Bool) (o nx md lc : Int) (gs rs : List (Int × Int)) (xs : List Int) (w : World) (hg : PsAt w ga gs) (hx : NsAt w a xs) (hr : PsAt w ra rs) (hgn : gs.length = gn) (hn : xs.length = n) (hrn : rs.length = rn) (hm1 : gn ≤ 1048576) (hm2 : n ≤ 1048576) (hm3 : rn ≤ 1048576) :
    Calls Try.prog 21 #[.agg #[.slice ga gn gc, .bool has, .int .i64 o, .slice a n c, .int .i64 nx, .int .i64 md, .int .i64 lc, .slice ra rn rc]] w fun e w' => UpAns w gs has o xs nx md lc rs e w' := by
  have hw := ((New.refl w).alloc (.cells #[.slice ga gn gc, .bool has, .int .i64 o, .slice a n c, .int .i64 nx, .int .i64 md, .int .i64 lc, .slice ra rn rc] 39)).alloc (.cells #[.int .i64 0, .slice none 0 0] 45)
  have bU : Blk ((w.alloc (.cells #[.slice ga gn gc, .bool has, .int .i64 o, .slice a n c, .int .i64 nx, .int .i64 md, .int .i64 lc, .slice ra rn rc] 39)).alloc (.cells #[.int .i64 0, .slice none 0 0] 45)) w.heap.size 39 #[.slice ga gn gc, .bool has, .int .i64 o, .slice a n c, .int .i64 nx, .int .i64 md, .int .i64 lc, .slice ra rn rc] := (Blk.mk _ _ _ _ rfl).alloc _
  have bR : Blk ((w.alloc (.cells #[.slice ga gn gc, .bool has, .int .i64 o, .slice a n c, .int .i64 nx, .int .i64 md, .int .i64 lc, .slice ra rn rc] 39)).alloc (.cells #[.int .i64 0, .slice none 0 0] 45)) (w.heap.size + 1) 45 #[.int .i64 0, .slice none 0 0] := Blk.mk _ _ _ _ (by simp)
  have HG : Hid (gs.length = gn) := hgn
  have HX : Hid (xs.length = n) := hn
  have HR : Hid (rs.length = rn) := hrn
  have ge1 : w.heap.size ≤ w.heap.size + 1 := by omega
  by_cases hf : uf gs has o xs nx md lc rs = 0
  case neg =>
    have hb : (uf gs has o xs nx md lc rs != 0) = true := by simpa using hf
    have HF : Hid (¬ uf gs has o xs nx md lc rs = 0) := hf
    clear hf hgn hn hrn
    go_enter Try.func21, Try.ntmps21
    go_wp2_with fail
    refine (specUF ga a ra gn gc n c rn rc has o nx md lc gs rs xs _ (hg.new hw) (hx.new hw) (hr.new hw) HG.out HX.out HR.out hm1 hm2 hm3).mono ?_
    rintro e w1 ⟨rfl, hn1⟩
    have hw1 := hw.trans hn1
    have c1 := (bR.new hn1).cells
    have f1 := (bR.new hn1).frees
    generalize hq : uf gs has o xs nx md lc rs = q at *
    go_wp2
    refine bodyPost_ret (v := .agg #[.int .i64 q, .slice none 0 0]) (by simp [results, Try.results21, go_sem, c1]) rfl ?_
    refine ⟨none, 0, 0, [], by rw [hq], ⟨rfl, fun h => by omega⟩, by simp, (by intro x hx; cases hx), ?_, by rw [hq, if_neg HF.out], fun _ => ⟨rfl, rfl⟩, by omega⟩
    simp (disch := exact ge1) only [New.set_iff, hw1]
  have hz : ((0 : Int) != 0) = false := rfl
  have HF : Hid (uf gs has o xs nx md lc rs = 0) := hf
  clear hgn hn hrn hf
  go_enter Try.func21, Try.ntmps21
  go_wp2_with fail
  refine (specUF ga a ra gn gc n c rn rc has o nx md lc gs rs xs _ (hg.new hw) (hx.new hw) (hr.new hw) HG.out HX.out HR.out hm1 hm2 hm3).mono ?_
  rintro e w1 ⟨rfl, hn1⟩
  rw [HF.out]
  have hw1 := hw.trans hn1
  have bU1 := bU.new hn1
  have bR1 := bR.new hn1
  have cU := bU1.cells
  have hb1 := bR1.lt
  go_wp2_with fail
  refine (l3Pack_any ga a ra gn gc n c rn rc has o nx md lc gs rs xs _ (hg.new hw1) (hx.new hw1) (hr.new hw1) HG.out HX.out HR.out HF.out).mono ?_
  rintro e w2 ⟨g2, cap2, m, rfl, hm, hrow, hn2⟩
  have hw2 := hw1.trans hn2
  have bR2 := bR1.new hn2
  have hge := hrow.ge
  have hlt := hrow.lt
  have c1 := bR2.cells
  have f1 := bR2.frees
  go_wp2
  refine bodyPost_ret (v := .agg #[.int .i64 0, .slice (some ⟨g2, 0, none⟩) m cap2]) (by simp [results, Try.results21, go_sem, c1]) rfl ?_
  have ht : Turn (fun i => i = w.heap.size + 1) w2 ((w2.setCell ⟨w.heap.size + 1, 0, none⟩ (.int .i64 0)).setCell ⟨w.heap.size + 1, 1, none⟩ (.slice (some ⟨g2, 0, none⟩) m cap2)) := Turn.here (Turn.here (Turn.refl _ _) _) _
  refine ⟨some ⟨g2, 0, none⟩, m, cap2, upB gs has o xs nx md lc rs, ret_agg2 HF.out.symm rfl, OwAt.of_own (base := 0) (own_turn (own_base hrow) ht (by omega)), upB_bd HF.out, ?_, ?_, by rw [if_pos HF.out], (by intro h; cases h), hm⟩
  · intro x hx
    obtain rfl := Option.some.inj hx
    exact ⟨by simp; omega, by have := ht.size; simp at this ⊢; omega⟩
  · simp (disch := exact ge1) only [New.set_iff, hw2]

end Go.Proofs.Ytgjdjafldogecaa
