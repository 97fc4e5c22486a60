/- What is proved here: what the copying, the comparing and the counting of a message answer, for every lists of at most 1048576 elements. -/
import Derived.Test.YtljkcijakdhdiaaDoorMsFn2
namespace Go.Proofs.YtljkcijakdhdiaaDoor
open Go.RowKit Go.Sort
set_option linter.unusedVariables false

set_option maxHeartbeats 800000 in
theorem szMs_ok (ga a ra : Option Addr) (gn gc n c rn rc : Nat) (has : Bool) (o nx md lc : Int) (kd sa ho si wh su : Int) (w : World) (h : gn + n + rn ≤ 1048576) :
    Calls Tryd.prog 4 #[.agg #[.int .i64 kd, .int .i64 sa, .int .i64 ho, .int .i64 si, .int .i64 wh, .int .i64 su, .slice ga gn gc, .bool has, .int .i64 o, .slice a n c, .int .i64 nx, .int .i64 md, .int .i64 lc, .slice ra rn rc], .int .i64 1048576] w fun e w' => e = .returned (.int .i64 ((1048576 - gn - n - rn : Nat) : Int)) ∧ New w w' := by
  have hw := (New.refl w).alloc (.cells #[.int .i64 kd, .int .i64 sa, .int .i64 ho, .int .i64 si, .int .i64 wh, .int .i64 su, .slice ga gn gc, .bool has, .int .i64 o, .slice a n c, .int .i64 nx, .int .i64 md, .int .i64 lc, .slice ra rn rc] 29)
  go_enter Tryd.func4, Tryd.ntmps4
  go_wp2_with fail
  refine (szUp_ok ga a ra gn gc n c rn rc has o nx md lc _ h).mono ?_
  rintro e w1 ⟨rfl, hn1⟩
  generalize hq : 1048576 - gn - n - rn = left
  go_wp2
  go_ret
  exact ⟨ret_i64 (by rw [hq]), hw.trans hn1⟩

theorem szMs_big (ga a ra : Option Addr) (gn gc n c rn rc : Nat) (has : Bool) (o nx md lc : Int) (kd sa ho si wh su : Int) (w : World) (h : 1048576 < gn + n + rn) (h1 : gn ≤ maxLen) (h2 : n ≤ maxLen) (h3 : rn ≤ maxLen) :
    Calls Tryd.prog 4 #[.agg #[.int .i64 kd, .int .i64 sa, .int .i64 ho, .int .i64 si, .int .i64 wh, .int .i64 su, .slice ga gn gc, .bool has, .int .i64 o, .slice a n c, .int .i64 nx, .int .i64 md, .int .i64 lc, .slice ra rn rc], .int .i64 1048576] w fun e w' => e = .returned (.int .i64 (-1)) ∧ New w w' := by
  have hw := (New.refl w).alloc (.cells #[.int .i64 kd, .int .i64 sa, .int .i64 ho, .int .i64 si, .int .i64 wh, .int .i64 su, .slice ga gn gc, .bool has, .int .i64 o, .slice a n c, .int .i64 nx, .int .i64 md, .int .i64 lc, .slice ra rn rc] 29)
  go_enter Tryd.func4, Tryd.ntmps4
  go_wp2_with fail
  refine (szUp_big ga a ra gn gc n c rn rc has o nx md lc _ h h1 h2 h3).mono ?_
  rintro e w1 ⟨rfl, hn1⟩
  go_wp2
  go_ret
  exact ⟨rfl, hw.trans hn1⟩

set_option maxHeartbeats 3200000 in
theorem toMs_any (ga a ra : Option Addr) (gn gc n c rn rc : Nat) (has : Bool) (o nx md lc : Int) (gs rs : List (Int × Int)) (xs : List Int) (kd sa ho si wh su : Int) (w : World) (hg : PsAt w ga gs) (hx : NsAt w a xs) (hr : PsAt w ra rs) (hgn : gs.length = gn) (hn : xs.length = n) (hrn : rs.length = rn) (hm1 : gn ≤ 1048576) (hm2 : n ≤ 1048576) (hm3 : rn ≤ 1048576) :
    Calls Tryd.prog 6 #[.agg #[.int .i64 kd, .int .i64 sa, .int .i64 ho, .int .i64 si, .int .i64 wh, .int .i64 su, .slice ga gn gc, .bool has, .int .i64 o, .slice a n c, .int .i64 nx, .int .i64 md, .int .i64 lc, .slice ra rn rc]] w fun e w' => ∃ g1 g2 g3, e = .returned (.agg #[.int .i64 kd, .int .i64 sa, .int .i64 ho, .int .i64 si, .int .i64 wh, .int .i64 su, .slice (some ⟨g1, 0, none⟩) gn gn, .bool has, .int .i64 o, .slice (some ⟨g2, 0, none⟩) n n, .int .i64 nx, .int .i64 md, .int .i64 lc, .slice (some ⟨g3, 0, none⟩) rn rn]) ∧ w.heap.size ≤ g1 ∧ g1 < g2 ∧ g2 < g3 ∧ OwP w' g1 gn gn gs ∧ OwN w' g2 n n xs ∧ OwP w' g3 rn rn rs ∧ New w w' := by
  have hw0 := (((New.refl w).alloc (.cells #[.int .i64 kd, .int .i64 sa, .int .i64 ho, .int .i64 si, .int .i64 wh, .int .i64 su, .slice ga gn gc, .bool has, .int .i64 o, .slice a n c, .int .i64 nx, .int .i64 md, .int .i64 lc, .slice ra rn rc] 29)).alloc (.cells #[.int .i64 0, .int .i64 0, .int .i64 0, .int .i64 0, .int .i64 0, .int .i64 0, .slice none 0 0, .bool false, .int .i64 0, .slice none 0 0, .int .i64 0, .int .i64 0, .int .i64 0, .slice none 0 0] 39)).alloc (.cells #[.int .i64 kd, .int .i64 sa, .int .i64 ho, .int .i64 si, .int .i64 wh, .int .i64 su, .slice none 0 0, .bool false, .int .i64 0, .slice none 0 0, .int .i64 0, .int .i64 0, .int .i64 0, .slice none 0 0] 39)
  have b0 : Blk (((w.alloc (.cells #[.int .i64 kd, .int .i64 sa, .int .i64 ho, .int .i64 si, .int .i64 wh, .int .i64 su, .slice ga gn gc, .bool has, .int .i64 o, .slice a n c, .int .i64 nx, .int .i64 md, .int .i64 lc, .slice ra rn rc] 29)).alloc (.cells #[.int .i64 0, .int .i64 0, .int .i64 0, .int .i64 0, .int .i64 0, .int .i64 0, .slice none 0 0, .bool false, .int .i64 0, .slice none 0 0, .int .i64 0, .int .i64 0, .int .i64 0, .slice none 0 0] 39)).alloc (.cells #[.int .i64 kd, .int .i64 sa, .int .i64 ho, .int .i64 si, .int .i64 wh, .int .i64 su, .slice none 0 0, .bool false, .int .i64 0, .slice none 0 0, .int .i64 0, .int .i64 0, .int .i64 0, .slice none 0 0] 39)) w.heap.size 29 #[.int .i64 kd, .int .i64 sa, .int .i64 ho, .int .i64 si, .int .i64 wh, .int .i64 su, .slice ga gn gc, .bool has, .int .i64 o, .slice a n c, .int .i64 nx, .int .i64 md, .int .i64 lc, .slice ra rn rc] := ((Blk.mk _ _ _ _ rfl).alloc _).alloc _
  have b1 : Blk (((w.alloc (.cells #[.int .i64 kd, .int .i64 sa, .int .i64 ho, .int .i64 si, .int .i64 wh, .int .i64 su, .slice ga gn gc, .bool has, .int .i64 o, .slice a n c, .int .i64 nx, .int .i64 md, .int .i64 lc, .slice ra rn rc] 29)).alloc (.cells #[.int .i64 0, .int .i64 0, .int .i64 0, .int .i64 0, .int .i64 0, .int .i64 0, .slice none 0 0, .bool false, .int .i64 0, .slice none 0 0, .int .i64 0, .int .i64 0, .int .i64 0, .slice none 0 0] 39)).alloc (.cells #[.int .i64 kd, .int .i64 sa, .int .i64 ho, .int .i64 si, .int .i64 wh, .int .i64 su, .slice none 0 0, .bool false, .int .i64 0, .slice none 0 0, .int .i64 0, .int .i64 0, .int .i64 0, .slice none 0 0] 39)) (w.heap.size + 1) 39 #[.int .i64 0, .int .i64 0, .int .i64 0, .int .i64 0, .int .i64 0, .int .i64 0, .slice none 0 0, .bool false, .int .i64 0, .slice none 0 0, .int .i64 0, .int .i64 0, .int .i64 0, .slice none 0 0] := (Blk.mk _ _ _ _ (by simp)).alloc _
  have b2 : Blk (((w.alloc (.cells #[.int .i64 kd, .int .i64 sa, .int .i64 ho, .int .i64 si, .int .i64 wh, .int .i64 su, .slice ga gn gc, .bool has, .int .i64 o, .slice a n c, .int .i64 nx, .int .i64 md, .int .i64 lc, .slice ra rn rc] 29)).alloc (.cells #[.int .i64 0, .int .i64 0, .int .i64 0, .int .i64 0, .int .i64 0, .int .i64 0, .slice none 0 0, .bool false, .int .i64 0, .slice none 0 0, .int .i64 0, .int .i64 0, .int .i64 0, .slice none 0 0] 39)).alloc (.cells #[.int .i64 kd, .int .i64 sa, .int .i64 ho, .int .i64 si, .int .i64 wh, .int .i64 su, .slice none 0 0, .bool false, .int .i64 0, .slice none 0 0, .int .i64 0, .int .i64 0, .int .i64 0, .slice none 0 0] 39)) (w.heap.size + 1 + 1) 39 #[.int .i64 kd, .int .i64 sa, .int .i64 ho, .int .i64 si, .int .i64 wh, .int .i64 su, .slice none 0 0, .bool false, .int .i64 0, .slice none 0 0, .int .i64 0, .int .i64 0, .int .i64 0, .slice none 0 0] := Blk.mk _ _ _ _ (by simp)
  go_enter Tryd.func6, Tryd.ntmps6
  go_wp2_with fail
  refine (toUp_any ga a ra gn gc n c rn rc has o nx md lc gs rs xs _ (hg.new hw0) (hx.new hw0) (hr.new hw0) hgn hn hrn hm1 hm2 hm3).mono ?_
  rintro e w1 ⟨g1, g2, g3, rfl, hg1, h12, h23, o1, o2, o3, hn1⟩
  have n1 := hw0.trans hn1
  have c1 := (b1.new hn1).cells
  have c2 := (b2.new hn1).cells
  have f1 := (b1.new hn1).frees
  have f2 := (b2.new hn1).frees
  have hg1' : w.heap.size + 3 ≤ g1 := by simpa using hg1
  have e11 : ¬ w.heap.size + 1 = g1 := by omega
  have e12 : ¬ w.heap.size + 1 = g2 := by omega
  have e13 : ¬ w.heap.size + 1 = g3 := by omega
  have e21 : ¬ w.heap.size + 1 + 1 = g1 := by omega
  have e22 : ¬ w.heap.size + 1 + 1 = g2 := by omega
  have e23 : ¬ w.heap.size + 1 + 1 = g3 := by omega
  have ge1 : w.heap.size ≤ w.heap.size + 1 := by omega
  have ge2 : w.heap.size ≤ w.heap.size + 1 + 1 := by omega
  clear hw0 b0 b1 b2 hn1 hg1
  go_wp2
  refine bodyPost_ret (v := .agg #[.int .i64 kd, .int .i64 sa, .int .i64 ho, .int .i64 si, .int .i64 wh, .int .i64 su, .slice (some ⟨g1, 0, none⟩) gn gn, .bool has, .int .i64 o, .slice (some ⟨g2, 0, none⟩) n n, .int .i64 nx, .int .i64 md, .int .i64 lc, .slice (some ⟨g3, 0, none⟩) rn rn]) (by simp [results, Tryd.results6, go_sem, c1]) rfl ⟨g1, g2, g3, rfl, by omega, h12, h23, ?_, ?_, ?_, ?_⟩
  · simp (disch := (first | exact e11 | exact e21)) only [OwP.set_iff, o1]
  · simp (disch := (first | exact e12 | exact e22)) only [OwN.set_iff, o2]
  · simp (disch := (first | exact e13 | exact e23)) only [OwP.set_iff, o3]
  · simp (disch := (first | exact ge1 | exact ge2)) only [New.set_iff, n1]

set_option maxHeartbeats 1600000 in
theorem eqMs_any (ga a ra gb b rb : Option Addr) (gn gc n c rn rc gd d rd : Nat) (has : Bool) (o nx md lc : Int) (gs rs : List (Int × Int)) (xs : List Int) (kd sa ho si wh su : Int) (w : World)
    (hg : PsAt w ga gs) (hx : NsAt w a xs) (hr : PsAt w ra rs) (kg : PsAt w gb gs) (kx : NsAt w b xs) (kr : PsAt w rb rs) (hgn : gs.length = gn) (hn : xs.length = n) (hrn : rs.length = rn) (hm1 : gn ≤ 1048576) (hm2 : n ≤ 1048576) (hm3 : rn ≤ 1048576) :
    Calls Tryd.prog 9 #[.agg #[.int .i64 kd, .int .i64 sa, .int .i64 ho, .int .i64 si, .int .i64 wh, .int .i64 su, .slice ga gn gc, .bool has, .int .i64 o, .slice a n c, .int .i64 nx, .int .i64 md, .int .i64 lc, .slice ra rn rc], .agg #[.int .i64 kd, .int .i64 sa, .int .i64 ho, .int .i64 si, .int .i64 wh, .int .i64 su, .slice gb gn gd, .bool has, .int .i64 o, .slice b n d, .int .i64 nx, .int .i64 md, .int .i64 lc, .slice rb rn rd]] w fun e w' => e = .returned (.bool true) ∧ New w w' := by
  have hw := ((New.refl w).alloc (.cells #[.int .i64 kd, .int .i64 sa, .int .i64 ho, .int .i64 si, .int .i64 wh, .int .i64 su, .slice ga gn gc, .bool has, .int .i64 o, .slice a n c, .int .i64 nx, .int .i64 md, .int .i64 lc, .slice ra rn rc] 39)).alloc (.cells #[.int .i64 kd, .int .i64 sa, .int .i64 ho, .int .i64 si, .int .i64 wh, .int .i64 su, .slice gb gn gd, .bool has, .int .i64 o, .slice b n d, .int .i64 nx, .int .i64 md, .int .i64 lc, .slice rb rn rd] 39)
  have z1 : (kd != kd) = false := by simp
  have z2 : (sa != sa) = false := by simp
  have z3 : (ho != ho) = false := by simp
  have z4 : (si != si) = false := by simp
  have z5 : (wh != wh) = false := by simp
  have z6 : (su != su) = false := by simp
  go_enter Tryd.func9, Tryd.ntmps9
  go_wp2_with fail
  refine (eqUp_any ga a ra gb b rb gn gc n c rn rc gd d rd has o nx md lc gs rs xs _ (hg.new hw) (hx.new hw) (hr.new hw) (kg.new hw) (kx.new hw) (kr.new hw) hgn hn hrn hm1 hm2 hm3).mono ?_
  rintro e w1 ⟨rfl, hn1⟩
  go_wp2
  go_ret
  exact ⟨rfl, hw.trans hn1⟩

end Go.Proofs.YtljkcijakdhdiaaDoor
