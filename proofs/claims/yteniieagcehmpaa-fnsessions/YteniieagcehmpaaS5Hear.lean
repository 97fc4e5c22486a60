/- What is proved here: what HearSession answers, in the program, for every configuration, session and message whose lists have at most 1048576 elements. -/
import Derived.Test.YteniieagcehmpaaS5He
import Derived.Test.YteniieagcehmpaaMsSp2
namespace Go.Proofs.Yteniieagcehmpaa
open Go.RowKit Go.Sort
set_option linter.unusedVariables false
set_option linter.unusedSimpArgs false

/-- What HearSession answers, where nothing has a fault. -/
def hears0 (st pe ho sp ch kd sa mh : Int) : Rs := cntR (hearR st pe ho 0 sp ch kd sa mh)
/-- What HearSession answers; q is the fault of the message. -/
def hearsR (ca ci ch st pe ho si sp kd sa mh q : Int) : Rs :=
  if ask ca ci ch st pe ho si sp = 0 then (if q = 0 then hears0 st pe ho sp ch kd sa mh else badR q) else badR (ask ca ci ch st pe ho si sp)

set_option maxHeartbeats 6400000 in
theorem hearBy0 (ca ci ch st pe ho si sp kd sa mh mi wh su : Int) (ga pa ra : Option Addr) (gn gc pn pc rn rc : Nat) (has : Bool) (mo nx md lc : Int) (gs rs : List (Int × Int)) (xs : List Int) (r : Rs) (w : World) (hg : PsAt w ga gs) (hx : NsAt w pa xs) (hr : PsAt w ra rs) (hgn : gs.length = gn) (hpn : xs.length = pn) (hrn : rs.length = rn) (hm1 : gn ≤ 1048576) (hm2 : pn ≤ 1048576) (hm3 : rn ≤ 1048576) (hk : ask ca ci ch st pe ho si sp = 0) (hq : mf kd sa mh mi wh su gs has mo xs nx md lc rs = 0)
    (hc : Hid (∀ W, Calls Try.prog 18 #[.int .i64 st] W fun e w' => (∃ h, e = .returned (.agg #[.func (.func 37) #[] #[], h])) ∧ New W w'))
    (hF : Hid (∀ W, Calls Try.prog 37 #[.agg #[.int .i64 ca, .int .i64 ci, .int .i64 ch], .agg #[.int .i64 st, .int .i64 pe, .int .i64 ho, .int .i64 0, .int .i64 sp], .agg #[.int .i64 kd, .int .i64 sa, .int .i64 mh, .int .i64 mi, .int .i64 wh, .int .i64 su, .slice ga gn gc, .bool has, .int .i64 mo, .slice pa pn pc, .int .i64 nx, .int .i64 md, .int .i64 lc, .slice ra rn rc]] W (Ans W r))) : Calls Try.prog 6 #[.agg #[.int .i64 ca, .int .i64 ci, .int .i64 ch], .agg #[.int .i64 st, .int .i64 pe, .int .i64 ho, .int .i64 si, .int .i64 sp], .agg #[.int .i64 kd, .int .i64 sa, .int .i64 mh, .int .i64 mi, .int .i64 wh, .int .i64 su, .slice ga gn gc, .bool has, .int .i64 mo, .slice pa pn pc, .int .i64 nx, .int .i64 md, .int .i64 lc, .slice ra rn rc]] w (Ans w (cntR r)) := by
  have N0 : New w ((((w.alloc (.cells #[.int .i64 ca, .int .i64 ci, .int .i64 ch] 25)).alloc (.cells #[.int .i64 st, .int .i64 pe, .int .i64 ho, .int .i64 si, .int .i64 sp] 27)).alloc (.cells #[.int .i64 kd, .int .i64 sa, .int .i64 mh, .int .i64 mi, .int .i64 wh, .int .i64 su, .slice ga gn gc, .bool has, .int .i64 mo, .slice pa pn pc, .int .i64 nx, .int .i64 md, .int .i64 lc, .slice ra rn rc] 35)).alloc (.cells #[.int .i64 0, .int .i64 0, .int .i64 0, .int .i64 0, .int .i64 0, .int .i64 0, .slice none 0 0, .bool false, .bool false, .bool false] 40)) := ((((New.refl w).alloc _).alloc _).alloc _).alloc _
  have bC0 : Blk ((((w.alloc (.cells #[.int .i64 ca, .int .i64 ci, .int .i64 ch] 25)).alloc (.cells #[.int .i64 st, .int .i64 pe, .int .i64 ho, .int .i64 si, .int .i64 sp] 27)).alloc (.cells #[.int .i64 kd, .int .i64 sa, .int .i64 mh, .int .i64 mi, .int .i64 wh, .int .i64 su, .slice ga gn gc, .bool has, .int .i64 mo, .slice pa pn pc, .int .i64 nx, .int .i64 md, .int .i64 lc, .slice ra rn rc] 35)).alloc (.cells #[.int .i64 0, .int .i64 0, .int .i64 0, .int .i64 0, .int .i64 0, .int .i64 0, .slice none 0 0, .bool false, .bool false, .bool false] 40)) w.heap.size 25 #[.int .i64 ca, .int .i64 ci, .int .i64 ch] := (((Blk.mk _ _ _ _ rfl).alloc _).alloc _).alloc _
  have bS0 : Blk ((((w.alloc (.cells #[.int .i64 ca, .int .i64 ci, .int .i64 ch] 25)).alloc (.cells #[.int .i64 st, .int .i64 pe, .int .i64 ho, .int .i64 si, .int .i64 sp] 27)).alloc (.cells #[.int .i64 kd, .int .i64 sa, .int .i64 mh, .int .i64 mi, .int .i64 wh, .int .i64 su, .slice ga gn gc, .bool has, .int .i64 mo, .slice pa pn pc, .int .i64 nx, .int .i64 md, .int .i64 lc, .slice ra rn rc] 35)).alloc (.cells #[.int .i64 0, .int .i64 0, .int .i64 0, .int .i64 0, .int .i64 0, .int .i64 0, .slice none 0 0, .bool false, .bool false, .bool false] 40)) (w.heap.size + 1) 27 #[.int .i64 st, .int .i64 pe, .int .i64 ho, .int .i64 si, .int .i64 sp] := ((Blk.mk _ _ _ _ (by simp)).alloc _).alloc _
  have bM0 : Blk ((((w.alloc (.cells #[.int .i64 ca, .int .i64 ci, .int .i64 ch] 25)).alloc (.cells #[.int .i64 st, .int .i64 pe, .int .i64 ho, .int .i64 si, .int .i64 sp] 27)).alloc (.cells #[.int .i64 kd, .int .i64 sa, .int .i64 mh, .int .i64 mi, .int .i64 wh, .int .i64 su, .slice ga gn gc, .bool has, .int .i64 mo, .slice pa pn pc, .int .i64 nx, .int .i64 md, .int .i64 lc, .slice ra rn rc] 35)).alloc (.cells #[.int .i64 0, .int .i64 0, .int .i64 0, .int .i64 0, .int .i64 0, .int .i64 0, .slice none 0 0, .bool false, .bool false, .bool false] 40)) (w.heap.size + 1 + 1) 35 #[.int .i64 kd, .int .i64 sa, .int .i64 mh, .int .i64 mi, .int .i64 wh, .int .i64 su, .slice ga gn gc, .bool has, .int .i64 mo, .slice pa pn pc, .int .i64 nx, .int .i64 md, .int .i64 lc, .slice ra rn rc] := (Blk.mk _ _ _ _ (by simp)).alloc _
  have bR0 : Blk ((((w.alloc (.cells #[.int .i64 ca, .int .i64 ci, .int .i64 ch] 25)).alloc (.cells #[.int .i64 st, .int .i64 pe, .int .i64 ho, .int .i64 si, .int .i64 sp] 27)).alloc (.cells #[.int .i64 kd, .int .i64 sa, .int .i64 mh, .int .i64 mi, .int .i64 wh, .int .i64 su, .slice ga gn gc, .bool has, .int .i64 mo, .slice pa pn pc, .int .i64 nx, .int .i64 md, .int .i64 lc, .slice ra rn rc] 35)).alloc (.cells #[.int .i64 0, .int .i64 0, .int .i64 0, .int .i64 0, .int .i64 0, .int .i64 0, .slice none 0 0, .bool false, .bool false, .bool false] 40)) (w.heap.size + 1 + 1 + 1) 40 #[.int .i64 0, .int .i64 0, .int .i64 0, .int .i64 0, .int .i64 0, .int .i64 0, .slice none 0 0, .bool false, .bool false, .bool false] := Blk.mk _ _ _ _ (by simp)
  have ge2 : w.heap.size ≤ w.heap.size + 1 + 1 + 1 := by omega
  obtain ⟨c, rt, rp, rh, ri, rs5, say, up, dn, ud⟩ := r
  cases say with
  | none =>
    go_enter_defers Try.func6, Try.ntmps6
    go_wp2_with fail
    refine (implAsk ca ci ch st pe ho si sp _).mono ?_
    rintro e w1 ⟨rfl, hn1⟩
    have bC1 := bC0.new hn1
    have bS1 := bS0.new hn1
    have bM1 := bM0.new hn1
    have bR1 := bR0.new hn1
    have N1 := N0.trans hn1
    clear bC0 bS0 bM0 bR0 N0
    have cC := bC1.cells
    have cS := bS1.cells
    have cM := bM1.cells
    have cR := bR1.cells
    have fR := bR1.frees
    have lR := bR1.lt
    have fS := bS1.frees
    have lS := bS1.lt
    have l1 : w.heap.size < w1.heap.size := by omega
    have l2 : w.heap.size + 1 + 1 < w1.heap.size := by omega
    clear hn1
    rw [hk]
    clear hk
    go_wp2_with fail
    refine (implMF ga pa ra gn gc pn pc rn rc has mo nx md lc gs rs xs kd sa mh mi wh su _ (hg.new N1) (hx.new N1) (hr.new N1) hgn hpn hrn hm1 hm2 hm3).mono ?_
    rintro e w2 ⟨rfl, hn2⟩
    clear cC cS cM cR fR lR fS lS l1 l2
    have bC2 := bC1.new hn2
    have bS2 := bS1.new hn2
    have bM2 := bM1.new hn2
    have bR2 := bR1.new hn2
    have N2 := N1.trans hn2
    clear bC1 bS1 bM1 bR1 N1
    have cC := bC2.cells
    have cS := bS2.cells
    have cM := bM2.cells
    have cR := bR2.cells
    have fR := bR2.frees
    have lR := bR2.lt
    have fS := bS2.frees
    have lS := bS2.lt
    have l1 : w.heap.size < w2.heap.size := by omega
    have l2 : w.heap.size + 1 + 1 < w2.heap.size := by omega
    clear hn2
    rw [hq]
    clear hq hg hx hr hgn hpn hrn hm1 hm2 hm3
    go_upto_region 9 with fail
    have bS3 : Blk (w2.setCell ⟨w.heap.size + 1, 3, none⟩ (.int .i64 0)) (w.heap.size + 1) 27 #[.int .i64 st, .int .i64 pe, .int .i64 ho, .int .i64 0, .int .i64 sp] := by have h9 := bS2.set 3 (.int .i64 0); simp only [List.setIfInBounds_toArray, List.set_cons_zero, List.set_cons_succ] at h9; exact h9
    have n1 : ¬ w.heap.size + 1 = w.heap.size := by omega
    have n2 : ¬ w.heap.size + 1 = w.heap.size + 1 + 1 := by omega
    have n3 : ¬ w.heap.size + 1 = w.heap.size + 1 + 1 + 1 := by omega
    have g1 : w.heap.size ≤ w.heap.size + 1 := by omega
    have bC3 : Blk (w2.setCell ⟨w.heap.size + 1, 3, none⟩ (.int .i64 0)) w.heap.size 25 #[.int .i64 ca, .int .i64 ci, .int .i64 ch] := (Blk.set5 n1).2 bC2
    have bM3 : Blk (w2.setCell ⟨w.heap.size + 1, 3, none⟩ (.int .i64 0)) (w.heap.size + 1 + 1) 35 #[.int .i64 kd, .int .i64 sa, .int .i64 mh, .int .i64 mi, .int .i64 wh, .int .i64 su, .slice ga gn gc, .bool has, .int .i64 mo, .slice pa pn pc, .int .i64 nx, .int .i64 md, .int .i64 lc, .slice ra rn rc] := (Blk.set5 n2).2 bM2
    have bR3 : Blk (w2.setCell ⟨w.heap.size + 1, 3, none⟩ (.int .i64 0)) (w.heap.size + 1 + 1 + 1) 40 #[.int .i64 0, .int .i64 0, .int .i64 0, .int .i64 0, .int .i64 0, .int .i64 0, .slice none 0 0, .bool false, .bool false, .bool false] := (Blk.set5 n3).2 bR2
    have N3 : New w (w2.setCell ⟨w.heap.size + 1, 3, none⟩ (.int .i64 0)) := N2.setCell g1 _
    clear cC cS cM cR fR lR fS lS l1 l2
    clear bC2 bS2 bM2 bR2 N2 n1 n2 n3 g1
    generalize w2.setCell ⟨w.heap.size + 1, 3, none⟩ (.int .i64 0) = w3 at *
    have cC := bC3.cells
    have cS := bS3.cells
    have cM := bM3.cells
    have neC : ¬ w.heap.size + 1 + 1 + 1 = w.heap.size := by omega
    have neS : ¬ w.heap.size + 1 + 1 + 1 = w.heap.size + 1 := by omega
    have neM : ¬ w.heap.size + 1 + 1 + 1 = w.heap.size + 1 + 1 := by omega
    have hfd : ∀ (h v : Value) (X : World), (Instr.field 56 (.agg #[h, v]) 0).run Try.prog X = .ok h X := fun _ _ _ => by kernel_rfl
    go_region_held3 (fun W => (∀ j, W.cell? ⟨w.heap.size, j, none⟩ = #[Value.int .i64 ca, .int .i64 ci, .int .i64 ch][j]?) ∧ (∀ j, W.cell? ⟨w.heap.size + 1, j, none⟩ = #[Value.int .i64 st, .int .i64 pe, .int .i64 ho, .int .i64 0, .int .i64 sp][j]?) ∧ (∀ j, W.cell? ⟨w.heap.size + 1 + 1, j, none⟩ = #[Value.int .i64 kd, .int .i64 sa, .int .i64 mh, .int .i64 mi, .int .i64 wh, .int .i64 su, .slice ga gn gc, .bool has, .int .i64 mo, .slice pa pn pc, .int .i64 nx, .int .i64 md, .int .i64 lc, .slice ra rn rc][j]?)) (exact ⟨by intro j; (try simp (disch := exact neC) only [cellS5]); first | exact cC j | exact cC2 j | exact cC3 j, by intro j; (try simp (disch := exact neS) only [cellS5]); first | exact cS j | exact cS2 j | exact cS3 j, by intro j; (try simp (disch := exact neM) only [cellS5]); first | exact cM j | exact cM2 j | exact cM3 j⟩)
      (first
        | (go_at_call 18; refine (hc.out _).mono ?_; rintro e w4 ⟨⟨hh, rfl⟩, hn4⟩; have cC2 := (bC3.new (((New.refl _).drew).trans hn4)).cells; have cS2 := (bS3.new (((New.refl _).drew).trans hn4)).cells; have cM2 := (bM3.new (((New.refl _).drew).trans hn4)).cells)
        | (go_at_call 37; refine (hF.out _).mono ?_; rintro e w5 ⟨g, v, rfl, hg, hl, hs, hn5⟩; have hv : v = .slice none 0 0 := hs; subst hv; dsimp only [srC]; have cC3 := (bC3.new ((((New.refl _).drew).trans hn4).trans hn5)).cells; have cS3 := (bS3.new ((((New.refl _).drew).trans hn4).trans hn5)).cells; have cM3 := (bM3.new ((((New.refl _).drew).trans hn4).trans hn5)).cells; have bR5 := bR3.new ((((New.refl _).drew).trans hn4).trans hn5); have cR := bR5.cells; have fR := bR5.frees; have lR := bR5.lt))
    have N5 := N3.trans ((((New.refl _).drew).trans hn4).trans hn5)
    have kk := hn4.size
    simp at kk
    have l2 : w.heap.size + 1 + 1 + 1 < w4.heap.size := by have := bR3.lt; omega
    go_wp2
    have b6 : Blk ((((((((((w5.setCell ⟨w.heap.size + 1 + 1 + 1, 0, none⟩ (.int .i64 c)).setCell ⟨w.heap.size + 1 + 1 + 1, 1, none⟩ (.int .i64 rt)).setCell ⟨w.heap.size + 1 + 1 + 1, 2, none⟩ (.int .i64 rp)).setCell ⟨w.heap.size + 1 + 1 + 1, 3, none⟩ (.int .i64 rh)).setCell ⟨w.heap.size + 1 + 1 + 1, 4, none⟩ (.int .i64 ri)).setCell ⟨w.heap.size + 1 + 1 + 1, 5, none⟩ (.int .i64 rs5)).setCell ⟨w.heap.size + 1 + 1 + 1, 6, none⟩ (.slice none 0 0)).setCell ⟨w.heap.size + 1 + 1 + 1, 7, none⟩ (.bool up)).setCell ⟨w.heap.size + 1 + 1 + 1, 8, none⟩ (.bool dn)).setCell ⟨w.heap.size + 1 + 1 + 1, 9, none⟩ (.bool ud)) (w.heap.size + 1 + 1 + 1) 40 #[.int .i64 c, .int .i64 rt, .int .i64 rp, .int .i64 rh, .int .i64 ri, .int .i64 rs5, .slice none 0 0, .bool up, .bool dn, .bool ud] := blkT10 _ _ _ _ _ _ _ _ _ _ bR5
    have N6 : New w ((((((((((w5.setCell ⟨w.heap.size + 1 + 1 + 1, 0, none⟩ (.int .i64 c)).setCell ⟨w.heap.size + 1 + 1 + 1, 1, none⟩ (.int .i64 rt)).setCell ⟨w.heap.size + 1 + 1 + 1, 2, none⟩ (.int .i64 rp)).setCell ⟨w.heap.size + 1 + 1 + 1, 3, none⟩ (.int .i64 rh)).setCell ⟨w.heap.size + 1 + 1 + 1, 4, none⟩ (.int .i64 ri)).setCell ⟨w.heap.size + 1 + 1 + 1, 5, none⟩ (.int .i64 rs5)).setCell ⟨w.heap.size + 1 + 1 + 1, 6, none⟩ (.slice none 0 0)).setCell ⟨w.heap.size + 1 + 1 + 1, 7, none⟩ (.bool up)).setCell ⟨w.heap.size + 1 + 1 + 1, 8, none⟩ (.bool dn)).setCell ⟨w.heap.size + 1 + 1 + 1, 9, none⟩ (.bool ud)) := by simp (disch := exact ge2) only [New.set5]; exact N5
    have lt6 : w.heap.size < ((((((((((w5.setCell ⟨w.heap.size + 1 + 1 + 1, 0, none⟩ (.int .i64 c)).setCell ⟨w.heap.size + 1 + 1 + 1, 1, none⟩ (.int .i64 rt)).setCell ⟨w.heap.size + 1 + 1 + 1, 2, none⟩ (.int .i64 rp)).setCell ⟨w.heap.size + 1 + 1 + 1, 3, none⟩ (.int .i64 rh)).setCell ⟨w.heap.size + 1 + 1 + 1, 4, none⟩ (.int .i64 ri)).setCell ⟨w.heap.size + 1 + 1 + 1, 5, none⟩ (.int .i64 rs5)).setCell ⟨w.heap.size + 1 + 1 + 1, 6, none⟩ (.slice none 0 0)).setCell ⟨w.heap.size + 1 + 1 + 1, 7, none⟩ (.bool up)).setCell ⟨w.heap.size + 1 + 1 + 1, 8, none⟩ (.bool dn)).setCell ⟨w.heap.size + 1 + 1 + 1, 9, none⟩ (.bool ud)).heap.size := by simp [World.setCell]; omega
    clear cR fR lR bR5 N5 cS3 cC3 cM3
    generalize ((((((((((w5.setCell ⟨w.heap.size + 1 + 1 + 1, 0, none⟩ (.int .i64 c)).setCell ⟨w.heap.size + 1 + 1 + 1, 1, none⟩ (.int .i64 rt)).setCell ⟨w.heap.size + 1 + 1 + 1, 2, none⟩ (.int .i64 rp)).setCell ⟨w.heap.size + 1 + 1 + 1, 3, none⟩ (.int .i64 rh)).setCell ⟨w.heap.size + 1 + 1 + 1, 4, none⟩ (.int .i64 ri)).setCell ⟨w.heap.size + 1 + 1 + 1, 5, none⟩ (.int .i64 rs5)).setCell ⟨w.heap.size + 1 + 1 + 1, 6, none⟩ (.slice none 0 0)).setCell ⟨w.heap.size + 1 + 1 + 1, 7, none⟩ (.bool up)).setCell ⟨w.heap.size + 1 + 1 + 1, 8, none⟩ (.bool dn)).setCell ⟨w.heap.size + 1 + 1 + 1, 9, none⟩ (.bool ud)) = w6 at *
    refine leaves_cons (f := 17) (args := #[.pointer (some ⟨w.heap.size + 1 + 1 + 1, 0, none⟩)]) (by simp) (by simp [go_sem]) ?_
    refine (countN _ _ _ _ _ _ _ _ _ _ _ _ b6).mono ?_
    rintro e u' w7 ⟨rfl, rfl, rfl⟩
    have c7 := b6.cells
    simp [Leaves, settle, results, Try.results6, go_sem, c7]
    exact ⟨w.heap.size, _, rfl, Nat.le_refl _, lt6, rfl, N6⟩
  | some m =>
    obtain ⟨m0, m1, m2, m3, m4, m5⟩ := m
    go_enter_defers Try.func6, Try.ntmps6
    go_wp2_with fail
    refine (implAsk ca ci ch st pe ho si sp _).mono ?_
    rintro e w1 ⟨rfl, hn1⟩
    have bC1 := bC0.new hn1
    have bS1 := bS0.new hn1
    have bM1 := bM0.new hn1
    have bR1 := bR0.new hn1
    have N1 := N0.trans hn1
    clear bC0 bS0 bM0 bR0 N0
    have cC := bC1.cells
    have cS := bS1.cells
    have cM := bM1.cells
    have cR := bR1.cells
    have fR := bR1.frees
    have lR := bR1.lt
    have fS := bS1.frees
    have lS := bS1.lt
    have l1 : w.heap.size < w1.heap.size := by omega
    have l2 : w.heap.size + 1 + 1 < w1.heap.size := by omega
    clear hn1
    rw [hk]
    clear hk
    go_wp2_with fail
    refine (implMF ga pa ra gn gc pn pc rn rc has mo nx md lc gs rs xs kd sa mh mi wh su _ (hg.new N1) (hx.new N1) (hr.new N1) hgn hpn hrn hm1 hm2 hm3).mono ?_
    rintro e w2 ⟨rfl, hn2⟩
    clear cC cS cM cR fR lR fS lS l1 l2
    have bC2 := bC1.new hn2
    have bS2 := bS1.new hn2
    have bM2 := bM1.new hn2
    have bR2 := bR1.new hn2
    have N2 := N1.trans hn2
    clear bC1 bS1 bM1 bR1 N1
    have cC := bC2.cells
    have cS := bS2.cells
    have cM := bM2.cells
    have cR := bR2.cells
    have fR := bR2.frees
    have lR := bR2.lt
    have fS := bS2.frees
    have lS := bS2.lt
    have l1 : w.heap.size < w2.heap.size := by omega
    have l2 : w.heap.size + 1 + 1 < w2.heap.size := by omega
    clear hn2
    rw [hq]
    clear hq hg hx hr hgn hpn hrn hm1 hm2 hm3
    go_upto_region 9 with fail
    have bS3 : Blk (w2.setCell ⟨w.heap.size + 1, 3, none⟩ (.int .i64 0)) (w.heap.size + 1) 27 #[.int .i64 st, .int .i64 pe, .int .i64 ho, .int .i64 0, .int .i64 sp] := by have h9 := bS2.set 3 (.int .i64 0); simp only [List.setIfInBounds_toArray, List.set_cons_zero, List.set_cons_succ] at h9; exact h9
    have n1 : ¬ w.heap.size + 1 = w.heap.size := by omega
    have n2 : ¬ w.heap.size + 1 = w.heap.size + 1 + 1 := by omega
    have n3 : ¬ w.heap.size + 1 = w.heap.size + 1 + 1 + 1 := by omega
    have g1 : w.heap.size ≤ w.heap.size + 1 := by omega
    have bC3 : Blk (w2.setCell ⟨w.heap.size + 1, 3, none⟩ (.int .i64 0)) w.heap.size 25 #[.int .i64 ca, .int .i64 ci, .int .i64 ch] := (Blk.set5 n1).2 bC2
    have bM3 : Blk (w2.setCell ⟨w.heap.size + 1, 3, none⟩ (.int .i64 0)) (w.heap.size + 1 + 1) 35 #[.int .i64 kd, .int .i64 sa, .int .i64 mh, .int .i64 mi, .int .i64 wh, .int .i64 su, .slice ga gn gc, .bool has, .int .i64 mo, .slice pa pn pc, .int .i64 nx, .int .i64 md, .int .i64 lc, .slice ra rn rc] := (Blk.set5 n2).2 bM2
    have bR3 : Blk (w2.setCell ⟨w.heap.size + 1, 3, none⟩ (.int .i64 0)) (w.heap.size + 1 + 1 + 1) 40 #[.int .i64 0, .int .i64 0, .int .i64 0, .int .i64 0, .int .i64 0, .int .i64 0, .slice none 0 0, .bool false, .bool false, .bool false] := (Blk.set5 n3).2 bR2
    have N3 : New w (w2.setCell ⟨w.heap.size + 1, 3, none⟩ (.int .i64 0)) := N2.setCell g1 _
    clear cC cS cM cR fR lR fS lS l1 l2
    clear bC2 bS2 bM2 bR2 N2 n1 n2 n3 g1
    generalize w2.setCell ⟨w.heap.size + 1, 3, none⟩ (.int .i64 0) = w3 at *
    have cC := bC3.cells
    have cS := bS3.cells
    have cM := bM3.cells
    have neC : ¬ w.heap.size + 1 + 1 + 1 = w.heap.size := by omega
    have neS : ¬ w.heap.size + 1 + 1 + 1 = w.heap.size + 1 := by omega
    have neM : ¬ w.heap.size + 1 + 1 + 1 = w.heap.size + 1 + 1 := by omega
    have hfd : ∀ (h v : Value) (X : World), (Instr.field 56 (.agg #[h, v]) 0).run Try.prog X = .ok h X := fun _ _ _ => by kernel_rfl
    go_region_held3 (fun W => (∀ j, W.cell? ⟨w.heap.size, j, none⟩ = #[Value.int .i64 ca, .int .i64 ci, .int .i64 ch][j]?) ∧ (∀ j, W.cell? ⟨w.heap.size + 1, j, none⟩ = #[Value.int .i64 st, .int .i64 pe, .int .i64 ho, .int .i64 0, .int .i64 sp][j]?) ∧ (∀ j, W.cell? ⟨w.heap.size + 1 + 1, j, none⟩ = #[Value.int .i64 kd, .int .i64 sa, .int .i64 mh, .int .i64 mi, .int .i64 wh, .int .i64 su, .slice ga gn gc, .bool has, .int .i64 mo, .slice pa pn pc, .int .i64 nx, .int .i64 md, .int .i64 lc, .slice ra rn rc][j]?)) (exact ⟨by intro j; (try simp (disch := exact neC) only [cellS5]); first | exact cC j | exact cC2 j | exact cC3 j, by intro j; (try simp (disch := exact neS) only [cellS5]); first | exact cS j | exact cS2 j | exact cS3 j, by intro j; (try simp (disch := exact neM) only [cellS5]); first | exact cM j | exact cM2 j | exact cM3 j⟩)
      (first
        | (go_at_call 18; refine (hc.out _).mono ?_; rintro e w4 ⟨⟨hh, rfl⟩, hn4⟩; have cC2 := (bC3.new (((New.refl _).drew).trans hn4)).cells; have cS2 := (bS3.new (((New.refl _).drew).trans hn4)).cells; have cM2 := (bM3.new (((New.refl _).drew).trans hn4)).cells)
        | (go_at_call 37; refine (hF.out _).mono ?_; rintro e w5 ⟨g, v, rfl, hg, hl, hs, hn5⟩; obtain ⟨hv, hb⟩ := hs; subst hv; dsimp only [srC]; have cC3 := (bC3.new ((((New.refl _).drew).trans hn4).trans hn5)).cells; have cS3 := (bS3.new ((((New.refl _).drew).trans hn4).trans hn5)).cells; have cM3 := (bM3.new ((((New.refl _).drew).trans hn4).trans hn5)).cells; have bR5 := bR3.new ((((New.refl _).drew).trans hn4).trans hn5); have cR := bR5.cells; have fR := bR5.frees; have lR := bR5.lt))
    have N5 := N3.trans ((((New.refl _).drew).trans hn4).trans hn5)
    have kk := hn4.size
    simp at kk
    have l2 : w.heap.size + 1 + 1 + 1 < w4.heap.size := by have := bR3.lt; omega
    go_wp2
    have b6 : Blk ((((((((((w5.setCell ⟨w.heap.size + 1 + 1 + 1, 0, none⟩ (.int .i64 c)).setCell ⟨w.heap.size + 1 + 1 + 1, 1, none⟩ (.int .i64 rt)).setCell ⟨w.heap.size + 1 + 1 + 1, 2, none⟩ (.int .i64 rp)).setCell ⟨w.heap.size + 1 + 1 + 1, 3, none⟩ (.int .i64 rh)).setCell ⟨w.heap.size + 1 + 1 + 1, 4, none⟩ (.int .i64 ri)).setCell ⟨w.heap.size + 1 + 1 + 1, 5, none⟩ (.int .i64 rs5)).setCell ⟨w.heap.size + 1 + 1 + 1, 6, none⟩ (.slice (some ⟨g, 0, none⟩) 1 1)).setCell ⟨w.heap.size + 1 + 1 + 1, 7, none⟩ (.bool up)).setCell ⟨w.heap.size + 1 + 1 + 1, 8, none⟩ (.bool dn)).setCell ⟨w.heap.size + 1 + 1 + 1, 9, none⟩ (.bool ud)) (w.heap.size + 1 + 1 + 1) 40 #[.int .i64 c, .int .i64 rt, .int .i64 rp, .int .i64 rh, .int .i64 ri, .int .i64 rs5, .slice (some ⟨g, 0, none⟩) 1 1, .bool up, .bool dn, .bool ud] := blkT10 _ _ _ _ _ _ _ _ _ _ bR5
    have N6 : New w ((((((((((w5.setCell ⟨w.heap.size + 1 + 1 + 1, 0, none⟩ (.int .i64 c)).setCell ⟨w.heap.size + 1 + 1 + 1, 1, none⟩ (.int .i64 rt)).setCell ⟨w.heap.size + 1 + 1 + 1, 2, none⟩ (.int .i64 rp)).setCell ⟨w.heap.size + 1 + 1 + 1, 3, none⟩ (.int .i64 rh)).setCell ⟨w.heap.size + 1 + 1 + 1, 4, none⟩ (.int .i64 ri)).setCell ⟨w.heap.size + 1 + 1 + 1, 5, none⟩ (.int .i64 rs5)).setCell ⟨w.heap.size + 1 + 1 + 1, 6, none⟩ (.slice (some ⟨g, 0, none⟩) 1 1)).setCell ⟨w.heap.size + 1 + 1 + 1, 7, none⟩ (.bool up)).setCell ⟨w.heap.size + 1 + 1 + 1, 8, none⟩ (.bool dn)).setCell ⟨w.heap.size + 1 + 1 + 1, 9, none⟩ (.bool ud)) := by simp (disch := exact ge2) only [New.set5]; exact N5
    have ne : ¬ w.heap.size + 1 + 1 + 1 = g := by omega
    have hg0 : w.heap.size ≤ g := by omega
    have hb6 : Blk ((((((((((w5.setCell ⟨w.heap.size + 1 + 1 + 1, 0, none⟩ (.int .i64 c)).setCell ⟨w.heap.size + 1 + 1 + 1, 1, none⟩ (.int .i64 rt)).setCell ⟨w.heap.size + 1 + 1 + 1, 2, none⟩ (.int .i64 rp)).setCell ⟨w.heap.size + 1 + 1 + 1, 3, none⟩ (.int .i64 rh)).setCell ⟨w.heap.size + 1 + 1 + 1, 4, none⟩ (.int .i64 ri)).setCell ⟨w.heap.size + 1 + 1 + 1, 5, none⟩ (.int .i64 rs5)).setCell ⟨w.heap.size + 1 + 1 + 1, 6, none⟩ (.slice (some ⟨g, 0, none⟩) 1 1)).setCell ⟨w.heap.size + 1 + 1 + 1, 7, none⟩ (.bool up)).setCell ⟨w.heap.size + 1 + 1 + 1, 8, none⟩ (.bool dn)).setCell ⟨w.heap.size + 1 + 1 + 1, 9, none⟩ (.bool ud)) g 35 (msC m0 m1 m2 m3 m4 m5) := by simp (disch := exact ne) only [Blk.set5]; exact hb
    have hl6 : g < ((((((((((w5.setCell ⟨w.heap.size + 1 + 1 + 1, 0, none⟩ (.int .i64 c)).setCell ⟨w.heap.size + 1 + 1 + 1, 1, none⟩ (.int .i64 rt)).setCell ⟨w.heap.size + 1 + 1 + 1, 2, none⟩ (.int .i64 rp)).setCell ⟨w.heap.size + 1 + 1 + 1, 3, none⟩ (.int .i64 rh)).setCell ⟨w.heap.size + 1 + 1 + 1, 4, none⟩ (.int .i64 ri)).setCell ⟨w.heap.size + 1 + 1 + 1, 5, none⟩ (.int .i64 rs5)).setCell ⟨w.heap.size + 1 + 1 + 1, 6, none⟩ (.slice (some ⟨g, 0, none⟩) 1 1)).setCell ⟨w.heap.size + 1 + 1 + 1, 7, none⟩ (.bool up)).setCell ⟨w.heap.size + 1 + 1 + 1, 8, none⟩ (.bool dn)).setCell ⟨w.heap.size + 1 + 1 + 1, 9, none⟩ (.bool ud)).heap.size := by simp [World.setCell]; exact hl
    have lt6 : w.heap.size < ((((((((((w5.setCell ⟨w.heap.size + 1 + 1 + 1, 0, none⟩ (.int .i64 c)).setCell ⟨w.heap.size + 1 + 1 + 1, 1, none⟩ (.int .i64 rt)).setCell ⟨w.heap.size + 1 + 1 + 1, 2, none⟩ (.int .i64 rp)).setCell ⟨w.heap.size + 1 + 1 + 1, 3, none⟩ (.int .i64 rh)).setCell ⟨w.heap.size + 1 + 1 + 1, 4, none⟩ (.int .i64 ri)).setCell ⟨w.heap.size + 1 + 1 + 1, 5, none⟩ (.int .i64 rs5)).setCell ⟨w.heap.size + 1 + 1 + 1, 6, none⟩ (.slice (some ⟨g, 0, none⟩) 1 1)).setCell ⟨w.heap.size + 1 + 1 + 1, 7, none⟩ (.bool up)).setCell ⟨w.heap.size + 1 + 1 + 1, 8, none⟩ (.bool dn)).setCell ⟨w.heap.size + 1 + 1 + 1, 9, none⟩ (.bool ud)).heap.size := by simp [World.setCell]; omega
    clear cR fR lR bR5 N5 cS3 cC3 cM3
    generalize ((((((((((w5.setCell ⟨w.heap.size + 1 + 1 + 1, 0, none⟩ (.int .i64 c)).setCell ⟨w.heap.size + 1 + 1 + 1, 1, none⟩ (.int .i64 rt)).setCell ⟨w.heap.size + 1 + 1 + 1, 2, none⟩ (.int .i64 rp)).setCell ⟨w.heap.size + 1 + 1 + 1, 3, none⟩ (.int .i64 rh)).setCell ⟨w.heap.size + 1 + 1 + 1, 4, none⟩ (.int .i64 ri)).setCell ⟨w.heap.size + 1 + 1 + 1, 5, none⟩ (.int .i64 rs5)).setCell ⟨w.heap.size + 1 + 1 + 1, 6, none⟩ (.slice (some ⟨g, 0, none⟩) 1 1)).setCell ⟨w.heap.size + 1 + 1 + 1, 7, none⟩ (.bool up)).setCell ⟨w.heap.size + 1 + 1 + 1, 8, none⟩ (.bool dn)).setCell ⟨w.heap.size + 1 + 1 + 1, 9, none⟩ (.bool ud)) = w6 at *
    refine leaves_cons (f := 17) (args := #[.pointer (some ⟨w.heap.size + 1 + 1 + 1, 0, none⟩)]) (by simp) (by simp [go_sem]) ?_
    refine (countS _ _ _ _ _ _ _ _ _ _ _ _ _ b6).mono ?_
    rintro e u' w7 ⟨rfl, rfl, rfl⟩
    have b7 := blkT1 (.int .i64 0) b6
    have c7 := b7.cells
    simp [Leaves, settle, results, Try.results6, go_sem, c7]
    refine ⟨g, _, rfl, hg0, by simp [World.setCell]; exact hl6, ⟨rfl, ?_⟩, ?_⟩
    · simp (disch := exact ne) only [Blk.set5]; exact hb6
    simp (disch := exact ge2) only [New.set5, N6]

set_option maxHeartbeats 6400000 in
theorem hearBy1 (ca ci ch st pe ho si sp kd sa mh mi wh su : Int) (ga pa ra : Option Addr) (gn gc pn pc rn rc : Nat) (has : Bool) (mo nx md lc : Int) (gs rs : List (Int × Int)) (xs : List Int) (r : Rs) (w : World) (hg : PsAt w ga gs) (hx : NsAt w pa xs) (hr : PsAt w ra rs) (hgn : gs.length = gn) (hpn : xs.length = pn) (hrn : rs.length = rn) (hm1 : gn ≤ 1048576) (hm2 : pn ≤ 1048576) (hm3 : rn ≤ 1048576) (hk : ask ca ci ch st pe ho si sp = 0) (hq : mf kd sa mh mi wh su gs has mo xs nx md lc rs = 0)
    (hc : Hid (∀ W, Calls Try.prog 18 #[.int .i64 st] W fun e w' => (∃ h, e = .returned (.agg #[.func (.func 39) #[] #[], h])) ∧ New W w'))
    (hF : Hid (∀ W, Calls Try.prog 39 #[.agg #[.int .i64 ca, .int .i64 ci, .int .i64 ch], .agg #[.int .i64 st, .int .i64 pe, .int .i64 ho, .int .i64 0, .int .i64 sp], .agg #[.int .i64 kd, .int .i64 sa, .int .i64 mh, .int .i64 mi, .int .i64 wh, .int .i64 su, .slice ga gn gc, .bool has, .int .i64 mo, .slice pa pn pc, .int .i64 nx, .int .i64 md, .int .i64 lc, .slice ra rn rc]] W (Ans W r))) : Calls Try.prog 6 #[.agg #[.int .i64 ca, .int .i64 ci, .int .i64 ch], .agg #[.int .i64 st, .int .i64 pe, .int .i64 ho, .int .i64 si, .int .i64 sp], .agg #[.int .i64 kd, .int .i64 sa, .int .i64 mh, .int .i64 mi, .int .i64 wh, .int .i64 su, .slice ga gn gc, .bool has, .int .i64 mo, .slice pa pn pc, .int .i64 nx, .int .i64 md, .int .i64 lc, .slice ra rn rc]] w (Ans w (cntR r)) := by
  have N0 : New w ((((w.alloc (.cells #[.int .i64 ca, .int .i64 ci, .int .i64 ch] 25)).alloc (.cells #[.int .i64 st, .int .i64 pe, .int .i64 ho, .int .i64 si, .int .i64 sp] 27)).alloc (.cells #[.int .i64 kd, .int .i64 sa, .int .i64 mh, .int .i64 mi, .int .i64 wh, .int .i64 su, .slice ga gn gc, .bool has, .int .i64 mo, .slice pa pn pc, .int .i64 nx, .int .i64 md, .int .i64 lc, .slice ra rn rc] 35)).alloc (.cells #[.int .i64 0, .int .i64 0, .int .i64 0, .int .i64 0, .int .i64 0, .int .i64 0, .slice none 0 0, .bool false, .bool false, .bool false] 40)) := ((((New.refl w).alloc _).alloc _).alloc _).alloc _
  have bC0 : Blk ((((w.alloc (.cells #[.int .i64 ca, .int .i64 ci, .int .i64 ch] 25)).alloc (.cells #[.int .i64 st, .int .i64 pe, .int .i64 ho, .int .i64 si, .int .i64 sp] 27)).alloc (.cells #[.int .i64 kd, .int .i64 sa, .int .i64 mh, .int .i64 mi, .int .i64 wh, .int .i64 su, .slice ga gn gc, .bool has, .int .i64 mo, .slice pa pn pc, .int .i64 nx, .int .i64 md, .int .i64 lc, .slice ra rn rc] 35)).alloc (.cells #[.int .i64 0, .int .i64 0, .int .i64 0, .int .i64 0, .int .i64 0, .int .i64 0, .slice none 0 0, .bool false, .bool false, .bool false] 40)) w.heap.size 25 #[.int .i64 ca, .int .i64 ci, .int .i64 ch] := (((Blk.mk _ _ _ _ rfl).alloc _).alloc _).alloc _
  have bS0 : Blk ((((w.alloc (.cells #[.int .i64 ca, .int .i64 ci, .int .i64 ch] 25)).alloc (.cells #[.int .i64 st, .int .i64 pe, .int .i64 ho, .int .i64 si, .int .i64 sp] 27)).alloc (.cells #[.int .i64 kd, .int .i64 sa, .int .i64 mh, .int .i64 mi, .int .i64 wh, .int .i64 su, .slice ga gn gc, .bool has, .int .i64 mo, .slice pa pn pc, .int .i64 nx, .int .i64 md, .int .i64 lc, .slice ra rn rc] 35)).alloc (.cells #[.int .i64 0, .int .i64 0, .int .i64 0, .int .i64 0, .int .i64 0, .int .i64 0, .slice none 0 0, .bool false, .bool false, .bool false] 40)) (w.heap.size + 1) 27 #[.int .i64 st, .int .i64 pe, .int .i64 ho, .int .i64 si, .int .i64 sp] := ((Blk.mk _ _ _ _ (by simp)).alloc _).alloc _
  have bM0 : Blk ((((w.alloc (.cells #[.int .i64 ca, .int .i64 ci, .int .i64 ch] 25)).alloc (.cells #[.int .i64 st, .int .i64 pe, .int .i64 ho, .int .i64 si, .int .i64 sp] 27)).alloc (.cells #[.int .i64 kd, .int .i64 sa, .int .i64 mh, .int .i64 mi, .int .i64 wh, .int .i64 su, .slice ga gn gc, .bool has, .int .i64 mo, .slice pa pn pc, .int .i64 nx, .int .i64 md, .int .i64 lc, .slice ra rn rc] 35)).alloc (.cells #[.int .i64 0, .int .i64 0, .int .i64 0, .int .i64 0, .int .i64 0, .int .i64 0, .slice none 0 0, .bool false, .bool false, .bool false] 40)) (w.heap.size + 1 + 1) 35 #[.int .i64 kd, .int .i64 sa, .int .i64 mh, .int .i64 mi, .int .i64 wh, .int .i64 su, .slice ga gn gc, .bool has, .int .i64 mo, .slice pa pn pc, .int .i64 nx, .int .i64 md, .int .i64 lc, .slice ra rn rc] := (Blk.mk _ _ _ _ (by simp)).alloc _
  have bR0 : Blk ((((w.alloc (.cells #[.int .i64 ca, .int .i64 ci, .int .i64 ch] 25)).alloc (.cells #[.int .i64 st, .int .i64 pe, .int .i64 ho, .int .i64 si, .int .i64 sp] 27)).alloc (.cells #[.int .i64 kd, .int .i64 sa, .int .i64 mh, .int .i64 mi, .int .i64 wh, .int .i64 su, .slice ga gn gc, .bool has, .int .i64 mo, .slice pa pn pc, .int .i64 nx, .int .i64 md, .int .i64 lc, .slice ra rn rc] 35)).alloc (.cells #[.int .i64 0, .int .i64 0, .int .i64 0, .int .i64 0, .int .i64 0, .int .i64 0, .slice none 0 0, .bool false, .bool false, .bool false] 40)) (w.heap.size + 1 + 1 + 1) 40 #[.int .i64 0, .int .i64 0, .int .i64 0, .int .i64 0, .int .i64 0, .int .i64 0, .slice none 0 0, .bool false, .bool false, .bool false] := Blk.mk _ _ _ _ (by simp)
  have ge2 : w.heap.size ≤ w.heap.size + 1 + 1 + 1 := by omega
  obtain ⟨c, rt, rp, rh, ri, rs5, say, up, dn, ud⟩ := r
  cases say with
  | none =>
    go_enter_defers Try.func6, Try.ntmps6
    go_wp2_with fail
    refine (implAsk ca ci ch st pe ho si sp _).mono ?_
    rintro e w1 ⟨rfl, hn1⟩
    have bC1 := bC0.new hn1
    have bS1 := bS0.new hn1
    have bM1 := bM0.new hn1
    have bR1 := bR0.new hn1
    have N1 := N0.trans hn1
    clear bC0 bS0 bM0 bR0 N0
    have cC := bC1.cells
    have cS := bS1.cells
    have cM := bM1.cells
    have cR := bR1.cells
    have fR := bR1.frees
    have lR := bR1.lt
    have fS := bS1.frees
    have lS := bS1.lt
    have l1 : w.heap.size < w1.heap.size := by omega
    have l2 : w.heap.size + 1 + 1 < w1.heap.size := by omega
    clear hn1
    rw [hk]
    clear hk
    go_wp2_with fail
    refine (implMF ga pa ra gn gc pn pc rn rc has mo nx md lc gs rs xs kd sa mh mi wh su _ (hg.new N1) (hx.new N1) (hr.new N1) hgn hpn hrn hm1 hm2 hm3).mono ?_
    rintro e w2 ⟨rfl, hn2⟩
    clear cC cS cM cR fR lR fS lS l1 l2
    have bC2 := bC1.new hn2
    have bS2 := bS1.new hn2
    have bM2 := bM1.new hn2
    have bR2 := bR1.new hn2
    have N2 := N1.trans hn2
    clear bC1 bS1 bM1 bR1 N1
    have cC := bC2.cells
    have cS := bS2.cells
    have cM := bM2.cells
    have cR := bR2.cells
    have fR := bR2.frees
    have lR := bR2.lt
    have fS := bS2.frees
    have lS := bS2.lt
    have l1 : w.heap.size < w2.heap.size := by omega
    have l2 : w.heap.size + 1 + 1 < w2.heap.size := by omega
    clear hn2
    rw [hq]
    clear hq hg hx hr hgn hpn hrn hm1 hm2 hm3
    go_upto_region 9 with fail
    have bS3 : Blk (w2.setCell ⟨w.heap.size + 1, 3, none⟩ (.int .i64 0)) (w.heap.size + 1) 27 #[.int .i64 st, .int .i64 pe, .int .i64 ho, .int .i64 0, .int .i64 sp] := by have h9 := bS2.set 3 (.int .i64 0); simp only [List.setIfInBounds_toArray, List.set_cons_zero, List.set_cons_succ] at h9; exact h9
    have n1 : ¬ w.heap.size + 1 = w.heap.size := by omega
    have n2 : ¬ w.heap.size + 1 = w.heap.size + 1 + 1 := by omega
    have n3 : ¬ w.heap.size + 1 = w.heap.size + 1 + 1 + 1 := by omega
    have g1 : w.heap.size ≤ w.heap.size + 1 := by omega
    have bC3 : Blk (w2.setCell ⟨w.heap.size + 1, 3, none⟩ (.int .i64 0)) w.heap.size 25 #[.int .i64 ca, .int .i64 ci, .int .i64 ch] := (Blk.set5 n1).2 bC2
    have bM3 : Blk (w2.setCell ⟨w.heap.size + 1, 3, none⟩ (.int .i64 0)) (w.heap.size + 1 + 1) 35 #[.int .i64 kd, .int .i64 sa, .int .i64 mh, .int .i64 mi, .int .i64 wh, .int .i64 su, .slice ga gn gc, .bool has, .int .i64 mo, .slice pa pn pc, .int .i64 nx, .int .i64 md, .int .i64 lc, .slice ra rn rc] := (Blk.set5 n2).2 bM2
    have bR3 : Blk (w2.setCell ⟨w.heap.size + 1, 3, none⟩ (.int .i64 0)) (w.heap.size + 1 + 1 + 1) 40 #[.int .i64 0, .int .i64 0, .int .i64 0, .int .i64 0, .int .i64 0, .int .i64 0, .slice none 0 0, .bool false, .bool false, .bool false] := (Blk.set5 n3).2 bR2
    have N3 : New w (w2.setCell ⟨w.heap.size + 1, 3, none⟩ (.int .i64 0)) := N2.setCell g1 _
    clear cC cS cM cR fR lR fS lS l1 l2
    clear bC2 bS2 bM2 bR2 N2 n1 n2 n3 g1
    generalize w2.setCell ⟨w.heap.size + 1, 3, none⟩ (.int .i64 0) = w3 at *
    have cC := bC3.cells
    have cS := bS3.cells
    have cM := bM3.cells
    have neC : ¬ w.heap.size + 1 + 1 + 1 = w.heap.size := by omega
    have neS : ¬ w.heap.size + 1 + 1 + 1 = w.heap.size + 1 := by omega
    have neM : ¬ w.heap.size + 1 + 1 + 1 = w.heap.size + 1 + 1 := by omega
    have hfd : ∀ (h v : Value) (X : World), (Instr.field 56 (.agg #[h, v]) 0).run Try.prog X = .ok h X := fun _ _ _ => by kernel_rfl
    go_region_held3 (fun W => (∀ j, W.cell? ⟨w.heap.size, j, none⟩ = #[Value.int .i64 ca, .int .i64 ci, .int .i64 ch][j]?) ∧ (∀ j, W.cell? ⟨w.heap.size + 1, j, none⟩ = #[Value.int .i64 st, .int .i64 pe, .int .i64 ho, .int .i64 0, .int .i64 sp][j]?) ∧ (∀ j, W.cell? ⟨w.heap.size + 1 + 1, j, none⟩ = #[Value.int .i64 kd, .int .i64 sa, .int .i64 mh, .int .i64 mi, .int .i64 wh, .int .i64 su, .slice ga gn gc, .bool has, .int .i64 mo, .slice pa pn pc, .int .i64 nx, .int .i64 md, .int .i64 lc, .slice ra rn rc][j]?)) (exact ⟨by intro j; (try simp (disch := exact neC) only [cellS5]); first | exact cC j | exact cC2 j | exact cC3 j, by intro j; (try simp (disch := exact neS) only [cellS5]); first | exact cS j | exact cS2 j | exact cS3 j, by intro j; (try simp (disch := exact neM) only [cellS5]); first | exact cM j | exact cM2 j | exact cM3 j⟩)
      (first
        | (go_at_call 18; refine (hc.out _).mono ?_; rintro e w4 ⟨⟨hh, rfl⟩, hn4⟩; have cC2 := (bC3.new (((New.refl _).drew).trans hn4)).cells; have cS2 := (bS3.new (((New.refl _).drew).trans hn4)).cells; have cM2 := (bM3.new (((New.refl _).drew).trans hn4)).cells)
        | (go_at_call 39; refine (hF.out _).mono ?_; rintro e w5 ⟨g, v, rfl, hg, hl, hs, hn5⟩; have hv : v = .slice none 0 0 := hs; subst hv; dsimp only [srC]; have cC3 := (bC3.new ((((New.refl _).drew).trans hn4).trans hn5)).cells; have cS3 := (bS3.new ((((New.refl _).drew).trans hn4).trans hn5)).cells; have cM3 := (bM3.new ((((New.refl _).drew).trans hn4).trans hn5)).cells; have bR5 := bR3.new ((((New.refl _).drew).trans hn4).trans hn5); have cR := bR5.cells; have fR := bR5.frees; have lR := bR5.lt))
    have N5 := N3.trans ((((New.refl _).drew).trans hn4).trans hn5)
    have kk := hn4.size
    simp at kk
    have l2 : w.heap.size + 1 + 1 + 1 < w4.heap.size := by have := bR3.lt; omega
    go_wp2
    have b6 : Blk ((((((((((w5.setCell ⟨w.heap.size + 1 + 1 + 1, 0, none⟩ (.int .i64 c)).setCell ⟨w.heap.size + 1 + 1 + 1, 1, none⟩ (.int .i64 rt)).setCell ⟨w.heap.size + 1 + 1 + 1, 2, none⟩ (.int .i64 rp)).setCell ⟨w.heap.size + 1 + 1 + 1, 3, none⟩ (.int .i64 rh)).setCell ⟨w.heap.size + 1 + 1 + 1, 4, none⟩ (.int .i64 ri)).setCell ⟨w.heap.size + 1 + 1 + 1, 5, none⟩ (.int .i64 rs5)).setCell ⟨w.heap.size + 1 + 1 + 1, 6, none⟩ (.slice none 0 0)).setCell ⟨w.heap.size + 1 + 1 + 1, 7, none⟩ (.bool up)).setCell ⟨w.heap.size + 1 + 1 + 1, 8, none⟩ (.bool dn)).setCell ⟨w.heap.size + 1 + 1 + 1, 9, none⟩ (.bool ud)) (w.heap.size + 1 + 1 + 1) 40 #[.int .i64 c, .int .i64 rt, .int .i64 rp, .int .i64 rh, .int .i64 ri, .int .i64 rs5, .slice none 0 0, .bool up, .bool dn, .bool ud] := blkT10 _ _ _ _ _ _ _ _ _ _ bR5
    have N6 : New w ((((((((((w5.setCell ⟨w.heap.size + 1 + 1 + 1, 0, none⟩ (.int .i64 c)).setCell ⟨w.heap.size + 1 + 1 + 1, 1, none⟩ (.int .i64 rt)).setCell ⟨w.heap.size + 1 + 1 + 1, 2, none⟩ (.int .i64 rp)).setCell ⟨w.heap.size + 1 + 1 + 1, 3, none⟩ (.int .i64 rh)).setCell ⟨w.heap.size + 1 + 1 + 1, 4, none⟩ (.int .i64 ri)).setCell ⟨w.heap.size + 1 + 1 + 1, 5, none⟩ (.int .i64 rs5)).setCell ⟨w.heap.size + 1 + 1 + 1, 6, none⟩ (.slice none 0 0)).setCell ⟨w.heap.size + 1 + 1 + 1, 7, none⟩ (.bool up)).setCell ⟨w.heap.size + 1 + 1 + 1, 8, none⟩ (.bool dn)).setCell ⟨w.heap.size + 1 + 1 + 1, 9, none⟩ (.bool ud)) := by simp (disch := exact ge2) only [New.set5]; exact N5
    have lt6 : w.heap.size < ((((((((((w5.setCell ⟨w.heap.size + 1 + 1 + 1, 0, none⟩ (.int .i64 c)).setCell ⟨w.heap.size + 1 + 1 + 1, 1, none⟩ (.int .i64 rt)).setCell ⟨w.heap.size + 1 + 1 + 1, 2, none⟩ (.int .i64 rp)).setCell ⟨w.heap.size + 1 + 1 + 1, 3, none⟩ (.int .i64 rh)).setCell ⟨w.heap.size + 1 + 1 + 1, 4, none⟩ (.int .i64 ri)).setCell ⟨w.heap.size + 1 + 1 + 1, 5, none⟩ (.int .i64 rs5)).setCell ⟨w.heap.size + 1 + 1 + 1, 6, none⟩ (.slice none 0 0)).setCell ⟨w.heap.size + 1 + 1 + 1, 7, none⟩ (.bool up)).setCell ⟨w.heap.size + 1 + 1 + 1, 8, none⟩ (.bool dn)).setCell ⟨w.heap.size + 1 + 1 + 1, 9, none⟩ (.bool ud)).heap.size := by simp [World.setCell]; omega
    clear cR fR lR bR5 N5 cS3 cC3 cM3
    generalize ((((((((((w5.setCell ⟨w.heap.size + 1 + 1 + 1, 0, none⟩ (.int .i64 c)).setCell ⟨w.heap.size + 1 + 1 + 1, 1, none⟩ (.int .i64 rt)).setCell ⟨w.heap.size + 1 + 1 + 1, 2, none⟩ (.int .i64 rp)).setCell ⟨w.heap.size + 1 + 1 + 1, 3, none⟩ (.int .i64 rh)).setCell ⟨w.heap.size + 1 + 1 + 1, 4, none⟩ (.int .i64 ri)).setCell ⟨w.heap.size + 1 + 1 + 1, 5, none⟩ (.int .i64 rs5)).setCell ⟨w.heap.size + 1 + 1 + 1, 6, none⟩ (.slice none 0 0)).setCell ⟨w.heap.size + 1 + 1 + 1, 7, none⟩ (.bool up)).setCell ⟨w.heap.size + 1 + 1 + 1, 8, none⟩ (.bool dn)).setCell ⟨w.heap.size + 1 + 1 + 1, 9, none⟩ (.bool ud)) = w6 at *
    refine leaves_cons (f := 17) (args := #[.pointer (some ⟨w.heap.size + 1 + 1 + 1, 0, none⟩)]) (by simp) (by simp [go_sem]) ?_
    refine (countN _ _ _ _ _ _ _ _ _ _ _ _ b6).mono ?_
    rintro e u' w7 ⟨rfl, rfl, rfl⟩
    have c7 := b6.cells
    simp [Leaves, settle, results, Try.results6, go_sem, c7]
    exact ⟨w.heap.size, _, rfl, Nat.le_refl _, lt6, rfl, N6⟩
  | some m =>
    obtain ⟨m0, m1, m2, m3, m4, m5⟩ := m
    go_enter_defers Try.func6, Try.ntmps6
    go_wp2_with fail
    refine (implAsk ca ci ch st pe ho si sp _).mono ?_
    rintro e w1 ⟨rfl, hn1⟩
    have bC1 := bC0.new hn1
    have bS1 := bS0.new hn1
    have bM1 := bM0.new hn1
    have bR1 := bR0.new hn1
    have N1 := N0.trans hn1
    clear bC0 bS0 bM0 bR0 N0
    have cC := bC1.cells
    have cS := bS1.cells
    have cM := bM1.cells
    have cR := bR1.cells
    have fR := bR1.frees
    have lR := bR1.lt
    have fS := bS1.frees
    have lS := bS1.lt
    have l1 : w.heap.size < w1.heap.size := by omega
    have l2 : w.heap.size + 1 + 1 < w1.heap.size := by omega
    clear hn1
    rw [hk]
    clear hk
    go_wp2_with fail
    refine (implMF ga pa ra gn gc pn pc rn rc has mo nx md lc gs rs xs kd sa mh mi wh su _ (hg.new N1) (hx.new N1) (hr.new N1) hgn hpn hrn hm1 hm2 hm3).mono ?_
    rintro e w2 ⟨rfl, hn2⟩
    clear cC cS cM cR fR lR fS lS l1 l2
    have bC2 := bC1.new hn2
    have bS2 := bS1.new hn2
    have bM2 := bM1.new hn2
    have bR2 := bR1.new hn2
    have N2 := N1.trans hn2
    clear bC1 bS1 bM1 bR1 N1
    have cC := bC2.cells
    have cS := bS2.cells
    have cM := bM2.cells
    have cR := bR2.cells
    have fR := bR2.frees
    have lR := bR2.lt
    have fS := bS2.frees
    have lS := bS2.lt
    have l1 : w.heap.size < w2.heap.size := by omega
    have l2 : w.heap.size + 1 + 1 < w2.heap.size := by omega
    clear hn2
    rw [hq]
    clear hq hg hx hr hgn hpn hrn hm1 hm2 hm3
    go_upto_region 9 with fail
    have bS3 : Blk (w2.setCell ⟨w.heap.size + 1, 3, none⟩ (.int .i64 0)) (w.heap.size + 1) 27 #[.int .i64 st, .int .i64 pe, .int .i64 ho, .int .i64 0, .int .i64 sp] := by have h9 := bS2.set 3 (.int .i64 0); simp only [List.setIfInBounds_toArray, List.set_cons_zero, List.set_cons_succ] at h9; exact h9
    have n1 : ¬ w.heap.size + 1 = w.heap.size := by omega
    have n2 : ¬ w.heap.size + 1 = w.heap.size + 1 + 1 := by omega
    have n3 : ¬ w.heap.size + 1 = w.heap.size + 1 + 1 + 1 := by omega
    have g1 : w.heap.size ≤ w.heap.size + 1 := by omega
    have bC3 : Blk (w2.setCell ⟨w.heap.size + 1, 3, none⟩ (.int .i64 0)) w.heap.size 25 #[.int .i64 ca, .int .i64 ci, .int .i64 ch] := (Blk.set5 n1).2 bC2
    have bM3 : Blk (w2.setCell ⟨w.heap.size + 1, 3, none⟩ (.int .i64 0)) (w.heap.size + 1 + 1) 35 #[.int .i64 kd, .int .i64 sa, .int .i64 mh, .int .i64 mi, .int .i64 wh, .int .i64 su, .slice ga gn gc, .bool has, .int .i64 mo, .slice pa pn pc, .int .i64 nx, .int .i64 md, .int .i64 lc, .slice ra rn rc] := (Blk.set5 n2).2 bM2
    have bR3 : Blk (w2.setCell ⟨w.heap.size + 1, 3, none⟩ (.int .i64 0)) (w.heap.size + 1 + 1 + 1) 40 #[.int .i64 0, .int .i64 0, .int .i64 0, .int .i64 0, .int .i64 0, .int .i64 0, .slice none 0 0, .bool false, .bool false, .bool false] := (Blk.set5 n3).2 bR2
    have N3 : New w (w2.setCell ⟨w.heap.size + 1, 3, none⟩ (.int .i64 0)) := N2.setCell g1 _
    clear cC cS cM cR fR lR fS lS l1 l2
    clear bC2 bS2 bM2 bR2 N2 n1 n2 n3 g1
    generalize w2.setCell ⟨w.heap.size + 1, 3, none⟩ (.int .i64 0) = w3 at *
    have cC := bC3.cells
    have cS := bS3.cells
    have cM := bM3.cells
    have neC : ¬ w.heap.size + 1 + 1 + 1 = w.heap.size := by omega
    have neS : ¬ w.heap.size + 1 + 1 + 1 = w.heap.size + 1 := by omega
    have neM : ¬ w.heap.size + 1 + 1 + 1 = w.heap.size + 1 + 1 := by omega
    have hfd : ∀ (h v : Value) (X : World), (Instr.field 56 (.agg #[h, v]) 0).run Try.prog X = .ok h X := fun _ _ _ => by kernel_rfl
    go_region_held3 (fun W => (∀ j, W.cell? ⟨w.heap.size, j, none⟩ = #[Value.int .i64 ca, .int .i64 ci, .int .i64 ch][j]?) ∧ (∀ j, W.cell? ⟨w.heap.size + 1, j, none⟩ = #[Value.int .i64 st, .int .i64 pe, .int .i64 ho, .int .i64 0, .int .i64 sp][j]?) ∧ (∀ j, W.cell? ⟨w.heap.size + 1 + 1, j, none⟩ = #[Value.int .i64 kd, .int .i64 sa, .int .i64 mh, .int .i64 mi, .int .i64 wh, .int .i64 su, .slice ga gn gc, .bool has, .int .i64 mo, .slice pa pn pc, .int .i64 nx, .int .i64 md, .int .i64 lc, .slice ra rn rc][j]?)) (exact ⟨by intro j; (try simp (disch := exact neC) only [cellS5]); first | exact cC j | exact cC2 j | exact cC3 j, by intro j; (try simp (disch := exact neS) only [cellS5]); first | exact cS j | exact cS2 j | exact cS3 j, by intro j; (try simp (disch := exact neM) only [cellS5]); first | exact cM j | exact cM2 j | exact cM3 j⟩)
      (first
        | (go_at_call 18; refine (hc.out _).mono ?_; rintro e w4 ⟨⟨hh, rfl⟩, hn4⟩; have cC2 := (bC3.new (((New.refl _).drew).trans hn4)).cells; have cS2 := (bS3.new (((New.refl _).drew).trans hn4)).cells; have cM2 := (bM3.new (((New.refl _).drew).trans hn4)).cells)
        | (go_at_call 39; refine (hF.out _).mono ?_; rintro e w5 ⟨g, v, rfl, hg, hl, hs, hn5⟩; obtain ⟨hv, hb⟩ := hs; subst hv; dsimp only [srC]; have cC3 := (bC3.new ((((New.refl _).drew).trans hn4).trans hn5)).cells; have cS3 := (bS3.new ((((New.refl _).drew).trans hn4).trans hn5)).cells; have cM3 := (bM3.new ((((New.refl _).drew).trans hn4).trans hn5)).cells; have bR5 := bR3.new ((((New.refl _).drew).trans hn4).trans hn5); have cR := bR5.cells; have fR := bR5.frees; have lR := bR5.lt))
    have N5 := N3.trans ((((New.refl _).drew).trans hn4).trans hn5)
    have kk := hn4.size
    simp at kk
    have l2 : w.heap.size + 1 + 1 + 1 < w4.heap.size := by have := bR3.lt; omega
    go_wp2
    have b6 : Blk ((((((((((w5.setCell ⟨w.heap.size + 1 + 1 + 1, 0, none⟩ (.int .i64 c)).setCell ⟨w.heap.size + 1 + 1 + 1, 1, none⟩ (.int .i64 rt)).setCell ⟨w.heap.size + 1 + 1 + 1, 2, none⟩ (.int .i64 rp)).setCell ⟨w.heap.size + 1 + 1 + 1, 3, none⟩ (.int .i64 rh)).setCell ⟨w.heap.size + 1 + 1 + 1, 4, none⟩ (.int .i64 ri)).setCell ⟨w.heap.size + 1 + 1 + 1, 5, none⟩ (.int .i64 rs5)).setCell ⟨w.heap.size + 1 + 1 + 1, 6, none⟩ (.slice (some ⟨g, 0, none⟩) 1 1)).setCell ⟨w.heap.size + 1 + 1 + 1, 7, none⟩ (.bool up)).setCell ⟨w.heap.size + 1 + 1 + 1, 8, none⟩ (.bool dn)).setCell ⟨w.heap.size + 1 + 1 + 1, 9, none⟩ (.bool ud)) (w.heap.size + 1 + 1 + 1) 40 #[.int .i64 c, .int .i64 rt, .int .i64 rp, .int .i64 rh, .int .i64 ri, .int .i64 rs5, .slice (some ⟨g, 0, none⟩) 1 1, .bool up, .bool dn, .bool ud] := blkT10 _ _ _ _ _ _ _ _ _ _ bR5
    have N6 : New w ((((((((((w5.setCell ⟨w.heap.size + 1 + 1 + 1, 0, none⟩ (.int .i64 c)).setCell ⟨w.heap.size + 1 + 1 + 1, 1, none⟩ (.int .i64 rt)).setCell ⟨w.heap.size + 1 + 1 + 1, 2, none⟩ (.int .i64 rp)).setCell ⟨w.heap.size + 1 + 1 + 1, 3, none⟩ (.int .i64 rh)).setCell ⟨w.heap.size + 1 + 1 + 1, 4, none⟩ (.int .i64 ri)).setCell ⟨w.heap.size + 1 + 1 + 1, 5, none⟩ (.int .i64 rs5)).setCell ⟨w.heap.size + 1 + 1 + 1, 6, none⟩ (.slice (some ⟨g, 0, none⟩) 1 1)).setCell ⟨w.heap.size + 1 + 1 + 1, 7, none⟩ (.bool up)).setCell ⟨w.heap.size + 1 + 1 + 1, 8, none⟩ (.bool dn)).setCell ⟨w.heap.size + 1 + 1 + 1, 9, none⟩ (.bool ud)) := by simp (disch := exact ge2) only [New.set5]; exact N5
    have ne : ¬ w.heap.size + 1 + 1 + 1 = g := by omega
    have hg0 : w.heap.size ≤ g := by omega
    have hb6 : Blk ((((((((((w5.setCell ⟨w.heap.size + 1 + 1 + 1, 0, none⟩ (.int .i64 c)).setCell ⟨w.heap.size + 1 + 1 + 1, 1, none⟩ (.int .i64 rt)).setCell ⟨w.heap.size + 1 + 1 + 1, 2, none⟩ (.int .i64 rp)).setCell ⟨w.heap.size + 1 + 1 + 1, 3, none⟩ (.int .i64 rh)).setCell ⟨w.heap.size + 1 + 1 + 1, 4, none⟩ (.int .i64 ri)).setCell ⟨w.heap.size + 1 + 1 + 1, 5, none⟩ (.int .i64 rs5)).setCell ⟨w.heap.size + 1 + 1 + 1, 6, none⟩ (.slice (some ⟨g, 0, none⟩) 1 1)).setCell ⟨w.heap.size + 1 + 1 + 1, 7, none⟩ (.bool up)).setCell ⟨w.heap.size + 1 + 1 + 1, 8, none⟩ (.bool dn)).setCell ⟨w.heap.size + 1 + 1 + 1, 9, none⟩ (.bool ud)) g 35 (msC m0 m1 m2 m3 m4 m5) := by simp (disch := exact ne) only [Blk.set5]; exact hb
    have hl6 : g < ((((((((((w5.setCell ⟨w.heap.size + 1 + 1 + 1, 0, none⟩ (.int .i64 c)).setCell ⟨w.heap.size + 1 + 1 + 1, 1, none⟩ (.int .i64 rt)).setCell ⟨w.heap.size + 1 + 1 + 1, 2, none⟩ (.int .i64 rp)).setCell ⟨w.heap.size + 1 + 1 + 1, 3, none⟩ (.int .i64 rh)).setCell ⟨w.heap.size + 1 + 1 + 1, 4, none⟩ (.int .i64 ri)).setCell ⟨w.heap.size + 1 + 1 + 1, 5, none⟩ (.int .i64 rs5)).setCell ⟨w.heap.size + 1 + 1 + 1, 6, none⟩ (.slice (some ⟨g, 0, none⟩) 1 1)).setCell ⟨w.heap.size + 1 + 1 + 1, 7, none⟩ (.bool up)).setCell ⟨w.heap.size + 1 + 1 + 1, 8, none⟩ (.bool dn)).setCell ⟨w.heap.size + 1 + 1 + 1, 9, none⟩ (.bool ud)).heap.size := by simp [World.setCell]; exact hl
    have lt6 : w.heap.size < ((((((((((w5.setCell ⟨w.heap.size + 1 + 1 + 1, 0, none⟩ (.int .i64 c)).setCell ⟨w.heap.size + 1 + 1 + 1, 1, none⟩ (.int .i64 rt)).setCell ⟨w.heap.size + 1 + 1 + 1, 2, none⟩ (.int .i64 rp)).setCell ⟨w.heap.size + 1 + 1 + 1, 3, none⟩ (.int .i64 rh)).setCell ⟨w.heap.size + 1 + 1 + 1, 4, none⟩ (.int .i64 ri)).setCell ⟨w.heap.size + 1 + 1 + 1, 5, none⟩ (.int .i64 rs5)).setCell ⟨w.heap.size + 1 + 1 + 1, 6, none⟩ (.slice (some ⟨g, 0, none⟩) 1 1)).setCell ⟨w.heap.size + 1 + 1 + 1, 7, none⟩ (.bool up)).setCell ⟨w.heap.size + 1 + 1 + 1, 8, none⟩ (.bool dn)).setCell ⟨w.heap.size + 1 + 1 + 1, 9, none⟩ (.bool ud)).heap.size := by simp [World.setCell]; omega
    clear cR fR lR bR5 N5 cS3 cC3 cM3
    generalize ((((((((((w5.setCell ⟨w.heap.size + 1 + 1 + 1, 0, none⟩ (.int .i64 c)).setCell ⟨w.heap.size + 1 + 1 + 1, 1, none⟩ (.int .i64 rt)).setCell ⟨w.heap.size + 1 + 1 + 1, 2, none⟩ (.int .i64 rp)).setCell ⟨w.heap.size + 1 + 1 + 1, 3, none⟩ (.int .i64 rh)).setCell ⟨w.heap.size + 1 + 1 + 1, 4, none⟩ (.int .i64 ri)).setCell ⟨w.heap.size + 1 + 1 + 1, 5, none⟩ (.int .i64 rs5)).setCell ⟨w.heap.size + 1 + 1 + 1, 6, none⟩ (.slice (some ⟨g, 0, none⟩) 1 1)).setCell ⟨w.heap.size + 1 + 1 + 1, 7, none⟩ (.bool up)).setCell ⟨w.heap.size + 1 + 1 + 1, 8, none⟩ (.bool dn)).setCell ⟨w.heap.size + 1 + 1 + 1, 9, none⟩ (.bool ud)) = w6 at *
    refine leaves_cons (f := 17) (args := #[.pointer (some ⟨w.heap.size + 1 + 1 + 1, 0, none⟩)]) (by simp) (by simp [go_sem]) ?_
    refine (countS _ _ _ _ _ _ _ _ _ _ _ _ _ b6).mono ?_
    rintro e u' w7 ⟨rfl, rfl, rfl⟩
    have b7 := blkT1 (.int .i64 0) b6
    have c7 := b7.cells
    simp [Leaves, settle, results, Try.results6, go_sem, c7]
    refine ⟨g, _, rfl, hg0, by simp [World.setCell]; exact hl6, ⟨rfl, ?_⟩, ?_⟩
    · simp (disch := exact ne) only [Blk.set5]; exact hb6
    simp (disch := exact ge2) only [New.set5, N6]

set_option maxHeartbeats 6400000 in
theorem hearBy2 (ca ci ch st pe ho si sp kd sa mh mi wh su : Int) (ga pa ra : Option Addr) (gn gc pn pc rn rc : Nat) (has : Bool) (mo nx md lc : Int) (gs rs : List (Int × Int)) (xs : List Int) (r : Rs) (w : World) (hg : PsAt w ga gs) (hx : NsAt w pa xs) (hr : PsAt w ra rs) (hgn : gs.length = gn) (hpn : xs.length = pn) (hrn : rs.length = rn) (hm1 : gn ≤ 1048576) (hm2 : pn ≤ 1048576) (hm3 : rn ≤ 1048576) (hk : ask ca ci ch st pe ho si sp = 0) (hq : mf kd sa mh mi wh su gs has mo xs nx md lc rs = 0)
    (hc : Hid (∀ W, Calls Try.prog 18 #[.int .i64 st] W fun e w' => (∃ h, e = .returned (.agg #[.func (.func 41) #[] #[], h])) ∧ New W w'))
    (hF : Hid (∀ W, Calls Try.prog 41 #[.agg #[.int .i64 ca, .int .i64 ci, .int .i64 ch], .agg #[.int .i64 st, .int .i64 pe, .int .i64 ho, .int .i64 0, .int .i64 sp], .agg #[.int .i64 kd, .int .i64 sa, .int .i64 mh, .int .i64 mi, .int .i64 wh, .int .i64 su, .slice ga gn gc, .bool has, .int .i64 mo, .slice pa pn pc, .int .i64 nx, .int .i64 md, .int .i64 lc, .slice ra rn rc]] W (Ans W r))) : Calls Try.prog 6 #[.agg #[.int .i64 ca, .int .i64 ci, .int .i64 ch], .agg #[.int .i64 st, .int .i64 pe, .int .i64 ho, .int .i64 si, .int .i64 sp], .agg #[.int .i64 kd, .int .i64 sa, .int .i64 mh, .int .i64 mi, .int .i64 wh, .int .i64 su, .slice ga gn gc, .bool has, .int .i64 mo, .slice pa pn pc, .int .i64 nx, .int .i64 md, .int .i64 lc, .slice ra rn rc]] w (Ans w (cntR r)) := by
  have N0 : New w ((((w.alloc (.cells #[.int .i64 ca, .int .i64 ci, .int .i64 ch] 25)).alloc (.cells #[.int .i64 st, .int .i64 pe, .int .i64 ho, .int .i64 si, .int .i64 sp] 27)).alloc (.cells #[.int .i64 kd, .int .i64 sa, .int .i64 mh, .int .i64 mi, .int .i64 wh, .int .i64 su, .slice ga gn gc, .bool has, .int .i64 mo, .slice pa pn pc, .int .i64 nx, .int .i64 md, .int .i64 lc, .slice ra rn rc] 35)).alloc (.cells #[.int .i64 0, .int .i64 0, .int .i64 0, .int .i64 0, .int .i64 0, .int .i64 0, .slice none 0 0, .bool false, .bool false, .bool false] 40)) := ((((New.refl w).alloc _).alloc _).alloc _).alloc _
  have bC0 : Blk ((((w.alloc (.cells #[.int .i64 ca, .int .i64 ci, .int .i64 ch] 25)).alloc (.cells #[.int .i64 st, .int .i64 pe, .int .i64 ho, .int .i64 si, .int .i64 sp] 27)).alloc (.cells #[.int .i64 kd, .int .i64 sa, .int .i64 mh, .int .i64 mi, .int .i64 wh, .int .i64 su, .slice ga gn gc, .bool has, .int .i64 mo, .slice pa pn pc, .int .i64 nx, .int .i64 md, .int .i64 lc, .slice ra rn rc] 35)).alloc (.cells #[.int .i64 0, .int .i64 0, .int .i64 0, .int .i64 0, .int .i64 0, .int .i64 0, .slice none 0 0, .bool false, .bool false, .bool false] 40)) w.heap.size 25 #[.int .i64 ca, .int .i64 ci, .int .i64 ch] := (((Blk.mk _ _ _ _ rfl).alloc _).alloc _).alloc _
  have bS0 : Blk ((((w.alloc (.cells #[.int .i64 ca, .int .i64 ci, .int .i64 ch] 25)).alloc (.cells #[.int .i64 st, .int .i64 pe, .int .i64 ho, .int .i64 si, .int .i64 sp] 27)).alloc (.cells #[.int .i64 kd, .int .i64 sa, .int .i64 mh, .int .i64 mi, .int .i64 wh, .int .i64 su, .slice ga gn gc, .bool has, .int .i64 mo, .slice pa pn pc, .int .i64 nx, .int .i64 md, .int .i64 lc, .slice ra rn rc] 35)).alloc (.cells #[.int .i64 0, .int .i64 0, .int .i64 0, .int .i64 0, .int .i64 0, .int .i64 0, .slice none 0 0, .bool false, .bool false, .bool false] 40)) (w.heap.size + 1) 27 #[.int .i64 st, .int .i64 pe, .int .i64 ho, .int .i64 si, .int .i64 sp] := ((Blk.mk _ _ _ _ (by simp)).alloc _).alloc _
  have bM0 : Blk ((((w.alloc (.cells #[.int .i64 ca, .int .i64 ci, .int .i64 ch] 25)).alloc (.cells #[.int .i64 st, .int .i64 pe, .int .i64 ho, .int .i64 si, .int .i64 sp] 27)).alloc (.cells #[.int .i64 kd, .int .i64 sa, .int .i64 mh, .int .i64 mi, .int .i64 wh, .int .i64 su, .slice ga gn gc, .bool has, .int .i64 mo, .slice pa pn pc, .int .i64 nx, .int .i64 md, .int .i64 lc, .slice ra rn rc] 35)).alloc (.cells #[.int .i64 0, .int .i64 0, .int .i64 0, .int .i64 0, .int .i64 0, .int .i64 0, .slice none 0 0, .bool false, .bool false, .bool false] 40)) (w.heap.size + 1 + 1) 35 #[.int .i64 kd, .int .i64 sa, .int .i64 mh, .int .i64 mi, .int .i64 wh, .int .i64 su, .slice ga gn gc, .bool has, .int .i64 mo, .slice pa pn pc, .int .i64 nx, .int .i64 md, .int .i64 lc, .slice ra rn rc] := (Blk.mk _ _ _ _ (by simp)).alloc _
  have bR0 : Blk ((((w.alloc (.cells #[.int .i64 ca, .int .i64 ci, .int .i64 ch] 25)).alloc (.cells #[.int .i64 st, .int .i64 pe, .int .i64 ho, .int .i64 si, .int .i64 sp] 27)).alloc (.cells #[.int .i64 kd, .int .i64 sa, .int .i64 mh, .int .i64 mi, .int .i64 wh, .int .i64 su, .slice ga gn gc, .bool has, .int .i64 mo, .slice pa pn pc, .int .i64 nx, .int .i64 md, .int .i64 lc, .slice ra rn rc] 35)).alloc (.cells #[.int .i64 0, .int .i64 0, .int .i64 0, .int .i64 0, .int .i64 0, .int .i64 0, .slice none 0 0, .bool false, .bool false, .bool false] 40)) (w.heap.size + 1 + 1 + 1) 40 #[.int .i64 0, .int .i64 0, .int .i64 0, .int .i64 0, .int .i64 0, .int .i64 0, .slice none 0 0, .bool false, .bool false, .bool false] := Blk.mk _ _ _ _ (by simp)
  have ge2 : w.heap.size ≤ w.heap.size + 1 + 1 + 1 := by omega
  obtain ⟨c, rt, rp, rh, ri, rs5, say, up, dn, ud⟩ := r
  cases say with
  | none =>
    go_enter_defers Try.func6, Try.ntmps6
    go_wp2_with fail
    refine (implAsk ca ci ch st pe ho si sp _).mono ?_
    rintro e w1 ⟨rfl, hn1⟩
    have bC1 := bC0.new hn1
    have bS1 := bS0.new hn1
    have bM1 := bM0.new hn1
    have bR1 := bR0.new hn1
    have N1 := N0.trans hn1
    clear bC0 bS0 bM0 bR0 N0
    have cC := bC1.cells
    have cS := bS1.cells
    have cM := bM1.cells
    have cR := bR1.cells
    have fR := bR1.frees
    have lR := bR1.lt
    have fS := bS1.frees
    have lS := bS1.lt
    have l1 : w.heap.size < w1.heap.size := by omega
    have l2 : w.heap.size + 1 + 1 < w1.heap.size := by omega
    clear hn1
    rw [hk]
    clear hk
    go_wp2_with fail
    refine (implMF ga pa ra gn gc pn pc rn rc has mo nx md lc gs rs xs kd sa mh mi wh su _ (hg.new N1) (hx.new N1) (hr.new N1) hgn hpn hrn hm1 hm2 hm3).mono ?_
    rintro e w2 ⟨rfl, hn2⟩
    clear cC cS cM cR fR lR fS lS l1 l2
    have bC2 := bC1.new hn2
    have bS2 := bS1.new hn2
    have bM2 := bM1.new hn2
    have bR2 := bR1.new hn2
    have N2 := N1.trans hn2
    clear bC1 bS1 bM1 bR1 N1
    have cC := bC2.cells
    have cS := bS2.cells
    have cM := bM2.cells
    have cR := bR2.cells
    have fR := bR2.frees
    have lR := bR2.lt
    have fS := bS2.frees
    have lS := bS2.lt
    have l1 : w.heap.size < w2.heap.size := by omega
    have l2 : w.heap.size + 1 + 1 < w2.heap.size := by omega
    clear hn2
    rw [hq]
    clear hq hg hx hr hgn hpn hrn hm1 hm2 hm3
    go_upto_region 9 with fail
    have bS3 : Blk (w2.setCell ⟨w.heap.size + 1, 3, none⟩ (.int .i64 0)) (w.heap.size + 1) 27 #[.int .i64 st, .int .i64 pe, .int .i64 ho, .int .i64 0, .int .i64 sp] := by have h9 := bS2.set 3 (.int .i64 0); simp only [List.setIfInBounds_toArray, List.set_cons_zero, List.set_cons_succ] at h9; exact h9
    have n1 : ¬ w.heap.size + 1 = w.heap.size := by omega
    have n2 : ¬ w.heap.size + 1 = w.heap.size + 1 + 1 := by omega
    have n3 : ¬ w.heap.size + 1 = w.heap.size + 1 + 1 + 1 := by omega
    have g1 : w.heap.size ≤ w.heap.size + 1 := by omega
    have bC3 : Blk (w2.setCell ⟨w.heap.size + 1, 3, none⟩ (.int .i64 0)) w.heap.size 25 #[.int .i64 ca, .int .i64 ci, .int .i64 ch] := (Blk.set5 n1).2 bC2
    have bM3 : Blk (w2.setCell ⟨w.heap.size + 1, 3, none⟩ (.int .i64 0)) (w.heap.size + 1 + 1) 35 #[.int .i64 kd, .int .i64 sa, .int .i64 mh, .int .i64 mi, .int .i64 wh, .int .i64 su, .slice ga gn gc, .bool has, .int .i64 mo, .slice pa pn pc, .int .i64 nx, .int .i64 md, .int .i64 lc, .slice ra rn rc] := (Blk.set5 n2).2 bM2
    have bR3 : Blk (w2.setCell ⟨w.heap.size + 1, 3, none⟩ (.int .i64 0)) (w.heap.size + 1 + 1 + 1) 40 #[.int .i64 0, .int .i64 0, .int .i64 0, .int .i64 0, .int .i64 0, .int .i64 0, .slice none 0 0, .bool false, .bool false, .bool false] := (Blk.set5 n3).2 bR2
    have N3 : New w (w2.setCell ⟨w.heap.size + 1, 3, none⟩ (.int .i64 0)) := N2.setCell g1 _
    clear cC cS cM cR fR lR fS lS l1 l2
    clear bC2 bS2 bM2 bR2 N2 n1 n2 n3 g1
    generalize w2.setCell ⟨w.heap.size + 1, 3, none⟩ (.int .i64 0) = w3 at *
    have cC := bC3.cells
    have cS := bS3.cells
    have cM := bM3.cells
    have neC : ¬ w.heap.size + 1 + 1 + 1 = w.heap.size := by omega
    have neS : ¬ w.heap.size + 1 + 1 + 1 = w.heap.size + 1 := by omega
    have neM : ¬ w.heap.size + 1 + 1 + 1 = w.heap.size + 1 + 1 := by omega
    have hfd : ∀ (h v : Value) (X : World), (Instr.field 56 (.agg #[h, v]) 0).run Try.prog X = .ok h X := fun _ _ _ => by kernel_rfl
    go_region_held3 (fun W => (∀ j, W.cell? ⟨w.heap.size, j, none⟩ = #[Value.int .i64 ca, .int .i64 ci, .int .i64 ch][j]?) ∧ (∀ j, W.cell? ⟨w.heap.size + 1, j, none⟩ = #[Value.int .i64 st, .int .i64 pe, .int .i64 ho, .int .i64 0, .int .i64 sp][j]?) ∧ (∀ j, W.cell? ⟨w.heap.size + 1 + 1, j, none⟩ = #[Value.int .i64 kd, .int .i64 sa, .int .i64 mh, .int .i64 mi, .int .i64 wh, .int .i64 su, .slice ga gn gc, .bool has, .int .i64 mo, .slice pa pn pc, .int .i64 nx, .int .i64 md, .int .i64 lc, .slice ra rn rc][j]?)) (exact ⟨by intro j; (try simp (disch := exact neC) only [cellS5]); first | exact cC j | exact cC2 j | exact cC3 j, by intro j; (try simp (disch := exact neS) only [cellS5]); first | exact cS j | exact cS2 j | exact cS3 j, by intro j; (try simp (disch := exact neM) only [cellS5]); first | exact cM j | exact cM2 j | exact cM3 j⟩)
      (first
        | (go_at_call 18; refine (hc.out _).mono ?_; rintro e w4 ⟨⟨hh, rfl⟩, hn4⟩; have cC2 := (bC3.new (((New.refl _).drew).trans hn4)).cells; have cS2 := (bS3.new (((New.refl _).drew).trans hn4)).cells; have cM2 := (bM3.new (((New.refl _).drew).trans hn4)).cells)
        | (go_at_call 41; refine (hF.out _).mono ?_; rintro e w5 ⟨g, v, rfl, hg, hl, hs, hn5⟩; have hv : v = .slice none 0 0 := hs; subst hv; dsimp only [srC]; have cC3 := (bC3.new ((((New.refl _).drew).trans hn4).trans hn5)).cells; have cS3 := (bS3.new ((((New.refl _).drew).trans hn4).trans hn5)).cells; have cM3 := (bM3.new ((((New.refl _).drew).trans hn4).trans hn5)).cells; have bR5 := bR3.new ((((New.refl _).drew).trans hn4).trans hn5); have cR := bR5.cells; have fR := bR5.frees; have lR := bR5.lt))
    have N5 := N3.trans ((((New.refl _).drew).trans hn4).trans hn5)
    have kk := hn4.size
    simp at kk
    have l2 : w.heap.size + 1 + 1 + 1 < w4.heap.size := by have := bR3.lt; omega
    go_wp2
    have b6 : Blk ((((((((((w5.setCell ⟨w.heap.size + 1 + 1 + 1, 0, none⟩ (.int .i64 c)).setCell ⟨w.heap.size + 1 + 1 + 1, 1, none⟩ (.int .i64 rt)).setCell ⟨w.heap.size + 1 + 1 + 1, 2, none⟩ (.int .i64 rp)).setCell ⟨w.heap.size + 1 + 1 + 1, 3, none⟩ (.int .i64 rh)).setCell ⟨w.heap.size + 1 + 1 + 1, 4, none⟩ (.int .i64 ri)).setCell ⟨w.heap.size + 1 + 1 + 1, 5, none⟩ (.int .i64 rs5)).setCell ⟨w.heap.size + 1 + 1 + 1, 6, none⟩ (.slice none 0 0)).setCell ⟨w.heap.size + 1 + 1 + 1, 7, none⟩ (.bool up)).setCell ⟨w.heap.size + 1 + 1 + 1, 8, none⟩ (.bool dn)).setCell ⟨w.heap.size + 1 + 1 + 1, 9, none⟩ (.bool ud)) (w.heap.size + 1 + 1 + 1) 40 #[.int .i64 c, .int .i64 rt, .int .i64 rp, .int .i64 rh, .int .i64 ri, .int .i64 rs5, .slice none 0 0, .bool up, .bool dn, .bool ud] := blkT10 _ _ _ _ _ _ _ _ _ _ bR5
    have N6 : New w ((((((((((w5.setCell ⟨w.heap.size + 1 + 1 + 1, 0, none⟩ (.int .i64 c)).setCell ⟨w.heap.size + 1 + 1 + 1, 1, none⟩ (.int .i64 rt)).setCell ⟨w.heap.size + 1 + 1 + 1, 2, none⟩ (.int .i64 rp)).setCell ⟨w.heap.size + 1 + 1 + 1, 3, none⟩ (.int .i64 rh)).setCell ⟨w.heap.size + 1 + 1 + 1, 4, none⟩ (.int .i64 ri)).setCell ⟨w.heap.size + 1 + 1 + 1, 5, none⟩ (.int .i64 rs5)).setCell ⟨w.heap.size + 1 + 1 + 1, 6, none⟩ (.slice none 0 0)).setCell ⟨w.heap.size + 1 + 1 + 1, 7, none⟩ (.bool up)).setCell ⟨w.heap.size + 1 + 1 + 1, 8, none⟩ (.bool dn)).setCell ⟨w.heap.size + 1 + 1 + 1, 9, none⟩ (.bool ud)) := by simp (disch := exact ge2) only [New.set5]; exact N5
    have lt6 : w.heap.size < ((((((((((w5.setCell ⟨w.heap.size + 1 + 1 + 1, 0, none⟩ (.int .i64 c)).setCell ⟨w.heap.size + 1 + 1 + 1, 1, none⟩ (.int .i64 rt)).setCell ⟨w.heap.size + 1 + 1 + 1, 2, none⟩ (.int .i64 rp)).setCell ⟨w.heap.size + 1 + 1 + 1, 3, none⟩ (.int .i64 rh)).setCell ⟨w.heap.size + 1 + 1 + 1, 4, none⟩ (.int .i64 ri)).setCell ⟨w.heap.size + 1 + 1 + 1, 5, none⟩ (.int .i64 rs5)).setCell ⟨w.heap.size + 1 + 1 + 1, 6, none⟩ (.slice none 0 0)).setCell ⟨w.heap.size + 1 + 1 + 1, 7, none⟩ (.bool up)).setCell ⟨w.heap.size + 1 + 1 + 1, 8, none⟩ (.bool dn)).setCell ⟨w.heap.size + 1 + 1 + 1, 9, none⟩ (.bool ud)).heap.size := by simp [World.setCell]; omega
    clear cR fR lR bR5 N5 cS3 cC3 cM3
    generalize ((((((((((w5.setCell ⟨w.heap.size + 1 + 1 + 1, 0, none⟩ (.int .i64 c)).setCell ⟨w.heap.size + 1 + 1 + 1, 1, none⟩ (.int .i64 rt)).setCell ⟨w.heap.size + 1 + 1 + 1, 2, none⟩ (.int .i64 rp)).setCell ⟨w.heap.size + 1 + 1 + 1, 3, none⟩ (.int .i64 rh)).setCell ⟨w.heap.size + 1 + 1 + 1, 4, none⟩ (.int .i64 ri)).setCell ⟨w.heap.size + 1 + 1 + 1, 5, none⟩ (.int .i64 rs5)).setCell ⟨w.heap.size + 1 + 1 + 1, 6, none⟩ (.slice none 0 0)).setCell ⟨w.heap.size + 1 + 1 + 1, 7, none⟩ (.bool up)).setCell ⟨w.heap.size + 1 + 1 + 1, 8, none⟩ (.bool dn)).setCell ⟨w.heap.size + 1 + 1 + 1, 9, none⟩ (.bool ud)) = w6 at *
    refine leaves_cons (f := 17) (args := #[.pointer (some ⟨w.heap.size + 1 + 1 + 1, 0, none⟩)]) (by simp) (by simp [go_sem]) ?_
    refine (countN _ _ _ _ _ _ _ _ _ _ _ _ b6).mono ?_
    rintro e u' w7 ⟨rfl, rfl, rfl⟩
    have c7 := b6.cells
    simp [Leaves, settle, results, Try.results6, go_sem, c7]
    exact ⟨w.heap.size, _, rfl, Nat.le_refl _, lt6, rfl, N6⟩
  | some m =>
    obtain ⟨m0, m1, m2, m3, m4, m5⟩ := m
    go_enter_defers Try.func6, Try.ntmps6
    go_wp2_with fail
    refine (implAsk ca ci ch st pe ho si sp _).mono ?_
    rintro e w1 ⟨rfl, hn1⟩
    have bC1 := bC0.new hn1
    have bS1 := bS0.new hn1
    have bM1 := bM0.new hn1
    have bR1 := bR0.new hn1
    have N1 := N0.trans hn1
    clear bC0 bS0 bM0 bR0 N0
    have cC := bC1.cells
    have cS := bS1.cells
    have cM := bM1.cells
    have cR := bR1.cells
    have fR := bR1.frees
    have lR := bR1.lt
    have fS := bS1.frees
    have lS := bS1.lt
    have l1 : w.heap.size < w1.heap.size := by omega
    have l2 : w.heap.size + 1 + 1 < w1.heap.size := by omega
    clear hn1
    rw [hk]
    clear hk
    go_wp2_with fail
    refine (implMF ga pa ra gn gc pn pc rn rc has mo nx md lc gs rs xs kd sa mh mi wh su _ (hg.new N1) (hx.new N1) (hr.new N1) hgn hpn hrn hm1 hm2 hm3).mono ?_
    rintro e w2 ⟨rfl, hn2⟩
    clear cC cS cM cR fR lR fS lS l1 l2
    have bC2 := bC1.new hn2
    have bS2 := bS1.new hn2
    have bM2 := bM1.new hn2
    have bR2 := bR1.new hn2
    have N2 := N1.trans hn2
    clear bC1 bS1 bM1 bR1 N1
    have cC := bC2.cells
    have cS := bS2.cells
    have cM := bM2.cells
    have cR := bR2.cells
    have fR := bR2.frees
    have lR := bR2.lt
    have fS := bS2.frees
    have lS := bS2.lt
    have l1 : w.heap.size < w2.heap.size := by omega
    have l2 : w.heap.size + 1 + 1 < w2.heap.size := by omega
    clear hn2
    rw [hq]
    clear hq hg hx hr hgn hpn hrn hm1 hm2 hm3
    go_upto_region 9 with fail
    have bS3 : Blk (w2.setCell ⟨w.heap.size + 1, 3, none⟩ (.int .i64 0)) (w.heap.size + 1) 27 #[.int .i64 st, .int .i64 pe, .int .i64 ho, .int .i64 0, .int .i64 sp] := by have h9 := bS2.set 3 (.int .i64 0); simp only [List.setIfInBounds_toArray, List.set_cons_zero, List.set_cons_succ] at h9; exact h9
    have n1 : ¬ w.heap.size + 1 = w.heap.size := by omega
    have n2 : ¬ w.heap.size + 1 = w.heap.size + 1 + 1 := by omega
    have n3 : ¬ w.heap.size + 1 = w.heap.size + 1 + 1 + 1 := by omega
    have g1 : w.heap.size ≤ w.heap.size + 1 := by omega
    have bC3 : Blk (w2.setCell ⟨w.heap.size + 1, 3, none⟩ (.int .i64 0)) w.heap.size 25 #[.int .i64 ca, .int .i64 ci, .int .i64 ch] := (Blk.set5 n1).2 bC2
    have bM3 : Blk (w2.setCell ⟨w.heap.size + 1, 3, none⟩ (.int .i64 0)) (w.heap.size + 1 + 1) 35 #[.int .i64 kd, .int .i64 sa, .int .i64 mh, .int .i64 mi, .int .i64 wh, .int .i64 su, .slice ga gn gc, .bool has, .int .i64 mo, .slice pa pn pc, .int .i64 nx, .int .i64 md, .int .i64 lc, .slice ra rn rc] := (Blk.set5 n2).2 bM2
    have bR3 : Blk (w2.setCell ⟨w.heap.size + 1, 3, none⟩ (.int .i64 0)) (w.heap.size + 1 + 1 + 1) 40 #[.int .i64 0, .int .i64 0, .int .i64 0, .int .i64 0, .int .i64 0, .int .i64 0, .slice none 0 0, .bool false, .bool false, .bool false] := (Blk.set5 n3).2 bR2
    have N3 : New w (w2.setCell ⟨w.heap.size + 1, 3, none⟩ (.int .i64 0)) := N2.setCell g1 _
    clear cC cS cM cR fR lR fS lS l1 l2
    clear bC2 bS2 bM2 bR2 N2 n1 n2 n3 g1
    generalize w2.setCell ⟨w.heap.size + 1, 3, none⟩ (.int .i64 0) = w3 at *
    have cC := bC3.cells
    have cS := bS3.cells
    have cM := bM3.cells
    have neC : ¬ w.heap.size + 1 + 1 + 1 = w.heap.size := by omega
    have neS : ¬ w.heap.size + 1 + 1 + 1 = w.heap.size + 1 := by omega
    have neM : ¬ w.heap.size + 1 + 1 + 1 = w.heap.size + 1 + 1 := by omega
    have hfd : ∀ (h v : Value) (X : World), (Instr.field 56 (.agg #[h, v]) 0).run Try.prog X = .ok h X := fun _ _ _ => by kernel_rfl
    go_region_held3 (fun W => (∀ j, W.cell? ⟨w.heap.size, j, none⟩ = #[Value.int .i64 ca, .int .i64 ci, .int .i64 ch][j]?) ∧ (∀ j, W.cell? ⟨w.heap.size + 1, j, none⟩ = #[Value.int .i64 st, .int .i64 pe, .int .i64 ho, .int .i64 0, .int .i64 sp][j]?) ∧ (∀ j, W.cell? ⟨w.heap.size + 1 + 1, j, none⟩ = #[Value.int .i64 kd, .int .i64 sa, .int .i64 mh, .int .i64 mi, .int .i64 wh, .int .i64 su, .slice ga gn gc, .bool has, .int .i64 mo, .slice pa pn pc, .int .i64 nx, .int .i64 md, .int .i64 lc, .slice ra rn rc][j]?)) (exact ⟨by intro j; (try simp (disch := exact neC) only [cellS5]); first | exact cC j | exact cC2 j | exact cC3 j, by intro j; (try simp (disch := exact neS) only [cellS5]); first | exact cS j | exact cS2 j | exact cS3 j, by intro j; (try simp (disch := exact neM) only [cellS5]); first | exact cM j | exact cM2 j | exact cM3 j⟩)
      (first
        | (go_at_call 18; refine (hc.out _).mono ?_; rintro e w4 ⟨⟨hh, rfl⟩, hn4⟩; have cC2 := (bC3.new (((New.refl _).drew).trans hn4)).cells; have cS2 := (bS3.new (((New.refl _).drew).trans hn4)).cells; have cM2 := (bM3.new (((New.refl _).drew).trans hn4)).cells)
        | (go_at_call 41; refine (hF.out _).mono ?_; rintro e w5 ⟨g, v, rfl, hg, hl, hs, hn5⟩; obtain ⟨hv, hb⟩ := hs; subst hv; dsimp only [srC]; have cC3 := (bC3.new ((((New.refl _).drew).trans hn4).trans hn5)).cells; have cS3 := (bS3.new ((((New.refl _).drew).trans hn4).trans hn5)).cells; have cM3 := (bM3.new ((((New.refl _).drew).trans hn4).trans hn5)).cells; have bR5 := bR3.new ((((New.refl _).drew).trans hn4).trans hn5); have cR := bR5.cells; have fR := bR5.frees; have lR := bR5.lt))
    have N5 := N3.trans ((((New.refl _).drew).trans hn4).trans hn5)
    have kk := hn4.size
    simp at kk
    have l2 : w.heap.size + 1 + 1 + 1 < w4.heap.size := by have := bR3.lt; omega
    go_wp2
    have b6 : Blk ((((((((((w5.setCell ⟨w.heap.size + 1 + 1 + 1, 0, none⟩ (.int .i64 c)).setCell ⟨w.heap.size + 1 + 1 + 1, 1, none⟩ (.int .i64 rt)).setCell ⟨w.heap.size + 1 + 1 + 1, 2, none⟩ (.int .i64 rp)).setCell ⟨w.heap.size + 1 + 1 + 1, 3, none⟩ (.int .i64 rh)).setCell ⟨w.heap.size + 1 + 1 + 1, 4, none⟩ (.int .i64 ri)).setCell ⟨w.heap.size + 1 + 1 + 1, 5, none⟩ (.int .i64 rs5)).setCell ⟨w.heap.size + 1 + 1 + 1, 6, none⟩ (.slice (some ⟨g, 0, none⟩) 1 1)).setCell ⟨w.heap.size + 1 + 1 + 1, 7, none⟩ (.bool up)).setCell ⟨w.heap.size + 1 + 1 + 1, 8, none⟩ (.bool dn)).setCell ⟨w.heap.size + 1 + 1 + 1, 9, none⟩ (.bool ud)) (w.heap.size + 1 + 1 + 1) 40 #[.int .i64 c, .int .i64 rt, .int .i64 rp, .int .i64 rh, .int .i64 ri, .int .i64 rs5, .slice (some ⟨g, 0, none⟩) 1 1, .bool up, .bool dn, .bool ud] := blkT10 _ _ _ _ _ _ _ _ _ _ bR5
    have N6 : New w ((((((((((w5.setCell ⟨w.heap.size + 1 + 1 + 1, 0, none⟩ (.int .i64 c)).setCell ⟨w.heap.size + 1 + 1 + 1, 1, none⟩ (.int .i64 rt)).setCell ⟨w.heap.size + 1 + 1 + 1, 2, none⟩ (.int .i64 rp)).setCell ⟨w.heap.size + 1 + 1 + 1, 3, none⟩ (.int .i64 rh)).setCell ⟨w.heap.size + 1 + 1 + 1, 4, none⟩ (.int .i64 ri)).setCell ⟨w.heap.size + 1 + 1 + 1, 5, none⟩ (.int .i64 rs5)).setCell ⟨w.heap.size + 1 + 1 + 1, 6, none⟩ (.slice (some ⟨g, 0, none⟩) 1 1)).setCell ⟨w.heap.size + 1 + 1 + 1, 7, none⟩ (.bool up)).setCell ⟨w.heap.size + 1 + 1 + 1, 8, none⟩ (.bool dn)).setCell ⟨w.heap.size + 1 + 1 + 1, 9, none⟩ (.bool ud)) := by simp (disch := exact ge2) only [New.set5]; exact N5
    have ne : ¬ w.heap.size + 1 + 1 + 1 = g := by omega
    have hg0 : w.heap.size ≤ g := by omega
    have hb6 : Blk ((((((((((w5.setCell ⟨w.heap.size + 1 + 1 + 1, 0, none⟩ (.int .i64 c)).setCell ⟨w.heap.size + 1 + 1 + 1, 1, none⟩ (.int .i64 rt)).setCell ⟨w.heap.size + 1 + 1 + 1, 2, none⟩ (.int .i64 rp)).setCell ⟨w.heap.size + 1 + 1 + 1, 3, none⟩ (.int .i64 rh)).setCell ⟨w.heap.size + 1 + 1 + 1, 4, none⟩ (.int .i64 ri)).setCell ⟨w.heap.size + 1 + 1 + 1, 5, none⟩ (.int .i64 rs5)).setCell ⟨w.heap.size + 1 + 1 + 1, 6, none⟩ (.slice (some ⟨g, 0, none⟩) 1 1)).setCell ⟨w.heap.size + 1 + 1 + 1, 7, none⟩ (.bool up)).setCell ⟨w.heap.size + 1 + 1 + 1, 8, none⟩ (.bool dn)).setCell ⟨w.heap.size + 1 + 1 + 1, 9, none⟩ (.bool ud)) g 35 (msC m0 m1 m2 m3 m4 m5) := by simp (disch := exact ne) only [Blk.set5]; exact hb
    have hl6 : g < ((((((((((w5.setCell ⟨w.heap.size + 1 + 1 + 1, 0, none⟩ (.int .i64 c)).setCell ⟨w.heap.size + 1 + 1 + 1, 1, none⟩ (.int .i64 rt)).setCell ⟨w.heap.size + 1 + 1 + 1, 2, none⟩ (.int .i64 rp)).setCell ⟨w.heap.size + 1 + 1 + 1, 3, none⟩ (.int .i64 rh)).setCell ⟨w.heap.size + 1 + 1 + 1, 4, none⟩ (.int .i64 ri)).setCell ⟨w.heap.size + 1 + 1 + 1, 5, none⟩ (.int .i64 rs5)).setCell ⟨w.heap.size + 1 + 1 + 1, 6, none⟩ (.slice (some ⟨g, 0, none⟩) 1 1)).setCell ⟨w.heap.size + 1 + 1 + 1, 7, none⟩ (.bool up)).setCell ⟨w.heap.size + 1 + 1 + 1, 8, none⟩ (.bool dn)).setCell ⟨w.heap.size + 1 + 1 + 1, 9, none⟩ (.bool ud)).heap.size := by simp [World.setCell]; exact hl
    have lt6 : w.heap.size < ((((((((((w5.setCell ⟨w.heap.size + 1 + 1 + 1, 0, none⟩ (.int .i64 c)).setCell ⟨w.heap.size + 1 + 1 + 1, 1, none⟩ (.int .i64 rt)).setCell ⟨w.heap.size + 1 + 1 + 1, 2, none⟩ (.int .i64 rp)).setCell ⟨w.heap.size + 1 + 1 + 1, 3, none⟩ (.int .i64 rh)).setCell ⟨w.heap.size + 1 + 1 + 1, 4, none⟩ (.int .i64 ri)).setCell ⟨w.heap.size + 1 + 1 + 1, 5, none⟩ (.int .i64 rs5)).setCell ⟨w.heap.size + 1 + 1 + 1, 6, none⟩ (.slice (some ⟨g, 0, none⟩) 1 1)).setCell ⟨w.heap.size + 1 + 1 + 1, 7, none⟩ (.bool up)).setCell ⟨w.heap.size + 1 + 1 + 1, 8, none⟩ (.bool dn)).setCell ⟨w.heap.size + 1 + 1 + 1, 9, none⟩ (.bool ud)).heap.size := by simp [World.setCell]; omega
    clear cR fR lR bR5 N5 cS3 cC3 cM3
    generalize ((((((((((w5.setCell ⟨w.heap.size + 1 + 1 + 1, 0, none⟩ (.int .i64 c)).setCell ⟨w.heap.size + 1 + 1 + 1, 1, none⟩ (.int .i64 rt)).setCell ⟨w.heap.size + 1 + 1 + 1, 2, none⟩ (.int .i64 rp)).setCell ⟨w.heap.size + 1 + 1 + 1, 3, none⟩ (.int .i64 rh)).setCell ⟨w.heap.size + 1 + 1 + 1, 4, none⟩ (.int .i64 ri)).setCell ⟨w.heap.size + 1 + 1 + 1, 5, none⟩ (.int .i64 rs5)).setCell ⟨w.heap.size + 1 + 1 + 1, 6, none⟩ (.slice (some ⟨g, 0, none⟩) 1 1)).setCell ⟨w.heap.size + 1 + 1 + 1, 7, none⟩ (.bool up)).setCell ⟨w.heap.size + 1 + 1 + 1, 8, none⟩ (.bool dn)).setCell ⟨w.heap.size + 1 + 1 + 1, 9, none⟩ (.bool ud)) = w6 at *
    refine leaves_cons (f := 17) (args := #[.pointer (some ⟨w.heap.size + 1 + 1 + 1, 0, none⟩)]) (by simp) (by simp [go_sem]) ?_
    refine (countS _ _ _ _ _ _ _ _ _ _ _ _ _ b6).mono ?_
    rintro e u' w7 ⟨rfl, rfl, rfl⟩
    have b7 := blkT1 (.int .i64 0) b6
    have c7 := b7.cells
    simp [Leaves, settle, results, Try.results6, go_sem, c7]
    refine ⟨g, _, rfl, hg0, by simp [World.setCell]; exact hl6, ⟨rfl, ?_⟩, ?_⟩
    · simp (disch := exact ne) only [Blk.set5]; exact hb6
    simp (disch := exact ge2) only [New.set5, N6]

set_option maxHeartbeats 6400000 in
theorem hearBy3 (ca ci ch st pe ho si sp kd sa mh mi wh su : Int) (ga pa ra : Option Addr) (gn gc pn pc rn rc : Nat) (has : Bool) (mo nx md lc : Int) (gs rs : List (Int × Int)) (xs : List Int) (r : Rs) (w : World) (hg : PsAt w ga gs) (hx : NsAt w pa xs) (hr : PsAt w ra rs) (hgn : gs.length = gn) (hpn : xs.length = pn) (hrn : rs.length = rn) (hm1 : gn ≤ 1048576) (hm2 : pn ≤ 1048576) (hm3 : rn ≤ 1048576) (hk : ask ca ci ch st pe ho si sp = 0) (hq : mf kd sa mh mi wh su gs has mo xs nx md lc rs = 0)
    (hc : Hid (∀ W, Calls Try.prog 18 #[.int .i64 st] W fun e w' => (∃ h, e = .returned (.agg #[.func (.func 43) #[] #[], h])) ∧ New W w'))
    (hF : Hid (∀ W, Calls Try.prog 43 #[.agg #[.int .i64 ca, .int .i64 ci, .int .i64 ch], .agg #[.int .i64 st, .int .i64 pe, .int .i64 ho, .int .i64 0, .int .i64 sp], .agg #[.int .i64 kd, .int .i64 sa, .int .i64 mh, .int .i64 mi, .int .i64 wh, .int .i64 su, .slice ga gn gc, .bool has, .int .i64 mo, .slice pa pn pc, .int .i64 nx, .int .i64 md, .int .i64 lc, .slice ra rn rc]] W (Ans W r))) : Calls Try.prog 6 #[.agg #[.int .i64 ca, .int .i64 ci, .int .i64 ch], .agg #[.int .i64 st, .int .i64 pe, .int .i64 ho, .int .i64 si, .int .i64 sp], .agg #[.int .i64 kd, .int .i64 sa, .int .i64 mh, .int .i64 mi, .int .i64 wh, .int .i64 su, .slice ga gn gc, .bool has, .int .i64 mo, .slice pa pn pc, .int .i64 nx, .int .i64 md, .int .i64 lc, .slice ra rn rc]] w (Ans w (cntR r)) := by
  have N0 : New w ((((w.alloc (.cells #[.int .i64 ca, .int .i64 ci, .int .i64 ch] 25)).alloc (.cells #[.int .i64 st, .int .i64 pe, .int .i64 ho, .int .i64 si, .int .i64 sp] 27)).alloc (.cells #[.int .i64 kd, .int .i64 sa, .int .i64 mh, .int .i64 mi, .int .i64 wh, .int .i64 su, .slice ga gn gc, .bool has, .int .i64 mo, .slice pa pn pc, .int .i64 nx, .int .i64 md, .int .i64 lc, .slice ra rn rc] 35)).alloc (.cells #[.int .i64 0, .int .i64 0, .int .i64 0, .int .i64 0, .int .i64 0, .int .i64 0, .slice none 0 0, .bool false, .bool false, .bool false] 40)) := ((((New.refl w).alloc _).alloc _).alloc _).alloc _
  have bC0 : Blk ((((w.alloc (.cells #[.int .i64 ca, .int .i64 ci, .int .i64 ch] 25)).alloc (.cells #[.int .i64 st, .int .i64 pe, .int .i64 ho, .int .i64 si, .int .i64 sp] 27)).alloc (.cells #[.int .i64 kd, .int .i64 sa, .int .i64 mh, .int .i64 mi, .int .i64 wh, .int .i64 su, .slice ga gn gc, .bool has, .int .i64 mo, .slice pa pn pc, .int .i64 nx, .int .i64 md, .int .i64 lc, .slice ra rn rc] 35)).alloc (.cells #[.int .i64 0, .int .i64 0, .int .i64 0, .int .i64 0, .int .i64 0, .int .i64 0, .slice none 0 0, .bool false, .bool false, .bool false] 40)) w.heap.size 25 #[.int .i64 ca, .int .i64 ci, .int .i64 ch] := (((Blk.mk _ _ _ _ rfl).alloc _).alloc _).alloc _
  have bS0 : Blk ((((w.alloc (.cells #[.int .i64 ca, .int .i64 ci, .int .i64 ch] 25)).alloc (.cells #[.int .i64 st, .int .i64 pe, .int .i64 ho, .int .i64 si, .int .i64 sp] 27)).alloc (.cells #[.int .i64 kd, .int .i64 sa, .int .i64 mh, .int .i64 mi, .int .i64 wh, .int .i64 su, .slice ga gn gc, .bool has, .int .i64 mo, .slice pa pn pc, .int .i64 nx, .int .i64 md, .int .i64 lc, .slice ra rn rc] 35)).alloc (.cells #[.int .i64 0, .int .i64 0, .int .i64 0, .int .i64 0, .int .i64 0, .int .i64 0, .slice none 0 0, .bool false, .bool false, .bool false] 40)) (w.heap.size + 1) 27 #[.int .i64 st, .int .i64 pe, .int .i64 ho, .int .i64 si, .int .i64 sp] := ((Blk.mk _ _ _ _ (by simp)).alloc _).alloc _
  have bM0 : Blk ((((w.alloc (.cells #[.int .i64 ca, .int .i64 ci, .int .i64 ch] 25)).alloc (.cells #[.int .i64 st, .int .i64 pe, .int .i64 ho, .int .i64 si, .int .i64 sp] 27)).alloc (.cells #[.int .i64 kd, .int .i64 sa, .int .i64 mh, .int .i64 mi, .int .i64 wh, .int .i64 su, .slice ga gn gc, .bool has, .int .i64 mo, .slice pa pn pc, .int .i64 nx, .int .i64 md, .int .i64 lc, .slice ra rn rc] 35)).alloc (.cells #[.int .i64 0, .int .i64 0, .int .i64 0, .int .i64 0, .int .i64 0, .int .i64 0, .slice none 0 0, .bool false, .bool false, .bool false] 40)) (w.heap.size + 1 + 1) 35 #[.int .i64 kd, .int .i64 sa, .int .i64 mh, .int .i64 mi, .int .i64 wh, .int .i64 su, .slice ga gn gc, .bool has, .int .i64 mo, .slice pa pn pc, .int .i64 nx, .int .i64 md, .int .i64 lc, .slice ra rn rc] := (Blk.mk _ _ _ _ (by simp)).alloc _
  have bR0 : Blk ((((w.alloc (.cells #[.int .i64 ca, .int .i64 ci, .int .i64 ch] 25)).alloc (.cells #[.int .i64 st, .int .i64 pe, .int .i64 ho, .int .i64 si, .int .i64 sp] 27)).alloc (.cells #[.int .i64 kd, .int .i64 sa, .int .i64 mh, .int .i64 mi, .int .i64 wh, .int .i64 su, .slice ga gn gc, .bool has, .int .i64 mo, .slice pa pn pc, .int .i64 nx, .int .i64 md, .int .i64 lc, .slice ra rn rc] 35)).alloc (.cells #[.int .i64 0, .int .i64 0, .int .i64 0, .int .i64 0, .int .i64 0, .int .i64 0, .slice none 0 0, .bool false, .bool false, .bool false] 40)) (w.heap.size + 1 + 1 + 1) 40 #[.int .i64 0, .int .i64 0, .int .i64 0, .int .i64 0, .int .i64 0, .int .i64 0, .slice none 0 0, .bool false, .bool false, .bool false] := Blk.mk _ _ _ _ (by simp)
  have ge2 : w.heap.size ≤ w.heap.size + 1 + 1 + 1 := by omega
  obtain ⟨c, rt, rp, rh, ri, rs5, say, up, dn, ud⟩ := r
  cases say with
  | none =>
    go_enter_defers Try.func6, Try.ntmps6
    go_wp2_with fail
    refine (implAsk ca ci ch st pe ho si sp _).mono ?_
    rintro e w1 ⟨rfl, hn1⟩
    have bC1 := bC0.new hn1
    have bS1 := bS0.new hn1
    have bM1 := bM0.new hn1
    have bR1 := bR0.new hn1
    have N1 := N0.trans hn1
    clear bC0 bS0 bM0 bR0 N0
    have cC := bC1.cells
    have cS := bS1.cells
    have cM := bM1.cells
    have cR := bR1.cells
    have fR := bR1.frees
    have lR := bR1.lt
    have fS := bS1.frees
    have lS := bS1.lt
    have l1 : w.heap.size < w1.heap.size := by omega
    have l2 : w.heap.size + 1 + 1 < w1.heap.size := by omega
    clear hn1
    rw [hk]
    clear hk
    go_wp2_with fail
    refine (implMF ga pa ra gn gc pn pc rn rc has mo nx md lc gs rs xs kd sa mh mi wh su _ (hg.new N1) (hx.new N1) (hr.new N1) hgn hpn hrn hm1 hm2 hm3).mono ?_
    rintro e w2 ⟨rfl, hn2⟩
    clear cC cS cM cR fR lR fS lS l1 l2
    have bC2 := bC1.new hn2
    have bS2 := bS1.new hn2
    have bM2 := bM1.new hn2
    have bR2 := bR1.new hn2
    have N2 := N1.trans hn2
    clear bC1 bS1 bM1 bR1 N1
    have cC := bC2.cells
    have cS := bS2.cells
    have cM := bM2.cells
    have cR := bR2.cells
    have fR := bR2.frees
    have lR := bR2.lt
    have fS := bS2.frees
    have lS := bS2.lt
    have l1 : w.heap.size < w2.heap.size := by omega
    have l2 : w.heap.size + 1 + 1 < w2.heap.size := by omega
    clear hn2
    rw [hq]
    clear hq hg hx hr hgn hpn hrn hm1 hm2 hm3
    go_upto_region 9 with fail
    have bS3 : Blk (w2.setCell ⟨w.heap.size + 1, 3, none⟩ (.int .i64 0)) (w.heap.size + 1) 27 #[.int .i64 st, .int .i64 pe, .int .i64 ho, .int .i64 0, .int .i64 sp] := by have h9 := bS2.set 3 (.int .i64 0); simp only [List.setIfInBounds_toArray, List.set_cons_zero, List.set_cons_succ] at h9; exact h9
    have n1 : ¬ w.heap.size + 1 = w.heap.size := by omega
    have n2 : ¬ w.heap.size + 1 = w.heap.size + 1 + 1 := by omega
    have n3 : ¬ w.heap.size + 1 = w.heap.size + 1 + 1 + 1 := by omega
    have g1 : w.heap.size ≤ w.heap.size + 1 := by omega
    have bC3 : Blk (w2.setCell ⟨w.heap.size + 1, 3, none⟩ (.int .i64 0)) w.heap.size 25 #[.int .i64 ca, .int .i64 ci, .int .i64 ch] := (Blk.set5 n1).2 bC2
    have bM3 : Blk (w2.setCell ⟨w.heap.size + 1, 3, none⟩ (.int .i64 0)) (w.heap.size + 1 + 1) 35 #[.int .i64 kd, .int .i64 sa, .int .i64 mh, .int .i64 mi, .int .i64 wh, .int .i64 su, .slice ga gn gc, .bool has, .int .i64 mo, .slice pa pn pc, .int .i64 nx, .int .i64 md, .int .i64 lc, .slice ra rn rc] := (Blk.set5 n2).2 bM2
    have bR3 : Blk (w2.setCell ⟨w.heap.size + 1, 3, none⟩ (.int .i64 0)) (w.heap.size + 1 + 1 + 1) 40 #[.int .i64 0, .int .i64 0, .int .i64 0, .int .i64 0, .int .i64 0, .int .i64 0, .slice none 0 0, .bool false, .bool false, .bool false] := (Blk.set5 n3).2 bR2
    have N3 : New w (w2.setCell ⟨w.heap.size + 1, 3, none⟩ (.int .i64 0)) := N2.setCell g1 _
    clear cC cS cM cR fR lR fS lS l1 l2
    clear bC2 bS2 bM2 bR2 N2 n1 n2 n3 g1
    generalize w2.setCell ⟨w.heap.size + 1, 3, none⟩ (.int .i64 0) = w3 at *
    have cC := bC3.cells
    have cS := bS3.cells
    have cM := bM3.cells
    have neC : ¬ w.heap.size + 1 + 1 + 1 = w.heap.size := by omega
    have neS : ¬ w.heap.size + 1 + 1 + 1 = w.heap.size + 1 := by omega
    have neM : ¬ w.heap.size + 1 + 1 + 1 = w.heap.size + 1 + 1 := by omega
    have hfd : ∀ (h v : Value) (X : World), (Instr.field 56 (.agg #[h, v]) 0).run Try.prog X = .ok h X := fun _ _ _ => by kernel_rfl
    go_region_held3 (fun W => (∀ j, W.cell? ⟨w.heap.size, j, none⟩ = #[Value.int .i64 ca, .int .i64 ci, .int .i64 ch][j]?) ∧ (∀ j, W.cell? ⟨w.heap.size + 1, j, none⟩ = #[Value.int .i64 st, .int .i64 pe, .int .i64 ho, .int .i64 0, .int .i64 sp][j]?) ∧ (∀ j, W.cell? ⟨w.heap.size + 1 + 1, j, none⟩ = #[Value.int .i64 kd, .int .i64 sa, .int .i64 mh, .int .i64 mi, .int .i64 wh, .int .i64 su, .slice ga gn gc, .bool has, .int .i64 mo, .slice pa pn pc, .int .i64 nx, .int .i64 md, .int .i64 lc, .slice ra rn rc][j]?)) (exact ⟨by intro j; (try simp (disch := exact neC) only [cellS5]); first | exact cC j | exact cC2 j | exact cC3 j, by intro j; (try simp (disch := exact neS) only [cellS5]); first | exact cS j | exact cS2 j | exact cS3 j, by intro j; (try simp (disch := exact neM) only [cellS5]); first | exact cM j | exact cM2 j | exact cM3 j⟩)
      (first
        | (go_at_call 18; refine (hc.out _).mono ?_; rintro e w4 ⟨⟨hh, rfl⟩, hn4⟩; have cC2 := (bC3.new (((New.refl _).drew).trans hn4)).cells; have cS2 := (bS3.new (((New.refl _).drew).trans hn4)).cells; have cM2 := (bM3.new (((New.refl _).drew).trans hn4)).cells)
        | (go_at_call 43; refine (hF.out _).mono ?_; rintro e w5 ⟨g, v, rfl, hg, hl, hs, hn5⟩; have hv : v = .slice none 0 0 := hs; subst hv; dsimp only [srC]; have cC3 := (bC3.new ((((New.refl _).drew).trans hn4).trans hn5)).cells; have cS3 := (bS3.new ((((New.refl _).drew).trans hn4).trans hn5)).cells; have cM3 := (bM3.new ((((New.refl _).drew).trans hn4).trans hn5)).cells; have bR5 := bR3.new ((((New.refl _).drew).trans hn4).trans hn5); have cR := bR5.cells; have fR := bR5.frees; have lR := bR5.lt))
    have N5 := N3.trans ((((New.refl _).drew).trans hn4).trans hn5)
    have kk := hn4.size
    simp at kk
    have l2 : w.heap.size + 1 + 1 + 1 < w4.heap.size := by have := bR3.lt; omega
    go_wp2
    have b6 : Blk ((((((((((w5.setCell ⟨w.heap.size + 1 + 1 + 1, 0, none⟩ (.int .i64 c)).setCell ⟨w.heap.size + 1 + 1 + 1, 1, none⟩ (.int .i64 rt)).setCell ⟨w.heap.size + 1 + 1 + 1, 2, none⟩ (.int .i64 rp)).setCell ⟨w.heap.size + 1 + 1 + 1, 3, none⟩ (.int .i64 rh)).setCell ⟨w.heap.size + 1 + 1 + 1, 4, none⟩ (.int .i64 ri)).setCell ⟨w.heap.size + 1 + 1 + 1, 5, none⟩ (.int .i64 rs5)).setCell ⟨w.heap.size + 1 + 1 + 1, 6, none⟩ (.slice none 0 0)).setCell ⟨w.heap.size + 1 + 1 + 1, 7, none⟩ (.bool up)).setCell ⟨w.heap.size + 1 + 1 + 1, 8, none⟩ (.bool dn)).setCell ⟨w.heap.size + 1 + 1 + 1, 9, none⟩ (.bool ud)) (w.heap.size + 1 + 1 + 1) 40 #[.int .i64 c, .int .i64 rt, .int .i64 rp, .int .i64 rh, .int .i64 ri, .int .i64 rs5, .slice none 0 0, .bool up, .bool dn, .bool ud] := blkT10 _ _ _ _ _ _ _ _ _ _ bR5
    have N6 : New w ((((((((((w5.setCell ⟨w.heap.size + 1 + 1 + 1, 0, none⟩ (.int .i64 c)).setCell ⟨w.heap.size + 1 + 1 + 1, 1, none⟩ (.int .i64 rt)).setCell ⟨w.heap.size + 1 + 1 + 1, 2, none⟩ (.int .i64 rp)).setCell ⟨w.heap.size + 1 + 1 + 1, 3, none⟩ (.int .i64 rh)).setCell ⟨w.heap.size + 1 + 1 + 1, 4, none⟩ (.int .i64 ri)).setCell ⟨w.heap.size + 1 + 1 + 1, 5, none⟩ (.int .i64 rs5)).setCell ⟨w.heap.size + 1 + 1 + 1, 6, none⟩ (.slice none 0 0)).setCell ⟨w.heap.size + 1 + 1 + 1, 7, none⟩ (.bool up)).setCell ⟨w.heap.size + 1 + 1 + 1, 8, none⟩ (.bool dn)).setCell ⟨w.heap.size + 1 + 1 + 1, 9, none⟩ (.bool ud)) := by simp (disch := exact ge2) only [New.set5]; exact N5
    have lt6 : w.heap.size < ((((((((((w5.setCell ⟨w.heap.size + 1 + 1 + 1, 0, none⟩ (.int .i64 c)).setCell ⟨w.heap.size + 1 + 1 + 1, 1, none⟩ (.int .i64 rt)).setCell ⟨w.heap.size + 1 + 1 + 1, 2, none⟩ (.int .i64 rp)).setCell ⟨w.heap.size + 1 + 1 + 1, 3, none⟩ (.int .i64 rh)).setCell ⟨w.heap.size + 1 + 1 + 1, 4, none⟩ (.int .i64 ri)).setCell ⟨w.heap.size + 1 + 1 + 1, 5, none⟩ (.int .i64 rs5)).setCell ⟨w.heap.size + 1 + 1 + 1, 6, none⟩ (.slice none 0 0)).setCell ⟨w.heap.size + 1 + 1 + 1, 7, none⟩ (.bool up)).setCell ⟨w.heap.size + 1 + 1 + 1, 8, none⟩ (.bool dn)).setCell ⟨w.heap.size + 1 + 1 + 1, 9, none⟩ (.bool ud)).heap.size := by simp [World.setCell]; omega
    clear cR fR lR bR5 N5 cS3 cC3 cM3
    generalize ((((((((((w5.setCell ⟨w.heap.size + 1 + 1 + 1, 0, none⟩ (.int .i64 c)).setCell ⟨w.heap.size + 1 + 1 + 1, 1, none⟩ (.int .i64 rt)).setCell ⟨w.heap.size + 1 + 1 + 1, 2, none⟩ (.int .i64 rp)).setCell ⟨w.heap.size + 1 + 1 + 1, 3, none⟩ (.int .i64 rh)).setCell ⟨w.heap.size + 1 + 1 + 1, 4, none⟩ (.int .i64 ri)).setCell ⟨w.heap.size + 1 + 1 + 1, 5, none⟩ (.int .i64 rs5)).setCell ⟨w.heap.size + 1 + 1 + 1, 6, none⟩ (.slice none 0 0)).setCell ⟨w.heap.size + 1 + 1 + 1, 7, none⟩ (.bool up)).setCell ⟨w.heap.size + 1 + 1 + 1, 8, none⟩ (.bool dn)).setCell ⟨w.heap.size + 1 + 1 + 1, 9, none⟩ (.bool ud)) = w6 at *
    refine leaves_cons (f := 17) (args := #[.pointer (some ⟨w.heap.size + 1 + 1 + 1, 0, none⟩)]) (by simp) (by simp [go_sem]) ?_
    refine (countN _ _ _ _ _ _ _ _ _ _ _ _ b6).mono ?_
    rintro e u' w7 ⟨rfl, rfl, rfl⟩
    have c7 := b6.cells
    simp [Leaves, settle, results, Try.results6, go_sem, c7]
    exact ⟨w.heap.size, _, rfl, Nat.le_refl _, lt6, rfl, N6⟩
  | some m =>
    obtain ⟨m0, m1, m2, m3, m4, m5⟩ := m
    go_enter_defers Try.func6, Try.ntmps6
    go_wp2_with fail
    refine (implAsk ca ci ch st pe ho si sp _).mono ?_
    rintro e w1 ⟨rfl, hn1⟩
    have bC1 := bC0.new hn1
    have bS1 := bS0.new hn1
    have bM1 := bM0.new hn1
    have bR1 := bR0.new hn1
    have N1 := N0.trans hn1
    clear bC0 bS0 bM0 bR0 N0
    have cC := bC1.cells
    have cS := bS1.cells
    have cM := bM1.cells
    have cR := bR1.cells
    have fR := bR1.frees
    have lR := bR1.lt
    have fS := bS1.frees
    have lS := bS1.lt
    have l1 : w.heap.size < w1.heap.size := by omega
    have l2 : w.heap.size + 1 + 1 < w1.heap.size := by omega
    clear hn1
    rw [hk]
    clear hk
    go_wp2_with fail
    refine (implMF ga pa ra gn gc pn pc rn rc has mo nx md lc gs rs xs kd sa mh mi wh su _ (hg.new N1) (hx.new N1) (hr.new N1) hgn hpn hrn hm1 hm2 hm3).mono ?_
    rintro e w2 ⟨rfl, hn2⟩
    clear cC cS cM cR fR lR fS lS l1 l2
    have bC2 := bC1.new hn2
    have bS2 := bS1.new hn2
    have bM2 := bM1.new hn2
    have bR2 := bR1.new hn2
    have N2 := N1.trans hn2
    clear bC1 bS1 bM1 bR1 N1
    have cC := bC2.cells
    have cS := bS2.cells
    have cM := bM2.cells
    have cR := bR2.cells
    have fR := bR2.frees
    have lR := bR2.lt
    have fS := bS2.frees
    have lS := bS2.lt
    have l1 : w.heap.size < w2.heap.size := by omega
    have l2 : w.heap.size + 1 + 1 < w2.heap.size := by omega
    clear hn2
    rw [hq]
    clear hq hg hx hr hgn hpn hrn hm1 hm2 hm3
    go_upto_region 9 with fail
    have bS3 : Blk (w2.setCell ⟨w.heap.size + 1, 3, none⟩ (.int .i64 0)) (w.heap.size + 1) 27 #[.int .i64 st, .int .i64 pe, .int .i64 ho, .int .i64 0, .int .i64 sp] := by have h9 := bS2.set 3 (.int .i64 0); simp only [List.setIfInBounds_toArray, List.set_cons_zero, List.set_cons_succ] at h9; exact h9
    have n1 : ¬ w.heap.size + 1 = w.heap.size := by omega
    have n2 : ¬ w.heap.size + 1 = w.heap.size + 1 + 1 := by omega
    have n3 : ¬ w.heap.size + 1 = w.heap.size + 1 + 1 + 1 := by omega
    have g1 : w.heap.size ≤ w.heap.size + 1 := by omega
    have bC3 : Blk (w2.setCell ⟨w.heap.size + 1, 3, none⟩ (.int .i64 0)) w.heap.size 25 #[.int .i64 ca, .int .i64 ci, .int .i64 ch] := (Blk.set5 n1).2 bC2
    have bM3 : Blk (w2.setCell ⟨w.heap.size + 1, 3, none⟩ (.int .i64 0)) (w.heap.size + 1 + 1) 35 #[.int .i64 kd, .int .i64 sa, .int .i64 mh, .int .i64 mi, .int .i64 wh, .int .i64 su, .slice ga gn gc, .bool has, .int .i64 mo, .slice pa pn pc, .int .i64 nx, .int .i64 md, .int .i64 lc, .slice ra rn rc] := (Blk.set5 n2).2 bM2
    have bR3 : Blk (w2.setCell ⟨w.heap.size + 1, 3, none⟩ (.int .i64 0)) (w.heap.size + 1 + 1 + 1) 40 #[.int .i64 0, .int .i64 0, .int .i64 0, .int .i64 0, .int .i64 0, .int .i64 0, .slice none 0 0, .bool false, .bool false, .bool false] := (Blk.set5 n3).2 bR2
    have N3 : New w (w2.setCell ⟨w.heap.size + 1, 3, none⟩ (.int .i64 0)) := N2.setCell g1 _
    clear cC cS cM cR fR lR fS lS l1 l2
    clear bC2 bS2 bM2 bR2 N2 n1 n2 n3 g1
    generalize w2.setCell ⟨w.heap.size + 1, 3, none⟩ (.int .i64 0) = w3 at *
    have cC := bC3.cells
    have cS := bS3.cells
    have cM := bM3.cells
    have neC : ¬ w.heap.size + 1 + 1 + 1 = w.heap.size := by omega
    have neS : ¬ w.heap.size + 1 + 1 + 1 = w.heap.size + 1 := by omega
    have neM : ¬ w.heap.size + 1 + 1 + 1 = w.heap.size + 1 + 1 := by omega
    have hfd : ∀ (h v : Value) (X : World), (Instr.field 56 (.agg #[h, v]) 0).run Try.prog X = .ok h X := fun _ _ _ => by kernel_rfl
    go_region_held3 (fun W => (∀ j, W.cell? ⟨w.heap.size, j, none⟩ = #[Value.int .i64 ca, .int .i64 ci, .int .i64 ch][j]?) ∧ (∀ j, W.cell? ⟨w.heap.size + 1, j, none⟩ = #[Value.int .i64 st, .int .i64 pe, .int .i64 ho, .int .i64 0, .int .i64 sp][j]?) ∧ (∀ j, W.cell? ⟨w.heap.size + 1 + 1, j, none⟩ = #[Value.int .i64 kd, .int .i64 sa, .int .i64 mh, .int .i64 mi, .int .i64 wh, .int .i64 su, .slice ga gn gc, .bool has, .int .i64 mo, .slice pa pn pc, .int .i64 nx, .int .i64 md, .int .i64 lc, .slice ra rn rc][j]?)) (exact ⟨by intro j; (try simp (disch := exact neC) only [cellS5]); first | exact cC j | exact cC2 j | exact cC3 j, by intro j; (try simp (disch := exact neS) only [cellS5]); first | exact cS j | exact cS2 j | exact cS3 j, by intro j; (try simp (disch := exact neM) only [cellS5]); first | exact cM j | exact cM2 j | exact cM3 j⟩)
      (first
        | (go_at_call 18; refine (hc.out _).mono ?_; rintro e w4 ⟨⟨hh, rfl⟩, hn4⟩; have cC2 := (bC3.new (((New.refl _).drew).trans hn4)).cells; have cS2 := (bS3.new (((New.refl _).drew).trans hn4)).cells; have cM2 := (bM3.new (((New.refl _).drew).trans hn4)).cells)
        | (go_at_call 43; refine (hF.out _).mono ?_; rintro e w5 ⟨g, v, rfl, hg, hl, hs, hn5⟩; obtain ⟨hv, hb⟩ := hs; subst hv; dsimp only [srC]; have cC3 := (bC3.new ((((New.refl _).drew).trans hn4).trans hn5)).cells; have cS3 := (bS3.new ((((New.refl _).drew).trans hn4).trans hn5)).cells; have cM3 := (bM3.new ((((New.refl _).drew).trans hn4).trans hn5)).cells; have bR5 := bR3.new ((((New.refl _).drew).trans hn4).trans hn5); have cR := bR5.cells; have fR := bR5.frees; have lR := bR5.lt))
    have N5 := N3.trans ((((New.refl _).drew).trans hn4).trans hn5)
    have kk := hn4.size
    simp at kk
    have l2 : w.heap.size + 1 + 1 + 1 < w4.heap.size := by have := bR3.lt; omega
    go_wp2
    have b6 : Blk ((((((((((w5.setCell ⟨w.heap.size + 1 + 1 + 1, 0, none⟩ (.int .i64 c)).setCell ⟨w.heap.size + 1 + 1 + 1, 1, none⟩ (.int .i64 rt)).setCell ⟨w.heap.size + 1 + 1 + 1, 2, none⟩ (.int .i64 rp)).setCell ⟨w.heap.size + 1 + 1 + 1, 3, none⟩ (.int .i64 rh)).setCell ⟨w.heap.size + 1 + 1 + 1, 4, none⟩ (.int .i64 ri)).setCell ⟨w.heap.size + 1 + 1 + 1, 5, none⟩ (.int .i64 rs5)).setCell ⟨w.heap.size + 1 + 1 + 1, 6, none⟩ (.slice (some ⟨g, 0, none⟩) 1 1)).setCell ⟨w.heap.size + 1 + 1 + 1, 7, none⟩ (.bool up)).setCell ⟨w.heap.size + 1 + 1 + 1, 8, none⟩ (.bool dn)).setCell ⟨w.heap.size + 1 + 1 + 1, 9, none⟩ (.bool ud)) (w.heap.size + 1 + 1 + 1) 40 #[.int .i64 c, .int .i64 rt, .int .i64 rp, .int .i64 rh, .int .i64 ri, .int .i64 rs5, .slice (some ⟨g, 0, none⟩) 1 1, .bool up, .bool dn, .bool ud] := blkT10 _ _ _ _ _ _ _ _ _ _ bR5
    have N6 : New w ((((((((((w5.setCell ⟨w.heap.size + 1 + 1 + 1, 0, none⟩ (.int .i64 c)).setCell ⟨w.heap.size + 1 + 1 + 1, 1, none⟩ (.int .i64 rt)).setCell ⟨w.heap.size + 1 + 1 + 1, 2, none⟩ (.int .i64 rp)).setCell ⟨w.heap.size + 1 + 1 + 1, 3, none⟩ (.int .i64 rh)).setCell ⟨w.heap.size + 1 + 1 + 1, 4, none⟩ (.int .i64 ri)).setCell ⟨w.heap.size + 1 + 1 + 1, 5, none⟩ (.int .i64 rs5)).setCell ⟨w.heap.size + 1 + 1 + 1, 6, none⟩ (.slice (some ⟨g, 0, none⟩) 1 1)).setCell ⟨w.heap.size + 1 + 1 + 1, 7, none⟩ (.bool up)).setCell ⟨w.heap.size + 1 + 1 + 1, 8, none⟩ (.bool dn)).setCell ⟨w.heap.size + 1 + 1 + 1, 9, none⟩ (.bool ud)) := by simp (disch := exact ge2) only [New.set5]; exact N5
    have ne : ¬ w.heap.size + 1 + 1 + 1 = g := by omega
    have hg0 : w.heap.size ≤ g := by omega
    have hb6 : Blk ((((((((((w5.setCell ⟨w.heap.size + 1 + 1 + 1, 0, none⟩ (.int .i64 c)).setCell ⟨w.heap.size + 1 + 1 + 1, 1, none⟩ (.int .i64 rt)).setCell ⟨w.heap.size + 1 + 1 + 1, 2, none⟩ (.int .i64 rp)).setCell ⟨w.heap.size + 1 + 1 + 1, 3, none⟩ (.int .i64 rh)).setCell ⟨w.heap.size + 1 + 1 + 1, 4, none⟩ (.int .i64 ri)).setCell ⟨w.heap.size + 1 + 1 + 1, 5, none⟩ (.int .i64 rs5)).setCell ⟨w.heap.size + 1 + 1 + 1, 6, none⟩ (.slice (some ⟨g, 0, none⟩) 1 1)).setCell ⟨w.heap.size + 1 + 1 + 1, 7, none⟩ (.bool up)).setCell ⟨w.heap.size + 1 + 1 + 1, 8, none⟩ (.bool dn)).setCell ⟨w.heap.size + 1 + 1 + 1, 9, none⟩ (.bool ud)) g 35 (msC m0 m1 m2 m3 m4 m5) := by simp (disch := exact ne) only [Blk.set5]; exact hb
    have hl6 : g < ((((((((((w5.setCell ⟨w.heap.size + 1 + 1 + 1, 0, none⟩ (.int .i64 c)).setCell ⟨w.heap.size + 1 + 1 + 1, 1, none⟩ (.int .i64 rt)).setCell ⟨w.heap.size + 1 + 1 + 1, 2, none⟩ (.int .i64 rp)).setCell ⟨w.heap.size + 1 + 1 + 1, 3, none⟩ (.int .i64 rh)).setCell ⟨w.heap.size + 1 + 1 + 1, 4, none⟩ (.int .i64 ri)).setCell ⟨w.heap.size + 1 + 1 + 1, 5, none⟩ (.int .i64 rs5)).setCell ⟨w.heap.size + 1 + 1 + 1, 6, none⟩ (.slice (some ⟨g, 0, none⟩) 1 1)).setCell ⟨w.heap.size + 1 + 1 + 1, 7, none⟩ (.bool up)).setCell ⟨w.heap.size + 1 + 1 + 1, 8, none⟩ (.bool dn)).setCell ⟨w.heap.size + 1 + 1 + 1, 9, none⟩ (.bool ud)).heap.size := by simp [World.setCell]; exact hl
    have lt6 : w.heap.size < ((((((((((w5.setCell ⟨w.heap.size + 1 + 1 + 1, 0, none⟩ (.int .i64 c)).setCell ⟨w.heap.size + 1 + 1 + 1, 1, none⟩ (.int .i64 rt)).setCell ⟨w.heap.size + 1 + 1 + 1, 2, none⟩ (.int .i64 rp)).setCell ⟨w.heap.size + 1 + 1 + 1, 3, none⟩ (.int .i64 rh)).setCell ⟨w.heap.size + 1 + 1 + 1, 4, none⟩ (.int .i64 ri)).setCell ⟨w.heap.size + 1 + 1 + 1, 5, none⟩ (.int .i64 rs5)).setCell ⟨w.heap.size + 1 + 1 + 1, 6, none⟩ (.slice (some ⟨g, 0, none⟩) 1 1)).setCell ⟨w.heap.size + 1 + 1 + 1, 7, none⟩ (.bool up)).setCell ⟨w.heap.size + 1 + 1 + 1, 8, none⟩ (.bool dn)).setCell ⟨w.heap.size + 1 + 1 + 1, 9, none⟩ (.bool ud)).heap.size := by simp [World.setCell]; omega
    clear cR fR lR bR5 N5 cS3 cC3 cM3
    generalize ((((((((((w5.setCell ⟨w.heap.size + 1 + 1 + 1, 0, none⟩ (.int .i64 c)).setCell ⟨w.heap.size + 1 + 1 + 1, 1, none⟩ (.int .i64 rt)).setCell ⟨w.heap.size + 1 + 1 + 1, 2, none⟩ (.int .i64 rp)).setCell ⟨w.heap.size + 1 + 1 + 1, 3, none⟩ (.int .i64 rh)).setCell ⟨w.heap.size + 1 + 1 + 1, 4, none⟩ (.int .i64 ri)).setCell ⟨w.heap.size + 1 + 1 + 1, 5, none⟩ (.int .i64 rs5)).setCell ⟨w.heap.size + 1 + 1 + 1, 6, none⟩ (.slice (some ⟨g, 0, none⟩) 1 1)).setCell ⟨w.heap.size + 1 + 1 + 1, 7, none⟩ (.bool up)).setCell ⟨w.heap.size + 1 + 1 + 1, 8, none⟩ (.bool dn)).setCell ⟨w.heap.size + 1 + 1 + 1, 9, none⟩ (.bool ud)) = w6 at *
    refine leaves_cons (f := 17) (args := #[.pointer (some ⟨w.heap.size + 1 + 1 + 1, 0, none⟩)]) (by simp) (by simp [go_sem]) ?_
    refine (countS _ _ _ _ _ _ _ _ _ _ _ _ _ b6).mono ?_
    rintro e u' w7 ⟨rfl, rfl, rfl⟩
    have b7 := blkT1 (.int .i64 0) b6
    have c7 := b7.cells
    simp [Leaves, settle, results, Try.results6, go_sem, c7]
    refine ⟨g, _, rfl, hg0, by simp [World.setCell]; exact hl6, ⟨rfl, ?_⟩, ?_⟩
    · simp (disch := exact ne) only [Blk.set5]; exact hb6
    simp (disch := exact ge2) only [New.set5, N6]

set_option maxHeartbeats 6400000 in
theorem implHears (ca ci ch st pe ho si sp kd sa mh mi wh su : Int) (ga pa ra : Option Addr) (gn gc pn pc rn rc : Nat) (has : Bool) (mo nx md lc : Int) (gs rs : List (Int × Int)) (xs : List Int) (w : World) (hg : PsAt w ga gs) (hx : NsAt w pa xs) (hr : PsAt w ra rs) (hgn : gs.length = gn) (hpn : xs.length = pn) (hrn : rs.length = rn) (hm1 : gn ≤ 1048576) (hm2 : pn ≤ 1048576) (hm3 : rn ≤ 1048576) : Calls Try.prog 6 #[.agg #[.int .i64 ca, .int .i64 ci, .int .i64 ch], .agg #[.int .i64 st, .int .i64 pe, .int .i64 ho, .int .i64 si, .int .i64 sp], .agg #[.int .i64 kd, .int .i64 sa, .int .i64 mh, .int .i64 mi, .int .i64 wh, .int .i64 su, .slice ga gn gc, .bool has, .int .i64 mo, .slice pa pn pc, .int .i64 nx, .int .i64 md, .int .i64 lc, .slice ra rn rc]] w (Ans w (hearsR ca ci ch st pe ho si sp kd sa mh (mf kd sa mh mi wh su gs has mo xs nx md lc rs))) := by
  have N0 : New w ((((w.alloc (.cells #[.int .i64 ca, .int .i64 ci, .int .i64 ch] 25)).alloc (.cells #[.int .i64 st, .int .i64 pe, .int .i64 ho, .int .i64 si, .int .i64 sp] 27)).alloc (.cells #[.int .i64 kd, .int .i64 sa, .int .i64 mh, .int .i64 mi, .int .i64 wh, .int .i64 su, .slice ga gn gc, .bool has, .int .i64 mo, .slice pa pn pc, .int .i64 nx, .int .i64 md, .int .i64 lc, .slice ra rn rc] 35)).alloc (.cells #[.int .i64 0, .int .i64 0, .int .i64 0, .int .i64 0, .int .i64 0, .int .i64 0, .slice none 0 0, .bool false, .bool false, .bool false] 40)) := ((((New.refl w).alloc _).alloc _).alloc _).alloc _
  have bC0 : Blk ((((w.alloc (.cells #[.int .i64 ca, .int .i64 ci, .int .i64 ch] 25)).alloc (.cells #[.int .i64 st, .int .i64 pe, .int .i64 ho, .int .i64 si, .int .i64 sp] 27)).alloc (.cells #[.int .i64 kd, .int .i64 sa, .int .i64 mh, .int .i64 mi, .int .i64 wh, .int .i64 su, .slice ga gn gc, .bool has, .int .i64 mo, .slice pa pn pc, .int .i64 nx, .int .i64 md, .int .i64 lc, .slice ra rn rc] 35)).alloc (.cells #[.int .i64 0, .int .i64 0, .int .i64 0, .int .i64 0, .int .i64 0, .int .i64 0, .slice none 0 0, .bool false, .bool false, .bool false] 40)) w.heap.size 25 #[.int .i64 ca, .int .i64 ci, .int .i64 ch] := (((Blk.mk _ _ _ _ rfl).alloc _).alloc _).alloc _
  have bS0 : Blk ((((w.alloc (.cells #[.int .i64 ca, .int .i64 ci, .int .i64 ch] 25)).alloc (.cells #[.int .i64 st, .int .i64 pe, .int .i64 ho, .int .i64 si, .int .i64 sp] 27)).alloc (.cells #[.int .i64 kd, .int .i64 sa, .int .i64 mh, .int .i64 mi, .int .i64 wh, .int .i64 su, .slice ga gn gc, .bool has, .int .i64 mo, .slice pa pn pc, .int .i64 nx, .int .i64 md, .int .i64 lc, .slice ra rn rc] 35)).alloc (.cells #[.int .i64 0, .int .i64 0, .int .i64 0, .int .i64 0, .int .i64 0, .int .i64 0, .slice none 0 0, .bool false, .bool false, .bool false] 40)) (w.heap.size + 1) 27 #[.int .i64 st, .int .i64 pe, .int .i64 ho, .int .i64 si, .int .i64 sp] := ((Blk.mk _ _ _ _ (by simp)).alloc _).alloc _
  have bM0 : Blk ((((w.alloc (.cells #[.int .i64 ca, .int .i64 ci, .int .i64 ch] 25)).alloc (.cells #[.int .i64 st, .int .i64 pe, .int .i64 ho, .int .i64 si, .int .i64 sp] 27)).alloc (.cells #[.int .i64 kd, .int .i64 sa, .int .i64 mh, .int .i64 mi, .int .i64 wh, .int .i64 su, .slice ga gn gc, .bool has, .int .i64 mo, .slice pa pn pc, .int .i64 nx, .int .i64 md, .int .i64 lc, .slice ra rn rc] 35)).alloc (.cells #[.int .i64 0, .int .i64 0, .int .i64 0, .int .i64 0, .int .i64 0, .int .i64 0, .slice none 0 0, .bool false, .bool false, .bool false] 40)) (w.heap.size + 1 + 1) 35 #[.int .i64 kd, .int .i64 sa, .int .i64 mh, .int .i64 mi, .int .i64 wh, .int .i64 su, .slice ga gn gc, .bool has, .int .i64 mo, .slice pa pn pc, .int .i64 nx, .int .i64 md, .int .i64 lc, .slice ra rn rc] := (Blk.mk _ _ _ _ (by simp)).alloc _
  have bR0 : Blk ((((w.alloc (.cells #[.int .i64 ca, .int .i64 ci, .int .i64 ch] 25)).alloc (.cells #[.int .i64 st, .int .i64 pe, .int .i64 ho, .int .i64 si, .int .i64 sp] 27)).alloc (.cells #[.int .i64 kd, .int .i64 sa, .int .i64 mh, .int .i64 mi, .int .i64 wh, .int .i64 su, .slice ga gn gc, .bool has, .int .i64 mo, .slice pa pn pc, .int .i64 nx, .int .i64 md, .int .i64 lc, .slice ra rn rc] 35)).alloc (.cells #[.int .i64 0, .int .i64 0, .int .i64 0, .int .i64 0, .int .i64 0, .int .i64 0, .slice none 0 0, .bool false, .bool false, .bool false] 40)) (w.heap.size + 1 + 1 + 1) 40 #[.int .i64 0, .int .i64 0, .int .i64 0, .int .i64 0, .int .i64 0, .int .i64 0, .slice none 0 0, .bool false, .bool false, .bool false] := Blk.mk _ _ _ _ (by simp)
  have ge2 : w.heap.size ≤ w.heap.size + 1 + 1 + 1 := by omega
  by_cases h0 : ask ca ci ch st pe ho si sp = 0
  case neg =>
    rw [show hearsR ca ci ch st pe ho si sp kd sa mh (mf kd sa mh mi wh su gs has mo xs nx md lc rs) = badR (ask ca ci ch st pe ho si sp) from if_neg h0]
    have z1 : (ask ca ci ch st pe ho si sp != 0) = true := by simpa using h0
    go_enter_defers Try.func6, Try.ntmps6
    go_wp2_with fail
    refine (implAsk ca ci ch st pe ho si sp _).mono ?_
    rintro e w1 ⟨rfl, hn1⟩
    have bC1 := bC0.new hn1
    have bS1 := bS0.new hn1
    have bM1 := bM0.new hn1
    have bR1 := bR0.new hn1
    have N1 := N0.trans hn1
    clear bC0 bS0 bM0 bR0 N0
    have cC := bC1.cells
    have cS := bS1.cells
    have cM := bM1.cells
    have cR := bR1.cells
    have fR := bR1.frees
    have lR := bR1.lt
    have fS := bS1.frees
    have lS := bS1.lt
    have l1 : w.heap.size < w1.heap.size := by omega
    have l2 : w.heap.size + 1 + 1 < w1.heap.size := by omega
    clear hn1
    generalize ask ca ci ch st pe ho si sp = k at *
    go_wp2
    simp [bodyPostD, Leaves, settle, results, Try.results6, go_sem, cR]
    exact ⟨w.heap.size, _, rfl, Nat.le_refl _, by simp [World.setCell]; omega, rfl, by simp (disch := exact ge2) only [New.set5, N1]⟩
  by_cases q0 : mf kd sa mh mi wh su gs has mo xs nx md lc rs = 0
  case neg =>
    rw [show hearsR ca ci ch st pe ho si sp kd sa mh (mf kd sa mh mi wh su gs has mo xs nx md lc rs) = badR (mf kd sa mh mi wh su gs has mo xs nx md lc rs) from by unfold hearsR; rw [if_pos h0, if_neg q0]]
    have z1 : (mf kd sa mh mi wh su gs has mo xs nx md lc rs != 0) = true := by simpa using q0
    go_enter_defers Try.func6, Try.ntmps6
    go_wp2_with fail
    refine (implAsk ca ci ch st pe ho si sp _).mono ?_
    rintro e w1 ⟨rfl, hn1⟩
    have bC1 := bC0.new hn1
    have bS1 := bS0.new hn1
    have bM1 := bM0.new hn1
    have bR1 := bR0.new hn1
    have N1 := N0.trans hn1
    clear bC0 bS0 bM0 bR0 N0
    have cC := bC1.cells
    have cS := bS1.cells
    have cM := bM1.cells
    have cR := bR1.cells
    have fR := bR1.frees
    have lR := bR1.lt
    have fS := bS1.frees
    have lS := bS1.lt
    have l1 : w.heap.size < w1.heap.size := by omega
    have l2 : w.heap.size + 1 + 1 < w1.heap.size := by omega
    clear hn1
    rw [h0]
    clear h0
    go_wp2_with fail
    refine (implMF ga pa ra gn gc pn pc rn rc has mo nx md lc gs rs xs kd sa mh mi wh su _ (hg.new N1) (hx.new N1) (hr.new N1) hgn hpn hrn hm1 hm2 hm3).mono ?_
    rintro e w2 ⟨rfl, hn2⟩
    clear cC cS cM cR fR lR fS lS l1 l2
    have bC2 := bC1.new hn2
    have bS2 := bS1.new hn2
    have bM2 := bM1.new hn2
    have bR2 := bR1.new hn2
    have N2 := N1.trans hn2
    clear bC1 bS1 bM1 bR1 N1
    have cC := bC2.cells
    have cS := bS2.cells
    have cM := bM2.cells
    have cR := bR2.cells
    have fR := bR2.frees
    have lR := bR2.lt
    have fS := bS2.frees
    have lS := bS2.lt
    have l1 : w.heap.size < w2.heap.size := by omega
    have l2 : w.heap.size + 1 + 1 < w2.heap.size := by omega
    clear hn2
    generalize mf kd sa mh mi wh su gs has mo xs nx md lc rs = k at *
    clear hg hx hr hgn hpn hrn hm1 hm2 hm3
    go_wp2
    simp [bodyPostD, Leaves, settle, results, Try.results6, go_sem, cR]
    exact ⟨w.heap.size, _, rfl, Nat.le_refl _, by simp [World.setCell]; omega, rfl, by simp (disch := exact ge2) only [New.set5, N2]⟩
  rw [show hearsR ca ci ch st pe ho si sp kd sa mh (mf kd sa mh mi wh su gs has mo xs nx md lc rs) = cntR (hearR st pe ho 0 sp ch kd sa mh) from by unfold hearsR; rw [if_pos h0, if_pos q0]; rfl]
  clear N0 bC0 bS0 bM0 bR0
  have hs := ask_ok h0
  have hk : 1 ≤ kd ∧ kd ≤ 4 := by
    by_cases hb : kd < 1 ∨ 4 < kd
    · rw [mf_none hb] at q0; cases q0
    · omega
  by_cases t0 : st = 0
  · rw [show hearR st pe ho 0 sp ch kd sa mh = sesR st pe ho 0 sp from if_pos t0]
    refine hearBy0 ca ci ch st pe ho si sp kd sa mh mi wh su ga pa ra gn gc pn pc rn rc has mo nx md lc gs rs xs _ w hg hx hr hgn hpn hrn hm1 hm2 hm3 h0 q0 (fun W => ?_) (fun W => implHear0 ca ci ch st pe ho 0 sp kd sa mh mi wh su ga pa ra gn gc pn pc rn rc has mo nx md lc W)
    subst t0
    exact (cond0 W).mono (fun e w' h => ⟨⟨_, h.1⟩, h.2⟩)
  by_cases t1 : st = 1
  · rw [show hearR st pe ho 0 sp ch kd sa mh = _ from (if_neg t0).trans (if_pos t1)]
    refine hearBy1 ca ci ch st pe ho si sp kd sa mh mi wh su ga pa ra gn gc pn pc rn rc has mo nx md lc gs rs xs _ w hg hx hr hgn hpn hrn hm1 hm2 hm3 h0 q0 (fun W => ?_) (fun W => implHear1 ca ci ch st pe ho 0 sp kd sa mh mi wh su ga pa ra gn gc pn pc rn rc has mo nx md lc W hk)
    subst t1
    exact (cond1 W).mono (fun e w' h => ⟨⟨_, h.1⟩, h.2⟩)
  by_cases t2 : st = 2
  · rw [show hearR st pe ho 0 sp ch kd sa mh = _ from (if_neg t0).trans ((if_neg t1).trans (if_pos t2))]
    refine hearBy2 ca ci ch st pe ho si sp kd sa mh mi wh su ga pa ra gn gc pn pc rn rc has mo nx md lc gs rs xs _ w hg hx hr hgn hpn hrn hm1 hm2 hm3 h0 q0 (fun W => ?_) (fun W => implHear2 ca ci ch st pe ho 0 sp kd sa mh mi wh su ga pa ra gn gc pn pc rn rc has mo nx md lc W hk)
    subst t2
    exact (cond2 W).mono (fun e w' h => ⟨⟨_, h.1⟩, h.2⟩)
  rw [show hearR st pe ho 0 sp ch kd sa mh = _ from (if_neg t0).trans ((if_neg t1).trans (if_neg t2))]
  refine hearBy3 ca ci ch st pe ho si sp kd sa mh mi wh su ga pa ra gn gc pn pc rn rc has mo nx md lc gs rs xs _ w hg hx hr hgn hpn hrn hm1 hm2 hm3 h0 q0 (fun W => ?_) (fun W => implHear3 ca ci ch st pe ho 0 sp kd sa mh mi wh su ga pa ra gn gc pn pc rn rc has mo nx md lc W hk)
  have h3 : st = 3 := by have := hs.1; omega
  subst h3
  exact (cond3 W).mono (fun e w' h => ⟨⟨_, h.1⟩, h.2⟩)

end Go.Proofs.Yteniieagcehmpaa
